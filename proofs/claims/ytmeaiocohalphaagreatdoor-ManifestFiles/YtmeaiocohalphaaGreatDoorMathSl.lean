/-
  Plain mathematics: where a superblock of the next gen is written, the latest one is that; where it is not, that of before.
-/
import Derived.Test.YtmeaiocohalphaaGreatDoorDDo
import Derived.Test.YtmeaiocohalphaaGreatDoorDMay
set_option maxHeartbeats 1000000
set_option maxRecDepth 100000
namespace Go.Proofs.YtmeaiocohalphaaGreatDoor
open Go.RowKit
set_option linter.all false
theorem qaj7 (w:World) (s:Bool) (N:Int) (x:Value) (l:List UInt8) (h:Rd w x l):RdA (w.alloc (.cells #[.bool s,.int .i64 N,x] 206)) (.slice (some ⟨w.heap.size,0,none⟩) 1 1) [(s,N,l)]:=by
 refine .inr ⟨w.heap.size,0,1,rfl,Nat.le_refl _,by unfold maxLen;decide,fun j hj=>?_⟩
 obtain rfl:j=0:=by simpa using hj
 exact ⟨by simp,by simp,x,by simp,h.alloc _⟩
theorem OwD.form {w:World} {base:Nat} {v:Value} {d:Dk} (h:OwD w base v d):∃a1 c1 a2 c2 a3 c3,v=.agg #[.slice a1 d.1.length c1,.slice a2 d.2.1.length c2,.slice a3 d.2.2.length c3]:=by
 obtain ⟨a1,c1,a2,c2,a3,c3,e,_⟩:=h.rd.form;exact ⟨a1,c1,a2,c2,a3,c3,e⟩
theorem qabc {d:Dk} {v:Value} (N:Int) (x:Option Addr) (m c:Nat) (l:List UInt8) (w:World) (hD:RdD w v d) (hrd:Rd w (.slice x m c) l):
  Calls Tryz.prog 228 #[v,.int .i64 N,.slice x m c] w fun e w'=>∃dv,e=.returned (.tuple #[dv,.int .i64 (doD d [(false,N,l)] 1).2])∧OwD w' w.heap.size dv (doD d [(false,N,l)] 1).1∧Below w.heap.size w w':=by
 obtain ⟨a1,c1,a2,c2,a3,c3,rfl,_,_,_⟩:=hD.form;have HD:=hide hD;clear hD;have HR:=hide hrd;clear hrd;obtain ⟨w1,ew⟩:∃w1,(w.alloc (.cells #[.slice a1 d.1.length c1,.slice a2 d.2.1.length c2,.slice a3 d.2.2.length c3] 27)).alloc (.cells #[.slice none 0 0,.slice none 0 0,.slice none 0 0] 27)=w1:=⟨_,rfl⟩
 have hb1:Below w.heap.size w w1:=by rw [←ew];exact ((Below.refl _ _).alloc (Nat.le_refl _) _).alloc (by simp) _
 have k0:w1.cell? ⟨w.heap.size,0,none⟩=some (.slice a1 d.1.length c1):=by rw [←ew];simp
 have k1:w1.cell? ⟨w.heap.size,1,none⟩=some (.slice a2 d.2.1.length c2):=by rw [←ew];simp
 have k2:w1.cell? ⟨w.heap.size,2,none⟩=some (.slice a3 d.2.2.length c3):=by rw [←ew];simp
 have hr1:w1.heap[w.heap.size+1]? =some (.cells #[.slice none 0 0,.slice none 0 0,.slice none 0 0] 27 (0,0)):=by rw [←ew];exact qba _ _ _
 have hs1:w.heap.size+2≤w1.heap.size:=by rw [←ew];simp
 have hl:=qaj7 w1 false N (.slice x m c) l (HR.out.carry hb1);obtain ⟨w2,ew2⟩:∃w2,w1.alloc (.cells #[.bool false,.int .i64 N,.slice x m c] 206)=w2:=⟨_,rfl⟩;rw [ew2] at hl;have HL:=hide hl
 have hb2:Below w1.heap.size w1 w2:=by rw [←ew2];exact (Below.refl _ _).alloc (Nat.le_refl _) _
 have hB2:Below w.heap.size w w2:=hb1.trans (hb2.mono hb1.size);have hr2:=qac _ _ _ _ hr1 hb2;have hs2:=Nat.le_trans hs1 hb2.size;clear hl hb2 hr1 hs1
 go_enter Tryz.func228,Tryz.ntmps228
 go_wp2_with fail
 refine (qaiu (d:=d) [(false,N,l)] _ 1 1 1 _ (HD.out.carry hB2) HL.out rfl).mono ?_
 clear ew ew2 k0 k1 k2;rintro e w3 ⟨dv,rfl,hO,hb3⟩;obtain ⟨p1,t1,p2,t2,p3,t3,rfl⟩:=hO.form;have hB3:Below w.heap.size w w3:=hB2.trans (hb3.mono hB2.size);have hr3:=qac _ _ _ _ hr2 hb3;obtain ⟨r,er⟩:∃r,r=doD d [(false,N,l)] 1:=⟨_,rfl⟩;have HE:=hide er;rw [←er] at hO ⊢;clear er;obtain ⟨ws,ews,hws,hgs⟩:=qb6 (.slice p1 r.1.1.length t1) (.slice p2 r.1.2.1.length t2) (.slice p3 r.1.2.2.length t3) hr3;obtain ⟨z1,z2,z3,z4⟩:=cells3 hr3;obtain ⟨q1,q2,q3,q4⟩:=cells3 hws;have hbs:=hB3.grown hgs hB3.size (fun k hk=>by cases hk;simp);have HO:=hide ((hO.grown hgs (by omega)).mono (by omega):OwD ws w.heap.size _ _);clear hws hgs hO hb3 hr3;go_wp2
 refine bodyPost_ret (v:=.tuple #[.agg #[.slice p1 r.1.1.length t1,.slice p2 r.1.2.1.length t2,.slice p3 r.1.2.2.length t3],.int .i64 r.2]) ?_ rfl ?_
 ·simp [results,Tryz.results228,go_sem, *]
 ·rw [←HE.out];exact ⟨_,rfl,HO.out,hbs⟩
theorem qabd {a b:Bool} (h:a=b):Ending.returned (.bool a)=.returned (.bool b):=by rw [h]
theorem qns (l m:List UInt8):((bs l).toList==(bs m).toList)=decide (l=m):=by
 have e:∀x:List UInt8,(bs x).toList=x:=fun x=>by rw [ByteArray.toList_eq];simp [bs]
 rw [e,e]
 by_cases h:l=m<;>simp [h]
theorem qrt (a b:Value) (l m:List UInt8) (w:World) (h:Rd w a l) (k:Rd w b m):
  Calls Tryz.prog 106 #[a,b] w fun e w'=>e=.returned (.bool (decide (l=m)))∧w'=w:=by
 have h1:=qb1 (P:=Tryz.prog) 23 5 9 Tryz.underlying23 Tryz.underlying5 Tryz.underlying9 h;have h2:=qb1 (P:=Tryz.prog) 23 5 9 Tryz.underlying23 Tryz.underlying5 Tryz.underlying9 k;clear h k
 go_enter Tryz.func106,Tryz.ntmps106
 go_wp2;go_ret;exact ⟨qabd (qns l m),rfl⟩
def qfw (d:Dk) (n:Int):List UInt8 × Int:=if chk d≠0 then ([],chk d) else if n<0∨(mny d:Int)≤n then ([],2) else (nowD d n.toNat,0)
def qka (d:Dk):Int × Int:=if chk d≠0 then (0,chk d) else (mny d,0)
theorem qaj8 {w:World} {base g:Nat} {l:List UInt8} (h:Blk w base g l):OwB w base (.slice (some ⟨g,0,none⟩) 128 128) l:=by
 obtain ⟨h1,h2,h3⟩:=h
 show w.ownsRow _ _ _ _ _ _
 rw [h2];refine ⟨by simp [u8v,h2],.inr ⟨g,128,_,rfl,h1,h3,Nat.le_refl _,by unfold maxLen;decide,by simp [u8v,h2], ?_⟩⟩;rw [List.take_of_length_le (by simp [u8v,h2])]
theorem qia {w:World} {a:Option Addr} {n c:Nat} {l:List UInt8} (h:Rd w (.slice a n c) l) (lo hi:Nat) (h1:lo<hi) (h2:hi≤l.length):∃b off,a=some ⟨b,off,none⟩∧n=l.length∧n≤c∧Rd w (.slice (some ⟨b,off+lo,none⟩) (hi - lo) (c - lo)) ((l.drop lo).take (hi - lo)):=by
 rcases h with ⟨rfl,_⟩ | ⟨b,off,c',e,e1,e2,hc⟩
 ·simp at h2;omega
 ·cases e
  refine ⟨b,off,rfl,rfl,e1, ?_⟩
  have hl:((l.drop lo).take (hi - lo)).length=hi - lo:=by rw [List.length_take,List.length_drop];omega
  refine .inr ⟨b,off+lo,c - lo,by rw [hl],by rw [hl];omega,by omega,fun j hj=>?_⟩;rw [hl] at hj
  have:=hc (lo+j) (by omega)
  rw [Nat.add_assoc];rw [this]
  simp
theorem wrapq {k q n1 c1:Nat} (h:n1=128*q) (hk:k<q) (hc:n1≤c1):(k+1)*128≤n1∧¬k*128=c1∧(k+1)*128≤c1:=by omega
theorem qaj9 (k:Nat) (h:k≤1000000):wrap64 ((k:Int)*128)=((k*128:Nat):Int)∧wrap64 (((k:Int)+1)*128)=(((k+1)*128:Nat):Int)∧wrap64 ((k:Int)+1)=(k:Int)+1:=by
 unfold wrap64;refine ⟨by omega,by omega,by omega⟩
theorem qafm {d:Dk} {v:Value} (n:Int) (w:World) (hD:RdD w v d):
  Calls Tryz.prog 104 #[v,.int .i64 n] w fun e w'=>∃bv,e=.returned (.tuple #[bv,.int .i64 (qfw d n).2])∧OwB w' w.heap.size bv (qfw d n).1∧Below w.heap.size w w':=by
 obtain ⟨a1,c1,a2,c2,a3,c3,rfl,h1,h2,_⟩:=hD.form;have hn1:d.1.length≤maxLen:=h1.len_le;have HD:=hide hD;have H1:=hide h1;have H2:=hide h2;clear hD h1 h2;generalize e1:d.1.length=n1 at *;generalize e2:d.2.1.length=n2 at *;generalize e3:d.2.2.length=n3 at *;have E1:=hide e1;have E2:=hide e2;clear e1 e2 e3;obtain ⟨q,eq⟩:∃q,q=n1 / 128:=⟨_,rfl⟩;have HM:=hide (show mny d=q by rw [mny,E1.out,eq]);have HC:=hide (fun wx=>eq ▸ qf1 a1 a2 a3 n1 c1 n2 c2 n3 c3 hn1 wx:∀wx,Calls Tryz.prog 182 #[.agg #[.slice a1 n1 c1,.slice a2 n2 c2,.slice a3 n3 c3]] wx fun e w'=>e=.returned (.int .i64 q)∧Below wx.heap.size wx w');clear eq;obtain ⟨w1,ew⟩:∃w1,w.alloc (.cells #[.slice a1 n1 c1,.slice a2 n2 c2,.slice a3 n3 c3] 27)=w1:=⟨_,rfl⟩
 have hb1:Below w.heap.size w w1:=by rw [←ew];exact (Below.refl _ _).alloc (Nat.le_refl _) _
 have k0:w1.cell? ⟨w.heap.size,0,none⟩=some (.slice a1 n1 c1):=by rw [←ew];simp
 have k1:w1.cell? ⟨w.heap.size,1,none⟩=some (.slice a2 n2 c2):=by rw [←ew];simp
 have k2:w1.cell? ⟨w.heap.size,2,none⟩=some (.slice a3 n3 c3):=by rw [←ew];simp
 go_enter Tryz.func104,Tryz.ntmps104
 go_wp2_with fail
 refine (qlp (d:=d) _ (HD.out.carry hb1)).mono ?_
 rintro e w2 ⟨rfl,hb2⟩;have hB2:Below w.heap.size w w2:=hb1.trans (hb2.mono hb1.size);have k0':=qaa _ _ _ _ k0 hb2;have k1':=qaa _ _ _ _ k1 hb2;have k2':=qaa _ _ _ _ k2 hb2;clear ew k0 k1 k2 hb1 hb2
 rcases qdr d with ⟨hok,hck⟩ | ⟨hok,hck⟩
 ·rw [hck]
  by_cases hn0:n<0
  ·have HE:=hide (show qfw d n=([],2) by unfold qfw;rw [if_neg (by rw [hck];decide),if_pos (.inl hn0)])
   clear hck hok;go_wp2;go_ret2;rw [HE.out];exact ⟨_,rfl,World.ownsRow_nil _ _ _ _,hB2⟩
  ·have hn0':decide (n<0)=false:=by simpa using hn0
   obtain ⟨hfine,hc1,hc2⟩:=Fine.of_ok hok;have HF:=hide hfine;have HK:=hide hck;clear hck hok hfine
   go_wp2_with fail
   refine (HC.out _).mono ?_
   rintro e w3 ⟨rfl,hb3⟩;have hB3:Below w.heap.size w w3:=hB2.trans (hb3.mono hB2.size);have l0:=qaa _ _ _ _ k0' hb3;have l1:=qaa _ _ _ _ k1' hb3;clear k0' k1' k2' hb3 hB2
   by_cases hn1':(q:Int)≤n
   ·have HE:=hide (show qfw d n=([],2) by unfold qfw;rw [if_neg (by rw [HK.out];decide),if_pos (.inr (by rw [HM.out];exact hn1'))])
    go_wp2;go_ret2;rw [HE.out];exact ⟨_,rfl,World.ownsRow_nil _ _ _ _,hB3⟩
   ·obtain ⟨k,rfl⟩:∃k:Nat,n=k:=⟨n.toNat,by omega⟩
    have hkq:k<q:=by omega
    have hnq:decide ((q:Int)≤k)=false:=by simpa using hn1'
    have HE:=hide (show qfw d k=(nowD d k,0) by unfold qfw;rw [if_neg (by rw [HK.out];decide),if_neg (by rw [HM.out];omega)];rfl);clear hn0 hn1'
    go_wp2_with fail
    refine (qwj a2 n2 c2 d.2.1 _ E2.out.symm (by have:=HF.out.2.1;omega) (fun p hp=>by have:=qcq (HF.out.2.2.2 p hp);omega) (H2.out.carry hB3)).mono ?_
    rintro e w4 ⟨b,rfl,hm4,hb4⟩;have hB4:Below w.heap.size w w4:=hB3.trans (hb4.mono hB3.size);have m0:=qaa _ _ _ _ l0 hb4;have hkey:keyOf Tryz.prog 3 (.int .i64 (k:Int))=some (.int .i64 (k:Int)):=Maps.keyOf_int_mk Tryz.underlying3 (wf64 (by omega) (by have:=HM.out;omega));obtain ⟨D,G,g1,g2,g3,g4,g5,g6⟩:=hm4;obtain ⟨u,ps,hlook,hv⟩:=g1.look_ok (t:=214) (e:=23) qnr Tryz.underlying214 (qaa9 _) (zd:=.nil) (zp:=[]) rfl hkey;rw [g3] at hv
    cases hl:qb4 k d.2.1 with
    | some l=>
     obtain ⟨g,eg,hB⟩:=g5 k l hl;rw [eg] at hv;have hhas:Maps.has D (.int .i64 (k:Int))=true:=Maps.has_true_of_atKey (y:=.lit (.int .i64 g)) (fun z=>by rw [g3,eg]);rw [hhas] at hlook
     obtain rfl:u=.slice (some ⟨g,0,none⟩) 128 128:=by
      rcases qfi hv with ⟨_,h⟩ | ⟨g',h,h'⟩
      ·cases h
      ·cases h';exact h
     have HO:=hide (qaj8 hB);have HR:=hide (show nowD d k=l by unfold nowD;rw [hl];rfl);have hsz3:=hB3.size;clear hl g1 g2 g3 g4 g5 g6 hkey hv hhas hB eg hb4;go_wp2;go_ret2;rw [HE.out,HR.out];exact ⟨_,rfl,HO.out.mono hsz3,hB4⟩
    | none=>
     have eg:=g4 k hl;rw [eg] at hv;have hhas:Maps.has D (.int .i64 (k:Int))=false:=Maps.has_false_of_atKey (fun z=>by rw [g3,eg]);rw [hhas] at hlook
     obtain rfl:u=.slice none 0 0:=by
      rcases qfi hv with ⟨h,_⟩ | ⟨g',_,h'⟩
      ·exact h
      ·cases h'
     have HR:=hide (show nowD d k=blk d.1 k by unfold nowD;rw [hl];rfl)
     have hlen:d.1.length=128*q:=by have:=HF.out.1;rw [HM.out] at this;exact this
     obtain ⟨b9,o9,rfl,en,hnc,hrd⟩:=qia (H1.out.carry hB4) (k*128) ((k+1)*128) (by omega) (by omega)
     have eb:(d.1.drop (k*128)).take ((k+1)*128 - k*128)=blk d.1 k:=by
      unfold blk;rw [show (k+1)*128 - k*128=128 by omega,Nat.mul_comm]
     rw [eb] at hrd
     have hx:(k+1)*128 - k*128=128:=by omega
     rw [hx] at hrd;have HRD:=hide hrd
     have hn1q:n1=128*q:=by rw [en];exact hlen
     have HLB:=hide (show (blk d.1 k).length=128 by unfold blk;rw [List.length_take,List.length_drop];omega);obtain ⟨hw1,hw2,hw3⟩:=qaj9 k (by have:=HM.out;omega);obtain ⟨hh1,hh2,hh3⟩:=wrapq hn1q hkq hnc;have hsz3:=hB4.size;clear hl g1 g2 g3 g4 g5 g6 hkey hv hhas eg hrd hn1q en hlen hb4 eb l0 l1
     go_wp2_with fail
     refine (qlm _ (c1 - k*128) 128 (blk d.1 k) _ HLB.out.symm (by rw [HLB.out];decide) HRD.out).mono ?_
     rintro e w5 ⟨bv,rfl,hO5,hb5⟩;have HO:=hide (hO5.mono hsz3);have hB5:Below w.heap.size w w5:=hB4.trans (hb5.mono hsz3);clear hO5 hb5 hh1 hh2 hh3 hw1 hw2 hw3 hx;go_wp2;go_ret2;rw [HE.out,HR.out];exact ⟨_,rfl,HO.out,hB5⟩
 ·rw [hck]
  have HE:=hide (show qfw d n=([],20) by unfold qfw;rw [if_pos (by rw [hck];decide),hck]);clear hck hok;go_wp2;go_ret2;rw [HE.out];exact ⟨_,rfl,World.ownsRow_nil _ _ _ _,hB2⟩
theorem qwk {d:Dk} {v:Value} (w:World) (hD:RdD w v d):
  Calls Tryz.prog 150 #[v] w fun e w'=>e=.returned (.tuple #[.int .i64 (qka d).1,.int .i64 (qka d).2])∧Below w.heap.size w w':=by
 obtain ⟨a1,c1,a2,c2,a3,c3,rfl,h1,h2,_⟩:=hD.form;have hn1:d.1.length≤maxLen:=h1.len_le;have HD:=hide hD;clear hD h1 h2;generalize e1:d.1.length=n1 at *;generalize e2:d.2.1.length=n2 at *;generalize e3:d.2.2.length=n3 at *;have E1:=hide e1;clear e1 e2 e3;obtain ⟨q,eq⟩:∃q,q=n1 / 128:=⟨_,rfl⟩;have HM:=hide (show mny d=q by rw [mny,E1.out,eq]);have HC:=hide (fun wx=>eq ▸ qf1 a1 a2 a3 n1 c1 n2 c2 n3 c3 hn1 wx:∀wx,Calls Tryz.prog 182 #[.agg #[.slice a1 n1 c1,.slice a2 n2 c2,.slice a3 n3 c3]] wx fun e w'=>e=.returned (.int .i64 q)∧Below wx.heap.size wx w');clear eq;obtain ⟨w1,ew⟩:∃w1,w.alloc (.cells #[.slice a1 n1 c1,.slice a2 n2 c2,.slice a3 n3 c3] 27)=w1:=⟨_,rfl⟩
 have hb1:Below w.heap.size w w1:=by rw [←ew];exact (Below.refl _ _).alloc (Nat.le_refl _) _
 have k0:w1.cell? ⟨w.heap.size,0,none⟩=some (.slice a1 n1 c1):=by rw [←ew];simp
 have k1:w1.cell? ⟨w.heap.size,1,none⟩=some (.slice a2 n2 c2):=by rw [←ew];simp
 have k2:w1.cell? ⟨w.heap.size,2,none⟩=some (.slice a3 n3 c3):=by rw [←ew];simp
 go_enter Tryz.func150,Tryz.ntmps150
 go_wp2_with fail
 refine (qlp (d:=d) _ (HD.out.carry hb1)).mono ?_
 rintro e w2 ⟨rfl,hb2⟩;have hB2:Below w.heap.size w w2:=hb1.trans (hb2.mono hb1.size);have k0':=qaa _ _ _ _ k0 hb2;have k1':=qaa _ _ _ _ k1 hb2;have k2':=qaa _ _ _ _ k2 hb2;clear ew k0 k1 k2 hb1 hb2
 rcases qdr d with ⟨hok,hck⟩ | ⟨hok,hck⟩
 ·rw [hck]
  have HE:=hide (show qka d=((q:Int),0) by unfold qka;rw [if_neg (by rw [hck];decide),HM.out]);clear hck hok
  go_wp2_with fail
  refine (HC.out _).mono ?_
  rintro e w3 ⟨rfl,hb3⟩;have hB3:Below w.heap.size w w3:=hB2.trans (hb3.mono hB2.size);go_wp2;go_ret2;rw [HE.out];exact ⟨rfl,hB3⟩
 ·rw [hck]
  have HE:=hide (show qka d=(0,20) by unfold qka;rw [if_pos (by rw [hck];decide),hck]);clear hck hok;go_wp2;go_ret2;rw [HE.out];exact ⟨rfl,hB2⟩
theorem qfj {P:Program} (w:World) {ops:Array Oper} {rest:List Oper} {o:Oper} {a:Act} {Q:Exit→Act→World→Prop} (hgd:o.guard=none) (s x:Operand) (t:TypeId) (ho:o.op=.call {callee:=.builtin .append,args:=#[s,x],argTypes:=#[t,t]})
  {v y v':Value} {w':World} (hs:a.eval s=v) (hx:a.eval x=y) (hrun:(Builtin.append_ #[t,t] o.type #[v,y]).run P w=.ok v' w') (h:wpList P ops Q rest (a.put o.dst v') w'):wpList P ops Q (o::rest) a w:=by
 refine wpList_plain hgd fun K' hK'=>?_
 unfold Oper.wp;rw [qeu ho hs hx hrun];exact hK' _ _ h
theorem qabe (m:Nat):∃u:Nat,u≤100000∧(if (100000:Int)<(m:Int) then (100000:Int) else (m:Int))=(u:Int):=by
 by_cases h:(100000:Int)<m
 ·exact ⟨100000,by omega,by rw [if_pos h];rfl⟩
 ·exact ⟨m,by omega,by rw [if_neg h]⟩
theorem qyr (l:List Ac) (a:Option Addr) (n c:Nat) (w:World) (h:RdA w (.slice a n c) l) (hn:n=l.length):
  Calls Tryz.prog 111 #[.slice a n c] w fun e w'=>(∃r,e=.returned (.bool r)∧(r=false→l.length≤2000))∧w'=w:=by
 have H:=hide h;have HN:=hide hn;have hnm:n≤maxLen:=hn ▸ h.len_le;unfold maxLen at hnm;clear h hn
 go_enter Tryz.func111,Tryz.ntmps111
 go_wp2
 go_loopw [3,4] (fun s i wr=>∃k t:Nat,k≤n∧k≤3000∧t≤k*100000∧s=.int .i64 t∧i=.int .i64 k∧wr=w) (fun _ i _=>3000 - (intOf i).toNat)
 case atStart=>exact ⟨0,0,by omega,by omega,by omega,rfl,rfl,rfl⟩
 case round=>
  obtain ⟨k,t,hk,hk3,ht,rfl,rfl,rfl⟩:=hrel
  by_cases hlt:k<n
  ·have hlt':(k:Int)<n:=by omega
   by_cases h3:k<3000
   ·have h3':(k:Int)<3000:=by omega
    obtain ⟨b,off,rfl,q0,q0',x,m,d,q1,q2,q3⟩:=H.out.at k (by have:=HN.out;omega);clear q2 q3;obtain ⟨u,hu,hu'⟩:=qabe m;go_wp2;refine ⟨⟨k+1,t+u,by omega,by omega,by omega,by go_num,by go_num,trivial⟩,by simp [intOf]<;>omega⟩
   ·have h3':decide ((k:Int)<3000)=false:=by simpa using (by omega:¬(k:Int)<3000)
    have hn':(2000:Int)<n:=by omega
    go_wp2;go_ret;exact ⟨⟨_,rfl,by intro h;cases h⟩,rfl⟩
  ·have hlt':decide ((k:Int)<n)=false:=by simpa using (by omega:¬(k:Int)<n)
   by_cases h2:2000<n
   ·have hn':(2000:Int)<n:=by omega
    go_wp2;go_ret;exact ⟨⟨_,rfl,by intro h;cases h⟩,rfl⟩
   ·have hn':decide ((2000:Int)<n)=false:=by simpa using (by omega:¬(2000:Int)<n)
    go_wp2;go_ret;exact ⟨⟨_,rfl,fun _=>by have:=HN.out;omega⟩,rfl⟩
theorem qabf {d:Dk} {v:Value} (w:World) (hD:RdD w v d):
  Calls Tryz.prog 50 #[v] w fun e w'=>(∃r,e=.returned (.bool r)∧(r=false→d.1.length≤100000∧d.2.1.length≤2000∧d.2.2.length≤2000))∧Below w.heap.size w w':=by
 obtain ⟨a1,c1,a2,c2,a3,c3,rfl,h1,h2,h3⟩:=hD.form;have hn1:d.1.length≤maxLen:=h1.len_le;have hn2:d.2.1.length≤maxLen:=h2.len_le;have hn3:d.2.2.length≤maxLen:=h3.len_le;have H2:=hide h2;have H3:=hide h3;clear hD h1 h2 h3;unfold maxLen at hn1 hn2 hn3;generalize e1:d.1.length=n1 at *;generalize e2:d.2.1.length=n2 at *;generalize e3:d.2.2.length=n3 at *;have E1:=hide e1;have E2:=hide e2;have E3:=hide e3;clear e1 e2 e3;obtain ⟨w1,ew⟩:∃w1,w.alloc (.cells #[.slice a1 n1 c1,.slice a2 n2 c2,.slice a3 n3 c3] 27)=w1:=⟨_,rfl⟩
 have hb1:Below w.heap.size w w1:=by rw [←ew];exact (Below.refl _ _).alloc (Nat.le_refl _) _
 have k0:w1.cell? ⟨w.heap.size,0,none⟩=some (.slice a1 n1 c1):=by rw [←ew];simp
 have k1:w1.cell? ⟨w.heap.size,1,none⟩=some (.slice a2 n2 c2):=by rw [←ew];simp
 have k2:w1.cell? ⟨w.heap.size,2,none⟩=some (.slice a3 n3 c3):=by rw [←ew];simp
 have HH:=hide (qyr d.2.2 a3 n3 c3 w1 (H3.out.carry hb1) E3.out.symm);have H2':=hide (H2.out.carry hb1)
 go_enter Tryz.func50,Tryz.ntmps50
 go_wp2;clear ew
 go_loopw [3,4] (fun s i wr=>∃k t:Nat,k≤n2∧k≤3000∧t≤k*100000∧s=.int .i64 t∧i=.int .i64 k∧wr=w1) (fun _ i _=>3000 - (intOf i).toNat)
 case atStart=>exact ⟨0,0,by omega,by omega,by omega,rfl,rfl,rfl⟩
 case round=>
  obtain ⟨k,t,hk,hk3,ht,rfl,rfl,rfl⟩:=hrel
  by_cases hlt:k<n2∧k<3000
  ·obtain ⟨hlt,h3⟩:=hlt
   have hlt':(k:Int)<n2:=by omega
   have h3':(k:Int)<3000:=by omega
   obtain ⟨b,off,rfl,q0,x,m,dd,q1,q2,q3⟩:=H2'.out.at k (by have:=E2.out;omega);obtain ⟨u,hu,hu'⟩:=qabe m;clear q2 q3;go_wp2;refine ⟨⟨k+1,t+u,by omega,by omega,by omega,by go_num,by go_num,trivial⟩,by simp [intOf]<;>omega⟩
  ·by_cases g1:100000<n1
   ·have g1':(100000:Int)<n1:=by omega
    by_cases hl2:k<n2
    ·have hl2':(k:Int)<n2:=by omega
     have h3':decide ((k:Int)<3000)=false:=by simpa using (by omega:¬(k:Int)<3000)
     go_wp2;go_ret;exact ⟨⟨_,rfl,by intro h;cases h⟩,hb1⟩
    ·have hl2':decide ((k:Int)<n2)=false:=by simpa using (by omega:¬(k:Int)<n2)
     go_wp2;go_ret;exact ⟨⟨_,rfl,by intro h;cases h⟩,hb1⟩
   ·have g1':decide ((100000:Int)<n1)=false:=by simpa using (by omega:¬(100000:Int)<n1)
    by_cases hl2:k<n2
    ·have hl2':(k:Int)<n2:=by omega
     have h3':decide ((k:Int)<3000)=false:=by simpa using (by omega:¬(k:Int)<3000)
     have g2':(2000:Int)<n2:=by omega
     go_wp2;go_ret;exact ⟨⟨_,rfl,by intro h;cases h⟩,hb1⟩
    ·have hl2':decide ((k:Int)<n2)=false:=by simpa using (by omega:¬(k:Int)<n2)
     by_cases g2:2000<n2
     ·have g2':(2000:Int)<n2:=by omega
      go_wp2;go_ret;exact ⟨⟨_,rfl,by intro h;cases h⟩,hb1⟩
     ·have g2':decide ((2000:Int)<n2)=false:=by simpa using (by omega:¬(2000:Int)<n2)
      by_cases g3:400000<t
      ·have g3':(400000:Int)<t:=by omega
       go_wp2;go_ret;exact ⟨⟨_,rfl,by intro h;cases h⟩,hb1⟩
      ·have g3':decide ((400000:Int)<t)=false:=by simpa using (by omega:¬(400000:Int)<t)
       go_wp2_with fail
       refine HH.out.mono ?_
       rintro e w3 ⟨⟨r,rfl,hr⟩,rfl⟩;have HR:=hide hr;clear hr;cases r
       ·go_wp2
        go_ret;exact ⟨⟨_,rfl,fun _=>⟨by have:=E1.out;omega,by have:=E2.out;omega,by have:=HR.out (by first | rfl | trivial);have:=E3.out;omega⟩⟩,hb1⟩
       ·go_wp2
        go_ret;exact ⟨⟨_,rfl,by intro h;cases h⟩,hb1⟩
def qru (d:Dk) (n:Int):List UInt8:=(qfw d n).1
def ones:List UInt8:=List.replicate 128 1
theorem qrv {d:Dk} (h:okD d=true):chk d=0:=by unfold chk;rw [h];rfl
theorem qrw {d:Dk} (h:chk d=0):okD d=true:=by
 rcases qdr d with ⟨h1,_⟩ | ⟨_,h2⟩
 ·exact h1
 ·rw [h2] at h;cases h
theorem que {d d':Dk} {a:Ac} (h:okD d=true) (ha:actE (mny d) a=0) (he:oneD d a=some d'):okD d'=true∧mny d'=mny d∧d'.2.2=d.2.2++[a]:=by
 obtain ⟨hf,h1,h2⟩:=Fine.of_ok h;obtain ⟨hf',hd⟩:=hf.one ha he
 have hm:mny d'=mny d:=by have:=hf'.1;unfold mny at *;omega
 refine ⟨?_,hm,hd⟩;obtain ⟨g1,_,_,_,_,_,g7⟩:=(qb3 d).1 h;rw [qb3,hm];refine ⟨by have:=hf'.1;omega,h1,h2,hf'.2.1,hf'.2.2.1,hf'.2.2.2,fun b hb=>?_⟩;rw [hd] at hb
 rcases List.mem_append.1 hb with h | h
 ·exact g7 b h
 ·rw [List.mem_singleton.1 h];exact ha
theorem doD_ok {d:Dk} {l:List Ac} {m:Int} (h:(doD d l m).2=0):okD d=true∧(∀a∈l,actE (mny d) a=0)∧0≤m∧m≤l.length∧∃x,qes d (l.take m.toNat)=some x∧doD d l m=(x,0):=by
 unfold doD at *
 split at h
 ·rename_i h1;exact absurd h h1
 ·rename_i h1
  split at h
  ·rename_i h2;exact absurd h h2
  ·rename_i h2
   split at h
   ·cases h
   ·rename_i h3
    have hz:qee (mny d) l=0:=Classical.byContradiction fun e=>h2 e
    refine ⟨qrw (Classical.byContradiction fun e=>h1 e),qhp _ _ hz,by omega,by omega, ?_⟩;rw [if_neg h1,if_neg h2,if_neg h3]
    cases hx:qes d (l.take m.toNat) with
    | none=>rw [hx] at h;cases h
    | some x=>exact ⟨x,rfl,by simp only⟩
theorem qlr {d:Dk} {n:Nat} (h:okD d=true) (hn:n<mny d):qru d n=(qb4 n d.2.1).getD (blk d.1 n):=by
 unfold qru qfw;rw [if_neg (by rw [qrv h];simp),if_neg (by omega)];rfl
theorem qls {d d':Dk} {N:Int} {b:List UInt8} {n:Nat} (h:okD d=true) (ha:actE (mny d) (false,N,b)=0) (he:oneD d (false,N,b)=some d') (hn:n<mny d):qru d' n=if (n:Int)=N then b else qru d n:=by
 obtain ⟨h1,h2,_⟩:=que h ha he;unfold oneD at he
 split at he
 ·cases he
 ·try rw [if_neg (by simp)] at he
  cases he;rw [qlr h1 (by rw [h2];exact hn),qlr h hn]
  show (qb4 n (d.2.1++[(N,b)])).getD (blk d.1 n)=_
  rw [qje]
  split<;>rfl
def le4 (n:Nat):List UInt8:=[UInt8.ofNat (n % 256),UInt8.ofNat (n / 256 % 256),UInt8.ofNat (n / 65536 % 256),UInt8.ofNat (n / 16777216 % 256)]
def un4:List UInt8→Nat
 | []=>0
 | b::l=>b.toNat+256*un4 l
theorem qc9 (n:Nat):(le4 n).length=4:=rfl
theorem qlt:∀l:List UInt8,un4 l<256 ^ l.length
 | []=>by simp [un4]
 | b::l=>by
  have:=qlt l
  have hb:=b.toNat_lt;rw [un4,List.length_cons,Nat.pow_succ];omega
theorem qwl (b:UInt8):∀l:List UInt8,un4 (l++[b])=un4 l+b.toNat*256 ^ l.length
 | []=>by simp [un4]
 | c::l=>by
  have e:un4 (c::l++[b])=c.toNat+256*un4 (l++[b]):=rfl;rw [e,qwl b l,un4,List.length_cons,Nat.pow_succ,Nat.mul_add,Nat.add_assoc]
  congr 2
  rw [Nat.mul_comm (256 ^ l.length) 256,←Nat.mul_assoc,←Nat.mul_assoc,Nat.mul_comm 256 b.toNat]
theorem qeo (m:Nat):UInt8.ofNat (m % 256)=UInt8.ofNat m:=UInt8.toNat_inj.1 (by simp [UInt8.toNat_ofNat'])
theorem qaka (n k:Nat) (hk:k<4):(le4 n)[k]'(by rw [qc9];exact hk)=UInt8.ofNat (n / 2 ^ (8*k)):=by
 match k,hk with
 | 0,_=>simp [le4,qeo]
 | 1,_=>simp [le4,qeo]
 | 2,_=>simp [le4,qeo]
 | 3,_=>simp [le4,qeo]
theorem qafn (l:List UInt8) (k:Nat) (hk:k<l.length):un4 (l.take (k+1))=un4 (l.take k)+(l[k]).toNat*256 ^ k:=by
 rw [List.take_succ_eq_append_getElem hk,qwl]
 congr 2
 rw [List.length_take,Nat.min_eq_left (by omega)]
def qa8 (gen:Nat) (size:Int):List UInt8 × Int:=if gen=0∨size<0∨2048<size then ([],2) else (le4 gen++(le4 size.toNat++List.replicate 120 0),0)
def ofS (b:List UInt8):Nat × Nat × Int:=
 if b.length≠128 then (0,0,3)
 else if (qa8 (un4 (b.take 4)) (un4 ((b.drop 4).take 4))).2≠0∨b≠(qa8 (un4 (b.take 4)) (un4 ((b.drop 4).take 4))).1 then (0,0,8)
 else (un4 (b.take 4),un4 ((b.drop 4).take 4),0)
def qcw (d:Dk) (n:Nat):Nat × Nat:=if (ofS (blk d.1 n)).1 % 2=n then ((ofS (blk d.1 n)).1,(ofS (blk d.1 n)).2.1) else (0,0)
def qda (a b:Nat × Nat):Nat × Nat:=if a.1<b.1 then b else a
def qpt (d:Dk):Nat × Nat:=qda (qda (0,0) (qcw d 0)) (qcw d 1)
def qas (d:Dk):Nat × Nat × Int:=
 if chk d≠0 then (0,0,chk d) else if mny d≤34 then (0,0,70)
 else if (qpt d).1=0 then (0,0,70) else ((qpt d).1,(qpt d).2,0)
theorem qabg {gen:Nat} {size:Int} (h:(qa8 gen size).2=0):gen≠0∧0≤size∧size≤2048∧(qa8 gen size).1=le4 gen++(le4 size.toNat++List.replicate 120 0):=by
 unfold qa8 at *
 split at h
 ·cases h
 ·rename_i c
  rw [if_neg c];exact ⟨by omega,by omega,by omega,rfl⟩
theorem qrx {gen:Nat} {size:Int} (h1:gen≠0) (h2:0≤size) (h3:size≤2048):qa8 gen size=(le4 gen++(le4 size.toNat++List.replicate 120 0),0):=by
 unfold qa8;rw [if_neg (by omega)]
theorem qnt {gen:Nat} {size:Int} (h:(qa8 gen size).2≠0):qa8 gen size=([],2):=by
 unfold qa8 at *
 split
 ·rfl
 ·rename_i c;rw [if_neg c] at h;exact absurd rfl h
theorem ofS_ok {b:List UInt8} (h:(ofS b).2.2=0):qa8 (ofS b).1 ((ofS b).2.1:Nat)=(b,0):=by
 unfold ofS at *
 split at h
 ·cases h
 ·rename_i c1
  split at h
  ·cases h
  ·rename_i c2
   rw [if_neg c1,if_neg c2]
   have h1:(qa8 (un4 (b.take 4)) (un4 ((b.drop 4).take 4))).2=0:=by
    by_cases hx:(qa8 (un4 (b.take 4)) (un4 ((b.drop 4).take 4))).2=0
    ·exact hx
    ·exact absurd (.inl hx) c2
   have h2:b=(qa8 (un4 (b.take 4)) (un4 ((b.drop 4).take 4))).1:=by
    by_cases hx:b=(qa8 (un4 (b.take 4)) (un4 ((b.drop 4).take 4))).1
    ·exact hx
    ·exact absurd (.inr hx) c2
   show qa8 (un4 (b.take 4)) (un4 ((b.drop 4).take 4))=(b,0)
   exact Prod.ext h2.symm h1
theorem qabh {b:List UInt8} (h:(ofS b).2.2≠0):(ofS b).1=0∧(ofS b).2.1=0:=by
 unfold ofS at *
 split
 ·exact ⟨rfl,rfl⟩
 ·rename_i c1
  rw [if_neg c1] at h
  split
  ·exact ⟨rfl,rfl⟩
  ·rename_i c2;rw [if_neg c2] at h;exact absurd rfl h
theorem qwm (b:List UInt8):(ofS b).1<4294967296∧(ofS b).2.1≤2048:=by
 by_cases h:(ofS b).2.2=0
 ·have:=ofS_ok h
  obtain ⟨h1,h2,h3,_⟩:=qabg (by rw [this]:(qa8 (ofS b).1 ((ofS b).2.1:Nat)).2=0);refine ⟨?_,by omega⟩;unfold ofS
  split
  ·show (0:Nat)<_;omega
  ·split
   ·show (0:Nat)<_;omega
   ·have:=qlt (b.take 4)
    have hle:256 ^ (b.take 4).length≤256 ^ 4:=Nat.pow_le_pow_right (by decide) (by rw [List.length_take];omega);exact Nat.lt_of_lt_of_le this hle
 ·obtain ⟨h1,h2⟩:=qabh h
  rw [h1,h2];exact ⟨by omega,by omega⟩
theorem qjf {d:Dk} {gen was:Nat} (h:qas d=(gen,was,0)):okD d=true∧34<mny d∧gen≠0∧qpt d=(gen,was):=by
 unfold qas at h
 split at h
 ·rename_i c
  have:=congrArg (fun x=>x.2.2) h
  exact absurd this c
 ·rename_i c1
  split at h
  ·cases h
  ·split at h
   ·cases h
   ·rename_i c2 c3
    injection h with h1 h2
    injection h2 with h2 h3
    refine ⟨qrw (by omega),by omega,by rw [←h1];exact c3, ?_⟩;exact Prod.ext h1 h2
theorem qry (d:Dk) (n:Nat):(qcw d n).1=0∨(qcw d n).1 % 2=n:=by
 unfold qcw
 split
 ·rename_i h;exact .inr h
 ·exact .inl rfl
theorem qrz (a b:Nat × Nat):qda a b=a∨qda a b=b:=by
 unfold qda
 split
 ·exact .inr rfl
 ·exact .inl rfl
theorem qnu {d:Dk} {gen was:Nat} (h:qpt d=(gen,was)) (hg:gen≠0):qcw d (gen % 2)=(gen,was):=by
 have p0:=qry d 0;have p1:=qry d 1;unfold qpt at h
 rcases qrz (qda (0,0) (qcw d 0)) (qcw d 1) with e | e
 ·rw [e] at h
  rcases qrz (0,0) (qcw d 0) with e | e
  ·rw [e] at h
   exact absurd (congrArg Prod.fst h).symm hg
  ·rw [e] at h
   rw [h] at p0
   have:gen % 2=0:=by
    rcases p0 with p0 | p0
    ·exact absurd p0 hg
    ·exact p0
   rw [this];exact h
 ·rw [e] at h
  rw [h] at p1
  have:gen % 2=1:=by
   rcases p1 with p1 | p1
   ·exact absurd p1 hg
   ·exact p1
  rw [this];exact h
end Go.Proofs.YtmeaiocohalphaaGreatDoor

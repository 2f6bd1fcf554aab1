/-
  What frame's Frame does: a record's blocks.
-/
import Derived.Test.YtnmbbpdhjkaidaaGreatFr2
set_option maxHeartbeats 2000000
set_option maxRecDepth 100000
namespace Go.Proofs.YtnmbbpdhjkaidaaGreat
open Go.RowKit
set_option linter.all false
theorem qqb {α:Type} (cur x:List α) (off n:Nat) (h:off+x.length≤n) (hn:n≤cur.length):(cur.take off++(x++cur.drop (off+x.length))).take n=(cur.take n).take off++(x++(cur.take n).drop (off+x.length)):=by
 have h1:(cur.take off).length=off:=by rw [List.length_take];omega
 rw [List.take_append,List.take_append,h1,List.take_of_length_le (l:=cur.take off) (by omega),List.take_of_length_le (l:=x) (by omega),List.take_take,Nat.min_eq_left (by omega),List.drop_take,Nat.sub_sub]
theorem qqc {P:Program} (w:World) {ops:Array Oper} {rest:List Oper} {o:Oper} {a:Act} {Q:Exit→Act→World→Prop} (hgd:o.guard=none) (d s:Operand) (dT:TypeId)
  (ho:o.op=.call {callee:=.builtin .copy,args:=#[d,s],argTypes:=#[dT,dT]}) (hu:P.underlying dT=some (.slice 5)) (hsz:(P.info? 5).map (·.size)=some 1)
  (base g n c off dLen dCap:Nat) (hd:a.eval d=.slice (some ⟨g,off,none⟩) dLen dCap) (v:Value) (l:List UInt8) (hs:a.eval s=v) (hrd:Rd w v l)
  (data:List UInt8) (hown:OwB w base (.slice (some ⟨g,0,none⟩) n c) data) (hfit:off+dLen=data.length)
  (h:∀w',w.grownBy w' (some g)→OwB w' base (.slice (some ⟨g,0,none⟩) n c) (splice data off (l.take dLen))→wpList P ops Q rest (a.put o.dst (goInt (l.take dLen).length)) w'):
  wpList P ops Q (o::rest) a w:=by
 obtain ⟨sa,sc,rfl⟩:=hrd.form
 by_cases hpos:l=[]
 ·subst hpos
  refine wpList_copy_nothing hgd d s dT dT ho 5 hu hsz _ _ _ _ _ _ hd hs (Nat.min_eq_left (Nat.zero_le _)) ?_
  have hh:=h w (World.grownBy.refl _ _)
  have e0:(([]:List UInt8).take dLen).length=0:=by simp
  rw [e0] at hh
  refine hh ?_
  have e:splice data off (([]:List UInt8).take dLen)=data:=by simp [splice]
  rw [e];exact hown
 ·rcases hrd with ⟨e,_⟩ | ⟨b,of,c',e,hc,hm,hcell⟩
  ·exact absurd e hpos
  ·cases e
   have hlt:(l.take dLen).length=min dLen l.length:=List.length_take
   have hlen:(u8v (l.take dLen)).length=min dLen l.length:=by simp [u8v]
   obtain ⟨hx,h' | ⟨g',cap',cur,e,h1,h2,h3,h4,h5,h6⟩⟩:=hown
   ·cases h'.1
   ·cases e
    have htk:cur.toList.take data.length=u8v data:=by rw [←h6,Nat.mul_one]
    have hcs:data.length≤cur.size:=by rw [h5];omega
    refine wpList_copy_own hgd d s dT dT ho 5 hu hsz g off _ dCap ⟨b,of,none⟩ l.length sc hd hs cur _ h2 (u8v (l.take dLen)) (by rw [hlen];exact Nat.min_comm _ _) ?_ (by rw [hlen];omega) (qdl _) ?_
    ·intro j u hj
     obtain ⟨hj',rfl⟩:=qdc (l.take dLen) j u hj;rw [Addr.add_lit];rw [List.length_take] at hj';rw [List.getElem_take];exact hcell j (by omega)
    ·rw [hlen,←hlt]
     refine h _ ⟨rfl,rfl,rfl,by simp [World.setRow],fun k _ hk=>setRow_other w g k _ (fun e=>hk (by rw [e]))⟩ ?_
     have hl2:(splice data off (l.take dLen)).length=data.length:=length_splice _ _ _ (by rw [hlt];omega);refine ⟨by simp [u8v],.inr ⟨g,c,_,by rw [hl2],h1,setRow_heap w g _ _ _ _ h2,by rw [hl2];exact h3,h4, ?_, ?_⟩⟩
     ·have hz:cur.toList.length=c*1:=by rw [Array.length_toList,h5]
      simp [hlen];omega
     ·rw [hl2,qgn,hlen,Nat.mul_one]
      show ((cur.toList.take off++(u8v (l.take dLen)++cur.toList.drop (off+(l.take dLen).length))).take data.length)=_
      have hx1:off+(u8v (l.take dLen)).length≤data.length:=by rw [hlen];omega
      have:=qqb cur.toList (u8v (l.take dLen)) off data.length hx1 (by rw [Array.length_toList];exact hcs)
      rw [htk,hlen] at this
      rw [hlt];exact this
theorem qed (Z p q:List UInt8) (k:Nat) (hk:k=p.length) (h:p.length+q.length≤Z.length):splice (splice Z 0 p) k q=splice Z 0 (p++q):=by
 subst hk;unfold splice
 simp only [List.take_zero,List.nil_append,Nat.zero_add]
 rw [List.take_left,List.drop_append,List.drop_of_length_le (by omega),List.nil_append,List.drop_drop,List.length_append,List.append_assoc]
 congr 3
 omega
theorem qvl (h:Hd) (i m:Nat) (rest:List UInt8):
  (splice (splice (List.replicate 128 0) 0 (hdB h++(le2 i++le2 m))) 21 (rest.take 107)).set 20 (UInt8.ofNat (min rest.length 107))=qdj h i m rest:=by
 have e1:splice (List.replicate 128 0) 0 (hdB h++(le2 i++le2 m))=hdB h++(le2 i++(le2 m++(0::List.replicate 107 0))):=by
  unfold splice;simp [hdB,le4,le2]
 rw [e1]
 have e2:splice (hdB h++(le2 i++(le2 m++(0::List.replicate 107 0)))) 21 (rest.take 107)=hdB h++(le2 i++(le2 m++(0::(rest.take 107++List.replicate (107 - rest.length) 0)))):=by
  unfold splice
  have e3:(hdB h++(le2 i++(le2 m++(0::List.replicate 107 (0:UInt8))))).take 21=hdB h++(le2 i++(le2 m++[0])):=by simp [hdB,le4,le2]
  have e4:∀k,(hdB h++(le2 i++(le2 m++(0::List.replicate 107 (0:UInt8))))).drop (21+k)=List.replicate (107 - k) 0:=by
   intro k;rw [←List.drop_drop]
   have:(hdB h++(le2 i++(le2 m++(0::List.replicate 107 (0:UInt8))))).drop 21=List.replicate 107 0:=by simp [hdB,le4,le2]
   rw [this,List.drop_replicate]
  rw [e3,e4,List.length_take]
  have e5:107 - min 107 rest.length=107 - rest.length:=by omega
  rw [e5]
  simp [List.append_assoc]
 rw [e2]
 simp [qdj,padP,hdB,le4,le2]
def begZ (h:Hd) (j:Nat):List UInt8:=splice (List.replicate 128 0) 0 ((hdB h).take (4*j))
theorem qfp (h:Hd) (j:Nat):(begZ h j).length=128:=by
 unfold begZ;rw [length_splice _ _ _ (by rw [List.length_take,qds,List.length_replicate];omega),List.length_replicate]
theorem begZ_4 (h:Hd):begZ h 4=splice (List.replicate 128 0) 0 (hdB h):=rfl
theorem qafj (h:Hd):splice (begZ h 0) 0 ((le4 h.1).take 4)=begZ h 1:=by
 unfold begZ;rw [qed _ _ _ _ (by rw [List.length_take,qds];rfl) (by rw [List.length_take,qds,List.length_take,qa8,List.length_replicate];decide)];rfl
theorem qafk (h:Hd):splice (begZ h 1) 4 ((le4 h.2.1).take 4)=begZ h 2:=by
 unfold begZ;rw [qed _ _ _ _ (by rw [List.length_take,qds];rfl) (by rw [List.length_take,qds,List.length_take,qa8,List.length_replicate];decide)];rfl
theorem qafl (h:Hd):splice (begZ h 2) 8 ((le4 h.2.2.1).take 4)=begZ h 3:=by
 unfold begZ;rw [qed _ _ _ _ (by rw [List.length_take,qds];rfl) (by rw [List.length_take,qds,List.length_take,qa8,List.length_replicate];decide)];rfl
theorem qafm (h:Hd):splice (begZ h 3) 12 ((le4 h.2.2.2).take 4)=begZ h 4:=by
 unfold begZ;rw [qed _ _ _ _ (by rw [List.length_take,qds];rfl) (by rw [List.length_take,qds,List.length_take,qa8,List.length_replicate];decide)];rfl
theorem Tryz.ix0 (x0 x1 x2 x3:Nat) (wx:World):(Instr.index 198 (.agg #[.int .u32 x0,.int .u32 x1,.int .u32 x2,.int .u32 x3]) (.int .i64 0)).run Tryz.prog wx=.ok (.int .u32 x0) wx:=by kernel_rfl
theorem Tryz.ix1 (x0 x1 x2 x3:Nat) (wx:World):(Instr.index 198 (.agg #[.int .u32 x0,.int .u32 x1,.int .u32 x2,.int .u32 x3]) (.int .i64 1)).run Tryz.prog wx=.ok (.int .u32 x1) wx:=by kernel_rfl
theorem Tryz.ix2 (x0 x1 x2 x3:Nat) (wx:World):(Instr.index 198 (.agg #[.int .u32 x0,.int .u32 x1,.int .u32 x2,.int .u32 x3]) (.int .i64 2)).run Tryz.prog wx=.ok (.int .u32 x2) wx:=by kernel_rfl
theorem Tryz.ix3 (x0 x1 x2 x3:Nat) (wx:World):(Instr.index 198 (.agg #[.int .u32 x0,.int .u32 x1,.int .u32 x2,.int .u32 x3]) (.int .i64 3)).run Tryz.prog wx=.ok (.int .u32 x3) wx:=by kernel_rfl
theorem qvm (h:Hd) (place many:Nat) (rv:Value) (rest:List UInt8) (w:World) (hh:okH h) (hp:place<65536) (hm:many<65536) (hrd:Rd w rv rest):
  Calls Tryz.prog 139 #[.agg #[.int .u32 h.1,.int .u32 h.2.1,.int .u32 h.2.2.1,.int .u32 h.2.2.2],.int .i64 place,.int .i64 many,rv] w fun e w'=>∃c,e=.returned (.tuple #[.slice (some ⟨w.heap.size+1,0,none⟩) 128 c,.int .i64 (min rest.length 107:Nat)])∧OwB w' w.heap.size (.slice (some ⟨w.heap.size+1,0,none⟩) 128 c) (qdj h place many rest)∧Below w.heap.size w w':=by
 have HR:=hide hrd;obtain ⟨x0,x1,x2,x3⟩:=h;obtain ⟨h0,h1,h2,h3⟩:=hh;have h0:x0<4294967296:=h0;have h1:x1<4294967296:=h1;have h2:x2<4294967296:=h2;have h3:x3<4294967296:=h3;have H0:=hide h0;have H1:=hide h1;have H2:=hide h2;have H3:=hide h3;obtain ⟨w2,hmk,hO2,hb2⟩:=qrp (w.alloc (.cells #[.int .u32 x0,.int .u32 x1,.int .u32 x2,.int .u32 x3] 198))
 have hsz:(w.alloc (.cells #[.int .u32 x0,.int .u32 x1,.int .u32 x2,.int .u32 x3] 198)).heap.size=w.heap.size+1:=by simp
 rw [hsz] at hmk hO2 hb2;have hB2:Below w.heap.size w w2:=((Below.refl _ _).alloc (Nat.le_refl _) _).trans (hb2.mono (by omega))
 have q0:w2.cell? ⟨w.heap.size,0,none⟩=some (.int .u32 x0):=by rw [hb2.cell (by show w.heap.size<_;omega)];simp
 have q1:w2.cell? ⟨w.heap.size,1,none⟩=some (.int .u32 x1):=by rw [hb2.cell (by show w.heap.size<_;omega)];simp
 have q2:w2.cell? ⟨w.heap.size,2,none⟩=some (.int .u32 x2):=by rw [hb2.cell (by show w.heap.size<_;omega)];simp
 have q3:w2.cell? ⟨w.heap.size,3,none⟩=some (.int .u32 x3):=by rw [hb2.cell (by show w.heap.size<_;omega)];simp
 have HO2:=hide hO2;have HHP:=hide hp;have HHM:=hide hm;have HSZ:=hide hsz;clear hO2 hrd hb2 h0 h1 h2 h3 hsz
 go_enter Tryz.func139,Tryz.ntmps139
 go_wp2
 go_loopw [14] (fun i wr=>∃j:Nat,j≤4∧i=.int .i64 j∧Hid (OwB wr w.heap.size (.slice (some ⟨w.heap.size+1,0,none⟩) 128 128) (begZ (x0,x1,x2,x3) j))∧Below w.heap.size w wr) (fun i _=>4 - (intOf i).toNat)
 case atStart=>exact ⟨0,Nat.zero_le _,rfl,hide (HO2.out.mono (by omega)),hB2⟩
 case round=>
  clear q0 q1 q2 q3 hmk hB2 hp hm;obtain ⟨j,hj,rfl,ho,hbel⟩:=hrel
  by_cases hlt:j<4
  ·obtain rfl | rfl | rfl | rfl:j=0∨j=1∨j=2∨j=3:=by omega
   ·clear hlt hj
    have hix:=Tryz.ix0 x0 x1 x2 x3
    go_wp2_with fail
    refine (qg0 w.heap.size (w.heap.size+1) 128 128 0 4 128 _ x0 _ ho.out (by omega) (by rw [qfp];omega) H0.out).mono ?_
    rintro e w3 ⟨rfl,hg3,hO3⟩;rw [qafj] at hO3;have hB3:Below w.heap.size w w3:=hbel.grown hg3 hbel.size (fun k hk=>by cases hk;omega);have HO3:=hide hO3;clear hO3 hg3 ho hbel;go_wp2;go_roundw
    case rel=>exact ⟨1,by omega,rfl,HO3,hB3⟩
    case measure=>simp only [intOf];omega
   ·clear hlt hj
    have hix:=Tryz.ix1 x0 x1 x2 x3
    go_wp2_with fail
    refine (qg0 w.heap.size (w.heap.size+1) 128 128 4 4 124 _ x1 _ ho.out (by omega) (by rw [qfp];omega) H1.out).mono ?_
    rintro e w3 ⟨rfl,hg3,hO3⟩;rw [qafk] at hO3;have hB3:Below w.heap.size w w3:=hbel.grown hg3 hbel.size (fun k hk=>by cases hk;omega);have HO3:=hide hO3;clear hO3 hg3 ho hbel;go_wp2;go_roundw
    case rel=>exact ⟨2,by omega,rfl,HO3,hB3⟩
    case measure=>simp only [intOf];omega
   ·clear hlt hj
    have hix:=Tryz.ix2 x0 x1 x2 x3
    go_wp2_with fail
    refine (qg0 w.heap.size (w.heap.size+1) 128 128 8 4 120 _ x2 _ ho.out (by omega) (by rw [qfp];omega) H2.out).mono ?_
    rintro e w3 ⟨rfl,hg3,hO3⟩;rw [qafl] at hO3;have hB3:Below w.heap.size w w3:=hbel.grown hg3 hbel.size (fun k hk=>by cases hk;omega);have HO3:=hide hO3;clear hO3 hg3 ho hbel;go_wp2;go_roundw
    case rel=>exact ⟨3,by omega,rfl,HO3,hB3⟩
    case measure=>simp only [intOf];omega
   ·clear hlt hj
    have hix:=Tryz.ix3 x0 x1 x2 x3
    go_wp2_with fail
    refine (qg0 w.heap.size (w.heap.size+1) 128 128 12 4 116 _ x3 _ ho.out (by omega) (by rw [qfp];omega) H3.out).mono ?_
    rintro e w3 ⟨rfl,hg3,hO3⟩;rw [qafm] at hO3;have hB3:Below w.heap.size w w3:=hbel.grown hg3 hbel.size (fun k hk=>by cases hk;omega);have HO3:=hide hO3;clear hO3 hg3 ho hbel;go_wp2;go_roundw
    case rel=>exact ⟨4,by omega,rfl,HO3,hB3⟩
    case measure=>simp only [intOf];omega
  ·have hd:decide ((j:Int)<4)=false:=by simpa using (by omega:¬(j:Int)<4)
   obtain rfl:j=4:=by omega
   have hwp:IntKind.u32.wrap (place:Int)=place:=by rw [IntKind.wrap_u32'];have:=HHP.out;omega
   have hwm:IntKind.u32.wrap (many:Int)=many:=by rw [IntKind.wrap_u32'];have:=HHM.out;omega
   go_wp2_with fail
   refine (qg0 w.heap.size (w.heap.size+1) 128 128 16 2 112 _ place _ ho.out (by omega) (by rw [qfp];omega) (by have:=HHP.out;omega)).mono ?_
   rintro e w4 ⟨rfl,hg4,hO4⟩;have hB4:Below w.heap.size w w4:=hbel.grown hg4 hbel.size (fun k hk=>by cases hk;omega);have HO4:=hide hO4;clear hO4 hg4 ho hbel hd
   go_wp2_with fail
   refine (qg0 w.heap.size (w.heap.size+1) 128 128 18 2 110 _ many _ HO4.out (by omega) (by rw [length_splice _ _ _ (by rw [qfp,List.length_take,qa8];decide),qfp];omega) (by have:=HHM.out;omega)).mono ?_
   rintro e w5 ⟨rfl,hg5,hO5⟩;have hB5:Below w.heap.size w w5:=hB4.grown hg5 hB4.size (fun k hk=>by cases hk;omega);rw [begZ_4,qed (List.replicate 128 0) (hdB (x0,x1,x2,x3)) ((le4 place).take 2) 16 rfl (by rw [qds,List.length_take,qa8,List.length_replicate];decide),qed (List.replicate 128 0) (hdB (x0,x1,x2,x3)++(le4 place).take 2) ((le4 many).take 2) 18 rfl (by rw [List.length_append,qds,List.length_take,List.length_take,qa8,qa8,List.length_replicate];decide)] at hO5
   have e5:(hdB (x0,x1,x2,x3)++(le4 place).take 2)++(le4 many).take 2=hdB (x0,x1,x2,x3)++(le2 place++le2 many):=by rw [List.append_assoc];rfl
   rw [e5] at hO5;have HO5:=hide hO5;have HL5:=hide (show (splice (List.replicate 128 0) 0 (hdB (x0,x1,x2,x3)++(le2 place++le2 many))).length=128 by rw [length_splice _ _ _ (by rw [List.length_append,List.length_append,qds,qr0,qr0,List.length_replicate];decide),List.length_replicate]);have HFB:=hide (qvl (x0,x1,x2,x3) place many rest);obtain ⟨Z,hZ⟩:∃Z,Z=splice (List.replicate 128 0) 0 (hdB (x0,x1,x2,x3)++(le2 place++le2 many)):=⟨_,rfl⟩;rw [←hZ] at HO5 HL5 HFB;obtain ⟨F,hF⟩:∃F,F=qdj (x0,x1,x2,x3) place many rest:=⟨_,rfl⟩;have HF:=hide hF;have HRM:=hide (show (rest.take 107).length=min rest.length 107 by rw [List.length_take];omega);obtain ⟨q,hq⟩:∃q,q=min rest.length 107:=⟨_,rfl⟩
   have hq1:q≤107:=by omega
   have hq2:IntKind.u8.wrap (q:Int)=((UInt8.ofNat q).toNat:Int):=by rw [IntKind.wrap_u8',UInt8.toNat_ofNat'];omega
   have HQ:=hide hq;rw [←hq] at HRM HFB;have HR5:=hide (HR.out.carry hB5);clear hO5 hg5 hB4 HO4 hZ hF hq e5 hwp hwm
   have HK:=hide (fun (w6:World) (hg6:w5.grownBy w6 (some (w.heap.size+1))) (hO6:OwB w6 w.heap.size (.slice (some ⟨w.heap.size+1,0,none⟩) 128 128) (splice Z 21 (rest.take 107)))=>by
    have hl6:(splice Z 21 (rest.take 107)).length=128:=by rw [length_splice _ _ _ (by rw [HL5.out,HRM.out];omega),HL5.out]
    obtain ⟨o1,o2⟩:=hO6.stored 20 (UInt8.ofNat q);rw [HFB.out] at o1;have hB6:Below w.heap.size w w6:=hB5.grown hg6 hB5.size (fun k hk=>by cases hk;omega);have hB7:=hB6.grown o2 hB6.size (fun k hk=>by cases hk;omega)
    exact (⟨hO6.fz 20,⟨_,hO6.at 20 (by omega)⟩,o1,hB7⟩:w6.frozen? ⟨w.heap.size+1,20,none⟩=false∧(∃v,w6.cell? ⟨w.heap.size+1,20,none⟩=some v)∧OwB (w6.setCell ⟨w.heap.size+1,20,none⟩ (.int .u8 (UInt8.ofNat q).toNat)) w.heap.size (.slice (some ⟨w.heap.size+1,0,none⟩) 128 128) (qdj (x0,x1,x2,x3) place many rest)∧Below w.heap.size w (w6.setCell ⟨w.heap.size+1,20,none⟩ (.int .u8 (UInt8.ofNat q).toNat))))
   go_wp2_with (refine qqc w5 rfl (.tmp 37) (.tmp 38) 23 rfl Tryz.underlying23 Tryz.sizeB w.heap.size (w.heap.size+1) 128 128 21 107 107 rfl _ rest rfl HR5.out _ HO5.out (by rw [HL5.out]) ?_;intro w6 hg6 hO6;obtain ⟨hfz,⟨cv,hcv⟩,ho7,hb7⟩:=HK.out w6 hg6 hO6;have HO7:=hide ho7;have HB7:=hide hb7;clear hg6 hO6 ho7 hb7;rw [HRM.out])
   go_ret2;refine ⟨128, ?_,HO7.out,HB7.out⟩;rw [←HQ.out];rfl
def PrtF (w:World) (base g N:Nat) (l:List (List UInt8)) (j:Nat):Prop:=
 ∃vs:List Value,vs.length=N∧w.ownsRow base 23 1 (.slice (some ⟨g,0,none⟩) N N) N vs∧∀i,(h:i<l.length)→i<j→∃v,vs[i]? =some v∧OwB w base v l[i]
theorem makeF (w:World) (N:Nat) (hN:N≤1000):∃w2,(Instr.makeSlice 38 (.int .i64 N) (.int .i64 N)).run Tryz.prog w=.ok (.slice (some ⟨w.heap.size,0,none⟩) N N) w2∧(∀l,PrtF w2 w.heap.size w.heap.size N l 0)∧Below w.heap.size w w2:=by
 obtain ⟨i0,hi,hz0,hz1,hz2⟩:=info_parts Tryz.infoSl8;obtain ⟨w2,hmake,hown2,hg2⟩:=run_make_full (P:=Tryz.prog) w w.heap.size 38 23 i0 _ 1 Tryz.underlying38 hi hz0 hz1 .i64 .i64 N (by rw [hz2];omega) (by unfold maxLen;omega) (Nat.le_refl _);refine ⟨w2,hmake,fun l=>⟨_, ?_,hown2,fun i h hi=>by omega⟩,(Below.refl _ _).grown hg2 (Nat.le_refl _) (fun k hk=>by cases hk)⟩
 have e:(madeCells (Value.slice none 0 0).cells (N*1)).toList=List.replicate (N*1) (.slice none 0 0):=by
  show (madeCells #[Value.slice none 0 0] (N*1)).toList=_
  rw [toList_madeCells_one]
 rw [e,List.length_replicate];omega
theorem PrtF.carry {w w':World} {base g N j:Nat} {l:List (List UInt8)} (h:PrtF w base g N l j) (hb:Below w.heap.size w w'):PrtF w' base g N l j:=by
 obtain ⟨vs,h1,h2,h3⟩:=h;refine ⟨vs,h1,qbf h2 hb,fun i h hi=>?_⟩;obtain ⟨v,e,ho⟩:=h3 i h hi;exact ⟨v,e,ho.carry hb⟩
theorem PrtF.set {w:World} {base g N j:Nat} {l:List (List UInt8)} (h:PrtF w base g N l j) (hj:j<N) (hl:j<l.length) {v:Value} (hv:OwB w base v l[j]):
  (∃u,w.cell? ⟨g,j,none⟩=some u)∧w.frozen? ⟨g,j,none⟩=false∧PrtF (w.setCell ⟨g,j,none⟩ v) base g N l (j+1)∧Below base w (w.setCell ⟨g,j,none⟩ v):=by
 obtain ⟨vs,h1,h2,h3⟩:=h;obtain ⟨s1,s2⟩:=World.ownsRow.stored h2 j v;have hg:=(h2.lt g rfl).1;have hcell:=h2.cells (g:=g) rfl j (vs[j]'(by omega)) (List.getElem?_eq_getElem (by omega));rw [Addr.add_lit] at hcell;have hbg:base≤g:=hg;refine ⟨⟨_,by simpa using hcell⟩, ?_,⟨vs.set j v,by simpa using h1,s1,fun i h hi=>?_⟩, ?_⟩
 ·rcases h2.2 with ⟨e,_⟩ | ⟨g',cap,cur,e,_,hgg,_⟩
  ·cases e
  ·cases e
   exact frozen_of_row w _ j _ _ hgg
 ·by_cases e:i=j
  ·subst e
   exact ⟨v,by rw [List.getElem?_set_self (by omega)],qla hv h2 (by decide) s2⟩
  ·obtain ⟨u,e1,ho⟩:=h3 i h (by omega)
   exact ⟨u,by rw [List.getElem?_set_ne (by omega)];exact e1,qla ho h2 (by decide) s2⟩
 ·exact ⟨s2.os,s2.tape,s2.output,s2.size,fun k hk=>s2.block k (by have:=World.block_lt_of_cell? w _ (by simpa using hcell);have h7:g<w.heap.size:=this;omega) (by intro e;cases e;omega)⟩
theorem PrtF.all {w:World} {base g N j:Nat} {l:List (List UInt8)} (h:PrtF w base g N l j) (hl:l.length=N) (hj:N≤j):OwBB w base (.slice (some ⟨g,0,none⟩) N N) l:=by
 obtain ⟨vs,h1,h2,h3⟩:=h;refine ⟨l.zip vs, ?_, ?_, ?_⟩
 ·rw [List.map_fst_zip];omega
 ·rw [List.map_snd_zip (by omega),hl];exact h2
 ·intro p hp
  obtain ⟨i,hi,e⟩:=List.mem_iff_getElem.1 hp;rw [List.length_zip] at hi;obtain ⟨v,e1,ho⟩:=h3 i (by omega) (by omega);rw [List.getElem_zip] at e;rw [←e];rw [List.getElem?_eq_getElem (by omega)] at e1;cases e1;exact ho
theorem qadd {h:Hd} {r:List UInt8} (e:frmE h r=0):frmL h r=rowB h r:=by unfold frmL;rw [if_pos e]
theorem qr3 {h:Hd} {r:List UInt8} (e:frmE h r≠0):frmL h r=[]:=by unfold frmL;rw [if_neg e]
theorem qafn (h:Hd) (r:List UInt8) (j:Nat) (hj:j<qea r.length):(rowB h r)[j]'(by rw [qc7];exact hj)=qdj h j (qea r.length) (r.drop (107*j)):=qeu h r j (by rw [qc7];exact hj)
theorem qafo {w:World} {a:Option Addr} {n c:Nat} {l:List UInt8} (h:Rd w (.slice a n c) l) (hn:n=l.length) (k:Nat) (hk:k≤n):(n≤c)∧((c=k∧k=n∧Rd w (.slice a 0 0) [])∨(∃b off,a=some ⟨b,off,none⟩∧¬c=k∧Rd w (.slice (some ⟨b,off+k,none⟩) (n - k) (c - k)) (l.drop k))∨(∃ad,a=some ad∧n=0∧k=0∧¬c=k)):=by
 subst hn
 rcases h with ⟨rfl,h | ⟨ad,c',h⟩⟩ | ⟨b,off,c',h,h1,h2,h3⟩
 ·simp only [Value.slice.injEq] at h
  obtain ⟨rfl, -,rfl⟩:=h;exact ⟨Nat.le_refl _,.inl ⟨(Nat.le_zero.1 hk).symm,Nat.le_zero.1 hk,.inl ⟨rfl,.inl rfl⟩⟩⟩
 ·simp only [Value.slice.injEq] at h
  obtain ⟨rfl, -,rfl⟩:=h;obtain rfl:k=0:=Nat.le_zero.1 hk;refine ⟨Nat.zero_le _, ?_⟩
  by_cases hc:c=0
  ·exact .inl ⟨hc,rfl,.inl ⟨rfl,.inr ⟨_,_,rfl⟩⟩⟩
  ·exact .inr (.inr ⟨_,rfl,rfl,rfl,hc⟩)
 ·simp only [Value.slice.injEq] at h
  obtain ⟨rfl, -,rfl⟩:=h;refine ⟨h1, ?_⟩
  by_cases hc:c=k
  ·exact .inl ⟨hc,by omega,.inl ⟨rfl,.inr ⟨_,_,rfl⟩⟩⟩
  ·refine .inr (.inl ⟨b,off,rfl,hc, ?_⟩)
   by_cases hkl:k=l.length
   ·subst hkl
    rw [List.drop_length,Nat.sub_self];exact .inl ⟨rfl,.inr ⟨_,_,rfl⟩⟩
   ·refine .inr ⟨b,off+k,c - k,by rw [List.length_drop],by rw [List.length_drop];omega,by omega,fun j hj=>?_⟩
    rw [List.length_drop] at hj
    have:=h3 (k+j) (by omega)
    rw [Nat.add_assoc,this,List.getElem_drop]
theorem qqd (h:Hd) (a0:Option Addr) (n0 c0:Nat) (r:List UInt8) (w:World) (hh:okH h) (hn:n0=r.length) (hrd:Rd w (.slice a0 n0 c0) r):
  Calls Tryz.prog 77 #[.int .u32 h.1,.int .u32 h.2.1,.int .u32 h.2.2.1,.int .u32 h.2.2.2,.slice a0 n0 c0] w fun e w'=>∃v,e=.returned (.tuple #[v,.int .i64 (frmE h r)])∧OwBB w' w.heap.size v (frmL h r)∧Below w.heap.size w w':=by
 obtain ⟨x0,x1,x2,x3⟩:=h
 by_cases e0:x0=0
 ·have HE:=hide (show frmE (x0,x1,x2,x3) r=2 by unfold frmE;rw [if_pos (.inl e0)])
  have HL:=hide (qr3 (show frmE (x0,x1,x2,x3) r≠0 by rw [HE.out];decide))
  have h0:((x0:Int)==0)=true:=by simpa using (by omega:(x0:Int)=0)
  clear e0 hrd hh
  go_enter Tryz.func77,Tryz.ntmps77
  go_wp2;go_ret2;rw [HL.out,HE.out];exact ⟨_,rfl,OwBB.nil _ _,Below.refl _ _⟩
 ·have h0:((x0:Int)==0)=false:=by simpa using (by omega:¬(x0:Int)=0)
  by_cases e1:x1=0
  ·have HE:=hide (show frmE (x0,x1,x2,x3) r=2 by unfold frmE;rw [if_pos (.inr e1)])
   have HL:=hide (qr3 (show frmE (x0,x1,x2,x3) r≠0 by rw [HE.out];decide))
   have h1:((x1:Int)==0)=true:=by simpa using (by omega:(x1:Int)=0)
   clear e0 e1 hrd hh
   go_enter Tryz.func77,Tryz.ntmps77
   go_wp2;go_ret2;rw [HL.out,HE.out];exact ⟨_,rfl,OwBB.nil _ _,Below.refl _ _⟩
  ·have h1:((x1:Int)==0)=false:=by simpa using (by omega:¬(x1:Int)=0)
   by_cases e2:16384<n0
   ·have HE:=hide (show frmE (x0,x1,x2,x3) r=3 by unfold frmE;rw [if_neg (by rintro (e | e);exact e0 e;exact e1 e),if_pos (by omega)])
    have HL:=hide (qr3 (show frmE (x0,x1,x2,x3) r≠0 by rw [HE.out];decide))
    have h2:(16384:Int)<n0:=by omega
    clear e0 e1 e2 hrd hh hn
    go_enter Tryz.func77,Tryz.ntmps77
    go_wp2;go_ret2;rw [HL.out,HE.out];exact ⟨_,rfl,OwBB.nil _ _,Below.refl _ _⟩
   ·have HE:=hide (qyo (h:=(x0,x1,x2,x3)) (r:=r) e0 e1 (by omega))
    have HL:=hide (qadd HE.out)
    have h2:decide ((16384:Int)<n0)=false:=by simpa using (by omega:¬(16384:Int)<n0)
    have HH:=hide hh;have HR:=hide hrd;have HN:=hide hn;obtain ⟨N,hNe⟩:∃N,N=qea r.length:=⟨_,rfl⟩;have HNE:=hide hNe
    have hN1:N≤154:=by rw [hNe];exact qh8 _ (by omega)
    have hN0:1≤N:=by rw [hNe];exact qgh _
    have hNb:n0≤107*N:=by rw [hNe,hn];unfold qea;omega
    have hNc:∀j,j+1<N→107*(j+1)≤n0:=by intro j hj;rw [hNe] at hj;rw [hn];unfold qea at hj;omega
    have HNB:=hide hNb;have HNC:=hide hNc;have HRL:=hide (qc7 (x0,x1,x2,x3) r);rw [←hNe] at HRL;clear e0 e1 e2 hrd hh hn hNe hNb hNc;obtain ⟨w1,hmk,hP0,hb1⟩:=makeF w N (by omega);have HP0:=hide hP0
    have hn0:n0≤1000000:=by have:=HNB.out;omega
    clear hP0
    go_enter Tryz.func77,Tryz.ntmps77
    go_wp2_with fail
    refine (qvk n0 _ hn0).mono ?_
    rintro e wx ⟨rfl,rfl⟩;rw [HN.out,←HNE.out]
    have hwm:wx.heap.size<w1.heap.size:=by
     obtain ⟨vs,_,ho,_⟩:=HP0.out [];exact (ho.lt _ rfl).2
    go_wp2;clear hmk h0 h1 h2
    go_loopw [13,33] (fun rs i wr=>∃(j n c:Nat) (a:Option Addr),j≤N∧i=.int .i64 j∧rs=.slice a n c∧Hid (n=(r.drop (107*j)).length∧Rd wx (.slice a n c) (r.drop (107*j)))∧Hid (PrtF wr wx.heap.size wx.heap.size N (rowB (x0,x1,x2,x3) r) j)∧Below wx.heap.size wx wr) (fun _ i _=>N - (intOf i).toNat)
    case atStart=>exact ⟨0,n0,c0,a0,Nat.zero_le _,rfl,by rw [HN.out],hide ⟨by simpa using HN.out,by simpa using HR.out⟩,hide (HP0.out _),hb1⟩
    case round=>
     obtain ⟨j,n,c,a,hj,rfl,rfl,hrs,hpt,hbel⟩:=hrel
     by_cases hlt:j<N
     ·have hlt':(j:Int)<N:=by omega
      clear hb1
      go_wp2_with fail
      refine (qvm (x0,x1,x2,x3) j N (.slice a n c) (r.drop (107*j)) _ HH.out (by omega) (by omega) (hrs.out.2.carry hbel)).mono ?_
      rintro e w3 ⟨cb,rfl,hO3,hb3⟩;obtain ⟨q,hq⟩:∃q,q=min (r.drop (107*j)).length 107:=⟨_,rfl⟩;rw [←hq]
      have hqn:q≤n:=by rw [hrs.out.1];omega
      have HQ:=hide (show (r.drop (107*j)).drop q=r.drop (107*(j+1)) by
       rw [List.drop_drop]
       by_cases h107:107≤(r.drop (107*j)).length
       ·rw [hq,Nat.min_eq_right h107];congr 1
       ·have hl:=h107
        rw [List.length_drop] at hl
        rw [List.drop_of_length_le (by rw [hq,List.length_drop];omega),List.drop_of_length_le (by omega)])
      have hB3:Below wx.heap.size wx w3:=hbel.trans (hb3.mono hbel.size)
      have hO3':OwB w3 wx.heap.size (.slice (some ⟨wr.heap.size+1,0,none⟩) 128 cb) ((rowB (x0,x1,x2,x3) r)[j]'(by rw [HRL.out];exact hlt)):=by
       rw [qafn _ _ _ (by rw [←HNE.out];exact hlt),←HNE.out];exact hO3.mono hbel.size
      obtain ⟨⟨u,hu⟩,hfz,hP3,hb4⟩:=(hpt.out.carry hb3).set hlt (by rw [HRL.out];exact hlt) hO3';have HP3:=hide hP3;have HB4:=hide (hB3.trans hb4);obtain ⟨hnc,hcut⟩:=qafo hrs.out.2 hrs.out.1 q hqn
      have hqi:(q:Int)≤n:=by omega
      have HNR:=hide hrs.out.1;clear hO3 hO3' hb3 hpt hrs hP3 hb4 hq
      rcases hcut with ⟨rfl,rfl,hR⟩ | ⟨b,off,rfl,hcq,hR⟩ | ⟨ad,rfl,rfl,rfl,hcq⟩
      ·have HRR:=hide hR
       clear hR;go_wp2
       go_region
       go_wp2;go_roundw
       case rel=>exact ⟨j+1,0,0,a,by omega,rfl,rfl,hide ⟨by rw [←HQ.out,List.length_drop,←HNR.out,Nat.sub_self],by rw [←HQ.out,List.drop_of_length_le (by rw [←HNR.out];exact Nat.le_refl _)];exact HRR.out⟩,hide (HP3.out.carry (Below.refl _ _).drew),HB4.out.drew⟩
       case measure=>simp only [intOf];omega
      ·have HRR:=hide hR
       clear hR;go_wp2
       go_region
       go_wp2;go_roundw
       case rel=>exact ⟨j+1,n - q,c - q,some ⟨b,off+q,none⟩,by omega,rfl,rfl,hide ⟨by rw [←HQ.out,List.length_drop,←HNR.out],by rw [←HQ.out];exact HRR.out⟩,hide (HP3.out.carry (Below.refl _ _).drew),HB4.out.drew⟩
       case measure=>simp only [intOf];omega
      ·go_wp2
       go_region
       go_wp2;go_roundw
       case rel=>exact ⟨j+1,0,c,_,by omega,rfl,rfl,hide ⟨by rw [←HQ.out,List.length_drop,←HNR.out],by rw [←HQ.out,List.drop_of_length_le (by rw [←HNR.out];exact Nat.le_refl _)];exact .inl ⟨rfl,.inr ⟨_,_,rfl⟩⟩⟩,hide (HP3.out.carry (Below.refl _ _).drew),HB4.out.drew⟩
       case measure=>simp only [intOf];omega
     ·have hd:decide ((j:Int)<N)=false:=by simpa using (by omega:¬(j:Int)<N)
      have HO:=hide (hpt.out.all HRL.out (by omega));clear hpt hrs;go_wp2;go_ret2;rw [HL.out,HE.out];exact ⟨_,rfl,HO.out,hbel⟩
end Go.Proofs.YtnmbbpdhjkaidaaGreat

/-
  The document's Read of layer 17.
-/
import Derived.Test.YtmeaiocohalphaaGreatDoorRv3
import Derived.Test.YtmeaiocohalphaaGreatDoorVn9
set_option maxHeartbeats 8000000
set_option maxRecDepth 100000
namespace Go.Proofs.YtmeaiocohalphaaGreatDoor
open Go.RowKit
set_option linter.all false
/-! ### the document's reader beside the words -/
def stM (r:List UInt8) (bad:Bool):Mst:=if bad then none else some r
theorem qmw (r:List UInt8):stM r false=some r:=rfl
theorem qtz {k m:Nat} {r r':List UInt8} {bad bad':Bool} (h:NumR k r bad m r' bad'):(numM k (stM r bad)).2=stM r' bad'∧(bad'=false→(numM k (stM r bad)).1=m)∧(bad=true→bad'=true):=by
 cases bad with
 | true=>
  have e:bad'=true:=by
   rcases h with ⟨_,_,_,_,h⟩ | ⟨_,_,_,h⟩
   ·exact h
   ·exact h
  subst e;exact ⟨rfl,(fun h=>by cases h),fun _=>rfl⟩
 | false=>
  rw [qmw]
  rcases h with ⟨j,h1,h2,h3,rfl⟩ | ⟨h1,h2,h3,rfl⟩
  ·have e:cutW k r=some (m,r'):=by
    cases e9:cutW k r with
    | none=>
     rcases qnl e9 with e8 | ⟨x,y,e8,e7⟩
     ·rw [h1] at e8;cases e8
     ·rw [h1] at e8;cases e8;omega
    | some p=>
     obtain ⟨x,q⟩:=p;obtain ⟨y,e8,_,e7⟩:=qjb e9
     rw [h1] at e8;cases e8;rw [e7,h3]
   rw [qpg e,qmw];exact ⟨rfl,(fun _=>rfl),fun h=>by cases h⟩
  ·have e:cutW k r=none:=by
    cases e9:cutW k r with
    | none=>rfl
    | some p=>
     obtain ⟨x,q⟩:=p;obtain ⟨y,e8,e7,_⟩:=qjb e9
     have:=h1 _ _ e8;omega
   rw [qh5 e];exact ⟨rfl,(fun h=>by cases h),fun _=>rfl⟩
theorem qyg {r r' s:List UInt8} {bad bad':Bool} (h:TxtR r bad s r' bad'):(texM (stM r bad)).2=stM r' bad'∧(bad'=false→(texM (stM r bad)).1=s)∧(bad=true→bad'=true):=by
 cases bad with
 | true=>
  have e:bad'=true:=by
   rcases h with ⟨_,h⟩ | ⟨_,_,_,h⟩
   ·exact h
   ·exact h
  subst e;exact ⟨rfl,(fun h=>by cases h),fun _=>rfl⟩
 | false=>
  rw [qmw]
  rcases h with ⟨h1,rfl⟩ | ⟨h1,_,_,rfl⟩
  ·rw [qua h1]
   exact ⟨rfl,(fun _=>rfl),fun h=>by cases h⟩
  ·rw [qph h1]
   exact ⟨rfl,(fun h=>by cases h),fun _=>rfl⟩
theorem tab_st {r r1 r2 r3 r4 r5 s1 s4 s5:List UInt8} {m2 m3:Nat} {b b1 b2 b3 b4 b5:Bool} (h1:TxtR r b s1 r1 b1) (h2:NumR 16384 r1 b1 m2 r2 b2) (h3:NumR 65536 r2 b2 m3 r3 b3) (h4:TxtR r3 b3 s4 r4 b4) (h5:TxtR r4 b4 s5 r5 b5):
  (tabM (stM r b)).2=stM r5 b5∧(b5=false→(tabM (stM r b)).1=(s1,(m2:Int),(m3:Int),s4,s5)):=by
 obtain ⟨a1,a2,a3⟩:=qyg h1;obtain ⟨c1,c2,c3⟩:=qtz h2;obtain ⟨d1,d2,d3⟩:=qtz h3;obtain ⟨e1,e2,e3⟩:=qyg h4;obtain ⟨f1,f2,f3⟩:=qyg h5;unfold tabM;rw [a1,c1,d1,e1,f1];refine ⟨rfl,fun h=>?_⟩
 have k4:b4=false:=by cases b4 with | false=>rfl | true=>rw [f3 rfl] at h;cases h
 have k3:b3=false:=by cases b3 with | false=>rfl | true=>rw [e3 rfl] at k4;cases k4
 have k2:b2=false:=by cases b2 with | false=>rfl | true=>rw [d3 rfl] at k3;cases k3
 have k1:b1=false:=by cases b1 with | false=>rfl | true=>rw [c3 rfl] at k2;cases k2
 rw [a2 k1,c2 k2,d2 k3,e2 k4,f2 h]
theorem ver_st {b r r1 r2 r3 s3:List UInt8} {L:List (List Mta)} {m1 m2:Nat} {bd b1 b2 b3:Bool} (h0:(levM 4 (some b)).2=stM r bd∧(bd=false→(levM 4 (some b)).1=L)) (h1:NumR 1099511627776 r bd m1 r1 b1) (h2:NumR 1099511627776 r1 b1 m2 r2 b2) (h3:TxtR r2 b2 s3 r3 b3):
  (verM (some b)).2=stM r3 b3∧(b3=false→(verM (some b)).1=(L,(m1:Int),(m2:Int),s3)):=by
 obtain ⟨c1,c2,c3⟩:=qtz h1;obtain ⟨d1,d2,d3⟩:=qtz h2;obtain ⟨e1,e2,e3⟩:=qyg h3;unfold verM;rw [h0.1,c1,d1,e1];refine ⟨rfl,fun h=>?_⟩
 have k2:b2=false:=by cases b2 with | false=>rfl | true=>rw [e3 rfl] at h;cases h
 have k1:b1=false:=by cases b1 with | false=>rfl | true=>rw [d3 rfl] at k2;cases k2
 have k0:bd=false:=by cases bd with | false=>rfl | true=>rw [c3 rfl] at k1;cases k1
 rw [h0.2 k0,c2 k1,d2 k2,e2 h]
def LkO (b:List UInt8) (k:Nat) (S:Lvs) (r:List UInt8) (bad:Bool):Prop:=S.length=k∧(lvs S).flatten.length≤32*k∧(levM k (some b)).2=stM r bad∧(bad=false→(levM k (some b)).1=lvs S)
theorem LkO.all {b:List UInt8} {k:Nat} {S:Lvs} {r:List UInt8} {bad:Bool} (h:LkO b k S r bad) (hk:k≤4) (he:k=4∨bad=true):(levM 4 (some b)).2=stM r bad∧(bad=false→(levM 4 (some b)).1=lvs S):=by
 rcases he with rfl | rfl
 ·exact h.2.2
 ·have e:=qrh (n:=k) (s:=some b) h.2.2.1 (4 - k)
  rw [show k+(4 - k)=4 by omega] at e;exact ⟨e,fun h=>by cases h⟩
def LkN (st:Mst) (j:Nat) (l:List Mta) (r:List UInt8) (bad:Bool):Prop:=l.length=j∧(tbsM j st).2=stM r bad∧(bad=false→(tbsM j st).1=l)
theorem LkO.next {b:List UInt8} {k m j:Nat} {S:Lvs} {r r1 r2:List UInt8} {b1 b2:Bool} {v:Value} {l:List Mta} (h:LkO b k S r false) (hn:NumR 32 r false m r1 b1) (hl:LkN (stM r1 b1) j l r2 b2) (hj:j≤m) (he:j=m∨b2=true):LkO b (k+1) (S++[(v,l)]) r2 b2:=by
 obtain ⟨h1,h2,h3,h4⟩:=h;obtain ⟨n1,n2,_⟩:=qtz hn;obtain ⟨l1,l2,l3⟩:=hl;have hm:=hn.le.1;refine ⟨by simp [h1], ?_, ?_⟩
 ·have e:lvs (S++[(v,l)])=lvs S++[l]:=by simp [lvs]
  rw [e,List.flatten_append,List.length_append]
  simp only [List.flatten_cons,List.flatten_nil,List.append_nil]
  omega
 ·rw [levM,h3,n1]
  have e:lvs (S++[(v,l)])=lvs S++[l]:=by simp [lvs]
  rw [e,h4 rfl]
  cases b1 with
  | true=>
   have e9:(tbsM j (stM r1 true)).2=none:=qh6 j;rw [l2] at e9
   have hb2:b2=true:=by cases b2 with | true=>rfl | false=>cases e9
   subst hb2;exact ⟨qh6 _,fun h=>by cases h⟩
  | false=>
   rw [n2 rfl]
   rcases he with rfl | rfl
   ·exact ⟨l2,fun h=>by rw [l3 h]⟩
   ·have e9:=qrg (n:=j) (s:=stM r1 false) l2 (m - j)
    rw [show j+(m - j)=m by omega] at e9;exact ⟨e9,fun h=>by cases h⟩
theorem LoQ.trans9 {Q:Nat} {a b c:World} (h:LoQ Q a b) (k:LoQ Q b c):LoQ Q a c:=⟨Nat.le_trans h.1 k.1,fun i hi hq=>(k.2 i (Nat.lt_of_lt_of_le hi h.1) hq).trans (h.2 i hi hq)⟩
theorem LoQ.low9 {Q B:Nat} {a b c:World} (h:LoQ Q a b) (k:Below B b c) (hB:a.heap.size≤B):LoQ Q a c:=⟨Nat.le_trans h.1 k.size,fun i hi hq=>(k.block i (by omega)).trans (h.2 i hi hq)⟩
theorem OwVw.loq9 {Q:Nat} {w0 wx:World} {base:Nat} {v:Value} {R:Lvs} (h:OwVw w0 base v R) (hq:Q<base) (hl:LoQ Q w0 wx):OwVw wx base v R:=⟨OwG.loq h.1 hq hl,fun p hp=>OwG.loq (h.2 p hp) hq hl⟩
theorem VvAt.loq9 {Q:Nat} {w0 wx:World} {A:Nat} {v:Value} {nx sq:Int} {lg:List UInt8} (h:VvAt w0 A v nx sq lg) (hq:A≠Q) (hl:LoQ Q w0 wx):VvAt wx A v nx sq lg:=(hl.2 A (VvAt.lt h) hq).trans h
theorem Bx.loq9 {Q:Nat} {w0 wx:World} {A:Nat} {t:TypeId} {cs:Array Value} (h:Bx w0 A t cs) (hq:A≠Q) (hl:LoQ Q w0 wx):Bx wx A t cs:=(hl.2 A (Bx.lt h) hq).trans h
theorem qaih (a:Option Addr) (n c:Nat) (b:List UInt8) (w:World) (hrd:Rd w (.slice a n c) b) (hn:n=b.length):
  Calls Tryz.prog 66 #[.slice a n c] w fun e w'=>AnsV w.heap.size (redV b) (redE b) e w'∧Below w.heap.size w w':=by
 obtain ⟨w1,hw1⟩:∃w1,w1=w.alloc (.cells #[.slice none 0 0,.int .i64 0,.int .i64 0,.string {data:=#[]}] 36):=⟨_,rfl⟩
 have hb1:Below w.heap.size w w1:=by rw [hw1];exact (Below.refl _ _).alloc (Nat.le_refl _) _
 have hs1:w1.heap.size=w.heap.size+1:=by rw [hw1];simp
 have HZ1:=hide (show VvAt w1 w.heap.size (.slice none 0 0) 0 0 [] by rw [hw1];exact VvAt.new w _ 0 0 []);have HB1:=hide hb1
 by_cases hl:16384<n
 ·have hl':(16384:Int)<n:=by omega
  have HE:=hide (show redE b=3∧redV b=zerV by
   have e:redE b=3:=by unfold redE;rw [if_pos (by omega)]
   exact ⟨e,by unfold redV;rw [e,if_neg (by decide)]⟩)
  clear hb1 hs1 hrd hn
  go_enter Tryz.func66,Tryz.ntmps66
  go_wp2;rw [←hw1];clear hw1;obtain ⟨z0,z1,z2,z3⟩:=HZ1.out.cells
  refine bodyPost_ret (v:=.tuple #[.agg #[.slice none 0 0,.int .i64 0,.int .i64 0,.string {data:=#[]}],.int .i64 3]) ?_ rfl ⟨by rw [HE.out.1,HE.out.2];exact ⟨_,[],rfl,OwVw.nil _ _,rfl⟩,HB1.out⟩
  try simp only [show bs ([]:List UInt8)={data:=#[]} from rfl,Int.natCast_zero,Int.ofNat_zero,Int.cast_ofNat_Int] at z0 z1 z2 z3
  simp [results,Tryz.results66,go_sem, *]
 have hl':decide ((16384:Int)<n)=false:=by simpa using (by omega:¬(16384:Int)<n)
 have hl'':decide (16384<n)=false:=decide_eq_false hl;obtain ⟨w2,hw2⟩:∃w2,w2=w1.alloc (.cells #[.slice a n c,.bool false] 200):=⟨_,rfl⟩
 have hb2:Below w1.heap.size w1 w2:=by rw [hw2];exact (Below.refl _ _).alloc (Nat.le_refl _) _
 have hs2:w2.heap.size=w.heap.size+2:=by rw [hw2];simp [hs1]
 obtain ⟨w3,hw3⟩:∃w3,w3=w2.alloc (.cells #[.slice none 0 0,.int .i64 0,.int .i64 0,.string {data:=#[]}] 36):=⟨_,rfl⟩
 have hb3:Below w2.heap.size w2 w3:=by rw [hw3];exact (Below.refl _ _).alloc (Nat.le_refl _) _
 have hs3:w3.heap.size=w.heap.size+3:=by rw [hw3];simp [hs2]
 have hq2:RdrAt w2 (w.heap.size+1) (.slice a n c) false:=by rw [hw2,←hs1];exact heap_alloc_new w1 _
 have hB2:Below w.heap.size w w2:=hb1.trans (hb2.mono (by omega));have hr2:RkS w w2 (w.heap.size+1) b false:=⟨a,n,c,hq2,hn,hrd,by omega,hB2,by omega⟩;have HR3:=hide (hr2.carry hb3);have HZ3:=hide ((HZ1.out.carry hb2).carry hb3);have HV3:=hide (show VvAt w3 (w.heap.size+2) (.slice none 0 0) 0 0 [] by rw [hw3,←hs2];exact VvAt.new w2 _ 0 0 []);have HN:=hide (show b.length≤16384 by omega);have HS3:=hide (show w.heap.size+3≤w3.heap.size by omega);have HRD:=hide hrd;obtain ⟨v0,v1,v2,v3⟩:=HV3.out.cells;have e1:=hw1.symm;have e2:=hw2.symm;have e3:=hw3.symm;clear hb1 hb2 hb3 hs3 hq2 hB2 hr2 hrd HZ1 HB1 hl hw1 hw2 hw3 hn
 go_enter Tryz.func66,Tryz.ntmps66
 go_wp2_with fail
 try simp only [hs1,hs2]
 clear e1 e2 e3 v0 v1 v2 v3 hs1 hs2
 go_loopw [6] (fun i wr=>∃(k:Nat) (S:Lvs) (r:List UInt8) (bad:Bool) (av:Option Addr) (cv:Nat),k≤4∧i=.int .i64 k∧Hid (LkO b k S r bad)∧Hid (OwVw wr (w.heap.size+3) (.slice av k cv) S)∧Hid (VvAt wr (w.heap.size+2) (.slice av k cv) 0 0 [])∧Hid (VvAt wr w.heap.size (.slice none 0 0) 0 0 [])∧Hid (RkS w wr (w.heap.size+1) r bad)∧Hid (w.heap.size+3≤wr.heap.size)) (fun i _=>4 - (intOf i).toNat)
 case atStart=>exact ⟨0,[],b,false,none,0,by omega,rfl,hide ⟨rfl,by simp,rfl,fun _=>rfl⟩,hide (OwVw.nil _ _),HV3,HZ3,HR3,HS3⟩
 case round=>
  clear HV3 HZ3 HR3 HS3;obtain ⟨k,S,r,bad,av,cv,hk,rfl,hL,hO,hV,hZ,hR,hS⟩:=hrel;have hbc:=hR.out.cell
  by_cases hlt:k<4∧bad=false
  ·obtain ⟨hk4,rfl⟩:=hlt
   have hk4':(k:Int)<4:=by omega
   have hcon:=qty 32 hR.out
   go_wp2_with fail
   clear hbc
   refine hcon.mono ?_
   rintro e w4 ⟨m,r1,b1,rfl,hN,hC,hKK,hLo⟩;have hm32:m≤32:=hN.le.1;have HNR:=hide hN;have hlo4:=hLo wr (LoQ.refl _ wr);have HO4:=hide (hO.out.loq9 (by omega) hlo4);have HV4:=hide (hV.out.loq9 (by omega) hlo4);have HZ4:=hide (hZ.out.loq9 (by omega) hlo4);have HR4:=hide hC;have HS4:=hide (Nat.le_trans hS.out hlo4.1);obtain ⟨hi,hhi⟩:∃hi,hi=w4.heap.size:=⟨_,rfl⟩;have HHI:=hide hhi;clear hcon hN hC hKK hLo hlo4 hO hV hZ hR hS hhi;go_wp2
   go_loopw [7,9] (fun x i wr=>∃(j:Nat) (al:Option Addr) (nl cl:Nat) (l:List Mta) (r2:List UInt8) (b2:Bool),j≤m∧x=.slice al nl cl∧i=.int .u64 j∧Hid (LkN (stM r1 b1) j l r2 b2)∧Hid (OwM wr hi (.slice al nl cl) l)∧Hid (RkS w wr (w.heap.size+1) r2 b2)∧Hid (LoQ (w.heap.size+1) w4 wr)) (fun _ i _=>m - (intOf i).toNat)
   case atStart=>exact ⟨0,none,0,0,[],r1,b1,Nat.zero_le _,rfl,rfl,hide ⟨rfl,rfl,fun _=>rfl⟩,hide (OwG.nil _ _),HR4,hide (LoQ.refl _ _)⟩
   case round=>
    clear HR4;obtain ⟨j,al,nl,cl,l,r2,b2,hj,rfl,rfl,hK,hM,hR,hQ⟩:=hrel;have hbc:=hR.out.cell
    by_cases hjl:j<m∧b2=false
    ·obtain ⟨hjm,rfl⟩:=hjl
     have hjm':(j:Int)<m:=by omega
     have hq2:=hQ.out;have hlr:=LoQ.refl (w.heap.size+1) wr;have hcon:=qyf hR.out
     go_wp2_with fail
     clear hbc
     refine hcon.mono ?_
     rintro e wa ⟨s1,ra,ba,rfl,hT1,hCa,_,hLa⟩;have hloa:=hLa wr hlr;have HT1:=hide hT1;obtain ⟨wb,hwb⟩:∃wb,wb=wa.alloc (.cells #[.string (bs s1),.int .i64 0,.int .i64 0,.string {data:=#[]},.string {data:=#[]}] 124):=⟨_,rfl⟩
     have hbb:Below wa.heap.size wa wb:=by rw [hwb];exact (Below.refl _ _).alloc (Nat.le_refl _) _
     obtain ⟨A,hA⟩:∃A,A=wa.heap.size:=⟨_,rfl⟩;have HXb:=hide (show Bx wb wa.heap.size 124 #[.string (bs s1),.int .i64 0,.int .i64 0,.string {data:=#[]},.string {data:=#[]}] by rw [hwb];exact Bx.new wa _ _);have HRb:=hide (hCa.carry hbb);have HLb:=hide (hloa.carry hbb);have HQX:=hide (show w.heap.size+1<wa.heap.size from hCa.lt);have HRX:=hide (show wr.heap.size≤wa.heap.size from hloa.1);clear hcon hT1 hCa hLa hloa hlr hbb hA A;have hcon:=qty 16384 HRb.out;have hx9:=HXb.out;have hxl:=hx9.lt
     go_wp2_with fail
     rw [←hwb];clear hwb
     refine hcon.mono ?_
     rintro e wc0 ⟨m2,r3x,b3x,rfl,hT,hCa,_,hLa⟩;have HT2:=hide hT;have hx:=Bx.loq9 hx9 (by have:=HQX.out;omega) (hLa wb (LoQ.refl _ _));have hm9:m2≤16384:=hT.le.1
     have hw6:IntKind.i64.wrap (m2:Int)=m2:=by rw [IntKind.wrap_i64];omega
     have hlo:=hLa wr HLb.out;clear hcon hx9 hxl hT hLa HXb HRb HLb hm9;have z0:=hx.at 0 rfl;have z1:=hx.at 1 rfl;have z2:=hx.at 2 rfl;have z3:=hx.at 3 rfl;have z4:=hx.at 4 rfl;have y1:=hx.fz 1;obtain ⟨wd0,hwwd0⟩:∃wn,wn=wc0.setCell ⟨wa.heap.size,1,none⟩ (.int .i64 (m2:Nat)):=⟨_,rfl⟩;have HXwd0:=hide (show Bx wd0 wa.heap.size 124 #[.string (bs s1),.int .i64 (m2:Nat),.int .i64 0,.string {data:=#[]},.string {data:=#[]}] by rw [hwwd0];exact hx.put 1 (.int .i64 (m2:Nat)));have HRwd0:=hide (show RkS w wd0 (w.heap.size+1) r3x b3x by rw [hwwd0];exact hCa.set HQX.out 1 _);have HLwd0:=hide (show LoQ (w.heap.size+1) wr wd0 by rw [hwwd0];exact hlo.set HRX.out 1 _);clear hx hCa hlo;have hcon:=qty 65536 HRwd0.out;have hx9:=HXwd0.out;have hxl:=hx9.lt
     go_wp2_with fail
     rw [←hwwd0];clear hwwd0 z0 z1 z2 z3 z4 y1 hw6
     refine hcon.mono ?_
     rintro e wc1 ⟨m3,r4x,b4x,rfl,hT,hCa,_,hLa⟩;have HT3:=hide hT;have hx:=Bx.loq9 hx9 (by have:=HQX.out;omega) (hLa wd0 (LoQ.refl _ _));have hm9:m3≤65536:=hT.le.1
     have hw6:IntKind.i64.wrap (m3:Int)=m3:=by rw [IntKind.wrap_i64];omega
     have hlo:=hLa wr HLwd0.out;clear hcon hx9 hxl hT hLa HXwd0 HRwd0 HLwd0 hm9;have z0:=hx.at 0 rfl;have z1:=hx.at 1 rfl;have z2:=hx.at 2 rfl;have z3:=hx.at 3 rfl;have z4:=hx.at 4 rfl;have y2:=hx.fz 2;obtain ⟨wd1,hwwd1⟩:∃wn,wn=wc1.setCell ⟨wa.heap.size,2,none⟩ (.int .i64 (m3:Nat)):=⟨_,rfl⟩;have HXwd1:=hide (show Bx wd1 wa.heap.size 124 #[.string (bs s1),.int .i64 (m2:Nat),.int .i64 (m3:Nat),.string {data:=#[]},.string {data:=#[]}] by rw [hwwd1];exact hx.put 2 (.int .i64 (m3:Nat)));have HRwd1:=hide (show RkS w wd1 (w.heap.size+1) r4x b4x by rw [hwwd1];exact hCa.set HQX.out 2 _);have HLwd1:=hide (show LoQ (w.heap.size+1) wr wd1 by rw [hwwd1];exact hlo.set HRX.out 2 _);clear hx hCa hlo;have hcon:=qyf HRwd1.out;have hx9:=HXwd1.out;have hxl:=hx9.lt
     go_wp2_with fail
     rw [←hwwd1];clear hwwd1 z0 z1 z2 z3 z4 y2 hw6
     refine hcon.mono ?_
     rintro e wc2 ⟨s4,r5x,b5x,rfl,hT,hCa,_,hLa⟩;have HT4:=hide hT;have hx:=Bx.loq9 hx9 (by have:=HQX.out;omega) (hLa wd1 (LoQ.refl _ _));have hlo:=hLa wr HLwd1.out;clear hcon hx9 hxl hT hLa HXwd1 HRwd1 HLwd1;have z0:=hx.at 0 rfl;have z1:=hx.at 1 rfl;have z2:=hx.at 2 rfl;have z3:=hx.at 3 rfl;have z4:=hx.at 4 rfl;have y3:=hx.fz 3;obtain ⟨wd2,hwwd2⟩:∃wn,wn=wc2.setCell ⟨wa.heap.size,3,none⟩ (.string (bs s4)):=⟨_,rfl⟩;have HXwd2:=hide (show Bx wd2 wa.heap.size 124 #[.string (bs s1),.int .i64 (m2:Nat),.int .i64 (m3:Nat),.string (bs s4),.string {data:=#[]}] by rw [hwwd2];exact hx.put 3 (.string (bs s4)));have HRwd2:=hide (show RkS w wd2 (w.heap.size+1) r5x b5x by rw [hwwd2];exact hCa.set HQX.out 3 _);have HLwd2:=hide (show LoQ (w.heap.size+1) wr wd2 by rw [hwwd2];exact hlo.set HRX.out 3 _);clear hx hCa hlo;have hcon:=qyf HRwd2.out;have hx9:=HXwd2.out;have hxl:=hx9.lt
     go_wp2_with fail
     rw [←hwwd2];clear hwwd2 z0 z1 z2 z3 z4 y3
     refine hcon.mono ?_
     rintro e wc3 ⟨s5,r6x,b6x,rfl,hT,hCa,_,hLa⟩;have HT5:=hide hT;have hx:=Bx.loq9 hx9 (by have:=HQX.out;omega) (hLa wd2 (LoQ.refl _ _));have hlo:=hLa wr HLwd2.out;clear hcon hx9 hxl hT hLa HXwd2 HRwd2 HLwd2;have z0:=hx.at 0 rfl;have z1:=hx.at 1 rfl;have z2:=hx.at 2 rfl;have z3:=hx.at 3 rfl;have z4:=hx.at 4 rfl;have y4:=hx.fz 4;obtain ⟨wd3,hwwd3⟩:∃wn,wn=wc3.setCell ⟨wa.heap.size,4,none⟩ (.string (bs s5)):=⟨_,rfl⟩;have HXwd3:=hide (show Bx wd3 wa.heap.size 124 #[.string (bs s1),.int .i64 (m2:Nat),.int .i64 (m3:Nat),.string (bs s4),.string (bs s5)] by rw [hwwd3];exact hx.put 4 (.string (bs s5)));have HRwd3:=hide (show RkS w wd3 (w.heap.size+1) r6x b6x by rw [hwwd3];exact hCa.set HQX.out 4 _);have HLwd3:=hide (show LoQ (w.heap.size+1) wr wd3 by rw [hwwd3];exact hlo.set HRX.out 4 _);clear hx hCa hlo;have q0:=HXwd3.out.at 0 rfl;have q1:=HXwd3.out.at 1 rfl;have q2:=HXwd3.out.at 2 rfl;have q3:=HXwd3.out.at 3 rfl;have q4:=HXwd3.out.at 4 rfl
     have hi3:w.heap.size+3≤hi:=by rw [HHI.out];exact HS4.out
     have hom:=OwG.loq hM.out (show w.heap.size+1<hi by omega) HLwd3.out
     have hll:l.length≤1000:=by have:=hK.out.1;omega
     obtain ⟨g8,n8,c8,w8,hn8,hrun8,o8,b8,k8,_⟩:=qtf hom (Nat.le_trans (by rw [HHI.out];exact hq2.1) HLwd3.out.1) (by omega) (s1,(m2:Int),(m3:Int),s4,s5);dsimp only [Mlo,Mhi] at hrun8;obtain ⟨t1,t2⟩:=tab_st HT1.out HT2.out HT3.out HT4.out HT5.out;have HK9:=hide (show LkN (stM r1 b1) (j+1) (l++[(s1,(m2:Int),(m3:Int),s4,s5)]) r6x b6x from ⟨by simp [hK.out.1],by rw [tbsM,hK.out.2.1];exact t1,fun h=>by rw [tbsM,hK.out.2.1,t2 h,hK.out.2.2 rfl]⟩);have HM9:=hide o8;have HR9:=hide (HRwd3.out.low (b8.mono (show w.heap.size+1+1≤hi by omega)));have HQ9:=hide ((hq2.trans9 HLwd3.out).low9 b8 (by rw [HHI.out];exact Nat.le_refl _));have e9:=hwwd3.symm
     have g9:((j:Int)+1) % 18446744073709551616=j+1:=by omega
     clear hwwd3 hK hM hR hQ hq2 hom o8 b8 k8 t1 t2 HXwd3 HRwd3 HLwd3 HT1 HT2 HT3 HT4 HT5 hn8
     go_wp2_with (first | (at_builtin;refine qar rfl (.tmp 62) (.tmp 64) 105 rfl rfl rfl rfl hrun8 ?_) | fail)
     clear hrun8 e9 z0 z1 z2 z3 z4 y4 q0 q1 q2 q3 q4 g9;go_roundw
     case rel=>exact ⟨j+1,_,_,_,_,_,_,by omega,rfl,by go_num,HK9,HM9,HR9,HQ9⟩
     case measure=>simp only [intOf];omega
    ·have HE:=hide (show j=m∨b2=true by
      cases b2 with
      | true=>exact .inr rfl
      | false=>exact .inl (by have h9:¬j<m:=(fun h=>hjl ⟨h,rfl⟩);omega))
     have HK9:=hK;have HM9:=hM;clear hjl
     have hi3:w.heap.size+3≤hi:=by rw [HHI.out];exact HS4.out
     obtain ⟨g6,c6,w6,hr6,o6,b6⟩:=qal8 (HO4.out.loq9 (by omega) hQ.out) (Nat.le_trans HS4.out hQ.out.1) (by have:=hL.out.1;omega) (hM.out.mono hi3);have hSk:=hL.out.1;rw [hSk] at hr6 o6;have hV4:=HV4.out.loq9 (by omega) hQ.out;obtain ⟨s0,s1,s2,s3⟩:=hV4.cells;have hV6:=hV4.low b6 (by omega);have hZ6:=(HZ4.out.loq9 (by omega) hQ.out).low b6 (by omega);have hR6:=hR.out.low (b6.mono (by omega));have f0:=hV6.fz 0;obtain ⟨t0,t1,t2,t3⟩:=hV6.cells;have HV9:=hide (hV6.put0 (.slice (some ⟨g6,0,none⟩) (k+1) c6));have HO9:=hide (OwVw.set1v (j:=0) (u:=.slice (some ⟨g6,0,none⟩) (k+1) c6) o6 (show w.heap.size+2<w.heap.size+3 by omega))
     have HZ9:=hide (show VvAt (w6.setCell ⟨w.heap.size+2,0,none⟩ (.slice (some ⟨g6,0,none⟩) (k+1) c6)) w.heap.size (.slice none 0 0) 0 0 [] by
      unfold VvAt;rw [heap_setCell_other w6 ⟨w.heap.size+2,0,none⟩ w.heap.size _ (fun e:w.heap.size=w.heap.size+2=>by omega)];exact hZ6)
     have HR9:=hide (hR6.set (X:=w.heap.size+2) (by omega) 0 (.slice (some ⟨g6,0,none⟩) (k+1) c6))
     have HS9:=hide (show w.heap.size+3≤(w6.setCell ⟨w.heap.size+2,0,none⟩ (.slice (some ⟨g6,0,none⟩) (k+1) c6)).heap.size by
      have h1:=Nat.le_trans (Nat.le_trans HS4.out hQ.out.1) b6.size
      simpa using h1)
     have HL9:=hide (hL.out.next (v:=.slice al nl cl) HNR.out HK9.out hj HE.out);obtain ⟨w9,hw9⟩:∃wn,wn=w6.setCell ⟨w.heap.size+2,0,none⟩ (.slice (some ⟨g6,0,none⟩) (k+1) c6):=⟨_,rfl⟩;rw [←hw9] at HV9 HO9 HZ9 HR9 HS9;have e9:=hw9.symm;clear hK hM hR hQ hV4 hV6 hZ6 hR6 o6 b6 hw9 HK9 HM9 hL HO4 HV4 HZ4 HS4 hSk
     rcases HE.out with hjm | hb2
     ·have hjd:decide (((j:Nat):Int)<m)=false:=by simpa using (by omega:¬((j:Nat):Int)<m)
      have hjd2:decide (j<m)=false:=decide_eq_false (by omega);clear hjm
      go_wp2_with (first | (at_builtin;refine qar rfl (.tmp 67) (.tmp 69) 34 rfl rfl rfl rfl hr6 ?_) | fail)
      clear e9 hr6 s0 s1 s2 s3 t0 t1 t2 t3 f0 hbc hjd hjd2;go_roundw
      case rel=>exact ⟨k+1,_,_,_,_,c6,by omega,by go_num,HL9,HO9,HV9,HZ9,HR9,HS9⟩
      case measure=>simp only [intOf];omega
     ·subst hb2
      by_cases hjm:j<m
      ·have hjm':(j:Int)<m:=by omega
       go_wp2_with (first | (at_builtin;refine qar rfl (.tmp 67) (.tmp 69) 34 rfl rfl rfl rfl hr6 ?_) | fail)
       clear e9 hr6 s0 s1 s2 s3 t0 t1 t2 t3 f0 hbc hjm hjm';go_roundw
       case rel=>exact ⟨k+1,_,_,_,_,c6,by omega,by go_num,HL9,HO9,HV9,HZ9,HR9,HS9⟩
       case measure=>simp only [intOf];omega
      ·have hjd:decide (((j:Nat):Int)<m)=false:=by simpa using (by omega:¬((j:Nat):Int)<m)
       have hjd2:decide (j<m)=false:=decide_eq_false hjm
       go_wp2_with (first | (at_builtin;refine qar rfl (.tmp 67) (.tmp 69) 34 rfl rfl rfl rfl hr6 ?_) | fail)
       clear e9 hr6 s0 s1 s2 s3 t0 t1 t2 t3 f0 hbc hjd hjd2 hjm;go_roundw
       case rel=>exact ⟨k+1,_,_,_,_,c6,by omega,by go_num,HL9,HO9,HV9,HZ9,HR9,HS9⟩
       case measure=>simp only [intOf];omega
  ·have he:k=4∨bad=true:=by
    cases bad with
    | true=>exact .inr rfl
    | false=>exact .inl (by have h9:¬k<4:=(fun h=>hlt ⟨h,rfl⟩);omega)
   have HL:=hide (hL.out.all hk he);have HSF:=hide (show S.length=k∧(lvs S).flatten.length≤128 from ⟨hL.out.1,by have:=hL.out.2.1;omega⟩);clear hlt hL
   have hcase:decide ((k:Int)<4)=false∨(k:Int)<4∧bad=true:=by
    by_cases h9:k<4
    ·exact .inr ⟨by omega,he.resolve_left (by omega)⟩
    ·exact .inl (decide_eq_false (by omega))
   clear he
   rcases hcase with hkd | ⟨hkd,rfl⟩
   all_goals
    have hcon:=qty 1099511627776 hR.out;obtain ⟨v0,v1,v2,v3⟩:=hV.out.cells
    go_wp2_with fail
    clear hbc v0 v1 v2 v3 hkd
    refine hcon.mono ?_
    rintro e x0 ⟨m1,rr0,bb0,rfl,hT,hCa,hKK,hLa⟩;have HT0:=hide hT;have hlo:=hLa wr (LoQ.refl _ wr);have hv:=hV.out.loq9 (by omega) hlo;have hz:=hZ.out.loq9 (by omega) hlo;have ho:=hO.out.loq9 (by omega) hlo;have hs:=Nat.le_trans hS.out hlo.1;have hm9:m1≤1099511627776:=hT.le.1
    have hw6:IntKind.i64.wrap (m1:Int)=m1:=by rw [IntKind.wrap_i64];omega
    clear hcon hT hKK hLa hlo hR hV hZ hO hS hm9;obtain ⟨u0,u1,u2,u3⟩:=hv.cells;have f1:=hv.fz 1;obtain ⟨x1,hwx1⟩:∃wn,wn=x0.setCell ⟨w.heap.size+2,1,none⟩ (.int .i64 (m1:Nat)):=⟨_,rfl⟩;have HVx1:=hide (show VvAt x1 (w.heap.size+2) (.slice av k cv) ((m1:Nat)) (0) ([]) by rw [hwx1];exact (VvAt.bx hv).put 1 (.int .i64 (m1:Nat)));have HZx1:=hide (show VvAt x1 w.heap.size (.slice none 0 0) 0 0 [] by rw [hwx1];exact (VvAt.bx hz).other (by omega) 1 _);have HOx1:=hide (show OwVw x1 (w.heap.size+3) (.slice av k cv) S by rw [hwx1];exact OwVw.set1v ho (by omega));have HRx1:=hide (show RkS w x1 (w.heap.size+1) rr0 bb0 by rw [hwx1];exact hCa.set (by omega) 1 _);have HSx1:=hide (show w.heap.size+3≤x1.heap.size by rw [hwx1];simpa using hs);clear hv hz ho hs hCa;have hcon:=qty 1099511627776 HRx1.out
    go_wp2_with fail
    rw [←hwx1];clear hwx1 u0 u1 u2 u3 f1 hw6
    refine hcon.mono ?_
    rintro e x2 ⟨m2,rr1,bb1,rfl,hT,hCa,hKK,hLa⟩;have HT1:=hide hT;have hlo:=hLa x1 (LoQ.refl _ x1);have hv:=HVx1.out.loq9 (by omega) hlo;have hz:=HZx1.out.loq9 (by omega) hlo;have ho:=HOx1.out.loq9 (by omega) hlo;have hs:=Nat.le_trans HSx1.out hlo.1;have hm9:m2≤1099511627776:=hT.le.1
    have hw6:IntKind.i64.wrap (m2:Int)=m2:=by rw [IntKind.wrap_i64];omega
    clear hcon hT hKK hLa hlo HRx1 HVx1 HZx1 HOx1 HSx1 hm9;obtain ⟨u0,u1,u2,u3⟩:=hv.cells;have f2:=hv.fz 2;obtain ⟨x3,hwx3⟩:∃wn,wn=x2.setCell ⟨w.heap.size+2,2,none⟩ (.int .i64 (m2:Nat)):=⟨_,rfl⟩;have HVx3:=hide (show VvAt x3 (w.heap.size+2) (.slice av k cv) ((m1:Nat)) ((m2:Nat)) ([]) by rw [hwx3];exact (VvAt.bx hv).put 2 (.int .i64 (m2:Nat)));have HZx3:=hide (show VvAt x3 w.heap.size (.slice none 0 0) 0 0 [] by rw [hwx3];exact (VvAt.bx hz).other (by omega) 2 _);have HOx3:=hide (show OwVw x3 (w.heap.size+3) (.slice av k cv) S by rw [hwx3];exact OwVw.set1v ho (by omega));have HRx3:=hide (show RkS w x3 (w.heap.size+1) rr1 bb1 by rw [hwx3];exact hCa.set (by omega) 2 _);have HSx3:=hide (show w.heap.size+3≤x3.heap.size by rw [hwx3];simpa using hs);clear hv hz ho hs hCa;have hcon:=qyf HRx3.out
    go_wp2_with fail
    rw [←hwx3];clear hwx3 u0 u1 u2 u3 f2 hw6
    refine hcon.mono ?_
    rintro e x4 ⟨s3,rr2,bb2,rfl,hT,hCa,hKK,hLa⟩;have HT2:=hide hT;have hlo:=hLa x3 (LoQ.refl _ x3);have hv:=HVx3.out.loq9 (by omega) hlo;have hz:=HZx3.out.loq9 (by omega) hlo;have ho:=HOx3.out.loq9 (by omega) hlo;have hs:=Nat.le_trans HSx3.out hlo.1;clear hcon hT hKK hLa hlo HRx3 HVx3 HZx3 HOx3 HSx3;obtain ⟨u0,u1,u2,u3⟩:=hv.cells;have f3:=hv.fz 3;obtain ⟨x5,hwx5⟩:∃wn,wn=x4.setCell ⟨w.heap.size+2,3,none⟩ (.string (bs s3)):=⟨_,rfl⟩;have HVx5:=hide (show VvAt x5 (w.heap.size+2) (.slice av k cv) ((m1:Nat)) ((m2:Nat)) (s3) by rw [hwx5];exact (VvAt.bx hv).put 3 (.string (bs s3)));have HZx5:=hide (show VvAt x5 w.heap.size (.slice none 0 0) 0 0 [] by rw [hwx5];exact (VvAt.bx hz).other (by omega) 3 _);have HOx5:=hide (show OwVw x5 (w.heap.size+3) (.slice av k cv) S by rw [hwx5];exact OwVw.set1v ho (by omega));have HRx5:=hide (show RkS w x5 (w.heap.size+1) rr2 bb2 by rw [hwx5];exact hCa.set (by omega) 3 _);clear hv hz ho hs hCa;have HVR:=hide (ver_st HL.out HT0.out HT1.out HT2.out);have hbc:=HRx5.out.cell;obtain ⟨r0,r1,r2,r3⟩:=HVx5.out.cells;have HB5:=hide HRx5.out.below;have e5:=hwx5.symm;clear hwx5 HT0 HT1 HT2 HL
    cases bb2 with
    | true=>
     have HE:=hide (show redE b=8∧redV b=zerV by
      have e:=qaav HN.out (by rw [HVR.out.1];rfl)
      exact ⟨e,by unfold redV;rw [e,if_neg (by decide)]⟩)
     clear HVR;obtain ⟨w9,hw9,HB9,HK9,r0,r1,r2,r3,f0,f1,f2,f3,z0,z1,z2,z3⟩:=qhv HZx5 HB5 (Nat.le_refl _);go_wp2
     try rw [hw9]
     clear r0 r1 r2 r3 f0 f1 f2 f3 hw9 HK9
     refine bodyPost_ret ?_ rfl ⟨ansZ HE,HB9.out⟩
     simp [results,Tryz.results66,go_sem, *]
    | false=>
     have hver:verM (some b)=((lvs S,(m1:Int),(m2:Int),s3),some rr2):=Prod.ext (HVR.out.2 rfl) HVR.out.1;have hre:=qri HN.out hver;have HVE:=hide hver;have HRE:=hide hre;have hcon:=qtx av k cv S (m1:Int) (m2:Int) s3 x5 HOx5.out.rd (by omega) (by have:=HSF.out.2;omega);clear hver hre HVR
     go_wp2_with fail
     clear e5 u0 u1 u2 u3 f3 r0 r1 r2 r3 hbc
     refine hcon.mono ?_
     rintro e x6 ⟨v6,rfl,o6,b6⟩;have HVx6:=hide (HVx5.out.carry b6);have HZx6:=hide (HZx5.out.carry b6);have HOx6:=hide (HOx5.out.carry b6);have HB6:=hide (HB5.out.trans (b6.mono HB5.out.size));have hc1:=qb1 (P:=Tryz.prog) 23 5 9 Tryz.underlying23 Tryz.underlying5 Tryz.underlying9 o6.rd;have hc2:=qb1 (P:=Tryz.prog) 23 5 9 Tryz.underlying23 Tryz.underlying5 Tryz.underlying9 (HRD.out.carry HB6.out);obtain ⟨a6,c6,e6⟩:=o6.form;obtain ⟨n6,hn6⟩:∃n6,n6=(wrtB (lvs S,(m1:Int),(m2:Int),s3)).length:=⟨_,rfl⟩;rw [←hn6] at e6;subst e6;clear hcon o6 b6 hn6 HVx5 HZx5 HOx5 HRx5 HB5;obtain ⟨E,hE⟩:∃E,E=chkV (lvs S,(m1:Int),(m2:Int),s3):=⟨_,rfl⟩;rw [←hE];have HEE:=hide hE;clear hE;obtain ⟨u0,u1,u2,u3⟩:=HVx6.out.cells
     by_cases h0:E=0
     ·subst h0
      have hW:wrtB (lvs S,(m1:Int),(m2:Int),s3)=verB (lvs S,(m1:Int),(m2:Int),s3):=by unfold wrtB;rw [if_pos HEE.out.symm]
      rw [hW] at hc1;clear hW
      by_cases h1:verB (lvs S,(m1:Int),(m2:Int),s3)=b
      ·have HE:=hide (show redE b=0∧redV b=(lvs S,(m1:Int),(m2:Int),s3) by
        have e:redE b=0:=by rw [HRE.out,if_pos ⟨HEE.out.symm,h1⟩]
        exact ⟨e,by unfold redV;rw [if_pos e,HVE.out]⟩)
       rw [h1] at hc1;clear h1;obtain ⟨w9,hw9,HB9,HK9,r0,r1,r2,r3,f0,f1,f2,f3,z0,z1,z2,z3⟩:=finV HZx6 HB6 (Nat.le_refl _) (.slice av k cv) (m1:Nat) (m2:Nat) s3;have HO9:=hide (HOx6.out.keepV HK9);go_wp2
       try rw [hw9]
       clear r0 r1 r2 r3 f0 f1 f2 f3 hw9 HK9
       refine bodyPost_ret (v:=.tuple #[.agg #[.slice av k cv,.int .i64 (m1:Nat),.int .i64 (m2:Nat),.string (bs s3)],.int .i64 0]) ?_ rfl ⟨by rw [HE.out.1,HE.out.2];exact ⟨_,S,rfl,HO9.out.mono (by omega),rfl⟩,HB9.out⟩
       simp [results,Tryz.results66,go_sem, *]
      ·have HE:=hide (show redE b=8∧redV b=zerV by
        have e:redE b=8:=by rw [HRE.out,if_neg (fun h=>h1 h.2)]
        exact ⟨e,by unfold redV;rw [e,if_neg (by decide)]⟩)
       have hne:((bs (verB (lvs S,(m1:Int),(m2:Int),s3))).toList==(bs b).toList)=false:=by
        rw [qzh];exact decide_eq_false h1
       generalize verB (lvs S,(m1:Int),(m2:Int),s3)=vb at *;clear h1;obtain ⟨w9,hw9,HB9,HK9,r0,r1,r2,r3,f0,f1,f2,f3,z0,z1,z2,z3⟩:=qhv HZx6 HB6 (Nat.le_refl _);go_wp2
       try rw [hw9]
       clear r0 r1 r2 r3 f0 f1 f2 f3 hw9 HK9
       refine bodyPost_ret ?_ rfl ⟨ansZ HE,HB9.out⟩
       simp [results,Tryz.results66,go_sem, *]
     ·have h0':(E !=0)=true:=by simpa using h0
      have h0'':(E==0)=false:=by simpa using h0
      have HE:=hide (show redE b=8∧redV b=zerV by
       have e:redE b=8:=by rw [HRE.out,if_neg (fun h=>h0 (HEE.out.trans h.1))]
       exact ⟨e,by unfold redV;rw [e,if_neg (by decide)]⟩)
      clear h0 hc1 hc2;obtain ⟨w9,hw9,HB9,HK9,r0,r1,r2,r3,f0,f1,f2,f3,z0,z1,z2,z3⟩:=qhv HZx6 HB6 (Nat.le_refl _);go_wp2
      try rw [hw9]
      clear r0 r1 r2 r3 f0 f1 f2 f3 hw9 HK9
      refine bodyPost_ret ?_ rfl ⟨ansZ HE,HB9.out⟩
      simp [results,Tryz.results66,go_sem, *]
end Go.Proofs.YtmeaiocohalphaaGreatDoor

/-
  What manifest's reader does: a version.
-/
import Derived.Test.YtmeaiocohalphaaGreatDoorNf2
import Derived.Test.YtmeaiocohalphaaGreatDoorFsFn2
import Derived.Test.YtmeaiocohalphaaGreatDoorFiCut3
import Derived.ArgAppend
import Derived.Laws.OwnMore
import Derived.Test.YtmeaiocohalphaaGreatDoorSNum
import Derived.Test.YtmeaiocohalphaaGreatDoorMathSl
import Derived.Test.YtmeaiocohalphaaGreatDoorDMay
import Derived.Test.YtmeaiocohalphaaGreatDoorFsFn1
import Derived.Test.YtmeaiocohalphaaGreatDoorRegL
set_option maxHeartbeats 4000000
set_option maxRecDepth 100000
namespace Go.Proofs.YtmeaiocohalphaaGreatDoor
open Go.RowKit
set_option linter.all false
theorem qalx {W w:World} {t0:TypeId} {q:Nat} (hk:KeepG t0 W w) (hq:W.heap.size≤q) (j:Nat) (v:Value):KeepG t0 W (w.setCell ⟨q,j,none⟩ v):=by
 intro k cs t fr ht hk';have h1:=hk k cs t fr ht hk';have hlt:=(Array.getElem?_eq_some_iff.1 hk').1;exact (heap_setCell_other w ⟨q,j,none⟩ k v (fun e:k=q=>by omega)).trans h1
theorem qag6 {W w w':World} {t0:TypeId} {B:Nat} (hk:KeepG t0 W w) (hb:Below B w w') (hB:W.heap.size≤B):KeepG t0 W w':=by
 intro k cs t fr ht hk';have hlt:=(Array.getElem?_eq_some_iff.1 hk').1;exact (hb.block k (by omega)).trans (hk k cs t fr ht hk')
theorem MrK.hi {W w:World} {q:Nat} (h:MrK W w) (hq:W.heap.size≤q) (j:Nat) (v:Value):MrK W (w.setCell ⟨q,j,none⟩ v):=⟨qalx h.1 hq j v,by simpa using h.2⟩
theorem MrK.low {W w w':World} {B:Nat} (h:MrK W w) (hb:Below B w w') (hB:W.heap.size≤B):MrK W w':=⟨qag6 h.1 hb hB,Nat.le_trans h.2 hb.size⟩
theorem qdj {w0 wx:World} {q A:Nat} {s:Mst} {t:TypeId} {cs:Array Value} (h:MrS w0 wx q s) (hA:Bx wx A t cs) (h1:100≠t) (h2:5≠t) (hge:w0.heap.size≤A) (j:Nat) (v:Value):
  MrS w0 (wx.setCell ⟨A,j,none⟩ v) q s:=h.keep (qcf hA j v) h1 h2 (qcz h.bel hge j v)
theorem qag7 (w0:World) (q:Nat) (s:Mst) (w:World) (h:MrS w0 w q s):
  Calls Tryz.prog 109 #[.pointer (some ⟨q,0,none⟩)] w fun e w'=>e=.returned (aggM (tabM s).1)∧MrS w0 w' q (tabM s).2∧MrK w w':=by
 obtain ⟨w1,hw1⟩:∃w1,w1=w.alloc (.cells #[.string {data:=#[]},.int .i64 0,.int .i64 0,.string {data:=#[]},.string {data:=#[]}] 124):=⟨_,rfl⟩
 have hb1:Below w.heap.size w w1:=by rw [hw1];exact (Below.refl _ _).alloc (Nat.le_refl _) _
 have HS1:=hide (h.carry hb1);have HX1:=hide (show Bx w1 w.heap.size 124 #[.string {data:=#[]},.int .i64 0,.int .i64 0,.string {data:=#[]},.string {data:=#[]}] by rw [hw1];exact Bx.new w _ _);have HK1:=hide (MrK.below hb1);have HGE:=hide (show w0.heap.size≤w.heap.size from h.bel.size);have hTM:tabM s=tabM s:=rfl;obtain ⟨T,hT⟩:∃T,T=tabM s:=⟨_,rfl⟩;rw [←hT];have HT:=hide hT;clear hb1 h hTM hT
 go_enter Tryz.func109,Tryz.ntmps109
 have hcon:=qp0 w0 q (s) w1 HS1.out;obtain ⟨x0,hx0⟩:∃x,x=texM (s):=⟨_,rfl⟩;rw [←hx0] at hcon;have HD0:=hide hx0;clear hx0
 go_wp2_with fail
 rw [←hw1];clear hw1
 refine hcon.mono ?_
 rintro e w2 ⟨rfl,h9,k9⟩;have hx9:=HX1.out.keep k9.1 (by decide);have HK2:=hide (HK1.out.trans k9);clear hcon HS1 HX1 HK1 k9;have r0:=hx9.at 0 rfl;have r1:=hx9.at 1 rfl;have r2:=hx9.at 2 rfl;have r3:=hx9.at 3 rfl;have r4:=hx9.at 4 rfl;have f0:=hx9.fz 0;have HS3:=hide (qdj h9 hx9 (by decide) (by decide) HGE.out 0 (.string (bs x0.1)));have HX3:=hide (show Bx (w2.setCell ⟨w.heap.size,0,none⟩ (.string (bs x0.1))) w.heap.size 124 #[.string (bs x0.1),.int .i64 0,.int .i64 0,.string {data:=#[]},.string {data:=#[]}] from hx9.put 0 (.string (bs x0.1)));have HK3:=hide (HK2.out.hi (Nat.le_refl _) 0 (.string (bs x0.1)));obtain ⟨w3,hww3⟩:∃wn,wn=w2.setCell ⟨w.heap.size,0,none⟩ (.string (bs x0.1)):=⟨_,rfl⟩;rw [←hww3] at HS3 HX3 HK3;clear h9 hx9 HK2
 go_wp2_with fail
 rw [←hww3];clear hww3 r0 r1 r2 r3 r4 f0;have hcon:=qgg w0 q 16384 (x0.2) w3 HS3.out (by decide);obtain ⟨x1,hx1⟩:∃x,x=numM 16384 (x0.2):=⟨_,rfl⟩;rw [←hx1] at hcon;have HD1:=hide hx1;clear hx1
 go_wp2_with fail
 refine hcon.mono ?_
 rintro e w4 ⟨rfl,h9,k9⟩;have hx9:=HX3.out.keep k9.1 (by decide);have HK4:=hide (HK3.out.trans k9);clear hcon HS3 HX3 HK3 k9;have r0:=hx9.at 0 rfl;have r1:=hx9.at 1 rfl;have r2:=hx9.at 2 rfl;have r3:=hx9.at 3 rfl;have r4:=hx9.at 4 rfl;have f1:=hx9.fz 1;have HS5:=hide (qdj h9 hx9 (by decide) (by decide) HGE.out 1 (.int .i64 (x1.1:Nat)));have HX5:=hide (show Bx (w4.setCell ⟨w.heap.size,1,none⟩ (.int .i64 (x1.1:Nat))) w.heap.size 124 #[.string (bs x0.1),.int .i64 (x1.1:Nat),.int .i64 0,.string {data:=#[]},.string {data:=#[]}] from hx9.put 1 (.int .i64 (x1.1:Nat)));have HK5:=hide (HK4.out.hi (Nat.le_refl _) 1 (.int .i64 (x1.1:Nat)));obtain ⟨w5,hww5⟩:∃wn,wn=w4.setCell ⟨w.heap.size,1,none⟩ (.int .i64 (x1.1:Nat)):=⟨_,rfl⟩;rw [←hww5] at HS5 HX5 HK5;clear h9 hx9 HK4
 go_wp2_with fail
 rw [←hww5];clear hww5 r0 r1 r2 r3 r4 f1;have hcon:=qgg w0 q 65536 (x1.2) w5 HS5.out (by decide);obtain ⟨x2,hx2⟩:∃x,x=numM 65536 (x1.2):=⟨_,rfl⟩;rw [←hx2] at hcon;have HD2:=hide hx2;clear hx2
 go_wp2_with fail
 refine hcon.mono ?_
 rintro e w6 ⟨rfl,h9,k9⟩;have hx9:=HX5.out.keep k9.1 (by decide);have HK6:=hide (HK5.out.trans k9);clear hcon HS5 HX5 HK5 k9;have r0:=hx9.at 0 rfl;have r1:=hx9.at 1 rfl;have r2:=hx9.at 2 rfl;have r3:=hx9.at 3 rfl;have r4:=hx9.at 4 rfl;have f2:=hx9.fz 2;have HS7:=hide (qdj h9 hx9 (by decide) (by decide) HGE.out 2 (.int .i64 (x2.1:Nat)));have HX7:=hide (show Bx (w6.setCell ⟨w.heap.size,2,none⟩ (.int .i64 (x2.1:Nat))) w.heap.size 124 #[.string (bs x0.1),.int .i64 (x1.1:Nat),.int .i64 (x2.1:Nat),.string {data:=#[]},.string {data:=#[]}] from hx9.put 2 (.int .i64 (x2.1:Nat)));have HK7:=hide (HK6.out.hi (Nat.le_refl _) 2 (.int .i64 (x2.1:Nat)));obtain ⟨w7,hww7⟩:∃wn,wn=w6.setCell ⟨w.heap.size,2,none⟩ (.int .i64 (x2.1:Nat)):=⟨_,rfl⟩;rw [←hww7] at HS7 HX7 HK7;clear h9 hx9 HK6
 go_wp2_with fail
 rw [←hww7];clear hww7 r0 r1 r2 r3 r4 f2;have hcon:=qp0 w0 q (x2.2) w7 HS7.out;obtain ⟨x3,hx3⟩:∃x,x=texM (x2.2):=⟨_,rfl⟩;rw [←hx3] at hcon;have HD3:=hide hx3;clear hx3
 go_wp2_with fail
 refine hcon.mono ?_
 rintro e w8 ⟨rfl,h9,k9⟩;have hx9:=HX7.out.keep k9.1 (by decide);have HK8:=hide (HK7.out.trans k9);clear hcon HS7 HX7 HK7 k9;have r0:=hx9.at 0 rfl;have r1:=hx9.at 1 rfl;have r2:=hx9.at 2 rfl;have r3:=hx9.at 3 rfl;have r4:=hx9.at 4 rfl;have f3:=hx9.fz 3;have HS9:=hide (qdj h9 hx9 (by decide) (by decide) HGE.out 3 (.string (bs x3.1)));have HX9:=hide (show Bx (w8.setCell ⟨w.heap.size,3,none⟩ (.string (bs x3.1))) w.heap.size 124 #[.string (bs x0.1),.int .i64 (x1.1:Nat),.int .i64 (x2.1:Nat),.string (bs x3.1),.string {data:=#[]}] from hx9.put 3 (.string (bs x3.1)));have HK9:=hide (HK8.out.hi (Nat.le_refl _) 3 (.string (bs x3.1)));obtain ⟨w9,hww9⟩:∃wn,wn=w8.setCell ⟨w.heap.size,3,none⟩ (.string (bs x3.1)):=⟨_,rfl⟩;rw [←hww9] at HS9 HX9 HK9;clear h9 hx9 HK8
 go_wp2_with fail
 rw [←hww9];clear hww9 r0 r1 r2 r3 r4 f3;have hcon:=qp0 w0 q (x3.2) w9 HS9.out;obtain ⟨x4,hx4⟩:∃x,x=texM (x3.2):=⟨_,rfl⟩;rw [←hx4] at hcon;have HD4:=hide hx4;clear hx4
 go_wp2_with fail
 refine hcon.mono ?_
 rintro e w10 ⟨rfl,h9,k9⟩;have hx9:=HX9.out.keep k9.1 (by decide);have HK10:=hide (HK9.out.trans k9);clear hcon HS9 HX9 HK9 k9;have r0:=hx9.at 0 rfl;have r1:=hx9.at 1 rfl;have r2:=hx9.at 2 rfl;have r3:=hx9.at 3 rfl;have r4:=hx9.at 4 rfl;have f4:=hx9.fz 4;have HS11:=hide (qdj h9 hx9 (by decide) (by decide) HGE.out 4 (.string (bs x4.1)));have HX11:=hide (show Bx (w10.setCell ⟨w.heap.size,4,none⟩ (.string (bs x4.1))) w.heap.size 124 #[.string (bs x0.1),.int .i64 (x1.1:Nat),.int .i64 (x2.1:Nat),.string (bs x3.1),.string (bs x4.1)] from hx9.put 4 (.string (bs x4.1)));have HK11:=hide (HK10.out.hi (Nat.le_refl _) 4 (.string (bs x4.1)));obtain ⟨w11,hww11⟩:∃wn,wn=w10.setCell ⟨w.heap.size,4,none⟩ (.string (bs x4.1)):=⟨_,rfl⟩;rw [←hww11] at HS11 HX11 HK11;clear h9 hx9 HK10;have s0:=HX11.out.at 0 rfl;have s1:=HX11.out.at 1 rfl;have s2:=HX11.out.at 2 rfl;have s3:=HX11.out.at 3 rfl;have s4:=HX11.out.at 4 rfl;have g0:=HX11.out.fz 0;have g1:=HX11.out.fz 1;have g2:=HX11.out.fz 2;have g3:=HX11.out.fz 3;have g4:=HX11.out.fz 4;have p1:=HX11.out.put 0 (.string (bs x0.1));have p2:=p1.put 1 (.int .i64 (x1.1:Nat));have p3:=p2.put 2 (.int .i64 (x2.1:Nat));have p4:=p3.put 3 (.string (bs x3.1));have p5:=p4.put 4 (.string (bs x4.1));have m1:=qdj HS11.out HX11.out (by decide) (by decide) HGE.out 0 (.string (bs x0.1));have m2:=qdj m1 p1 (by decide) (by decide) HGE.out 1 (.int .i64 (x1.1:Nat));have m3:=qdj m2 p2 (by decide) (by decide) HGE.out 2 (.int .i64 (x2.1:Nat));have m4:=qdj m3 p3 (by decide) (by decide) HGE.out 3 (.string (bs x3.1));have m5:=qdj m4 p4 (by decide) (by decide) HGE.out 4 (.string (bs x4.1));have HK:=hide (((((HK11.out.hi (Nat.le_refl _) 0 (.string (bs x0.1))).hi (Nat.le_refl _) 1 (.int .i64 (x1.1:Nat))).hi (Nat.le_refl _) 2 (.int .i64 (x2.1:Nat))).hi (Nat.le_refl _) 3 (.string (bs x3.1))).hi (Nat.le_refl _) 4 (.string (bs x4.1)))
 obtain ⟨w9,hw9⟩:∃wn,wn=((((w11.setCell ⟨w.heap.size,0,none⟩ (.string (bs x0.1))).setCell ⟨w.heap.size,1,none⟩ (.int .i64 (x1.1:Nat))).setCell ⟨w.heap.size,2,none⟩ (.int .i64 (x2.1:Nat))).setCell ⟨w.heap.size,3,none⟩ (.string (bs x3.1))).setCell ⟨w.heap.size,4,none⟩ (.string (bs x4.1)):=⟨_,rfl⟩;rw [←hw9] at p5 m5 HK;have HM:=hide m5;have P5:=hide (show Bx w9 w.heap.size 124 #[.string (bs x0.1),.int .i64 (x1.1:Nat),.int .i64 (x2.1:Nat),.string (bs x3.1),.string (bs x4.1)] from p5);clear p1 p2 p3 p4 p5 m1 m2 m3 m4 m5 HS11 HX11 HK11;have e11:=hww11.symm;clear hww11;go_wp2;rw [←hw9];clear hw9 s0 s1 s2 s3 s4 g0 g1 g2 g3 g4 e11 r0 r1 r2 r3 r4 f4;have z0:=P5.out.at 0 rfl;have z1:=P5.out.at 1 rfl;have z2:=P5.out.at 2 rfl;have z3:=P5.out.at 3 rfl;have z4:=P5.out.at 4 rfl
 have hT2:T=((x0.1,(x1.1:Int),(x2.1:Int),x3.1,x4.1),x4.2):=by rw [HT.out];unfold tabM;rw [←HD0.out,←HD1.out,←HD2.out,←HD3.out,←HD4.out]
 refine bodyPost_ret (v:=.agg #[.string (bs x0.1),.int .i64 (x1.1:Nat),.int .i64 (x2.1:Nat),.string (bs x3.1),.string (bs x4.1)]) ?_ rfl ⟨by rw [hT2];rfl,by rw [hT2];exact HM.out,HK.out⟩
 clear hT2
 simp [results,Tryz.results109,go_sem, *]
structure LvH (w:World) (base G i:Nat) (S:Lvs):Prop where
 ow:OwG 1 ecW 105 w base (.slice (some ⟨G,0,none⟩) 4 4) S
 len:S.length=4
 lo:∀k (h:k<S.length),k<i→OwM w base (S[k]).1 (S[k]).2
 up:∀k (h:k<S.length),i≤k→S[k]=(.slice none 0 0,[])
 bw:base≤w.heap.size
structure LvI (w:World) (base hi G i:Nat) (S:Lvs):Prop where
 ow:OwG 1 ecW 105 w base (.slice (some ⟨G,0,none⟩) 4 4) S
 len:S.length=4
 lo:∀k (h:k<S.length),k<i→OwM w base (S[k]).1 (S[k]).2∧∀gg,(S[k]).1.ownBlock=some gg→gg<hi
 at_:∀h:i<S.length,OwM w hi (S[i]).1 (S[i]).2
 up:∀k (h:k<S.length),i<k→S[k]=(.slice none 0 0,[])
 bh:base≤hi
 hw:hi≤w.heap.size
theorem LvH.keep {w w':World} {base G i:Nat} {S:Lvs} {t:TypeId} (h:LvH w base G i S) (hk:KeepG t w w') (h1:124≠t) (h2:105≠t) (hs:w.heap.size≤w'.heap.size):LvH w' base G i S:=
 ⟨OwG.keep h.ow hk h2,h.len,fun k hk1 hk2=>OwG.keep (h.lo k hk1 hk2) hk h1,h.up,Nat.le_trans h.bw hs⟩
theorem LvI.keep {w w':World} {base hi G i:Nat} {S:Lvs} {t:TypeId} (h:LvI w base hi G i S) (hk:KeepG t w w') (h1:124≠t) (h2:105≠t) (hs:w.heap.size≤w'.heap.size):LvI w' base hi G i S:=
 ⟨OwG.keep h.ow hk h2,h.len,fun k hk1 hk2=>⟨OwG.keep (h.lo k hk1 hk2).1 hk h1,(h.lo k hk1 hk2).2⟩,fun h9=>OwG.keep (h.at_ h9) hk h1,h.up,h.bh,Nat.le_trans h.hw hs⟩
theorem LvI.carry {w w':World} {base hi G i:Nat} {S:Lvs} (h:LvI w base hi G i S) (hb:Below w.heap.size w w'):LvI w' base hi G i S:=
 ⟨OwG.carry h.ow hb,h.len,fun k hk1 hk2=>⟨OwG.carry (h.lo k hk1 hk2).1 hb,(h.lo k hk1 hk2).2⟩,fun h9=>OwG.carry (h.at_ h9) hb,h.up,h.bh,Nat.le_trans h.hw hb.size⟩
theorem LvH.begin {w:World} {base G i:Nat} {S:Lvs} (h:LvH w base G i S):LvI w base w.heap.size G i S:=
 ⟨h.ow,h.len,fun k hk1 hk2=>⟨h.lo k hk1 hk2,fun gg hg=>(OwG.ltV (h.lo k hk1 hk2) hg).2⟩,fun h9=>by rw [h.up i h9 (Nat.le_refl _)];exact OwG.nil _ _,fun k hk1 hk2=>h.up k hk1 (by omega),h.bw,Nat.le_refl _⟩
theorem LvI.done {w:World} {base hi G i:Nat} {S:Lvs} (h:LvI w base hi G i S):LvH w base G (i+1) S:=
 ⟨h.ow,h.len,fun k hk1 hk2=>by
  rcases Nat.lt_or_ge k i with q | q
  ·exact (h.lo k hk1 q).1
  ·obtain rfl:k=i:=by omega
   exact (h.at_ hk1).mono h.bh,fun k hk1 hk2=>h.up k hk1 (by omega),Nat.le_trans h.bh h.hw⟩
theorem LvH.all {w:World} {base G:Nat} {S:Lvs} (h:LvH w base G 4 S):OwVw w base (.slice (some ⟨G,0,none⟩) 4 4) S:=by
 refine ⟨h.ow,fun p hp=>?_⟩;obtain ⟨k,hk,rfl⟩:=List.mem_iff_getElem.1 hp;exact h.lo k hk (by have:=h.len;omega)
theorem LvI.cell {w:World} {base hi G i:Nat} {S:Lvs} (h:LvI w base hi G i S) (hi4:i<S.length):w.cell? ⟨G,i,none⟩=some (S[i]).1:=by
 obtain ⟨b,off,e,hc⟩:=RdG.atB (OwG.rd qpy h.ow) (Below.refl _ _) i hi4;have h1:=hc 0 (S[i]).1 rfl
 have hoff:b=G∧off=0:=by
  injection e with e
  injection e with e1 e2 e3
  exact ⟨e1.symm,e2.symm⟩
 obtain ⟨rfl,rfl⟩:=hoff
 simpa using h1
theorem LvI.row {w:World} {base hi G i:Nat} {S:Lvs} (h:LvI w base hi G i S) (hi4:i<S.length):∃a0 n0 c0 l0,S[i]=(.slice a0 n0 c0,l0)∧n0=l0.length:=by
 obtain ⟨a,c,e⟩:=RdG.form (OwG.rd qaby (h.at_ hi4));exact ⟨a,_,c,(S[i]).2,Prod.ext e rfl,rfl⟩
theorem LvI.app {w:World} {base hi G i:Nat} {S:Lvs} (h:LvI w base hi G i S) (hi4:i<S.length) {a0:Option Addr} {n0 c0:Nat} {l0:List Mta} (hr:S[i]=(.slice a0 n0 c0,l0)) (hl:l0.length≤100000) (m:Mta):
  ∃g8 n8 c8 w8,(Builtin.append_ #[105,105] 105 #[.slice a0 n0 c0,.slice (some ⟨w.heap.size,0,none⟩) 1 1]).run Tryz.prog (w.alloc (.cells #[.string (bs m.1),.int .i64 m.2.1,.int .i64 m.2.2.1,.string (bs (Mlo m)),.string (bs (Mhi m))] 124))=.ok (.slice (some ⟨g8,0,none⟩) n8 c8) w8∧
   Below hi w w8∧KeepG 124 w w8∧w8.cell? ⟨G,i,none⟩=some (.slice a0 n0 c0)∧w8.frozen? ⟨G,i,none⟩=false∧
   LvI (w8.setCell ⟨G,i,none⟩ (.slice (some ⟨g8,0,none⟩) n8 c8)) base hi G i (S.set i (.slice (some ⟨g8,0,none⟩) n8 c8,l0++[m]))∧Below base w (w8.setCell ⟨G,i,none⟩ (.slice (some ⟨g8,0,none⟩) n8 c8))∧KeepG 105 w8 (w8.setCell ⟨G,i,none⟩ (.slice (some ⟨g8,0,none⟩) n8 c8)):=by
 have hat:=h.at_ hi4;rw [hr] at hat;obtain ⟨g8,n8,c8,w8,hn8,hrun,ho,hbl,hk,hon⟩:=qacg (base:=hi) hat h.hw (by show l0.length≤1000000;omega) m;have hO8:OwG 1 ecW 105 w8 base (.slice (some ⟨G,0,none⟩) 4 4) S:=OwG.keep h.ow hk (by decide);have hb8:base≤w8.heap.size:=Nat.le_trans h.bh (Nat.le_trans h.hw hbl.size);obtain ⟨s1,s2,s3⟩:=hO8.setW1 i (.slice (some ⟨g8,0,none⟩) n8 c8,l0++[m]) hb8
 have hc8:w8.cell? ⟨G,i,none⟩=some (.slice a0 n0 c0):=by
  obtain ⟨b,off,e,hc⟩:=RdG.atB (OwG.rd qpy hO8) (Below.refl _ _) i hi4;have h1:=hc 0 (S[i]).1 rfl
  have hoff:b=G∧off=0:=by
   injection e with e
   injection e with e1 e2 e3
   exact ⟨e1.symm,e2.symm⟩
  obtain ⟨rfl,rfl⟩:=hoff;rw [hr] at h1
  simpa using h1
 refine ⟨g8,n8,c8,w8,hrun,hbl,hk,hc8,hO8.fzV i,⟨s1,by simpa using h.len,fun k hk1 hk2=>?_,fun h9=>?_,fun k hk1 hk2=>?_,h.bh, ?_⟩,(hbl.mono h.bh).trans s2,s3⟩
 ·have hk0:k<S.length:=by simpa using hk1
  have e:(S.set i (.slice (some ⟨g8,0,none⟩) n8 c8,l0++[m]))[k]=S[k]:=by rw [List.getElem_set_ne (by omega)]
  rw [e];obtain ⟨q1,q2⟩:=h.lo k hk0 hk2;refine ⟨OwG.keep (OwG.only q1 hon fun gg hg hh=>?_) s3 (by decide),q2⟩;have hat2:OwM w hi (.slice a0 n0 c0) l0:=hat
  have:=(OwG.ltV hat2 hh).1
  have:=q2 gg hg
  omega
 ·have e:(S.set i (.slice (some ⟨g8,0,none⟩) n8 c8,l0++[m]))[i]=(.slice (some ⟨g8,0,none⟩) n8 c8,l0++[m]):=by rw [List.getElem_set_self]
  rw [e];exact OwG.keep ho s3 (by decide)
 ·have hk0:k<S.length:=by simpa using hk1
  have e:(S.set i (.slice (some ⟨g8,0,none⟩) n8 c8,l0++[m]))[k]=S[k]:=by rw [List.getElem_set_ne (by omega)]
  rw [e];exact h.up k hk0 hk2
 ·have:=Nat.le_trans h.hw hbl.size
  simpa using this
theorem qag8 {P:Program} {o:Oper} {a:Act} {s x:Operand} {t:TypeId} {vs vx v:Value} {w w':World} (ho:o.op=.call {callee:=.builtin .append,args:=#[s,x],argTypes:=#[t,t]}) (hs:a.eval s=vs) (hx:a.eval x=vx) (hrun:(Builtin.append_ #[t,t] o.type #[vs,vx]).run P w=.ok v w'):(execOp a.eval o).run P w=.ok (.value v) w':=by
 simp [execOp,ho,resolve,invoke,builtin,hs,hx,hrun,Result.andThen]
theorem OwVw.keepT9 {w w':World} {base:Nat} {v:Value} {R:Lvs} {t:TypeId} (h:OwVw w base v R) (hk:KeepG t w w') (h1:124≠t) (h2:105≠t):OwVw w' base v R:=
 ⟨OwG.keep h.1 hk h2,fun p hp=>OwG.keep (h.2 p hp) hk h1⟩
theorem qaci {S:Lvs} {k:Nat} (h:k<S.length):lvs (S.take (k+1))=lvs (S.take k)++[(S[k]).2]:=by
 show (S.take (k+1)).map (·.2)=_
 rw [List.take_succ_eq_append_getElem h,List.map_append];rfl
theorem qxz (w0:World) (q:Nat) (s:Mst) (w:World) (h:MrS w0 w q s):
  Calls Tryz.prog 49 #[.pointer (some ⟨q,0,none⟩)] w fun e w'=>∃a c S,e=.returned (.agg #[.slice a 4 c,.int .i64 (verM s).1.2.1,.int .i64 (verM s).1.2.2.1,.string (bs (verM s).1.2.2.2)])∧OwVw w' w.heap.size (.slice a 4 c) S∧lvs S=(verM s).1.1∧MrS w0 w' q (verM s).2∧MrK w w':=by
 obtain ⟨w1,hw1⟩:∃w1,w1=w.alloc (.cells #[.slice none 0 0,.int .i64 0,.int .i64 0,.string {data:=#[]}] 36):=⟨_,rfl⟩
 have hb1:Below w.heap.size w w1:=by rw [hw1];exact (Below.refl _ _).alloc (Nat.le_refl _) _
 have hs1:w1.heap.size=w.heap.size+1:=by rw [hw1];simp
 have hx1:Bx w1 w.heap.size 36 #[.slice none 0 0,.int .i64 0,.int .i64 0,.string {data:=#[]}]:=by rw [hw1];exact Bx.new w _ _
 obtain ⟨w2,hmk,o2,b2⟩:=qai2 w1 4 (by omega);have hmk2:(Instr.makeSlice 34 (.int .i64 4) (.int .i64 4)).run Tryz.prog w1=.ok (.slice (some ⟨w1.heap.size,0,none⟩) 4 4) w2:=hmk;rw [hs1] at hmk2 o2;have hx2:=hx1.carry b2;obtain ⟨r0,r1,r2,r3⟩:w2.cell? ⟨w.heap.size,0,none⟩=some (.slice none 0 0)∧w2.cell? ⟨w.heap.size,1,none⟩=some (.int .i64 0)∧w2.cell? ⟨w.heap.size,2,none⟩=some (.int .i64 0)∧w2.cell? ⟨w.heap.size,3,none⟩=some (.string {data:=#[]}):=⟨hx2.at 0 rfl,hx2.at 1 rfl,hx2.at 2 rfl,hx2.at 3 rfl⟩;have f0:=hx2.fz 0;have hge:w0.heap.size≤w.heap.size:=h.bel.size;have hm2:=(h.carry hb1).carry b2;have hk2:MrK w w2:=(MrK.below hb1).trans (MrK.below b2);have hm3:=qdj hm2 hx2 (by decide) (by decide) hge 0 (.slice (some ⟨w.heap.size+1,0,none⟩) 4 4);have hk3:=hk2.hi (Nat.le_refl _) 0 (.slice (some ⟨w.heap.size+1,0,none⟩) 4 4);have hx3:Bx (w2.setCell ⟨w.heap.size,0,none⟩ (.slice (some ⟨w.heap.size+1,0,none⟩) 4 4)) w.heap.size 36 #[.slice (some ⟨w.heap.size+1,0,none⟩) 4 4,.int .i64 0,.int .i64 0,.string {data:=#[]}]:=hx2.put 0 (.slice (some ⟨w.heap.size+1,0,none⟩) 4 4);have ho3:OwG 1 ecW 105 (w2.setCell ⟨w.heap.size,0,none⟩ (.slice (some ⟨w.heap.size+1,0,none⟩) 4 4)) (w.heap.size+1) (.slice (some ⟨w.heap.size+1,0,none⟩) 4 4) (List.replicate 4 zVw):=OwG.keep o2 (qcf hx2 0 _) (by decide)
 have hl3:LvH (w2.setCell ⟨w.heap.size,0,none⟩ (.slice (some ⟨w.heap.size+1,0,none⟩) 4 4)) (w.heap.size+1) (w.heap.size+1) 0 (List.replicate 4 zVw):=
  ⟨ho3,rfl,fun k _ hk=>absurd hk (by omega),fun k hk _=>by rw [List.getElem_replicate];rfl,by have:=b2.size;simp;omega⟩
 obtain ⟨w3,hw3⟩:∃w3,w3=w2.setCell ⟨w.heap.size,0,none⟩ (.slice (some ⟨w.heap.size+1,0,none⟩) 4 4):=⟨_,rfl⟩;rw [←hw3] at hm3 hk3 hx3 hl3;have HM3:=hide hm3;have HK3:=hide hk3;have HX3:=hide hx3;have HL3:=hide hl3;have HGE:=hide hge;have e3:=hw3.symm;obtain ⟨u0,u1,u2,u3⟩:w3.cell? ⟨w.heap.size,0,none⟩=some (.slice (some ⟨w.heap.size+1,0,none⟩) 4 4)∧w3.cell? ⟨w.heap.size,1,none⟩=some (.int .i64 0)∧w3.cell? ⟨w.heap.size,2,none⟩=some (.int .i64 0)∧w3.cell? ⟨w.heap.size,3,none⟩=some (.string {data:=#[]}):=⟨hx3.at 0 rfl,hx3.at 1 rfl,hx3.at 2 rfl,hx3.at 3 rfl⟩;clear hm3 hk3 hx3 hl3 ho3 hm2 hk2 hx2 hx1 hge hmk o2 b2 hb1 h hw3
 go_enter Tryz.func49,Tryz.ntmps49
 go_wp2_with (first | (refine qn4 rfl _ _ _ rfl rfl rfl (w':=w2) (v':=.slice (some ⟨w.heap.size+1,0,none⟩) 4 4) (by rw [←hw1];exact hmk2) ?_) | fail)
 clear hw1 hmk2 r0 r1 r2 r3 f0 e3 u0 u1 u2 u3 hs1
 go_loopw [9] (fun i wr=>∃(k:Nat) (S:Lvs),k≤4∧i=.int .i64 k∧Hid (LvH wr (w.heap.size+1) (w.heap.size+1) k S)∧Hid (lvs (S.take k)=(levM k s).1)∧Hid (MrS w0 wr q (levM k s).2)∧Hid (Bx wr w.heap.size 36 #[.slice (some ⟨w.heap.size+1,0,none⟩) 4 4,.int .i64 0,.int .i64 0,.string {data:=#[]}])∧Hid (MrK w wr)) (fun i _=>4 - (intOf i).toNat)
 case atStart=>exact ⟨0,_,by omega,rfl,HL3,hide rfl,HM3,HX3,HK3⟩
 case round=>
  clear HM3 HK3 HX3 HL3;obtain ⟨k,S,hk,rfl,hL,hE,hM,hX,hKw⟩:=hrel
  by_cases hlt:k<4
  ·have hlt':(k:Int)<4:=by omega
   obtain ⟨N,hN⟩:∃N,N=numM 32 (levM k s).2:=⟨_,rfl⟩;have HNN:=hide hN;have hcon:=qgg w0 q 32 (levM k s).2 wr hM.out (by decide);rw [←hN] at hcon
   have hn32:N.1≤32:=by rw [hN];exact qy5 _ _
   clear hN
   go_wp2_with fail
   refine hcon.mono ?_
   rintro e w4 ⟨rfl,h9,k9⟩;have HM4:=hide h9;have HX4:=hide (hX.out.keep k9.1 (by decide));have HI4:=hide ((hL.out.keep k9.1 (by decide) (by decide) k9.2).begin);have HK4:=hide (hKw.out.trans k9);obtain ⟨hi,hhi⟩:∃hi,hi=w4.heap.size:=⟨_,rfl⟩;rw [←hhi] at HI4;have HS4:=hide hL.out.up;clear hcon h9 k9 hhi hM hX hKw;obtain ⟨nn,hnn⟩:∃nn,nn=N.1:=⟨_,rfl⟩;rw [←hnn] at hn32 ⊢;have HN1:=hide hnn;clear hnn;go_wp2
   go_loopw [14] (fun i wr=>∃(j:Nat) (T:Lvs),j≤nn∧i=.int .i64 j∧Hid (LvI wr (w.heap.size+1) hi (w.heap.size+1) k T)∧Hid (lvs (T.take k)=(levM k s).1∧∀h:k<T.length,(T[k]).2=(tbsM j N.2).1)∧Hid (MrS w0 wr q (tbsM j N.2).2)∧Hid (Bx wr w.heap.size 36 #[.slice (some ⟨w.heap.size+1,0,none⟩) 4 4,.int .i64 0,.int .i64 0,.string {data:=#[]}])∧Hid (MrK w wr)) (fun i _=>nn - (intOf i).toNat)
   case atStart=>exact ⟨0,S,by omega,rfl,HI4,hide ⟨hE.out,fun h9=>by rw [HS4.out k h9 (Nat.le_refl _)];rfl⟩,HM4,HX4,HK4⟩
   case round=>
    clear HM4 HX4 HI4 HK4;obtain ⟨j,T,hj,rfl,hI,hT,hM,hX,hKw⟩:=hrel
    by_cases hjl:j<nn
    ·have hjl':(j:Int)<nn:=by omega
     have hk4:k<T.length:=by have:=hI.out.len;omega
     have dr:Below wr.heap.size wr wr.drew:=(Below.refl _ _).drew;obtain ⟨a0,n0,c0,l0,hrow,hn0⟩:=hI.out.row hk4
     have hl0:l0=(tbsM j N.2).1:=by have:=hT.out.2 hk4;rw [hrow] at this;exact this
     have hl0n:l0.length≤100000:=by rw [hl0,qj5];omega
     have HId:=hide (hI.out.carry dr);have HMd:=hide (hM.out.carry dr);have HXd:=hide (hX.out.carry dr);have HKd:=hide (hKw.out.trans (MrK.below dr));obtain ⟨M,hMt⟩:∃M,M=tabM (tbsM j N.2).2:=⟨_,rfl⟩;have HMM:=hide hMt;clear hMt
     have hK:Keeps (fun wx=>Bx wx w.heap.size 36 #[.slice (some ⟨w.heap.size+1,0,none⟩) 4 4,.int .i64 0,.int .i64 0,.string {data:=#[]}]∧wx.cell? ⟨w.heap.size+1,k,none⟩=some (.slice a0 n0 c0)):=fun wx wy h9 hb=>⟨h9.1.carry hb,qaa _ _ wx wy h9.2 hb⟩
     have hS0:(fun wx=>Bx wx w.heap.size 36 #[.slice (some ⟨w.heap.size+1,0,none⟩) 4 4,.int .i64 0,.int .i64 0,.string {data:=#[]}]∧wx.cell? ⟨w.heap.size+1,k,none⟩=some (.slice a0 n0 c0)) wr:=⟨hX.out,by have:=hI.out.cell hk4;rw [hrow] at this;exact this⟩;have h0:=hX.out.at 0 rfl;have HROW:=hide hrow;have HL0:=hide hl0;have HL0n:=hide hl0n;have HT:=hide hT.out.1;clear hI hT hM hX hKw dr hrow hl0 hl0n hn0;go_wp2
     refine qdo hK 13 (by kernel_rfl) hS0 ?_
     clear hS0 h0;intro hS;generalize wr.drew=wd at *
     refine qaw (i:=0) (v:=?qvv0) rfl (by kernel_rfl) (by kernel_rfl) (by kernel_rfl) rfl (by kernel_rfl) (by kernel_rfl) (by kernel_rfl) ?qvy0 hS ?qvr0
     case qvy0=>(rintro wx ⟨x1,x2⟩;(have y0:=x1.at 0 rfl);go_simp;all_goals (with_reducible rfl))
     try simp only [Act.put,sA,sB,sC]
     refine qaw (i:=1) (v:=?qvv1) rfl (by kernel_rfl) (by kernel_rfl) (by kernel_rfl) rfl (by kernel_rfl) (by kernel_rfl) (by kernel_rfl) ?qvy1 hS ?qvr1
     case qvy1=>(rintro wx ⟨x1,x2⟩;(have y0:=x1.at 0 rfl);go_simp;all_goals (with_reducible rfl))
     try simp only [Act.put,sA,sB,sC]
     refine qaw (i:=2) (v:=?qvv2) rfl (by kernel_rfl) (by kernel_rfl) (by kernel_rfl) rfl (by kernel_rfl) (by kernel_rfl) (by kernel_rfl) ?qvy2 hS ?qvr2
     case qvy2=>(rintro wx ⟨x1,x2⟩;(have y0:=x1.at 0 rfl);go_simp;all_goals (with_reducible rfl))
     try simp only [Act.put,sA,sB,sC]
     refine qaw (i:=3) (v:=?qvv3) rfl (by kernel_rfl) (by kernel_rfl) (by kernel_rfl) rfl (by kernel_rfl) (by kernel_rfl) (by kernel_rfl) ?qvy3 hS ?qvr3
     case qvy3=>(rintro wx ⟨x1,x2⟩;(have y0:=x1.at 0 rfl);go_simp;all_goals (with_reducible rfl))
     try simp only [Act.put,sA,sB,sC]
     refine qaw (i:=4) (v:=?qvv4) rfl (by kernel_rfl) (by kernel_rfl) (by kernel_rfl) rfl (by kernel_rfl) (by kernel_rfl) (by kernel_rfl) ?qvy4 hS ?qvr4
     case qvy4=>(rintro wx ⟨x1,x2⟩;(have y0:=x1.at 0 rfl);go_simp;all_goals (with_reducible rfl))
     try simp only [Act.put,sA,sB,sC]
     refine qaw (i:=5) (v:=?qvv5) rfl (by kernel_rfl) (by kernel_rfl) (by kernel_rfl) rfl (by kernel_rfl) (by kernel_rfl) (by kernel_rfl) ?qvy5 hS ?qvr5
     case qvy5=>(rintro wx ⟨x1,x2⟩;(have y0:=x1.at 0 rfl);go_simp;all_goals (with_reducible rfl))
     try simp only [Act.put,sA,sB,sC]
     refine qaw (i:=6) (v:=?qvv6) rfl (by kernel_rfl) (by kernel_rfl) (by kernel_rfl) rfl (by kernel_rfl) (by kernel_rfl) (by kernel_rfl) ?qvy6 hS ?qvr6
     case qvy6=>(rintro wx ⟨x1,x2⟩;(have y0:=x1.at 0 rfl);go_simp;all_goals (with_reducible rfl))
     try simp only [Act.put,sA,sB,sC]
     refine qaw (i:=7) (v:=?qvv7) rfl (by kernel_rfl) (by kernel_rfl) (by kernel_rfl) rfl (by kernel_rfl) (by kernel_rfl) (by kernel_rfl) ?qvy7 hS ?qvr7
     case qvy7=>(rintro wx ⟨x1,x2⟩;(have y0:=x1.at 0 rfl);go_simp;all_goals (with_reducible rfl))
     try simp only [Act.put,sA,sB,sC]
     refine qaw (i:=8) (v:=?qvv8) rfl (by kernel_rfl) (by kernel_rfl) (by kernel_rfl) rfl (by kernel_rfl) (by kernel_rfl) (by kernel_rfl) ?qvy8 hS ?qvr8
     case qvy8=>(rintro wx ⟨x1,x2⟩;(have y0:=x1.at 0 rfl);go_simp;all_goals (with_reducible rfl))
     try simp only [Act.put,sA,sB,sC]
     have hcon:=qag7 w0 q (tbsM j N.2).2 wd HMd.out;rw [←HMM.out] at hcon
     refine qgo (i:=9) (R:=fun v wy=>v=aggM M.1∧MrS w0 wy q M.2∧MrK wd wy) rfl (by kernel_rfl) (by kernel_rfl) (by go_simp;try rfl) (hcon.mono fun e wy h9=>⟨_,h9.1,rfl,h9.2.1,h9.2.2⟩) ?_
     rintro v9 wy ⟨rfl,hmy,hky⟩;have HXy:=HXd.out.keep hky.1 (by decide);have HIy:=HId.out.keep hky.1 (by decide) (by decide) hky.2;have HKy:=HKd.out.trans hky;have hcy:=HIy.cell hk4;rw [HROW.out] at hcy;refine ⟨⟨HXy,hcy⟩, ?_⟩;have hSy:Bx wy w.heap.size 36 #[.slice (some ⟨w.heap.size+1,0,none⟩) 4 4,.int .i64 0,.int .i64 0,.string {data:=#[]}]∧wy.cell? ⟨w.heap.size+1,k,none⟩=some (.slice a0 n0 c0):=⟨HXy,hcy⟩;clear hS hcon;have hS:=hSy;clear hSy;obtain ⟨g8,n8,c8,w8,hrun,HBl,hkM,hc8,hf8,hI8,hB8,hk8⟩:=HIy.app hk4 HROW.out HL0n.out M.1;have HX8:=HXy.keep hkM (by decide);have HM8:=(MrS.keep hmy hkM (by decide) (by decide) (hmy.bel.trans (HBl.mono (by have:=HIy.bh;have:=HGE.out;omega))));unfold aggM
     try simp only [Act.put,sA,sB,sC]
     refine qcp (i:=10) (v:=.slice (some ⟨wy.heap.size,0,none⟩) 1 1) (w':=wy.alloc (.cells #[.string (bs M.1.1),.int .i64 M.1.2.1,.int .i64 M.1.2.2.1,.string (bs (Mlo M.1)),.string (bs (Mhi M.1))] 124)) rfl (by kernel_rfl) (by kernel_rfl) (by go_simp) (fun _=>hK _ _ hS ((Below.refl _ _).alloc (Nat.le_refl _) _)) ?_
     try simp only [Act.put,sA,sB,sC]
     refine qcp (i:=11) (v:=.slice (some ⟨g8,0,none⟩) n8 c8) (w':=w8) rfl (by kernel_rfl) (by kernel_rfl) (qag8 rfl rfl rfl hrun) (fun _=>⟨HX8,hc8⟩) ?_
     clear hS;have hS:Bx w8 w.heap.size 36 #[.slice (some ⟨w.heap.size+1,0,none⟩) 4 4,.int .i64 0,.int .i64 0,.string {data:=#[]}]∧w8.cell? ⟨w.heap.size+1,k,none⟩=some (.slice a0 n0 c0):=⟨HX8,hc8⟩
     try simp only [Act.put,sA,sB,sC]
     refine qcp (i:=12) (v:=.pointer (some ⟨w.heap.size+1,k,none⟩)) (w':=w8) rfl (by kernel_rfl) (by kernel_rfl) (by go_simp) (fun _=>hS) ?_
     try simp only [Act.put,sA,sB,sC]
     refine qeg (i:=13) (w':=w8.setCell ⟨w.heap.size+1,k,none⟩ (.slice (some ⟨g8,0,none⟩) n8 c8)) rfl (by kernel_rfl) (by kernel_rfl) (by kernel_rfl) (by go_simp) ?_
     try simp only [Act.put,sA,sB,sC]
     refine qct (by kernel_rfl) ?_ _
     refine NoPanic.normal ?_
     have HI9:=hide hI8;have HX9:=hide (HX8.keep hk8 (by decide))
     have HM9:=hide (show MrS w0 (w8.setCell ⟨w.heap.size+1,k,none⟩ (.slice (some ⟨g8,0,none⟩) n8 c8)) q (tbsM (j+1) N.2).2 by
      rw [tbsM,←HMM.out]
      exact HM8.keep hk8 (by decide) (by decide) (qcz HM8.bel (by have:=HGE.out;omega) _ _))
     have HKK9:=hide ((HKy.low HBl (by have:=HIy.bh;omega)).hi (show w.heap.size≤w.heap.size+1 by omega) k (.slice (some ⟨g8,0,none⟩) n8 c8))
     have HT9:lvs ((T.set k (.slice (some ⟨g8,0,none⟩) n8 c8,l0++[M.1])).take k)=(levM k s).1∧∀h:k<(T.set k (.slice (some ⟨g8,0,none⟩) n8 c8,l0++[M.1])).length,((T.set k (.slice (some ⟨g8,0,none⟩) n8 c8,l0++[M.1]))[k]).2=(tbsM (j+1) N.2).1:=by
      refine ⟨?_,fun h9=>?_⟩
      ·rw [List.take_set_of_le (Nat.le_refl _)];exact HT.out
      ·rw [List.getElem_set_self,tbsM,←HMM.out,←HL0.out]
     clear hS hK HXy HIy HKy hmy hky hrun HBl hkM hc8 hI8 hB8 hk8 HX8 HM8;generalize w8.setCell ⟨w.heap.size+1,k,none⟩ (.slice (some ⟨g8,0,none⟩) n8 c8)=w9 at *;clear hf8;go_wp2;go_roundw
     case rel=>exact ⟨j+1,_,by omega,by go_num,HI9,hide HT9,HM9,HX9,HKK9⟩
     case measure=>simp only [intOf];omega
    ·have hd:decide ((j:Int)<nn)=false:=by simpa using (by omega:¬(j:Int)<nn)
     obtain rfl:j=nn:=by omega
     have hk4:k<T.length:=by have:=hI.out.len;omega
     have HL9:=hide hI.out.done
     have HE9:=hide (show lvs (T.take (k+1))=(levM (k+1) s).1 by
      rw [qaci hk4,hT.out.1,hT.out.2 hk4,levM,←HNN.out,←HN1.out])
     have HM9:=hide (show MrS w0 wr q (levM (k+1) s).2 by
      rw [levM,←HNN.out,←HN1.out];exact hM.out)
     clear hI hT hM hk4;go_wp2;go_roundw
     case rel=>exact ⟨k+1,T,by omega,by go_num,HL9,HE9,HM9,hX,hKw⟩
     case measure=>simp only [intOf];omega
  ·have hd:decide ((k:Int)<4)=false:=by simpa using (by omega:¬(k:Int)<4)
   obtain rfl:k=4:=by omega
   have HO:=hide hL.out.all;have HE:=hide (show lvs S=(levM 4 s).1 by have:=hE.out;rw [List.take_of_length_le (by have:=hL.out.len;omega)] at this;exact this);clear hL hE hlt hk;have hcon:=qgg w0 q 1099511627776 ((levM 4 s).2) wr hM.out (by decide);obtain ⟨x0,hx0⟩:∃x,x=numM 1099511627776 ((levM 4 s).2):=⟨_,rfl⟩;rw [←hx0] at hcon;have HD0:=hide hx0;clear hx0;have r0:=hX.out.at 0 rfl;have r1:=hX.out.at 1 rfl;have r2:=hX.out.at 2 rfl;have r3:=hX.out.at 3 rfl
   go_wp2_with fail
   refine hcon.mono ?_
   rintro e w10 ⟨rfl,h9,k9⟩;have hx9:=hX.out.keep k9.1 (by decide);have hk9:=hKw.out.trans k9;have ho9:=HO.out.keepT9 k9.1 (by decide) (by decide);clear hcon hM hX hKw HO k9 r0 r1 r2 r3;have s0:=hx9.at 0 rfl;have s1:=hx9.at 1 rfl;have s2:=hx9.at 2 rfl;have s3:=hx9.at 3 rfl;have g0:=hx9.fz 1;have HM0:=hide (qdj h9 hx9 (by decide) (by decide) HGE.out 1 (.int .i64 (x0.1:Nat)));have HX0:=hide (show Bx (w10.setCell ⟨w.heap.size,1,none⟩ (.int .i64 (x0.1:Nat))) w.heap.size 36 #[.slice (some ⟨w.heap.size+1,0,none⟩) 4 4,.int .i64 (x0.1:Nat),.int .i64 0,.string {data:=#[]}] from hx9.put 1 (.int .i64 (x0.1:Nat)));have HK0:=hide (hk9.hi (Nat.le_refl _) 1 (.int .i64 (x0.1:Nat)));have HO0:=hide (ho9.keepT9 (qcf hx9 1 (.int .i64 (x0.1:Nat))) (by decide) (by decide));obtain ⟨w11,hww11⟩:∃wn,wn=w10.setCell ⟨w.heap.size,1,none⟩ (.int .i64 (x0.1:Nat)):=⟨_,rfl⟩;rw [←hww11] at HM0 HX0 HK0 HO0;clear h9 hx9 hk9 ho9;have hcon:=qgg w0 q 1099511627776 (x0.2) w11 HM0.out (by decide);obtain ⟨x1,hx1⟩:∃x,x=numM 1099511627776 (x0.2):=⟨_,rfl⟩;rw [←hx1] at hcon;have HD1:=hide hx1;clear hx1;have r0:=HX0.out.at 0 rfl;have r1:=HX0.out.at 1 rfl;have r2:=HX0.out.at 2 rfl;have r3:=HX0.out.at 3 rfl
   go_wp2_with fail
   rw [←hww11];clear hww11 s0 s1 s2 s3 g0
   refine hcon.mono ?_
   rintro e w12 ⟨rfl,h9,k9⟩;have hx9:=HX0.out.keep k9.1 (by decide);have hk9:=HK0.out.trans k9;have ho9:=HO0.out.keepT9 k9.1 (by decide) (by decide);clear hcon HM0 HX0 HK0 HO0 k9 r0 r1 r2 r3;have s0:=hx9.at 0 rfl;have s1:=hx9.at 1 rfl;have s2:=hx9.at 2 rfl;have s3:=hx9.at 3 rfl;have g1:=hx9.fz 2;have HM1:=hide (qdj h9 hx9 (by decide) (by decide) HGE.out 2 (.int .i64 (x1.1:Nat)));have HX1:=hide (show Bx (w12.setCell ⟨w.heap.size,2,none⟩ (.int .i64 (x1.1:Nat))) w.heap.size 36 #[.slice (some ⟨w.heap.size+1,0,none⟩) 4 4,.int .i64 (x0.1:Nat),.int .i64 (x1.1:Nat),.string {data:=#[]}] from hx9.put 2 (.int .i64 (x1.1:Nat)));have HK1:=hide (hk9.hi (Nat.le_refl _) 2 (.int .i64 (x1.1:Nat)));have HO1:=hide (ho9.keepT9 (qcf hx9 2 (.int .i64 (x1.1:Nat))) (by decide) (by decide));obtain ⟨w13,hww13⟩:∃wn,wn=w12.setCell ⟨w.heap.size,2,none⟩ (.int .i64 (x1.1:Nat)):=⟨_,rfl⟩;rw [←hww13] at HM1 HX1 HK1 HO1;clear h9 hx9 hk9 ho9;have hcon:=qp0 w0 q (x1.2) w13 HM1.out;obtain ⟨x2,hx2⟩:∃x,x=texM (x1.2):=⟨_,rfl⟩;rw [←hx2] at hcon;have HD2:=hide hx2;clear hx2;have r0:=HX1.out.at 0 rfl;have r1:=HX1.out.at 1 rfl;have r2:=HX1.out.at 2 rfl;have r3:=HX1.out.at 3 rfl
   go_wp2_with fail
   rw [←hww13];clear hww13 s0 s1 s2 s3 g1
   refine hcon.mono ?_
   rintro e w14 ⟨rfl,h9,k9⟩;have hx9:=HX1.out.keep k9.1 (by decide);have hk9:=HK1.out.trans k9;have ho9:=HO1.out.keepT9 k9.1 (by decide) (by decide);clear hcon HM1 HX1 HK1 HO1 k9 r0 r1 r2 r3;have s0:=hx9.at 0 rfl;have s1:=hx9.at 1 rfl;have s2:=hx9.at 2 rfl;have s3:=hx9.at 3 rfl;have g2:=hx9.fz 3;have HM2:=hide (qdj h9 hx9 (by decide) (by decide) HGE.out 3 (.string (bs x2.1)));have HX2:=hide (show Bx (w14.setCell ⟨w.heap.size,3,none⟩ (.string (bs x2.1))) w.heap.size 36 #[.slice (some ⟨w.heap.size+1,0,none⟩) 4 4,.int .i64 (x0.1:Nat),.int .i64 (x1.1:Nat),.string (bs x2.1)] from hx9.put 3 (.string (bs x2.1)));have HK2:=hide (hk9.hi (Nat.le_refl _) 3 (.string (bs x2.1)));have HO2:=hide (ho9.keepT9 (qcf hx9 3 (.string (bs x2.1))) (by decide) (by decide));obtain ⟨w15,hww15⟩:∃wn,wn=w14.setCell ⟨w.heap.size,3,none⟩ (.string (bs x2.1)):=⟨_,rfl⟩;rw [←hww15] at HM2 HX2 HK2 HO2;clear h9 hx9 hk9 ho9;have r0:=HX2.out.at 0 rfl;have r1:=HX2.out.at 1 rfl;have r2:=HX2.out.at 2 rfl;have r3:=HX2.out.at 3 rfl;have f0:=HX2.out.fz 0;have f1:=HX2.out.fz 1;have f2:=HX2.out.fz 2;have f3:=HX2.out.fz 3;have p1:=HX2.out.put 0 (.slice (some ⟨w.heap.size+1,0,none⟩) 4 4);have p2:=p1.put 1 (.int .i64 (x0.1:Nat));have p3:=p2.put 2 (.int .i64 (x1.1:Nat));have p4:=p3.put 3 (.string (bs x2.1));have m1:=qdj HM2.out HX2.out (by decide) (by decide) HGE.out 0 (.slice (some ⟨w.heap.size+1,0,none⟩) 4 4);have m2:=qdj m1 p1 (by decide) (by decide) HGE.out 1 (.int .i64 (x0.1:Nat));have m3:=qdj m2 p2 (by decide) (by decide) HGE.out 2 (.int .i64 (x1.1:Nat));have m4:=qdj m3 p3 (by decide) (by decide) HGE.out 3 (.string (bs x2.1));have q4:=(((HK2.out.hi (Nat.le_refl _) 0 (.slice (some ⟨w.heap.size+1,0,none⟩) 4 4)).hi (Nat.le_refl _) 1 (.int .i64 (x0.1:Nat))).hi (Nat.le_refl _) 2 (.int .i64 (x1.1:Nat))).hi (Nat.le_refl _) 3 (.string (bs x2.1))
   have o4:=(((HO2.out.keepT9 (qcf HX2.out 0 (.slice (some ⟨w.heap.size+1,0,none⟩) 4 4)) (by decide) (by decide)).keepT9 (qcf p1 1 (.int .i64 (x0.1:Nat))) (by decide) (by decide)).keepT9 (qcf p2 2 (.int .i64 (x1.1:Nat))) (by decide) (by decide)).keepT9 (qcf p3 3 (.string (bs x2.1))) (by decide) (by decide);obtain ⟨w9,hw9⟩:∃wn,wn=(((w15.setCell ⟨w.heap.size,0,none⟩ (.slice (some ⟨w.heap.size+1,0,none⟩) 4 4)).setCell ⟨w.heap.size,1,none⟩ (.int .i64 (x0.1:Nat))).setCell ⟨w.heap.size,2,none⟩ (.int .i64 (x1.1:Nat))).setCell ⟨w.heap.size,3,none⟩ (.string (bs x2.1)):=⟨_,rfl⟩;rw [←hw9] at p4 m4 q4 o4;have HM:=hide m4;have HK:=hide q4;have HO:=hide (o4.mono (show w.heap.size≤w.heap.size+1 by omega));have P5:=hide (show Bx w9 w.heap.size 36 #[.slice (some ⟨w.heap.size+1,0,none⟩) 4 4,.int .i64 (x0.1:Nat),.int .i64 (x1.1:Nat),.string (bs x2.1)] from p4);clear p1 p2 p3 p4 m1 m2 m3 m4 q4 o4 HM2 HX2 HK2 HO2;have e11:=hww15.symm;clear hww15;go_wp2;rw [←hw9];clear hw9 s0 s1 s2 s3 g2 e11 r0 r1 r2 r3 f0 f1 f2 f3;have z0:=P5.out.at 0 rfl;have z1:=P5.out.at 1 rfl;have z2:=P5.out.at 2 rfl;have z3:=P5.out.at 3 rfl
   have hT2:verM s=(((levM 4 s).1,(x0.1:Int),(x1.1:Int),x2.1),x2.2):=by unfold verM;rw [←HD0.out,←HD1.out,←HD2.out]
   refine bodyPost_ret (v:=.agg #[.slice (some ⟨w.heap.size+1,0,none⟩) 4 4,.int .i64 (x0.1:Nat),.int .i64 (x1.1:Nat),.string (bs x2.1)]) ?_ rfl ⟨_,_,S,by rw [hT2],HO.out,by rw [hT2];exact HE.out,by rw [hT2];exact HM.out,HK.out⟩
   clear hT2
   simp [results,Tryz.results49,go_sem, *]
end Go.Proofs.YtmeaiocohalphaaGreatDoor

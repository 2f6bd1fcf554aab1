/-
  What the statements' turn of files does.
-/
import Derived.Test.YtmeaiocohalphaaGreatDoorNf2
import Derived.Test.YtmeaiocohalphaaGreatDoorFsFn2
import Derived.Test.YtmeaiocohalphaaGreatDoorFiCut3
import Derived.ArgAppend
import Derived.Laws.OwnMore
import Derived.Test.YtmeaiocohalphaaGreatDoorSNum
import Derived.Test.YtmeaiocohalphaaGreatDoorMathSl
import Derived.Test.YtmeaiocohalphaaGreatDoorDMay
import Derived.Test.YtmeaiocohalphaaGreatDoorFsFn1
set_option maxHeartbeats 2000000
set_option maxRecDepth 100000
namespace Go.Proofs.YtmeaiocohalphaaGreatDoor
open Go.RowKit
set_option linter.unusedVariables false
set_option linter.unusedSimpArgs false
theorem qall {W w:World} {t0:TypeId} {q:Nat} (hk:KeepG t0 W w) (hq:W.heap.size≤q) (j:Nat) (v:Value):KeepG t0 W (w.setCell ⟨q,j,none⟩ v):=by
 intro k cs t fr ht hk';have h1:=hk k cs t fr ht hk';have hlt:=(Array.getElem?_eq_some_iff.1 hk').1;exact (heap_setCell_other w ⟨q,j,none⟩ k v (fun e:k=q=>by omega)).trans h1
theorem qahy {W w w':World} {t0:TypeId} {B:Nat} (hk:KeepG t0 W w) (hb:Below B w w') (hB:W.heap.size≤B):KeepG t0 W w':=by
 intro k cs t fr ht hk';have hlt:=(Array.getElem?_eq_some_iff.1 hk').1;exact (hb.block k (by omega)).trans (hk k cs t fr ht hk')
theorem MrK.hi {W w:World} {q:Nat} (h:MrK W w) (hq:W.heap.size≤q) (j:Nat) (v:Value):MrK W (w.setCell ⟨q,j,none⟩ v):=⟨qall h.1 hq j v,by simpa using h.2⟩
theorem MrK.low {W w w':World} {B:Nat} (h:MrK W w) (hb:Below B w w') (hB:W.heap.size≤B):MrK W w':=⟨qahy h.1 hb hB,Nat.le_trans h.2 hb.size⟩
theorem qc7 {w0 wx:World} {q A:Nat} {s:Mst} {t:TypeId} {cs:Array Value} (h:MrS w0 wx q s) (hA:Bx wx A t cs) (h1:100≠t) (h2:5≠t) (hge:w0.heap.size≤A) (j:Nat) (v:Value):
  MrS w0 (wx.setCell ⟨A,j,none⟩ v) q s:=h.keep (qb7 hA j v) h1 h2 (qct h.bel hge j v)
theorem qahz (w0:World) (q:Nat) (s:Mst) (w:World) (h:MrS w0 w q s):
  Calls Tryz.prog 109 #[.pointer (some ⟨q,0,none⟩)] w fun e w'=>e=.returned (aggM (tabM s).1)∧MrS w0 w' q (tabM s).2∧MrK w w':=by
 obtain ⟨w1,hw1⟩:∃w1,w1=w.alloc (.cells #[.string {data:=#[]},.int .i64 0,.int .i64 0,.string {data:=#[]},.string {data:=#[]}] 124):=⟨_,rfl⟩
 have hb1:Below w.heap.size w w1:=by rw [hw1];exact (Below.refl _ _).alloc (Nat.le_refl _) _
 have HS1:=hide (h.carry hb1);have HX1:=hide (show Bx w1 w.heap.size 124 #[.string {data:=#[]},.int .i64 0,.int .i64 0,.string {data:=#[]},.string {data:=#[]}] by rw [hw1];exact Bx.new w _ _);have HK1:=hide (MrK.below hb1);have HGE:=hide (show w0.heap.size≤w.heap.size from h.bel.size);have hTM:tabM s=tabM s:=rfl;obtain ⟨T,hT⟩:∃T,T=tabM s:=⟨_,rfl⟩;rw [←hT];have HT:=hide hT;clear hb1 h hTM hT
 go_enter Tryz.func109,Tryz.ntmps109
 have hcon:=qqq w0 q (s) w1 HS1.out;obtain ⟨x0,hx0⟩:∃x,x=texM (s):=⟨_,rfl⟩;rw [←hx0] at hcon;have HD0:=hide hx0;clear hx0
 go_wp2_with fail
 rw [←hw1];clear hw1
 refine hcon.mono ?_
 rintro e w2 ⟨rfl,h9,k9⟩;have hx9:=HX1.out.keep k9.1 (by decide);have HK2:=hide (HK1.out.trans k9);clear hcon HS1 HX1 HK1 k9;have r0:=hx9.at 0 rfl;have r1:=hx9.at 1 rfl;have r2:=hx9.at 2 rfl;have r3:=hx9.at 3 rfl;have r4:=hx9.at 4 rfl;have f0:=hx9.fz 0;have HS3:=hide (qc7 h9 hx9 (by decide) (by decide) HGE.out 0 (.string (bs x0.1)));have HX3:=hide (show Bx (w2.setCell ⟨w.heap.size,0,none⟩ (.string (bs x0.1))) w.heap.size 124 #[.string (bs x0.1),.int .i64 0,.int .i64 0,.string {data:=#[]},.string {data:=#[]}] from hx9.put 0 (.string (bs x0.1)));have HK3:=hide (HK2.out.hi (Nat.le_refl _) 0 (.string (bs x0.1)));obtain ⟨w3,hww3⟩:∃wn,wn=w2.setCell ⟨w.heap.size,0,none⟩ (.string (bs x0.1)):=⟨_,rfl⟩;rw [←hww3] at HS3 HX3 HK3;clear h9 hx9 HK2
 go_wp2_with fail
 rw [←hww3];clear hww3 r0 r1 r2 r3 r4 f0;have hcon:=qf0 w0 q 16384 (x0.2) w3 HS3.out (by decide);obtain ⟨x1,hx1⟩:∃x,x=numM 16384 (x0.2):=⟨_,rfl⟩;rw [←hx1] at hcon;have HD1:=hide hx1;clear hx1
 go_wp2_with fail
 refine hcon.mono ?_
 rintro e w4 ⟨rfl,h9,k9⟩;have hx9:=HX3.out.keep k9.1 (by decide);have HK4:=hide (HK3.out.trans k9);clear hcon HS3 HX3 HK3 k9;have r0:=hx9.at 0 rfl;have r1:=hx9.at 1 rfl;have r2:=hx9.at 2 rfl;have r3:=hx9.at 3 rfl;have r4:=hx9.at 4 rfl;have f1:=hx9.fz 1;have HS5:=hide (qc7 h9 hx9 (by decide) (by decide) HGE.out 1 (.int .i64 (x1.1:Nat)));have HX5:=hide (show Bx (w4.setCell ⟨w.heap.size,1,none⟩ (.int .i64 (x1.1:Nat))) w.heap.size 124 #[.string (bs x0.1),.int .i64 (x1.1:Nat),.int .i64 0,.string {data:=#[]},.string {data:=#[]}] from hx9.put 1 (.int .i64 (x1.1:Nat)));have HK5:=hide (HK4.out.hi (Nat.le_refl _) 1 (.int .i64 (x1.1:Nat)));obtain ⟨w5,hww5⟩:∃wn,wn=w4.setCell ⟨w.heap.size,1,none⟩ (.int .i64 (x1.1:Nat)):=⟨_,rfl⟩;rw [←hww5] at HS5 HX5 HK5;clear h9 hx9 HK4
 go_wp2_with fail
 rw [←hww5];clear hww5 r0 r1 r2 r3 r4 f1;have hcon:=qf0 w0 q 65536 (x1.2) w5 HS5.out (by decide);obtain ⟨x2,hx2⟩:∃x,x=numM 65536 (x1.2):=⟨_,rfl⟩;rw [←hx2] at hcon;have HD2:=hide hx2;clear hx2
 go_wp2_with fail
 refine hcon.mono ?_
 rintro e w6 ⟨rfl,h9,k9⟩;have hx9:=HX5.out.keep k9.1 (by decide);have HK6:=hide (HK5.out.trans k9);clear hcon HS5 HX5 HK5 k9;have r0:=hx9.at 0 rfl;have r1:=hx9.at 1 rfl;have r2:=hx9.at 2 rfl;have r3:=hx9.at 3 rfl;have r4:=hx9.at 4 rfl;have f2:=hx9.fz 2;have HS7:=hide (qc7 h9 hx9 (by decide) (by decide) HGE.out 2 (.int .i64 (x2.1:Nat)));have HX7:=hide (show Bx (w6.setCell ⟨w.heap.size,2,none⟩ (.int .i64 (x2.1:Nat))) w.heap.size 124 #[.string (bs x0.1),.int .i64 (x1.1:Nat),.int .i64 (x2.1:Nat),.string {data:=#[]},.string {data:=#[]}] from hx9.put 2 (.int .i64 (x2.1:Nat)));have HK7:=hide (HK6.out.hi (Nat.le_refl _) 2 (.int .i64 (x2.1:Nat)));obtain ⟨w7,hww7⟩:∃wn,wn=w6.setCell ⟨w.heap.size,2,none⟩ (.int .i64 (x2.1:Nat)):=⟨_,rfl⟩;rw [←hww7] at HS7 HX7 HK7;clear h9 hx9 HK6
 go_wp2_with fail
 rw [←hww7];clear hww7 r0 r1 r2 r3 r4 f2;have hcon:=qqq w0 q (x2.2) w7 HS7.out;obtain ⟨x3,hx3⟩:∃x,x=texM (x2.2):=⟨_,rfl⟩;rw [←hx3] at hcon;have HD3:=hide hx3;clear hx3
 go_wp2_with fail
 refine hcon.mono ?_
 rintro e w8 ⟨rfl,h9,k9⟩;have hx9:=HX7.out.keep k9.1 (by decide);have HK8:=hide (HK7.out.trans k9);clear hcon HS7 HX7 HK7 k9;have r0:=hx9.at 0 rfl;have r1:=hx9.at 1 rfl;have r2:=hx9.at 2 rfl;have r3:=hx9.at 3 rfl;have r4:=hx9.at 4 rfl;have f3:=hx9.fz 3;have HS9:=hide (qc7 h9 hx9 (by decide) (by decide) HGE.out 3 (.string (bs x3.1)));have HX9:=hide (show Bx (w8.setCell ⟨w.heap.size,3,none⟩ (.string (bs x3.1))) w.heap.size 124 #[.string (bs x0.1),.int .i64 (x1.1:Nat),.int .i64 (x2.1:Nat),.string (bs x3.1),.string {data:=#[]}] from hx9.put 3 (.string (bs x3.1)));have HK9:=hide (HK8.out.hi (Nat.le_refl _) 3 (.string (bs x3.1)));obtain ⟨w9,hww9⟩:∃wn,wn=w8.setCell ⟨w.heap.size,3,none⟩ (.string (bs x3.1)):=⟨_,rfl⟩;rw [←hww9] at HS9 HX9 HK9;clear h9 hx9 HK8
 go_wp2_with fail
 rw [←hww9];clear hww9 r0 r1 r2 r3 r4 f3;have hcon:=qqq w0 q (x3.2) w9 HS9.out;obtain ⟨x4,hx4⟩:∃x,x=texM (x3.2):=⟨_,rfl⟩;rw [←hx4] at hcon;have HD4:=hide hx4;clear hx4
 go_wp2_with fail
 refine hcon.mono ?_
 rintro e w10 ⟨rfl,h9,k9⟩;have hx9:=HX9.out.keep k9.1 (by decide);have HK10:=hide (HK9.out.trans k9);clear hcon HS9 HX9 HK9 k9;have r0:=hx9.at 0 rfl;have r1:=hx9.at 1 rfl;have r2:=hx9.at 2 rfl;have r3:=hx9.at 3 rfl;have r4:=hx9.at 4 rfl;have f4:=hx9.fz 4;have HS11:=hide (qc7 h9 hx9 (by decide) (by decide) HGE.out 4 (.string (bs x4.1)));have HX11:=hide (show Bx (w10.setCell ⟨w.heap.size,4,none⟩ (.string (bs x4.1))) w.heap.size 124 #[.string (bs x0.1),.int .i64 (x1.1:Nat),.int .i64 (x2.1:Nat),.string (bs x3.1),.string (bs x4.1)] from hx9.put 4 (.string (bs x4.1)));have HK11:=hide (HK10.out.hi (Nat.le_refl _) 4 (.string (bs x4.1)));obtain ⟨w11,hww11⟩:∃wn,wn=w10.setCell ⟨w.heap.size,4,none⟩ (.string (bs x4.1)):=⟨_,rfl⟩;rw [←hww11] at HS11 HX11 HK11;clear h9 hx9 HK10;have s0:=HX11.out.at 0 rfl;have s1:=HX11.out.at 1 rfl;have s2:=HX11.out.at 2 rfl;have s3:=HX11.out.at 3 rfl;have s4:=HX11.out.at 4 rfl;have g0:=HX11.out.fz 0;have g1:=HX11.out.fz 1;have g2:=HX11.out.fz 2;have g3:=HX11.out.fz 3;have g4:=HX11.out.fz 4;have p1:=HX11.out.put 0 (.string (bs x0.1));have p2:=p1.put 1 (.int .i64 (x1.1:Nat));have p3:=p2.put 2 (.int .i64 (x2.1:Nat));have p4:=p3.put 3 (.string (bs x3.1));have p5:=p4.put 4 (.string (bs x4.1));have m1:=qc7 HS11.out HX11.out (by decide) (by decide) HGE.out 0 (.string (bs x0.1));have m2:=qc7 m1 p1 (by decide) (by decide) HGE.out 1 (.int .i64 (x1.1:Nat));have m3:=qc7 m2 p2 (by decide) (by decide) HGE.out 2 (.int .i64 (x2.1:Nat));have m4:=qc7 m3 p3 (by decide) (by decide) HGE.out 3 (.string (bs x3.1));have m5:=qc7 m4 p4 (by decide) (by decide) HGE.out 4 (.string (bs x4.1));have HK:=hide (((((HK11.out.hi (Nat.le_refl _) 0 (.string (bs x0.1))).hi (Nat.le_refl _) 1 (.int .i64 (x1.1:Nat))).hi (Nat.le_refl _) 2 (.int .i64 (x2.1:Nat))).hi (Nat.le_refl _) 3 (.string (bs x3.1))).hi (Nat.le_refl _) 4 (.string (bs x4.1)))
 obtain ⟨w9,hw9⟩:∃wn,wn=((((w11.setCell ⟨w.heap.size,0,none⟩ (.string (bs x0.1))).setCell ⟨w.heap.size,1,none⟩ (.int .i64 (x1.1:Nat))).setCell ⟨w.heap.size,2,none⟩ (.int .i64 (x2.1:Nat))).setCell ⟨w.heap.size,3,none⟩ (.string (bs x3.1))).setCell ⟨w.heap.size,4,none⟩ (.string (bs x4.1)):=⟨_,rfl⟩;rw [←hw9] at p5 m5 HK;have HM:=hide m5;have P5:=hide (show Bx w9 w.heap.size 124 #[.string (bs x0.1),.int .i64 (x1.1:Nat),.int .i64 (x2.1:Nat),.string (bs x3.1),.string (bs x4.1)] from p5);clear p1 p2 p3 p4 p5 m1 m2 m3 m4 m5 HS11 HX11 HK11;have e11:=hww11.symm;clear hww11;go_wp2;rw [←hw9];clear hw9 s0 s1 s2 s3 s4 g0 g1 g2 g3 g4 e11 r0 r1 r2 r3 r4 f4;have z0:=P5.out.at 0 rfl;have z1:=P5.out.at 1 rfl;have z2:=P5.out.at 2 rfl;have z3:=P5.out.at 3 rfl;have z4:=P5.out.at 4 rfl
 have hT2:T=((x0.1,(x1.1:Int),(x2.1:Int),x3.1,x4.1),x4.2):=by rw [HT.out];unfold tabM;rw [←HD0.out,←HD1.out,←HD2.out,←HD3.out,←HD4.out]
 refine bodyPost_ret (v:=.agg #[.string (bs x0.1),.int .i64 (x1.1:Nat),.int .i64 (x2.1:Nat),.string (bs x3.1),.string (bs x4.1)]) ?_ rfl ⟨by rw [hT2];rfl,by rw [hT2];exact HM.out,HK.out⟩
 clear hT2
 simp [results,Tryz.results109,go_sem, *]
structure LvH (w:World) (base G i:Nat) (S:Lvs):Prop where
 ow:OwG 1 ecW 105 w base (.slice (some ⟨G,0,none⟩) 4 4) S
 len:S.length=4
 lo:∀k (h:k<S.length),k<i→OwM w base (S[k]).1 (S[k]).2
 up:∀k (h:k<S.length),i≤k→S[k]=(.slice none 0 0,[])
 bw:base≤w.heap.size
structure LvI (w:World) (base hi G i:Nat) (S:Lvs):Prop where
 ow:OwG 1 ecW 105 w base (.slice (some ⟨G,0,none⟩) 4 4) S
 len:S.length=4
 lo:∀k (h:k<S.length),k<i→OwM w base (S[k]).1 (S[k]).2∧∀gg,(S[k]).1.ownBlock=some gg→gg<hi
 at_:∀h:i<S.length,OwM w hi (S[i]).1 (S[i]).2
 up:∀k (h:k<S.length),i<k→S[k]=(.slice none 0 0,[])
 bh:base≤hi
 hw:hi≤w.heap.size
theorem LvH.keep {w w':World} {base G i:Nat} {S:Lvs} {t:TypeId} (h:LvH w base G i S) (hk:KeepG t w w') (h1:124≠t) (h2:105≠t) (hs:w.heap.size≤w'.heap.size):LvH w' base G i S:=
 ⟨OwG.keep h.ow hk h2,h.len,fun k hk1 hk2=>OwG.keep (h.lo k hk1 hk2) hk h1,h.up,Nat.le_trans h.bw hs⟩
theorem LvI.keep {w w':World} {base hi G i:Nat} {S:Lvs} {t:TypeId} (h:LvI w base hi G i S) (hk:KeepG t w w') (h1:124≠t) (h2:105≠t) (hs:w.heap.size≤w'.heap.size):LvI w' base hi G i S:=
 ⟨OwG.keep h.ow hk h2,h.len,fun k hk1 hk2=>⟨OwG.keep (h.lo k hk1 hk2).1 hk h1,(h.lo k hk1 hk2).2⟩,fun h9=>OwG.keep (h.at_ h9) hk h1,h.up,h.bh,Nat.le_trans h.hw hs⟩
theorem LvI.carry {w w':World} {base hi G i:Nat} {S:Lvs} (h:LvI w base hi G i S) (hb:Below w.heap.size w w'):LvI w' base hi G i S:=
 ⟨OwG.carry h.ow hb,h.len,fun k hk1 hk2=>⟨OwG.carry (h.lo k hk1 hk2).1 hb,(h.lo k hk1 hk2).2⟩,fun h9=>OwG.carry (h.at_ h9) hb,h.up,h.bh,Nat.le_trans h.hw hb.size⟩
theorem LvH.begin {w:World} {base G i:Nat} {S:Lvs} (h:LvH w base G i S):LvI w base w.heap.size G i S:=
 ⟨h.ow,h.len,fun k hk1 hk2=>⟨h.lo k hk1 hk2,fun gg hg=>(OwG.ltV (h.lo k hk1 hk2) hg).2⟩,fun h9=>by rw [h.up i h9 (Nat.le_refl _)];exact OwG.nil _ _,fun k hk1 hk2=>h.up k hk1 (by omega),h.bw,Nat.le_refl _⟩
theorem LvI.done {w:World} {base hi G i:Nat} {S:Lvs} (h:LvI w base hi G i S):LvH w base G (i+1) S:=
 ⟨h.ow,h.len,fun k hk1 hk2=>by
  rcases Nat.lt_or_ge k i with q | q
  ·exact (h.lo k hk1 q).1
  ·obtain rfl:k=i:=by omega
   exact (h.at_ hk1).mono h.bh,fun k hk1 hk2=>h.up k hk1 (by omega),Nat.le_trans h.bh h.hw⟩
theorem LvH.all {w:World} {base G:Nat} {S:Lvs} (h:LvH w base G 4 S):OwVw w base (.slice (some ⟨G,0,none⟩) 4 4) S:=by
 refine ⟨h.ow,fun p hp=>?_⟩;obtain ⟨k,hk,rfl⟩:=List.mem_iff_getElem.1 hp;exact h.lo k hk (by have:=h.len;omega)
theorem LvI.cell {w:World} {base hi G i:Nat} {S:Lvs} (h:LvI w base hi G i S) (hi4:i<S.length):w.cell? ⟨G,i,none⟩=some (S[i]).1:=by
 obtain ⟨b,off,e,hc⟩:=RdG.atB (OwG.rd qqn h.ow) (Below.refl _ _) i hi4;have h1:=hc 0 (S[i]).1 rfl
 have hoff:b=G∧off=0:=by
  injection e with e
  injection e with e1 e2 e3
  exact ⟨e1.symm,e2.symm⟩
 obtain ⟨rfl,rfl⟩:=hoff
 simpa using h1
theorem LvI.row {w:World} {base hi G i:Nat} {S:Lvs} (h:LvI w base hi G i S) (hi4:i<S.length):∃a0 n0 c0 l0,S[i]=(.slice a0 n0 c0,l0)∧n0=l0.length:=by
 obtain ⟨a,c,e⟩:=RdG.form (OwG.rd qadh (h.at_ hi4));exact ⟨a,_,c,(S[i]).2,Prod.ext e rfl,rfl⟩
theorem LvI.app {w:World} {base hi G i:Nat} {S:Lvs} (h:LvI w base hi G i S) (hi4:i<S.length) {a0:Option Addr} {n0 c0:Nat} {l0:List Mta} (hr:S[i]=(.slice a0 n0 c0,l0)) (hl:l0.length≤100000) (m:Mta):
  ∃g8 n8 c8 w8,(Builtin.append_ #[105,105] 105 #[.slice a0 n0 c0,.slice (some ⟨w.heap.size,0,none⟩) 1 1]).run Tryz.prog (w.alloc (.cells #[.string (bs m.1),.int .i64 m.2.1,.int .i64 m.2.2.1,.string (bs (Mlo m)),.string (bs (Mhi m))] 124))=.ok (.slice (some ⟨g8,0,none⟩) n8 c8) w8∧
   Below hi w w8∧KeepG 124 w w8∧w8.cell? ⟨G,i,none⟩=some (.slice a0 n0 c0)∧w8.frozen? ⟨G,i,none⟩=false∧
   LvI (w8.setCell ⟨G,i,none⟩ (.slice (some ⟨g8,0,none⟩) n8 c8)) base hi G i (S.set i (.slice (some ⟨g8,0,none⟩) n8 c8,l0++[m]))∧Below base w (w8.setCell ⟨G,i,none⟩ (.slice (some ⟨g8,0,none⟩) n8 c8))∧KeepG 105 w8 (w8.setCell ⟨G,i,none⟩ (.slice (some ⟨g8,0,none⟩) n8 c8)):=by
 have hat:=h.at_ hi4;rw [hr] at hat;obtain ⟨g8,n8,c8,w8,hn8,hrun,ho,hbl,hk,hon⟩:=qady (base:=hi) hat h.hw (by show l0.length≤1000000;omega) m;have hO8:OwG 1 ecW 105 w8 base (.slice (some ⟨G,0,none⟩) 4 4) S:=OwG.keep h.ow hk (by decide);have hb8:base≤w8.heap.size:=Nat.le_trans h.bh (Nat.le_trans h.hw hbl.size);obtain ⟨s1,s2,s3⟩:=hO8.setW1 i (.slice (some ⟨g8,0,none⟩) n8 c8,l0++[m]) hb8
 have hc8:w8.cell? ⟨G,i,none⟩=some (.slice a0 n0 c0):=by
  obtain ⟨b,off,e,hc⟩:=RdG.atB (OwG.rd qqn hO8) (Below.refl _ _) i hi4;have h1:=hc 0 (S[i]).1 rfl
  have hoff:b=G∧off=0:=by
   injection e with e
   injection e with e1 e2 e3
   exact ⟨e1.symm,e2.symm⟩
  obtain ⟨rfl,rfl⟩:=hoff;rw [hr] at h1
  simpa using h1
 refine ⟨g8,n8,c8,w8,hrun,hbl,hk,hc8,hO8.fzV i,⟨s1,by simpa using h.len,fun k hk1 hk2=>?_,fun h9=>?_,fun k hk1 hk2=>?_,h.bh, ?_⟩,(hbl.mono h.bh).trans s2,s3⟩
 ·have hk0:k<S.length:=by simpa using hk1
  have e:(S.set i (.slice (some ⟨g8,0,none⟩) n8 c8,l0++[m]))[k]=S[k]:=by rw [List.getElem_set_ne (by omega)]
  rw [e];obtain ⟨q1,q2⟩:=h.lo k hk0 hk2;refine ⟨OwG.keep (OwG.only q1 hon fun gg hg hh=>?_) s3 (by decide),q2⟩;have hat2:OwM w hi (.slice a0 n0 c0) l0:=hat
  have:=(OwG.ltV hat2 hh).1
  have:=q2 gg hg
  omega
 ·have e:(S.set i (.slice (some ⟨g8,0,none⟩) n8 c8,l0++[m]))[i]=(.slice (some ⟨g8,0,none⟩) n8 c8,l0++[m]):=by rw [List.getElem_set_self]
  rw [e];exact OwG.keep ho s3 (by decide)
 ·have hk0:k<S.length:=by simpa using hk1
  have e:(S.set i (.slice (some ⟨g8,0,none⟩) n8 c8,l0++[m]))[k]=S[k]:=by rw [List.getElem_set_ne (by omega)]
  rw [e];exact h.up k hk0 hk2
 ·have:=Nat.le_trans h.hw hbl.size
  simpa using this
theorem qah0 {P:Program} {o:Oper} {a:Act} {s x:Operand} {t:TypeId} {vs vx v:Value} {w w':World} (ho:o.op=.call {callee:=.builtin .append,args:=#[s,x],argTypes:=#[t,t]}) (hs:a.eval s=vs) (hx:a.eval x=vx) (hrun:(Builtin.append_ #[t,t] o.type #[vs,vx]).run P w=.ok v w'):(execOp a.eval o).run P w=.ok (.value v) w':=by
 simp [execOp,ho,resolve,invoke,builtin,hs,hx,hrun,Result.andThen]
end Go.Proofs.YtmeaiocohalphaaGreatDoor

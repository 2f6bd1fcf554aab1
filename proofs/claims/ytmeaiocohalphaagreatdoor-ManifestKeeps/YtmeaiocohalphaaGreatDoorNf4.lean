/-
  What manifest's reader does: a version.
-/
import Derived.Test.YtmeaiocohalphaaGreatDoorTu6
import Derived.Test.YtmeaiocohalphaaGreatDoorRegL
set_option maxHeartbeats 4000000
set_option maxRecDepth 100000
namespace Go.Proofs.YtmeaiocohalphaaGreatDoor
open Go.RowKit
set_option linter.unusedVariables false
set_option linter.unusedSimpArgs false
theorem OwVw.keepT9 {w w':World} {base:Nat} {v:Value} {R:Lvs} {t:TypeId} (h:OwVw w base v R) (hk:KeepG t w w') (h1:124≠t) (h2:105≠t):OwVw w' base v R:=
 ⟨OwG.keep h.1 hk h2,fun p hp=>OwG.keep (h.2 p hp) hk h1⟩
theorem qad0 {S:Lvs} {k:Nat} (h:k<S.length):lvs (S.take (k+1))=lvs (S.take k)++[(S[k]).2]:=by
 show (S.take (k+1)).map (·.2)=_
 rw [List.take_succ_eq_append_getElem h,List.map_append];rfl
theorem qzu (w0:World) (q:Nat) (s:Mst) (w:World) (h:MrS w0 w q s):
  Calls Tryz.prog 49 #[.pointer (some ⟨q,0,none⟩)] w fun e w'=>∃a c S,e=.returned (.agg #[.slice a 4 c,.int .i64 (verM s).1.2.1,.int .i64 (verM s).1.2.2.1,.string (bs (verM s).1.2.2.2)])∧OwVw w' w.heap.size (.slice a 4 c) S∧lvs S=(verM s).1.1∧MrS w0 w' q (verM s).2∧MrK w w':=by
 obtain ⟨w1,hw1⟩:∃w1,w1=w.alloc (.cells #[.slice none 0 0,.int .i64 0,.int .i64 0,.string {data:=#[]}] 36):=⟨_,rfl⟩
 have hb1:Below w.heap.size w w1:=by rw [hw1];exact (Below.refl _ _).alloc (Nat.le_refl _) _
 have hs1:w1.heap.size=w.heap.size+1:=by rw [hw1];simp
 have hx1:Bx w1 w.heap.size 36 #[.slice none 0 0,.int .i64 0,.int .i64 0,.string {data:=#[]}]:=by rw [hw1];exact Bx.new w _ _
 obtain ⟨w2,hmk,o2,b2⟩:=qaiw w1 4 (by omega);have hmk2:(Instr.makeSlice 34 (.int .i64 4) (.int .i64 4)).run Tryz.prog w1=.ok (.slice (some ⟨w1.heap.size,0,none⟩) 4 4) w2:=hmk;rw [hs1] at hmk2 o2;have hx2:=hx1.carry b2;obtain ⟨r0,r1,r2,r3⟩:w2.cell? ⟨w.heap.size,0,none⟩=some (.slice none 0 0)∧w2.cell? ⟨w.heap.size,1,none⟩=some (.int .i64 0)∧w2.cell? ⟨w.heap.size,2,none⟩=some (.int .i64 0)∧w2.cell? ⟨w.heap.size,3,none⟩=some (.string {data:=#[]}):=⟨hx2.at 0 rfl,hx2.at 1 rfl,hx2.at 2 rfl,hx2.at 3 rfl⟩;have f0:=hx2.fz 0;have hge:w0.heap.size≤w.heap.size:=h.bel.size;have hm2:=(h.carry hb1).carry b2;have hk2:MrK w w2:=(MrK.below hb1).trans (MrK.below b2);have hm3:=qc7 hm2 hx2 (by decide) (by decide) hge 0 (.slice (some ⟨w.heap.size+1,0,none⟩) 4 4);have hk3:=hk2.hi (Nat.le_refl _) 0 (.slice (some ⟨w.heap.size+1,0,none⟩) 4 4);have hx3:Bx (w2.setCell ⟨w.heap.size,0,none⟩ (.slice (some ⟨w.heap.size+1,0,none⟩) 4 4)) w.heap.size 36 #[.slice (some ⟨w.heap.size+1,0,none⟩) 4 4,.int .i64 0,.int .i64 0,.string {data:=#[]}]:=hx2.put 0 (.slice (some ⟨w.heap.size+1,0,none⟩) 4 4);have ho3:OwG 1 ecW 105 (w2.setCell ⟨w.heap.size,0,none⟩ (.slice (some ⟨w.heap.size+1,0,none⟩) 4 4)) (w.heap.size+1) (.slice (some ⟨w.heap.size+1,0,none⟩) 4 4) (List.replicate 4 zVw):=OwG.keep o2 (qb7 hx2 0 _) (by decide)
 have hl3:LvH (w2.setCell ⟨w.heap.size,0,none⟩ (.slice (some ⟨w.heap.size+1,0,none⟩) 4 4)) (w.heap.size+1) (w.heap.size+1) 0 (List.replicate 4 zVw):=
  ⟨ho3,rfl,fun k _ hk=>absurd hk (by omega),fun k hk _=>by rw [List.getElem_replicate];rfl,by have:=b2.size;simp;omega⟩
 obtain ⟨w3,hw3⟩:∃w3,w3=w2.setCell ⟨w.heap.size,0,none⟩ (.slice (some ⟨w.heap.size+1,0,none⟩) 4 4):=⟨_,rfl⟩;rw [←hw3] at hm3 hk3 hx3 hl3;have HM3:=hide hm3;have HK3:=hide hk3;have HX3:=hide hx3;have HL3:=hide hl3;have HGE:=hide hge;have e3:=hw3.symm;obtain ⟨u0,u1,u2,u3⟩:w3.cell? ⟨w.heap.size,0,none⟩=some (.slice (some ⟨w.heap.size+1,0,none⟩) 4 4)∧w3.cell? ⟨w.heap.size,1,none⟩=some (.int .i64 0)∧w3.cell? ⟨w.heap.size,2,none⟩=some (.int .i64 0)∧w3.cell? ⟨w.heap.size,3,none⟩=some (.string {data:=#[]}):=⟨hx3.at 0 rfl,hx3.at 1 rfl,hx3.at 2 rfl,hx3.at 3 rfl⟩;clear hm3 hk3 hx3 hl3 ho3 hm2 hk2 hx2 hx1 hge hmk o2 b2 hb1 h hw3
 go_enter Tryz.func49,Tryz.ntmps49
 go_wp2_with (first | (refine qov rfl _ _ _ rfl rfl rfl (w':=w2) (v':=.slice (some ⟨w.heap.size+1,0,none⟩) 4 4) (by rw [←hw1];exact hmk2) ?_) | fail)
 clear hw1 hmk2 r0 r1 r2 r3 f0 e3 u0 u1 u2 u3 hs1
 go_loopw [9] (fun i wr=>∃(k:Nat) (S:Lvs),k≤4∧i=.int .i64 k∧Hid (LvH wr (w.heap.size+1) (w.heap.size+1) k S)∧Hid (lvs (S.take k)=(levM k s).1)∧Hid (MrS w0 wr q (levM k s).2)∧Hid (Bx wr w.heap.size 36 #[.slice (some ⟨w.heap.size+1,0,none⟩) 4 4,.int .i64 0,.int .i64 0,.string {data:=#[]}])∧Hid (MrK w wr)) (fun i _=>4 - (intOf i).toNat)
 case atStart=>exact ⟨0,_,by omega,rfl,HL3,hide rfl,HM3,HX3,HK3⟩
 case round=>
  clear HM3 HK3 HX3 HL3;obtain ⟨k,S,hk,rfl,hL,hE,hM,hX,hKw⟩:=hrel
  by_cases hlt:k<4
  ·have hlt':(k:Int)<4:=by omega
   obtain ⟨N,hN⟩:∃N,N=numM 32 (levM k s).2:=⟨_,rfl⟩;have HNN:=hide hN;have hcon:=qf0 w0 q 32 (levM k s).2 wr hM.out (by decide);rw [←hN] at hcon
   have hn32:N.1≤32:=by rw [hN];exact qaa0 _ _
   clear hN
   go_wp2_with fail
   refine hcon.mono ?_
   rintro e w4 ⟨rfl,h9,k9⟩;have HM4:=hide h9;have HX4:=hide (hX.out.keep k9.1 (by decide));have HI4:=hide ((hL.out.keep k9.1 (by decide) (by decide) k9.2).begin);have HK4:=hide (hKw.out.trans k9);obtain ⟨hi,hhi⟩:∃hi,hi=w4.heap.size:=⟨_,rfl⟩;rw [←hhi] at HI4;have HS4:=hide hL.out.up;clear hcon h9 k9 hhi hM hX hKw;obtain ⟨nn,hnn⟩:∃nn,nn=N.1:=⟨_,rfl⟩;rw [←hnn] at hn32 ⊢;have HN1:=hide hnn;clear hnn;go_wp2
   go_loopw [14] (fun i wr=>∃(j:Nat) (T:Lvs),j≤nn∧i=.int .i64 j∧Hid (LvI wr (w.heap.size+1) hi (w.heap.size+1) k T)∧Hid (lvs (T.take k)=(levM k s).1∧∀h:k<T.length,(T[k]).2=(tbsM j N.2).1)∧Hid (MrS w0 wr q (tbsM j N.2).2)∧Hid (Bx wr w.heap.size 36 #[.slice (some ⟨w.heap.size+1,0,none⟩) 4 4,.int .i64 0,.int .i64 0,.string {data:=#[]}])∧Hid (MrK w wr)) (fun i _=>nn - (intOf i).toNat)
   case atStart=>exact ⟨0,S,by omega,rfl,HI4,hide ⟨hE.out,fun h9=>by rw [HS4.out k h9 (Nat.le_refl _)];rfl⟩,HM4,HX4,HK4⟩
   case round=>
    clear HM4 HX4 HI4 HK4;obtain ⟨j,T,hj,rfl,hI,hT,hM,hX,hKw⟩:=hrel
    by_cases hjl:j<nn
    ·have hjl':(j:Int)<nn:=by omega
     have hk4:k<T.length:=by have:=hI.out.len;omega
     have dr:Below wr.heap.size wr wr.drew:=(Below.refl _ _).drew;obtain ⟨a0,n0,c0,l0,hrow,hn0⟩:=hI.out.row hk4
     have hl0:l0=(tbsM j N.2).1:=by have:=hT.out.2 hk4;rw [hrow] at this;exact this
     have hl0n:l0.length≤100000:=by rw [hl0,qj6];omega
     have HId:=hide (hI.out.carry dr);have HMd:=hide (hM.out.carry dr);have HXd:=hide (hX.out.carry dr);have HKd:=hide (hKw.out.trans (MrK.below dr));obtain ⟨M,hMt⟩:∃M,M=tabM (tbsM j N.2).2:=⟨_,rfl⟩;have HMM:=hide hMt;clear hMt
     have hK:Keeps (fun wx=>Bx wx w.heap.size 36 #[.slice (some ⟨w.heap.size+1,0,none⟩) 4 4,.int .i64 0,.int .i64 0,.string {data:=#[]}]∧wx.cell? ⟨w.heap.size+1,k,none⟩=some (.slice a0 n0 c0)):=fun wx wy h9 hb=>⟨h9.1.carry hb,qaa _ _ wx wy h9.2 hb⟩
     have hS0:(fun wx=>Bx wx w.heap.size 36 #[.slice (some ⟨w.heap.size+1,0,none⟩) 4 4,.int .i64 0,.int .i64 0,.string {data:=#[]}]∧wx.cell? ⟨w.heap.size+1,k,none⟩=some (.slice a0 n0 c0)) wr:=⟨hX.out,by have:=hI.out.cell hk4;rw [hrow] at this;exact this⟩;have h0:=hX.out.at 0 rfl;have HROW:=hide hrow;have HL0:=hide hl0;have HL0n:=hide hl0n;have HT:=hide hT.out.1;clear hI hT hM hX hKw dr hrow hl0 hl0n hn0;go_wp2
     refine qdb hK 13 (by kernel_rfl) hS0 ?_
     clear hS0 h0;intro hS;generalize wr.drew=wd at *
     refine qaq (i:=0) (v:=?qvv0) rfl (by kernel_rfl) (by kernel_rfl) (by kernel_rfl) rfl (by kernel_rfl) (by kernel_rfl) (by kernel_rfl) ?qvy0 hS ?qvr0
     case qvy0=>(rintro wx ⟨x1,x2⟩;(have y0:=x1.at 0 rfl);go_simp;all_goals (with_reducible rfl))
     try simp only [Act.put,List.setIfInBounds_toArray,List.set_cons_zero,List.set_cons_succ]
     refine qaq (i:=1) (v:=?qvv1) rfl (by kernel_rfl) (by kernel_rfl) (by kernel_rfl) rfl (by kernel_rfl) (by kernel_rfl) (by kernel_rfl) ?qvy1 hS ?qvr1
     case qvy1=>(rintro wx ⟨x1,x2⟩;(have y0:=x1.at 0 rfl);go_simp;all_goals (with_reducible rfl))
     try simp only [Act.put,List.setIfInBounds_toArray,List.set_cons_zero,List.set_cons_succ]
     refine qaq (i:=2) (v:=?qvv2) rfl (by kernel_rfl) (by kernel_rfl) (by kernel_rfl) rfl (by kernel_rfl) (by kernel_rfl) (by kernel_rfl) ?qvy2 hS ?qvr2
     case qvy2=>(rintro wx ⟨x1,x2⟩;(have y0:=x1.at 0 rfl);go_simp;all_goals (with_reducible rfl))
     try simp only [Act.put,List.setIfInBounds_toArray,List.set_cons_zero,List.set_cons_succ]
     refine qaq (i:=3) (v:=?qvv3) rfl (by kernel_rfl) (by kernel_rfl) (by kernel_rfl) rfl (by kernel_rfl) (by kernel_rfl) (by kernel_rfl) ?qvy3 hS ?qvr3
     case qvy3=>(rintro wx ⟨x1,x2⟩;(have y0:=x1.at 0 rfl);go_simp;all_goals (with_reducible rfl))
     try simp only [Act.put,List.setIfInBounds_toArray,List.set_cons_zero,List.set_cons_succ]
     refine qaq (i:=4) (v:=?qvv4) rfl (by kernel_rfl) (by kernel_rfl) (by kernel_rfl) rfl (by kernel_rfl) (by kernel_rfl) (by kernel_rfl) ?qvy4 hS ?qvr4
     case qvy4=>(rintro wx ⟨x1,x2⟩;(have y0:=x1.at 0 rfl);go_simp;all_goals (with_reducible rfl))
     try simp only [Act.put,List.setIfInBounds_toArray,List.set_cons_zero,List.set_cons_succ]
     refine qaq (i:=5) (v:=?qvv5) rfl (by kernel_rfl) (by kernel_rfl) (by kernel_rfl) rfl (by kernel_rfl) (by kernel_rfl) (by kernel_rfl) ?qvy5 hS ?qvr5
     case qvy5=>(rintro wx ⟨x1,x2⟩;(have y0:=x1.at 0 rfl);go_simp;all_goals (with_reducible rfl))
     try simp only [Act.put,List.setIfInBounds_toArray,List.set_cons_zero,List.set_cons_succ]
     refine qaq (i:=6) (v:=?qvv6) rfl (by kernel_rfl) (by kernel_rfl) (by kernel_rfl) rfl (by kernel_rfl) (by kernel_rfl) (by kernel_rfl) ?qvy6 hS ?qvr6
     case qvy6=>(rintro wx ⟨x1,x2⟩;(have y0:=x1.at 0 rfl);go_simp;all_goals (with_reducible rfl))
     try simp only [Act.put,List.setIfInBounds_toArray,List.set_cons_zero,List.set_cons_succ]
     refine qaq (i:=7) (v:=?qvv7) rfl (by kernel_rfl) (by kernel_rfl) (by kernel_rfl) rfl (by kernel_rfl) (by kernel_rfl) (by kernel_rfl) ?qvy7 hS ?qvr7
     case qvy7=>(rintro wx ⟨x1,x2⟩;(have y0:=x1.at 0 rfl);go_simp;all_goals (with_reducible rfl))
     try simp only [Act.put,List.setIfInBounds_toArray,List.set_cons_zero,List.set_cons_succ]
     refine qaq (i:=8) (v:=?qvv8) rfl (by kernel_rfl) (by kernel_rfl) (by kernel_rfl) rfl (by kernel_rfl) (by kernel_rfl) (by kernel_rfl) ?qvy8 hS ?qvr8
     case qvy8=>(rintro wx ⟨x1,x2⟩;(have y0:=x1.at 0 rfl);go_simp;all_goals (with_reducible rfl))
     try simp only [Act.put,List.setIfInBounds_toArray,List.set_cons_zero,List.set_cons_succ]
     have hcon:=qahz w0 q (tbsM j N.2).2 wd HMd.out;rw [←HMM.out] at hcon
     refine qgd (i:=9) (R:=fun v wy=>v=aggM M.1∧MrS w0 wy q M.2∧MrK wd wy) rfl (by kernel_rfl) (by kernel_rfl) (by go_simp;try rfl) (hcon.mono fun e wy h9=>⟨_,h9.1,rfl,h9.2.1,h9.2.2⟩) ?_
     rintro v9 wy ⟨rfl,hmy,hky⟩;have HXy:=HXd.out.keep hky.1 (by decide);have HIy:=HId.out.keep hky.1 (by decide) (by decide) hky.2;have HKy:=HKd.out.trans hky;have hcy:=HIy.cell hk4;rw [HROW.out] at hcy;refine ⟨⟨HXy,hcy⟩, ?_⟩;have hSy:Bx wy w.heap.size 36 #[.slice (some ⟨w.heap.size+1,0,none⟩) 4 4,.int .i64 0,.int .i64 0,.string {data:=#[]}]∧wy.cell? ⟨w.heap.size+1,k,none⟩=some (.slice a0 n0 c0):=⟨HXy,hcy⟩;clear hS hcon;have hS:=hSy;clear hSy;obtain ⟨g8,n8,c8,w8,hrun,HBl,hkM,hc8,hf8,hI8,hB8,hk8⟩:=HIy.app hk4 HROW.out HL0n.out M.1;have HX8:=HXy.keep hkM (by decide);have HM8:=(MrS.keep hmy hkM (by decide) (by decide) (hmy.bel.trans (HBl.mono (by have:=HIy.bh;have:=HGE.out;omega))));unfold aggM
     try simp only [Act.put,List.setIfInBounds_toArray,List.set_cons_zero,List.set_cons_succ]
     refine qcj (i:=10) (v:=.slice (some ⟨wy.heap.size,0,none⟩) 1 1) (w':=wy.alloc (.cells #[.string (bs M.1.1),.int .i64 M.1.2.1,.int .i64 M.1.2.2.1,.string (bs (Mlo M.1)),.string (bs (Mhi M.1))] 124)) rfl (by kernel_rfl) (by kernel_rfl) (by go_simp) (fun _=>hK _ _ hS ((Below.refl _ _).alloc (Nat.le_refl _) _)) ?_
     try simp only [Act.put,List.setIfInBounds_toArray,List.set_cons_zero,List.set_cons_succ]
     refine qcj (i:=11) (v:=.slice (some ⟨g8,0,none⟩) n8 c8) (w':=w8) rfl (by kernel_rfl) (by kernel_rfl) (qah0 rfl rfl rfl hrun) (fun _=>⟨HX8,hc8⟩) ?_
     clear hS;have hS:Bx w8 w.heap.size 36 #[.slice (some ⟨w.heap.size+1,0,none⟩) 4 4,.int .i64 0,.int .i64 0,.string {data:=#[]}]∧w8.cell? ⟨w.heap.size+1,k,none⟩=some (.slice a0 n0 c0):=⟨HX8,hc8⟩
     try simp only [Act.put,List.setIfInBounds_toArray,List.set_cons_zero,List.set_cons_succ]
     refine qcj (i:=12) (v:=.pointer (some ⟨w.heap.size+1,k,none⟩)) (w':=w8) rfl (by kernel_rfl) (by kernel_rfl) (by go_simp) (fun _=>hS) ?_
     try simp only [Act.put,List.setIfInBounds_toArray,List.set_cons_zero,List.set_cons_succ]
     refine qd2 (i:=13) (w':=w8.setCell ⟨w.heap.size+1,k,none⟩ (.slice (some ⟨g8,0,none⟩) n8 c8)) rfl (by kernel_rfl) (by kernel_rfl) (by kernel_rfl) (by go_simp) ?_
     try simp only [Act.put,List.setIfInBounds_toArray,List.set_cons_zero,List.set_cons_succ]
     refine qcm (by kernel_rfl) ?_ _
     refine NoPanic.normal ?_
     have HI9:=hide hI8;have HX9:=hide (HX8.keep hk8 (by decide))
     have HM9:=hide (show MrS w0 (w8.setCell ⟨w.heap.size+1,k,none⟩ (.slice (some ⟨g8,0,none⟩) n8 c8)) q (tbsM (j+1) N.2).2 by
      rw [tbsM,←HMM.out]
      exact HM8.keep hk8 (by decide) (by decide) (qct HM8.bel (by have:=HGE.out;omega) _ _))
     have HKK9:=hide ((HKy.low HBl (by have:=HIy.bh;omega)).hi (show w.heap.size≤w.heap.size+1 by omega) k (.slice (some ⟨g8,0,none⟩) n8 c8))
     have HT9:lvs ((T.set k (.slice (some ⟨g8,0,none⟩) n8 c8,l0++[M.1])).take k)=(levM k s).1∧∀h:k<(T.set k (.slice (some ⟨g8,0,none⟩) n8 c8,l0++[M.1])).length,((T.set k (.slice (some ⟨g8,0,none⟩) n8 c8,l0++[M.1]))[k]).2=(tbsM (j+1) N.2).1:=by
      refine ⟨?_,fun h9=>?_⟩
      ·rw [List.take_set_of_le (Nat.le_refl _)];exact HT.out
      ·rw [List.getElem_set_self,tbsM,←HMM.out,←HL0.out]
     clear hS hK HXy HIy HKy hmy hky hrun HBl hkM hc8 hI8 hB8 hk8 HX8 HM8;generalize w8.setCell ⟨w.heap.size+1,k,none⟩ (.slice (some ⟨g8,0,none⟩) n8 c8)=w9 at *;clear hf8;go_wp2;go_roundw
     case rel=>exact ⟨j+1,_,by omega,by go_num,HI9,hide HT9,HM9,HX9,HKK9⟩
     case measure=>simp only [intOf];omega
    ·have hd:decide ((j:Int)<nn)=false:=by simpa using (by omega:¬(j:Int)<nn)
     obtain rfl:j=nn:=by omega
     have hk4:k<T.length:=by have:=hI.out.len;omega
     have HL9:=hide hI.out.done
     have HE9:=hide (show lvs (T.take (k+1))=(levM (k+1) s).1 by
      rw [qad0 hk4,hT.out.1,hT.out.2 hk4,levM,←HNN.out,←HN1.out])
     have HM9:=hide (show MrS w0 wr q (levM (k+1) s).2 by
      rw [levM,←HNN.out,←HN1.out];exact hM.out)
     clear hI hT hM hk4;go_wp2;go_roundw
     case rel=>exact ⟨k+1,T,by omega,by go_num,HL9,HE9,HM9,hX,hKw⟩
     case measure=>simp only [intOf];omega
  ·have hd:decide ((k:Int)<4)=false:=by simpa using (by omega:¬(k:Int)<4)
   obtain rfl:k=4:=by omega
   have HO:=hide hL.out.all;have HE:=hide (show lvs S=(levM 4 s).1 by have:=hE.out;rw [List.take_of_length_le (by have:=hL.out.len;omega)] at this;exact this);clear hL hE hlt hk;have hcon:=qf0 w0 q 1099511627776 ((levM 4 s).2) wr hM.out (by decide);obtain ⟨x0,hx0⟩:∃x,x=numM 1099511627776 ((levM 4 s).2):=⟨_,rfl⟩;rw [←hx0] at hcon;have HD0:=hide hx0;clear hx0;have r0:=hX.out.at 0 rfl;have r1:=hX.out.at 1 rfl;have r2:=hX.out.at 2 rfl;have r3:=hX.out.at 3 rfl
   go_wp2_with fail
   refine hcon.mono ?_
   rintro e w10 ⟨rfl,h9,k9⟩;have hx9:=hX.out.keep k9.1 (by decide);have hk9:=hKw.out.trans k9;have ho9:=HO.out.keepT9 k9.1 (by decide) (by decide);clear hcon hM hX hKw HO k9 r0 r1 r2 r3;have s0:=hx9.at 0 rfl;have s1:=hx9.at 1 rfl;have s2:=hx9.at 2 rfl;have s3:=hx9.at 3 rfl;have g0:=hx9.fz 1;have HM0:=hide (qc7 h9 hx9 (by decide) (by decide) HGE.out 1 (.int .i64 (x0.1:Nat)));have HX0:=hide (show Bx (w10.setCell ⟨w.heap.size,1,none⟩ (.int .i64 (x0.1:Nat))) w.heap.size 36 #[.slice (some ⟨w.heap.size+1,0,none⟩) 4 4,.int .i64 (x0.1:Nat),.int .i64 0,.string {data:=#[]}] from hx9.put 1 (.int .i64 (x0.1:Nat)));have HK0:=hide (hk9.hi (Nat.le_refl _) 1 (.int .i64 (x0.1:Nat)));have HO0:=hide (ho9.keepT9 (qb7 hx9 1 (.int .i64 (x0.1:Nat))) (by decide) (by decide));obtain ⟨w11,hww11⟩:∃wn,wn=w10.setCell ⟨w.heap.size,1,none⟩ (.int .i64 (x0.1:Nat)):=⟨_,rfl⟩;rw [←hww11] at HM0 HX0 HK0 HO0;clear h9 hx9 hk9 ho9;have hcon:=qf0 w0 q 1099511627776 (x0.2) w11 HM0.out (by decide);obtain ⟨x1,hx1⟩:∃x,x=numM 1099511627776 (x0.2):=⟨_,rfl⟩;rw [←hx1] at hcon;have HD1:=hide hx1;clear hx1;have r0:=HX0.out.at 0 rfl;have r1:=HX0.out.at 1 rfl;have r2:=HX0.out.at 2 rfl;have r3:=HX0.out.at 3 rfl
   go_wp2_with fail
   rw [←hww11];clear hww11 s0 s1 s2 s3 g0
   refine hcon.mono ?_
   rintro e w12 ⟨rfl,h9,k9⟩;have hx9:=HX0.out.keep k9.1 (by decide);have hk9:=HK0.out.trans k9;have ho9:=HO0.out.keepT9 k9.1 (by decide) (by decide);clear hcon HM0 HX0 HK0 HO0 k9 r0 r1 r2 r3;have s0:=hx9.at 0 rfl;have s1:=hx9.at 1 rfl;have s2:=hx9.at 2 rfl;have s3:=hx9.at 3 rfl;have g1:=hx9.fz 2;have HM1:=hide (qc7 h9 hx9 (by decide) (by decide) HGE.out 2 (.int .i64 (x1.1:Nat)));have HX1:=hide (show Bx (w12.setCell ⟨w.heap.size,2,none⟩ (.int .i64 (x1.1:Nat))) w.heap.size 36 #[.slice (some ⟨w.heap.size+1,0,none⟩) 4 4,.int .i64 (x0.1:Nat),.int .i64 (x1.1:Nat),.string {data:=#[]}] from hx9.put 2 (.int .i64 (x1.1:Nat)));have HK1:=hide (hk9.hi (Nat.le_refl _) 2 (.int .i64 (x1.1:Nat)));have HO1:=hide (ho9.keepT9 (qb7 hx9 2 (.int .i64 (x1.1:Nat))) (by decide) (by decide));obtain ⟨w13,hww13⟩:∃wn,wn=w12.setCell ⟨w.heap.size,2,none⟩ (.int .i64 (x1.1:Nat)):=⟨_,rfl⟩;rw [←hww13] at HM1 HX1 HK1 HO1;clear h9 hx9 hk9 ho9;have hcon:=qqq w0 q (x1.2) w13 HM1.out;obtain ⟨x2,hx2⟩:∃x,x=texM (x1.2):=⟨_,rfl⟩;rw [←hx2] at hcon;have HD2:=hide hx2;clear hx2;have r0:=HX1.out.at 0 rfl;have r1:=HX1.out.at 1 rfl;have r2:=HX1.out.at 2 rfl;have r3:=HX1.out.at 3 rfl
   go_wp2_with fail
   rw [←hww13];clear hww13 s0 s1 s2 s3 g1
   refine hcon.mono ?_
   rintro e w14 ⟨rfl,h9,k9⟩;have hx9:=HX1.out.keep k9.1 (by decide);have hk9:=HK1.out.trans k9;have ho9:=HO1.out.keepT9 k9.1 (by decide) (by decide);clear hcon HM1 HX1 HK1 HO1 k9 r0 r1 r2 r3;have s0:=hx9.at 0 rfl;have s1:=hx9.at 1 rfl;have s2:=hx9.at 2 rfl;have s3:=hx9.at 3 rfl;have g2:=hx9.fz 3;have HM2:=hide (qc7 h9 hx9 (by decide) (by decide) HGE.out 3 (.string (bs x2.1)));have HX2:=hide (show Bx (w14.setCell ⟨w.heap.size,3,none⟩ (.string (bs x2.1))) w.heap.size 36 #[.slice (some ⟨w.heap.size+1,0,none⟩) 4 4,.int .i64 (x0.1:Nat),.int .i64 (x1.1:Nat),.string (bs x2.1)] from hx9.put 3 (.string (bs x2.1)));have HK2:=hide (hk9.hi (Nat.le_refl _) 3 (.string (bs x2.1)));have HO2:=hide (ho9.keepT9 (qb7 hx9 3 (.string (bs x2.1))) (by decide) (by decide));obtain ⟨w15,hww15⟩:∃wn,wn=w14.setCell ⟨w.heap.size,3,none⟩ (.string (bs x2.1)):=⟨_,rfl⟩;rw [←hww15] at HM2 HX2 HK2 HO2;clear h9 hx9 hk9 ho9;have r0:=HX2.out.at 0 rfl;have r1:=HX2.out.at 1 rfl;have r2:=HX2.out.at 2 rfl;have r3:=HX2.out.at 3 rfl;have f0:=HX2.out.fz 0;have f1:=HX2.out.fz 1;have f2:=HX2.out.fz 2;have f3:=HX2.out.fz 3;have p1:=HX2.out.put 0 (.slice (some ⟨w.heap.size+1,0,none⟩) 4 4);have p2:=p1.put 1 (.int .i64 (x0.1:Nat));have p3:=p2.put 2 (.int .i64 (x1.1:Nat));have p4:=p3.put 3 (.string (bs x2.1));have m1:=qc7 HM2.out HX2.out (by decide) (by decide) HGE.out 0 (.slice (some ⟨w.heap.size+1,0,none⟩) 4 4);have m2:=qc7 m1 p1 (by decide) (by decide) HGE.out 1 (.int .i64 (x0.1:Nat));have m3:=qc7 m2 p2 (by decide) (by decide) HGE.out 2 (.int .i64 (x1.1:Nat));have m4:=qc7 m3 p3 (by decide) (by decide) HGE.out 3 (.string (bs x2.1));have q4:=(((HK2.out.hi (Nat.le_refl _) 0 (.slice (some ⟨w.heap.size+1,0,none⟩) 4 4)).hi (Nat.le_refl _) 1 (.int .i64 (x0.1:Nat))).hi (Nat.le_refl _) 2 (.int .i64 (x1.1:Nat))).hi (Nat.le_refl _) 3 (.string (bs x2.1))
   have o4:=(((HO2.out.keepT9 (qb7 HX2.out 0 (.slice (some ⟨w.heap.size+1,0,none⟩) 4 4)) (by decide) (by decide)).keepT9 (qb7 p1 1 (.int .i64 (x0.1:Nat))) (by decide) (by decide)).keepT9 (qb7 p2 2 (.int .i64 (x1.1:Nat))) (by decide) (by decide)).keepT9 (qb7 p3 3 (.string (bs x2.1))) (by decide) (by decide);obtain ⟨w9,hw9⟩:∃wn,wn=(((w15.setCell ⟨w.heap.size,0,none⟩ (.slice (some ⟨w.heap.size+1,0,none⟩) 4 4)).setCell ⟨w.heap.size,1,none⟩ (.int .i64 (x0.1:Nat))).setCell ⟨w.heap.size,2,none⟩ (.int .i64 (x1.1:Nat))).setCell ⟨w.heap.size,3,none⟩ (.string (bs x2.1)):=⟨_,rfl⟩;rw [←hw9] at p4 m4 q4 o4;have HM:=hide m4;have HK:=hide q4;have HO:=hide (o4.mono (show w.heap.size≤w.heap.size+1 by omega));have P5:=hide (show Bx w9 w.heap.size 36 #[.slice (some ⟨w.heap.size+1,0,none⟩) 4 4,.int .i64 (x0.1:Nat),.int .i64 (x1.1:Nat),.string (bs x2.1)] from p4);clear p1 p2 p3 p4 m1 m2 m3 m4 q4 o4 HM2 HX2 HK2 HO2;have e11:=hww15.symm;clear hww15;go_wp2;rw [←hw9];clear hw9 s0 s1 s2 s3 g2 e11 r0 r1 r2 r3 f0 f1 f2 f3;have z0:=P5.out.at 0 rfl;have z1:=P5.out.at 1 rfl;have z2:=P5.out.at 2 rfl;have z3:=P5.out.at 3 rfl
   have hT2:verM s=(((levM 4 s).1,(x0.1:Int),(x1.1:Int),x2.1),x2.2):=by unfold verM;rw [←HD0.out,←HD1.out,←HD2.out]
   refine bodyPost_ret (v:=.agg #[.slice (some ⟨w.heap.size+1,0,none⟩) 4 4,.int .i64 (x0.1:Nat),.int .i64 (x1.1:Nat),.string (bs x2.1)]) ?_ rfl ⟨_,_,S,by rw [hT2],HO.out,by rw [hT2];exact HE.out,by rw [hT2];exact HM.out,HK.out⟩
   clear hT2
   simp [results,Tryz.results49,go_sem, *]
end Go.Proofs.YtmeaiocohalphaaGreatDoor

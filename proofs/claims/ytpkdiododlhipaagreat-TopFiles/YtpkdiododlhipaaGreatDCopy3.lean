/-
  What dev's copyPuts, copyActs and copyDisk do: what they answer is new memory that reads as what was handed in.
-/
import Derived.Test.YtpkdiododlhipaaGreatDCopy2
set_option maxHeartbeats 400000
set_option maxRecDepth 100000
namespace Go.Proofs.YtpkdiododlhipaaGreat
open Go.RowKit
set_option linter.all false
theorem qve {α:Type} (xs:List α) (k:Nat) (a b:α) (h:k*2+1<xs.length):((xs.set (k*2) a).set (k*2+1) b).take ((k+1)*2)=xs.take (k*2)++[a,b]:=by
 apply List.ext_getElem?;intro j
 simp only [List.getElem?_take,List.getElem?_set,List.getElem?_append,List.length_take,List.length_set]
 have hm:min (k*2) xs.length=k*2:=by omega
 rw [hm]
 by_cases h1:j<k*2
 ·rw [if_pos (by omega),if_neg (by omega),if_neg (by omega),if_pos h1];simp [h1]
 ·rw [if_neg h1]
  obtain ⟨i,rfl⟩:∃i,j=k*2+i:=⟨j - k*2,by omega⟩;rw [Nat.add_sub_cancel_left]
  match i with
  | 0=>simp;omega
  | 1=>simp;omega
  | i+2=>rw [if_neg (by omega)];simp
theorem qvf {α:Type} (xs:List α) (k:Nat) (a b c:α) (h:k*3+2<xs.length):(((xs.set (k*3) a).set (k*3+1) b).set (k*3+2) c).take ((k+1)*3)=xs.take (k*3)++[a,b,c]:=by
 apply List.ext_getElem?;intro j
 simp only [List.getElem?_take,List.getElem?_set,List.getElem?_append,List.length_take,List.length_set]
 have hm:min (k*3) xs.length=k*3:=by omega
 rw [hm]
 by_cases h1:j<k*3
 ·rw [if_pos (by omega),if_neg (by omega),if_neg (by omega),if_neg (by omega),if_pos h1];simp [h1]
 ·rw [if_neg h1]
  obtain ⟨i,rfl⟩:∃i,j=k*3+i:=⟨j - k*3,by omega⟩;rw [Nat.add_sub_cancel_left]
  match i with
  | 0=>simp;omega
  | 1=>simp;omega
  | 2=>simp;omega
  | i+3=>rw [if_neg (by omega)];simp
theorem qgs (z:List (Pu × Value)) (p:Pu) (v:Value):qdv (z++[(p,v)])=qdv z++[.int .i64 p.1,v]:=by simp [qdv]
theorem qj2 (z:List (Ac × Value)) (p:Ac) (v:Value):qd9 (z++[(p,v)])=qd9 z++[.bool p.1,.int .i64 p.2.1,v]:=by simp [qd9]
theorem qi0 (a:Option Addr) (n c:Nat) (l:List Pu) (w:World) (hn:n=l.length) (hl:l.length≤1000000) (hd:∀p∈l,p.2.length≤1000000000) (hrd:RdW w (.slice a n c) l):
  Calls Tryz.prog 68 #[.slice a n c] w fun e w'=>∃v,e=.returned v∧OwW w' w.heap.size v l∧Below w.heap.size w w':=by
 have HC:=hide hrd;have HM:=hide hn;have HL:=hide hl;have HD:=hide hd
 have hnn:n≤1000000:=by omega
 clear hrd hn hl hd;obtain ⟨i0,hi,hz0,hz1,hz2⟩:=info_parts Tryz.infoPut;obtain ⟨w1,hrun,hown1,hg1⟩:=run_make_full (P:=Tryz.prog) w w.heap.size 24 77 i0 _ 2 Tryz.underlying24 hi hz0 hz1 .i64 .i64 n (by rw [hz2];omega) (by unfold maxLen;omega) (Nat.le_refl _);have HO:=hide hown1;have HX:=hide hown1.1;have hb1:Below w.heap.size w w1:=(Below.refl _ _).grown hg1 (Nat.le_refl _) (fun k hk=>by cases hk);have hs1:w.heap.size<w1.heap.size:=(hown1.lt _ rfl).2;have H1:=hide hi;clear hg1 hi hz0 hz1 hz2 hown1;generalize (madeCells (Value.agg #[.int .i64 0,.slice none 0 0]).cells (n*2)).toList=xs0 at HO HX
 go_enter Tryz.func68,Tryz.ntmps68
 go_wp2;clear hrun
 go_loopw [11] (fun i wr=>∃(k:Nat) (xs:List Value) (z:List (Pu × Value)),k≤n∧i=.int .i64 k∧Hid (z.map (·.1)=l.take k)∧Hid (xs.take (k*2)=qdv z)∧Hid (wr.ownsRow w.heap.size 77 2 (.slice (some ⟨w.heap.size,0,none⟩) n n) n xs)∧Hid (∀p∈z,OwB wr (w.heap.size+1) p.2 p.1.2)∧Below w.heap.size w wr∧w.heap.size<wr.heap.size) (fun i _=>n - (intOf i).toNat)
 case atStart=>exact ⟨0,xs0,[],Nat.zero_le _,rfl,rfl,by simp [qdv,Hid],HO.out,by simp [Hid],hb1,hs1⟩
 case round=>
  obtain ⟨k,xs,z,hk,rfl,hz,hx,ho,hp,hbel,hsz⟩:=hrel
  by_cases hlt:k<n
  ·have hlt':(k:Int)<n:=by omega
   have hkl:k<l.length:=by have:=HM.out;omega
   obtain ⟨b,off,rfl,q0,x,m,d,q1,q2,q3⟩:=(HC.out.carry hbel).at k hkl;have HQ:=hide q2;have HQ3:=hide q3;clear q2 q3
   go_wp2_with fail
   refine (qgq (l[k]).1 x m d (l[k]).2 _ HQ3.out (HD.out _ (List.getElem_mem hkl)) (HQ.out.alloc _)).mono ?_
   rintro e w2 ⟨v,rfl,hown2,hb2⟩;have hb2':Below wr.heap.size wr w2:=((Below.refl _ _).alloc (Nat.le_refl _) _).trans (hb2.mono (by simp));have ho2:=qax ho.out hb2';have hlen:=ho2.1
   obtain ⟨y0,e0⟩:∃y,xs[k*2]? =some y:=⟨_,List.getElem?_eq_getElem (by omega)⟩
   obtain ⟨y1,e1⟩:∃y,xs[k*2+1]? =some y:=⟨_,List.getElem?_eq_getElem (by omega)⟩
   have c0:w2.cell? ⟨w.heap.size,k*2,none⟩=some y0:=(ho2.cellAt _ (by omega)).trans e0;have c1:w2.cell? ⟨w.heap.size,k*2+1,none⟩=some y1:=(ho2.cellAt _ (by omega)).trans e1
   have f0:=fun j=>ho2.frozenAt j
   obtain ⟨s1,g1⟩:=ho2.stored (k*2) (.int .i64 (l[k]).1);obtain ⟨s2,g2⟩:=s1.stored (k*2+1) v;have HS:=hide s2;have HG:=hide (qbr g1 g2);have HE:=hide (qve xs k (.int .i64 (l[k]).1) v (by omega));have HB:=hide hb2';have hbw:=hbel.trans (hb2'.mono hbel.size);have hov:OwB w2 (w.heap.size+1) v (l[k]).2:=hown2.mono (by simp;omega);have HOV:=hide hov;obtain ⟨pv,cv,rfl⟩:=hov.form;clear ho2 hlen e0 e1 s1 s2 g1 g2 hb2 hb2' hown2 hov;go_wp2;go_roundw
   case rel=>
    refine ⟨k+1,_,z++[(l[k],.slice pv (l[k]).2.length cv)],by omega,by go_num,hide ?_,hide ?_,HS,hide ?_,hbw.grown HG.out hbw.size (fun j hj=>by cases hj;exact Nat.le_refl _),Nat.lt_of_lt_of_le (Nat.lt_of_lt_of_le hsz HB.out.size) HG.out.size⟩
    ·rw [List.map_append,hz.out,List.take_succ_eq_append_getElem hkl];rfl
    ·rw [HE.out,hx.out,qgs]
    ·intro p hpz
     rcases List.mem_append.1 hpz with h | h
     ·exact ((hp.out p h).carry HB.out).grown HG.out (by omega)
     ·rw [List.mem_singleton.1 h];exact HOV.out.grown HG.out (by omega)
   case measure=>simp [intOf]<;>omega
  ·have hlt':decide ((k:Int)<n)=false:=by simpa using (by omega:¬(k:Int)<n)
   go_wp2;go_ret;refine ⟨_,rfl,⟨z, ?_, ?_,fun p h=>(hp.out p h).mono (by omega)⟩,hbel⟩
   ·rw [hz.out,List.take_of_length_le (by have:=HM.out;omega)]
   ·have e:=hx.out
    rw [List.take_of_length_le (by rw [ho.out.1];omega)] at e;rw [←e,←HM.out];exact ho.out
theorem qol (a:Option Addr) (n c:Nat) (l:List Ac) (w:World) (hn:n=l.length) (hl:l.length≤1000000) (hd:∀p∈l,p.2.2.length≤1000000000) (hrd:RdA w (.slice a n c) l):
  Calls Tryz.prog 95 #[.slice a n c] w fun e w'=>∃v,e=.returned v∧OwA w' w.heap.size v l∧Below w.heap.size w w':=by
 have HC:=hide hrd;have HM:=hide hn;have HL:=hide hl;have HD:=hide hd
 have hnn:n≤1000000:=by omega
 clear hrd hn hl hd;obtain ⟨i0,hi,hz0,hz1,hz2⟩:=info_parts Tryz.infoAct;obtain ⟨w1,hrun,hown1,hg1⟩:=run_make_full (P:=Tryz.prog) w w.heap.size 25 103 i0 _ 3 Tryz.underlying25 hi hz0 hz1 .i64 .i64 n (by rw [hz2];omega) (by unfold maxLen;omega) (Nat.le_refl _);have HO:=hide hown1;have HX:=hide hown1.1;have hb1:Below w.heap.size w w1:=(Below.refl _ _).grown hg1 (Nat.le_refl _) (fun k hk=>by cases hk);have hs1:w.heap.size<w1.heap.size:=(hown1.lt _ rfl).2;have H1:=hide hi;clear hg1 hi hz0 hz1 hz2 hown1;generalize (madeCells (Value.agg #[.bool false,.int .i64 0,.slice none 0 0]).cells (n*3)).toList=xs0 at HO HX
 go_enter Tryz.func95,Tryz.ntmps95
 go_wp2;clear hrun
 go_loopw [11] (fun i wr=>∃(k:Nat) (xs:List Value) (z:List (Ac × Value)),k≤n∧i=.int .i64 k∧Hid (z.map (·.1)=l.take k)∧Hid (xs.take (k*3)=qd9 z)∧Hid (wr.ownsRow w.heap.size 103 3 (.slice (some ⟨w.heap.size,0,none⟩) n n) n xs)∧Hid (∀p∈z,OwB wr (w.heap.size+1) p.2 p.1.2.2)∧Below w.heap.size w wr∧w.heap.size<wr.heap.size) (fun i _=>n - (intOf i).toNat)
 case atStart=>exact ⟨0,xs0,[],Nat.zero_le _,rfl,rfl,by simp [qd9,Hid],HO.out,by simp [Hid],hb1,hs1⟩
 case round=>
  obtain ⟨k,xs,z,hk,rfl,hz,hx,ho,hp,hbel,hsz⟩:=hrel
  by_cases hlt:k<n
  ·have hlt':(k:Int)<n:=by omega
   have hkl:k<l.length:=by have:=HM.out;omega
   obtain ⟨b,off,rfl,q0,q0',x,m,d,q1,q2,q3⟩:=(HC.out.carry hbel).at k hkl;have HQ:=hide q2;have HQ3:=hide q3;clear q2 q3
   go_wp2_with fail
   refine (qgr (l[k]).1 (l[k]).2.1 x m d (l[k]).2.2 _ HQ3.out (HD.out _ (List.getElem_mem hkl)) (HQ.out.alloc _)).mono ?_
   rintro e w2 ⟨v,rfl,hown2,hb2⟩;have hb2':Below wr.heap.size wr w2:=((Below.refl _ _).alloc (Nat.le_refl _) _).trans (hb2.mono (by simp));have ho2:=qax ho.out hb2';have hlen:=ho2.1
   obtain ⟨y0,e0⟩:∃y,xs[k*3]? =some y:=⟨_,List.getElem?_eq_getElem (by omega)⟩
   obtain ⟨y1,e1⟩:∃y,xs[k*3+1]? =some y:=⟨_,List.getElem?_eq_getElem (by omega)⟩
   obtain ⟨y2,e2⟩:∃y,xs[k*3+2]? =some y:=⟨_,List.getElem?_eq_getElem (by omega)⟩
   have c2:w2.cell? ⟨w.heap.size,k*3+2,none⟩=some y2:=(ho2.cellAt _ (by omega)).trans e2;have c0:w2.cell? ⟨w.heap.size,k*3,none⟩=some y0:=(ho2.cellAt _ (by omega)).trans e0;have c1:w2.cell? ⟨w.heap.size,k*3+1,none⟩=some y1:=(ho2.cellAt _ (by omega)).trans e1
   have f0:=fun j=>ho2.frozenAt j
   obtain ⟨s1,g1⟩:=ho2.stored (k*3) (.bool (l[k]).1);obtain ⟨s2,g2⟩:=s1.stored (k*3+1) (.int .i64 (l[k]).2.1);obtain ⟨s3,g3⟩:=s2.stored (k*3+2) v;have HS:=hide s3;have HG:=hide (qbr (qbr g1 g2) g3);have HE:=hide (qvf xs k (.bool (l[k]).1) (.int .i64 (l[k]).2.1) v (by omega));have HB:=hide hb2';have hbw:=hbel.trans (hb2'.mono hbel.size);have hov:OwB w2 (w.heap.size+1) v (l[k]).2.2:=hown2.mono (by simp;omega);have HOV:=hide hov;obtain ⟨pv,cv,rfl⟩:=hov.form;clear ho2 hlen e0 e1 e2 s1 s2 s3 g1 g2 g3 hb2 hb2' hown2 hov;go_wp2;go_roundw
   case rel=>
    refine ⟨k+1,_,z++[(l[k],.slice pv (l[k]).2.2.length cv)],by omega,by go_num,hide ?_,hide ?_,HS,hide ?_,hbw.grown HG.out hbw.size (fun j hj=>by cases hj;exact Nat.le_refl _),Nat.lt_of_lt_of_le (Nat.lt_of_lt_of_le hsz HB.out.size) HG.out.size⟩
    ·rw [List.map_append,hz.out,List.take_succ_eq_append_getElem hkl];rfl
    ·rw [HE.out,hx.out,qj2]
    ·intro p hpz
     rcases List.mem_append.1 hpz with h | h
     ·exact ((hp.out p h).carry HB.out).grown HG.out (by omega)
     ·rw [List.mem_singleton.1 h];exact HOV.out.grown HG.out (by omega)
   case measure=>simp [intOf]<;>omega
  ·have hlt':decide ((k:Int)<n)=false:=by simpa using (by omega:¬(k:Int)<n)
   go_wp2;go_ret;refine ⟨_,rfl,⟨z, ?_, ?_,fun p h=>(hp.out p h).mono (by omega)⟩,hbel⟩
   ·rw [hz.out,List.take_of_length_le (by have:=HM.out;omega)]
   ·have e:=hx.out
    rw [List.take_of_length_le (by rw [ho.out.1];omega)] at e;rw [←e,←HM.out];exact ho.out
theorem qom (d:Dk) (a1 a2 a3:Option Addr) (n1 c1 n2 c2 n3 c3:Nat) (w:World) (h1:Rd w (.slice a1 n1 c1) d.1) (h2:RdW w (.slice a2 n2 c2) d.2.1) (h3:RdA w (.slice a3 n3 c3) d.2.2) (e1:n1=d.1.length) (e2:n2=d.2.1.length) (e3:n3=d.2.2.length)
  (b1:d.1.length≤1000000000) (b2:d.2.1.length≤1000000) (b3:d.2.2.length≤1000000) (d2:∀p∈d.2.1,p.2.length≤1000000000) (d3:∀p∈d.2.2,p.2.2.length≤1000000000):
  Calls Tryz.prog 55 #[.agg #[.slice a1 n1 c1,.slice a2 n2 c2,.slice a3 n3 c3]] w fun e w'=>∃x y z B,e=.returned (.agg #[x,y,z])∧w.heap.size≤B∧OwB w' w.heap.size x d.1∧(∀g,x.ownBlock=some g→g<B)∧OwW w' B y d.2.1∧OwA w' B z d.2.2∧B≤w'.heap.size∧Below w.heap.size w w':=by
 have H1:=hide h1;have H2:=hide h2;have H3:=hide h3;have E1:=hide e1;have E2:=hide e2;have E3:=hide e3;have B1:=hide b1;have B2:=hide b2;have B3:=hide b3;have D2:=hide d2;have D3:=hide d3;clear h1 h2 h3 e1 e2 e3 b1 b2 b3 d2 d3
 go_enter Tryz.func55,Tryz.ntmps55
 go_wp2;have hK:Keeps (fun wx=>wx.cell? ⟨w.heap.size,0,none⟩=some (.slice a1 n1 c1)∧wx.cell? ⟨w.heap.size,1,none⟩=some (.slice a2 n2 c2)∧wx.cell? ⟨w.heap.size,2,none⟩=some (.slice a3 n3 c3)∧(∃y1 y2 y3,wx.heap[w.heap.size+1]? =some (.cells #[y1,y2,y3] 27 (0,0)))∧Below w.heap.size w wx∧w.heap.size+2≤wx.heap.size):=(qaa _ _).and ((qaa _ _).and ((qaa _ _).and ((qfi _ _).and ((qba w).and (qf0 _)))))
 refine qar hK (by kernel_rfl) ⟨by simp,by simp,by simp,⟨_,_,_,qb5 _ _ _⟩,((Below.refl _ _).alloc (Nat.le_refl _) _).alloc (by simp) _,by simp⟩ ?_
 intro hS
 refine qad [0,1,3,4,6,7] (fuel:=5) (a':=?zp1a) (by kernel_rfl) (by kernel_rfl) (by kernel_rfl) ?zp1p hS ?zp1n
 case zp1p=>
  iterate 6 (apply Yl.cons rfl (by kernel_rfl);focus (rintro wx ⟨x1,x2,x2',x3,x4,x5⟩;go_simp;all_goals (with_reducible rfl));try simp only [Act.put,sA,sB,sC])
  exact Yl.nil
 refine qcb hK (i:=2) (R:=fun v wy=>OwB wy (w.heap.size+2) v d.1) rfl (by kernel_rfl) (by rfl) (by go_simp) hS ((qfh a1 c1 n1 d.1 _ E1.out B1.out (H1.out.carry hS.2.2.2.2.1)).mono fun e w1 ⟨v,h1,h2,h3⟩=>⟨v,h1,h2.mono hS.2.2.2.2.2,h3⟩) (fun v _ _ h hb=>h.carry hb) ?_
 intro v5 w5 hKn hRn hSn;clear hK hS;have hK:=hKn;have hS:=hSn;clear hKn hSn;obtain ⟨p5,k5,rfl⟩:=hRn.form
 have hlt5:∀g,(Value.slice p5 d.1.length k5).ownBlock=some g→g<w5.heap.size:=fun g hg=>(World.ownsRow.lt hRn g hg).2
 have h52:w.heap.size+1<w5.heap.size:=hS.1.2.2.2.2.2
 try simp only [Act.put,sA,sB,sC]
 refine qcb hK (i:=5) (R:=fun v wy=>OwW wy w5.heap.size v d.2.1∧w5.heap.size≤wy.heap.size) rfl (by kernel_rfl) (by rfl) (by go_simp) hS ((qi0 a2 n2 c2 d.2.1 _ E2.out B2.out D2.out (H2.out.carry hS.1.2.2.2.2.1)).mono fun e w1 ⟨v,h1,h2,h3⟩=>⟨v,h1,⟨h2,h3.size⟩,h3⟩) (fun v _ _ h hb=>⟨h.1.carry hb,Nat.le_trans h.2 hb.size⟩) ?_
 intro v8 w8 hKn hRn hSn;clear hK hS;have hK:=hKn;have hS:=hSn;clear hKn hSn;obtain ⟨p8,k8,rfl⟩:=hRn.1.rd.form;have hbw8:=hRn.2
 try simp only [Act.put,sA,sB,sC]
 refine qcb hK (i:=8) (R:=fun v wy=>OwA wy w5.heap.size v d.2.2) rfl (by kernel_rfl) (by rfl) (by go_simp) hS ((qol a3 n3 c3 d.2.2 _ E3.out B3.out D3.out (H3.out.carry hS.1.1.2.2.2.2.1)).mono fun e w1 ⟨v,h1,h2,h3⟩=>⟨v,h1,h2.mono hbw8,h3⟩) (fun v _ _ h hb=>h.carry hb) ?_
 intro v11 w11 hKn hRn hSn;clear hK hS;have hK:=hKn;have hS:=hSn;clear hKn hSn;obtain ⟨p11,k11,rfl⟩:=hRn.rd.form
 try simp only [Act.put,sA,sB,sC]
 refine qd6 (i:=9) (v:=?qav9) rfl (by kernel_rfl) (by kernel_rfl) (by kernel_rfl) (by rfl) ?qay9 hS ?qar9
 case qay9=>(rintro wx ⟨⟨⟨⟨x1,x2,x2',x3,x4,x5⟩,_⟩,_⟩,_⟩;go_simp;all_goals (with_reducible rfl))
 try simp only [Act.put,sA,sB,sC]
 obtain ⟨⟨⟨⟨x1,x2,x2',⟨y1,y2,y3,x3⟩,x4,x5⟩,r1⟩,r2,r2s⟩,r3⟩:=hS;obtain ⟨ws,ews,hws,hgs⟩:=qa7 (.slice p5 d.1.length k5) (.slice p8 d.2.1.length k8) (.slice p11 d.2.2.length k11) x3;obtain ⟨z1,z2,z3,z4⟩:=cells3 x3
 refine qco (i:=10) (w':=ws) rfl (by kernel_rfl) (by rfl) (by rw [←ews];go_simp) ⟨⟨⟨⟨hgs.cell x1 (by simp),hgs.cell x2 (by simp),hgs.cell x2' (by simp),⟨_,_,_,hws⟩,x4.grown hgs x4.size (fun k hk=>by cases hk;simp),Nat.le_trans x5 hgs.size⟩,r1.grown hgs (by simp)⟩,⟨r2.grown hgs h52,Nat.le_trans r2s hgs.size⟩⟩,r3.grown hgs h52⟩ ?_
 try simp only [Act.put,sA,sB,sC]
 refine wpAnyH_done (by kernel_rfl) ?_ _
 refine NoPanic.normal ?_
 have hb:Below w.heap.size w ws:=x4.grown hgs x4.size (fun k hk=>by cases hk;simp);have o1:=r1.grown hgs (by simp);have o2:=r2.grown hgs h52;have o3:=r3.grown hgs h52;obtain ⟨q1,q2,q3,_⟩:=cells3 hws;clear ews;go_wp2
 refine bodyPost_ret (v:=.agg #[.slice p5 d.1.length k5,.slice p8 d.2.1.length k8,.slice p11 d.2.2.length k11]) ?_ rfl ⟨_,_,_,w5.heap.size,rfl,by omega,o1.mono (by omega),hlt5,o2,o3,Nat.le_trans r2s hgs.size,hb⟩
 simp [results,Tryz.results55,go_sem, *]
end Go.Proofs.YtpkdiododlhipaaGreat

/-
  What the document's Clear, Write and Sync do.
-/
import Derived.Test.YthilibleedbchaaGreatFiRdr
import Derived.Test.YthilibleedbchaaGreatFiRd7
import Derived.Test.YthilibleedbchaaGreatR3
import Derived.Test.YthilibleedbchaaGreatRLast
import Derived.Test.YthilibleedbchaaGreatRTwin
import Derived.Test.YthilibleedbchaaGreatFiRef6
import Derived.Test.YthilibleedbchaaGreatFiRef4
import Derived.Test.YthilibleedbchaaGreatFiRef8
import Derived.Test.YthilibleedbchaaGreatRDo
set_option maxHeartbeats 8000000
set_option maxRecDepth 100000
namespace Go.Proofs.YthilibleedbchaaGreat
open Go.RowKit
set_option linter.all false
theorem qae7 {lo sz ge ar:Nat} (har:ar=2+ge % 2*16) (hlo:lo=ar*128) (hs:sz≤2048):wrap64 ((lo:Int)+sz)=((lo+sz:Nat):Int):=by
 unfold wrap64;omega
theorem qab5 {f:Fsd} (h:chk f.1≠0):fsE f=8:=by
 rcases qcc f with ⟨hk,_⟩ | ⟨_,e⟩
 ·exact absurd (qqd (qcg hk).1) h
 ·exact e
theorem qug {f:Fsd} (h:mny f.1≤34∨chkF f.2.2.1 (mny f.1)≠0):fsE f=8:=by
 rcases qcc f with ⟨hk,_⟩ | ⟨_,e⟩
 ·rcases h with h | h
  ·have:=(qcg hk).2.1;omega
  ·exact absurd hk.2.2.2.2.2 h
 ·exact e
theorem qab6 {f:Fsd} {p:Pu} (hp:p∈f.1.2.1) (h:p.1<34):fsE f=8:=by
 rcases qcc f with ⟨hk,_⟩ | ⟨_,e⟩
 ·have:=hk.2.2.1 p hp;omega
 ·exact e
theorem qj6 {f:Fsd} (h:¬okFs f):fsE f=8:=by
 rcases qcc f with ⟨hk,_⟩ | ⟨_,e⟩
 ·exact absurd hk h
 ·exact e
def qlp (f g:Fsd):Bool:=decide (f.1=g.1) && decide (f.2.1=g.2.1) && decide (f.2.2.1=g.2.2.1) && decide (f.2.2.2=g.2.2.2)
theorem sameB_iff {f g:Fsd}:qlp f g=true↔f=g:=by
 unfold qlp
 simp only [Bool.and_eq_true,decide_eq_true_eq]
 constructor
 ·rintro ⟨⟨⟨h1,h2⟩,h3⟩,h4⟩
  obtain ⟨f1,f2,f3,f4⟩:=f;obtain ⟨g1,g2,g3,g4⟩:=g
  simp only at h1 h2 h3 h4
  subst h1 h2 h3 h4;rfl
 ·intro h
  subst h;exact ⟨⟨⟨rfl,rfl⟩,rfl⟩,rfl⟩
theorem qdo (f:Fsd):qlp f f=true:=sameB_iff.2 rfl
theorem qoo {f g:Fsd} (h:f≠g):qlp f g=false:=by
 cases e:qlp f g with
 | false=>rfl
 | true=>exact absurd (sameB_iff.1 e) h
theorem qdj (x:FsV) (f:Fsd) (w:World) (h:RdX w x f) (hw:WfX f):
  Calls Tryz.prog 23 #[x.val] w fun e w'=>e=.returned (.int .i64 (fsE f))∧Below w.heap.size w w':=by
 have HW:=hide hw;have HX:=hide h;clear hw h;obtain ⟨w1,ew⟩:∃w1,w.alloc (.cells x.cs 32)=w1:=⟨_,rfl⟩
 have hb1:Below w.heap.size w w1:=by rw [←ew];exact (Below.refl _ _).alloc (Nat.le_refl _) _
 have qcx:=hide (show FsAt w1 w.heap.size x by rw [←ew];exact Bq.new _ _ _);have qag:=hide hb1;clear hb1;unfold FsV.val;unfold FsV.cs at ew
 go_enter Tryz.func23,Tryz.ntmps23
 obtain ⟨kf0,kf1,kf2,kf3,kf4,kf5⟩:=qab qcx.out;have hcon:=qg5 (d:=f.1) w1 (HX.out.d.carry qag.out)
 go_wp2_with fail
 try rw [ew]
 refine hcon.mono ?_
 rintro e w2 ⟨rfl,hbb⟩;have qcq:=hide (qcx.out.carry hbb);have qai:=bT qag hbb;clear hcon hbb kf0 kf1 kf2 kf3 kf4 kf5
 try clear ew
 rcases (qdw f.1).symm with ⟨hok,hck⟩ | ⟨hok,hck⟩
 ·rw [hck]
  have HE:=hide (qab5 (f:=f) (by rw [hck];decide));go_wp2;go_ret;rw [HE.out];exact ⟨rfl,by first | exact qai.out | assumption⟩
 rw [hck];have HOK:=hide hok;clear hok hck;have HLEN:=hide (show x.n1=128*mny f.1∧mny f.1≤4096 from ⟨HX.out.n1.trans (qsl HOK.out),((qdh f.1).1 HOK.out).2.2.1⟩);have HN2:=hide (show x.n2≤65536 from by rw [HX.out.n2];exact ((qdh f.1).1 HOK.out).2.2.2.1);obtain ⟨B,hB⟩:∃B:Nat,B=mny f.1:=⟨_,rfl⟩;have HBB:=hide hB
 have hdv:x.n1 / 128=B:=by have:=HLEN.out;rw [hB];omega
 clear hB;obtain ⟨kf0,kf1,kf2,kf3,kf4,kf5⟩:=qab qcq.out;have hcon:=qgk x.a1 x.a2 x.a3 x.n1 x.c1 x.n2 x.c2 x.n3 x.c3 (by rw [HX.out.n1];exact HX.out.d.d1.len_le) w2;rw [hdv] at hcon
 go_wp2_with fail
 refine hcon.mono ?_
 rintro e w3 ⟨rfl,hbb⟩;have qef:=hide (qcq.out.carry hbb);have qao:=bT qai hbb;clear hcon hbb kf0 kf1 kf2 kf3 kf4 kf5;clear hdv
 by_cases g1:B≤34
 ·have g1':(B:Int)≤34:=by omega
  have HE:=hide (qug (f:=f) (.inl (by rw [←HBB.out];exact g1)));go_wp2;go_ret;rw [HE.out];exact ⟨rfl,by first | exact qao.out | assumption⟩
 have g1':decide ((B:Int)≤34)=false:=decide_eq_false (by omega);have HG1:=hide (show 34<B by omega);clear g1;obtain ⟨kf0,kf1,kf2,kf3,kf4,kf5⟩:=qab qef.out;have hcon:=qfs _ _ _ f.2.2.1 B w3 (HX.out.fl.carry qao.out) HX.out.n4 HW.out.fl
 go_wp2_with fail
 refine hcon.mono ?_
 rintro e w4 ⟨rfl,hbb⟩;have qfm:=hide (qef.out.carry hbb);have qca:=bT qao hbb;clear hcon hbb kf0 kf1 kf2 kf3 kf4 kf5 g1'
 by_cases g2:¬chkF f.2.2.1 B=0
 ·have g2':(chkF f.2.2.1 B !=0)=true:=by simpa using g2
  have HE:=hide (qug (f:=f) (.inr (by rw [←HBB.out];exact g2)));go_wp2;go_ret;rw [HE.out];exact ⟨rfl,by first | exact qca.out | assumption⟩
 rw [Decidable.not_not] at g2;have HG2:=hide g2;rw [g2];clear g2;obtain ⟨kf0,kf1,kf2,kf3,kf4,kf5⟩:=qab qfm.out;have hn65:=HN2.out
 go_wp2_with fail
 clear kf0 kf1 kf2 kf3 kf4 kf5
 go_loopw [4] (fun i wr=>∃k:Nat,k≤x.n2∧i=.int .i64 k∧Hid (∀p∈f.1.2.1.take k,34≤p.1)∧Hid (Below w4.heap.size w4 wr)) (fun i _=>x.n2 - (intOf i).toNat)
 case atStart=>exact ⟨0,Nat.zero_le _,rfl,hide (by simp),hide (Below.refl _ _)⟩
 case round=>
  obtain ⟨k,hk,rfl,hall,hbel⟩:=hrel;have ql1:=hide (show Below w.heap.size w wr from qca.out.trans (hbel.out.mono qca.out.size));have qacy:=hide (qfm.out.carry hbel.out);obtain ⟨k0,k1,k2,k3,k4,k5⟩:=qab qacy.out
  by_cases hlt:k<x.n2
  ·have hlt':(k:Int)<x.n2:=by omega
   have hkl:k<f.1.2.1.length:=by have h2:x.n2=_:=HX.out.n2;omega
   obtain ⟨b,off,ea,q0, -⟩:=(HX.out.d.d2.carry ql1.out).at k hkl;rw [ea] at k1
   have HALL:=hide (fun (h:34≤(f.1.2.1[k]).1)=>show ∀p∈f.1.2.1.take (k+1),34≤p.1 by
    intro p hp;rw [List.take_succ_eq_append_getElem hkl] at hp
    rcases List.mem_append.1 hp with hp | hp
    ·exact hall.out p hp
    ·rw [List.mem_singleton.1 hp];exact h)
   have HBAD:=hide (fun (h:(f.1.2.1[k]).1<34)=>qab6 (List.getElem_mem hkl) h);obtain ⟨N,hN⟩:∃N,N=(f.1.2.1[k]).1:=⟨_,rfl⟩;rw [←hN] at q0 HALL HBAD;clear hN
   by_cases g3:N<34
   ·have g3':decide (N<34)=true:=decide_eq_true g3
    have HE:=hide (HBAD.out g3);clear g3;go_wp2;go_ret;rw [HE.out];exact ⟨rfl,ql1.out⟩
   ·have g3':decide (N<34)=false:=decide_eq_false g3
    have HA2:=hide (HALL.out (by omega));clear g3;go_wp2;go_roundw
    case rel=>exact ⟨k+1,by omega,rfl,HA2,hbel⟩
    case measure=>simp only [intOf];omega
  ·have hd:decide ((k:Int)<x.n2)=false:=decide_eq_false (by omega)
   have HALL:=hide (show ∀p∈f.1.2.1,34≤p.1 by
    have:=hall.out
    rwa [List.take_of_length_le (by have h2:x.n2=_:=HX.out.n2;omega)] at this)
   have hcon:=qsn (d:=f.1) wr (HX.out.d.carry ql1.out)
   go_wp2_with fail
   refine hcon.mono ?_
   rintro e w21 ⟨rfl,hbb⟩;have qy7:=hide (qacy.out.carry hbb);have qe3:=bT ql1 hbb;clear hcon hbb k0 k1 k2 k3 k4 k5;clear hd hk hlt hall hbel;obtain ⟨ge,sz,er,hL⟩:∃ge sz er,qbj f.1=(ge,sz,er):=⟨_,_,_,rfl⟩;rw [hL];have HL:=hide hL;clear hL;obtain ⟨kf0,kf1,kf2,kf3,kf4,kf5⟩:=qab qy7.out
   by_cases g4:¬er=0
   ·have g4':(er !=0)=true:=by simpa using g4
    have HE:=hide (qj6 (of_decide_eq_false (qj2 HL.out (.inl g4))));go_wp2;go_ret;rw [HE.out];exact ⟨rfl,by first | exact qe3.out | assumption⟩
   rw [Decidable.not_not] at g4;subst g4
   by_cases g5:¬ge=x.g
   ·have g5':¬(ge:Int)=x.g:=by omega
    have HE:=hide (qj6 (of_decide_eq_false (qj2 HL.out (.inr (by rw [←HX.out.g];exact g5)))));go_wp2;go_ret;rw [HE.out];exact ⟨rfl,by first | exact qe3.out | assumption⟩
   rw [Decidable.not_not] at g5;subst g5;have HLT:=hide (qld HL.out);have HGL:=hide (qt6 HL.out);obtain ⟨ar,har⟩:∃ar,ar=2+x.g % 2*16:=⟨_,rfl⟩;have hsw:=qha x.g w21 HLT.out.2.1;rw [←har] at hsw;have HAR:=hide har;clear har
   go_wp2_with fail
   refine hsw.mono ?_
   clear hsw;rintro e w9' ⟨rfl,ew9⟩;subst w9';obtain ⟨hsz,hge,hlen,hm,hm2,hok⟩:=HLT.out;obtain ⟨b9,o9,ea,hnc⟩:=qom (HX.out.d.d1) (by intro e;rw [e] at hlen;simp at hlen;omega);obtain ⟨lo,hlo⟩:∃lo,lo=ar*128:=⟨_,rfl⟩;have hwr:=qyi HAR.out hlo;have hwr2:=qae7 HAR.out hlo hsz;obtain ⟨y1,y2,y3,y4,y5,y6,y7⟩:=lo_ok (HX.out.n1.trans hlen) hm hsz hnc HAR.out hlo;have hrd:=qaek (by have:=HX.out.d.d1.carry qe3.out;rw [ea] at this;exact this) lo sz (by rw [←HX.out.n1];exact y6) (by intro e;rw [e] at hlen;simp at hlen;omega)
   have hgb:(f.1.1.drop lo).take sz=genB f.1 x.g sz:=by unfold genB;rw [hlo,HAR.out,Nat.mul_comm]
   rw [hgb] at hrd;have hR:=qy6 _ _ _ (genB f.1 x.g sz) B w21 hrd HGL.out.symm;have y8:lo+sz≤x.n1:=y6;have y9:lo+sz≤x.c1:=Nat.le_trans y6 hnc;have y10:lo≤lo+sz:=Nat.le_add_right _ _;have y11:lo+sz - lo=sz:=Nat.add_sub_cancel_left _ _;clear hrd hgb hsz hge hlen hm hm2 hlo hok y6 y7 hnc;rw [ea] at kf0;rw [HBB.out] at hR;obtain ⟨RE,hRE⟩:∃e,e=qdg (genB f.1 x.g sz) (mny f.1):=⟨_,rfl⟩;obtain ⟨RL,hRL⟩:∃e,e=qgf (genB f.1 x.g sz) (mny f.1):=⟨_,rfl⟩;have HRE:=hide hRE;have HRL:=hide hRL;rw [←hRE,←hRL,←HBB.out] at hR;clear hRE hRL
   go_wp2_with fail
   refine hR.mono ?_
   rintro e wd ⟨v5,rfl,ho5,hbb⟩;have HFf_wd:=hide (qy7.out.carry hbb);have qsf:=bT qe3 hbb;clear kf0 kf1 kf2 kf3 kf4 kf5 hbb hR hwr hwr2 y1 y2 y3 y4 y5 y8 y9 y10 y11;obtain ⟨m5,hm5⟩:∃m5,m5=RL.length:=⟨_,rfl⟩
   obtain ⟨u5,z5,e5⟩:∃a c,v5=.slice a m5 c:=by rw [hm5];exact ho5.form
   subst e5;have HM5:=hide hm5;obtain ⟨we,ewe⟩:∃wq,wd.alloc (.cells #[.slice u5 m5 z5] 30)=wq:=⟨_,rfl⟩
   have hbb:Below wd.heap.size wd we:=by rw [←ewe];exact (Below.refl _ _).alloc (Nat.le_refl _) _
   have HO_we:=hide (ho5.rd.carry hbb)
   have k9:we.cell? ⟨wd.heap.size,0,none⟩=some (.slice u5 m5 z5):=by rw [←ewe];simp
   have qacz:=hide (HFf_wd.out.carry hbb);have qab7:=bT qsf hbb;clear ho5 hm5 hbb
   have HDEC:=hide (qyj HL.out HX.out.g (by
    rw [List.any_eq_false];intro p hp
    have:=HALL.out p hp
    simp
    omega))
   rw [←HRE.out,←HRL.out,←HBB.out,HG2.out] at HDEC
   by_cases g6:¬RE=0
   ·have g6':(RE !=0)=true:=by simpa using g6
    have HE:=hide (qj6 (of_decide_eq_false (by rw [HDEC.out,decide_eq_false g6];simp)));go_wp2;go_ret;rw [HE.out];exact ⟨rfl,by first | exact qab7.out | assumption⟩
   rw [Decidable.not_not] at g6;have HRE0:=hide g6;rw [g6];clear g6;obtain ⟨kf0,kf1,kf2,kf3,kf4,kf5⟩:=qab qacz.out;have hcon:=qnt u5 m5 z5 RL x.a5 x.n5 x.c5 f.2.2.2 we HO_we.out HM5.out (HX.out.kl.carry qab7.out) HX.out.n5
   go_wp2_with fail
   try rw [ewe]
   refine hcon.mono ?_
   rintro e w22 ⟨rfl,hbb⟩;have HFf_w22:=hide (qacz.out.carry hbb);have qq5:=bT qab7 hbb;clear hcon hbb kf0 kf1 kf2 kf3 kf4 kf5 k9
   try clear ewe
   by_cases g7:¬RL=f.2.2.2
   ·rw [decide_eq_false g7]
    have HE:=hide (qj6 (of_decide_eq_false (by rw [HDEC.out,decide_eq_false g7];simp)));go_wp2;go_ret;rw [HE.out];exact ⟨rfl,by first | exact qq5.out | assumption⟩
   rw [Decidable.not_not] at g7;rw [decide_eq_true g7];have HE:=hide (qql (f:=f) (of_decide_eq_true (by rw [HDEC.out,decide_eq_true g7,decide_eq_true HRE0.out];simp)));clear g7;go_wp2;go_ret;rw [HE.out];exact ⟨rfl,qq5.out⟩
theorem qdp (x y:FsV) (f g:Fsd) (w:World) (h:RdX w x f) (h':RdX w y g):
  Calls Tryz.prog 21 #[x.val,y.val] w fun e w'=>e=.returned (.bool (qlp f g))∧Below w.heap.size w w':=by
 have HX:=hide h;have HY:=hide h';clear h h';obtain ⟨w1,ew⟩:∃w1,(w.alloc (.cells x.cs 32)).alloc (.cells y.cs 32)=w1:=⟨_,rfl⟩;have q0:Below w.heap.size w (w.alloc (.cells x.cs 32)):=(Below.refl _ _).alloc (Nat.le_refl _) _
 have q1:Below (w.alloc (.cells x.cs 32)).heap.size (w.alloc (.cells x.cs 32)) w1:=by rw [←ew];exact (Below.refl _ _).alloc (Nat.le_refl _) _
 have qnb:=hide (show FsAt w1 w.heap.size x from (Bq.new w 32 x.cs).carry q1);have qac0:=hide (show FsAt w1 (w.heap.size+1) y by have:=Bq.new (w.alloc (.cells x.cs 32)) 32 y.cs;rw [←ew];simpa using this);have qag:=hide (q0.trans (q1.mono q0.size));clear q0 q1;unfold FsV.val;unfold FsV.cs at ew
 go_enter Tryz.func21,Tryz.ntmps21
 obtain ⟨kx0,kx1,kx2,kx3,kx4,kx5⟩:=qab qnb.out;obtain ⟨ky0,ky1,ky2,ky3,ky4,ky5⟩:=qab qac0.out;have hcon:=qxx (d:=f.1) (e:=g.1) w1 (HX.out.d.carry qag.out) (HY.out.d.carry qag.out)
 go_wp2_with fail
 try rw [ew]
 refine hcon.mono ?_
 rintro e w2 ⟨rfl,hbb⟩;have quh:=hide (qnb.out.carry hbb);have qac1:=hide (qac0.out.carry hbb);have qai:=bT qag hbb;clear hcon hbb kx0 kx1 kx2 kx3 kx4 kx5 ky0 ky1 ky2 ky3 ky4 ky5
 try clear ew
 by_cases g1:¬f.1=g.1
 ·rw [decide_eq_false g1]
  have HE:=hide (show qlp f g=false from qoo (fun e=>g1 (by rw [e])));go_wp2;go_ret;rw [HE.out];exact ⟨rfl,qai.out⟩
 rw [Decidable.not_not] at g1;rw [decide_eq_true g1];obtain ⟨kx0,kx1,kx2,kx3,kx4,kx5⟩:=qab quh.out;obtain ⟨ky0,ky1,ky2,ky3,ky4,ky5⟩:=qab qac1.out
 by_cases g2:¬x.g=y.g
 ·have g2':¬(x.g:Int)=y.g:=by omega
  have HE:=hide (show qlp f g=false from qoo (fun e=>g2 (by rw [HX.out.g,HY.out.g,e])));go_wp2;go_ret;rw [HE.out];exact ⟨rfl,qai.out⟩
 rw [Decidable.not_not] at g2
 have g2':(x.g:Int)=y.g:=by omega
 have HG:=hide g2;clear g2;have hcon:=qnt _ _ _ f.2.2.1 _ _ _ g.2.2.1 w2 (HX.out.fl.carry qai.out) HX.out.n4 (HY.out.fl.carry qai.out) HY.out.n4
 go_wp2_with fail
 refine hcon.mono ?_
 rintro e w3 ⟨rfl,hbb⟩;have qq6:=hide (quh.out.carry hbb);have qac2:=hide (qac1.out.carry hbb);have qao:=bT qai hbb;clear hcon hbb kx0 kx1 kx2 kx3 kx4 kx5 ky0 ky1 ky2 ky3 ky4 ky5 g2'
 by_cases g3:¬f.2.2.1=g.2.2.1
 ·rw [decide_eq_false g3]
  have HE:=hide (show qlp f g=false from qoo (fun e=>g3 (by rw [e])));go_wp2;go_ret;rw [HE.out];exact ⟨rfl,qao.out⟩
 rw [Decidable.not_not] at g3;rw [decide_eq_true g3];obtain ⟨kx0,kx1,kx2,kx3,kx4,kx5⟩:=qab qq6.out;obtain ⟨ky0,ky1,ky2,ky3,ky4,ky5⟩:=qab qac2.out;have hcon:=qnt _ _ _ f.2.2.2 _ _ _ g.2.2.2 w3 (HX.out.kl.carry qao.out) HX.out.n5 (HY.out.kl.carry qao.out) HY.out.n5
 go_wp2_with fail
 refine hcon.mono ?_
 rintro e w4 ⟨rfl,hbb⟩;have qac3:=hide (qq6.out.carry hbb);have HFy_w4:=hide (qac2.out.carry hbb);have qca:=bT qao hbb;clear hcon hbb kx0 kx1 kx2 kx3 kx4 kx5 ky0 ky1 ky2 ky3 ky4 ky5
 have HE:=hide (show qlp f g=decide (f.2.2.2=g.2.2.2) by
  unfold qlp
  rw [decide_eq_true g1,decide_eq_true g3,decide_eq_true (show f.2.1=g.2.1 by have h1:x.g=_:=HX.out.g;have h2:y.g=_:=HY.out.g;have:=HG.out;omega)];simp)
 clear g1 g3;go_wp2;go_ret;rw [HE.out];exact ⟨rfl,qca.out⟩
structure Dq6 where
 (a1:Option Addr) (n1 c1:Nat) (a2:Option Addr) (n2 c2:Nat) (a3:Option Addr) (n3 c3:Nat)
theorem qab8 {d:Dk} {v:Value} (w:World) (hD:RdD w v d) (b1:d.1.length≤140737488355328) (b2:d.2.1.length≤1000000) (b3:d.2.2.length≤1000000) (d2:∀p∈d.2.1,p.2.length≤140737488355328) (d3:∀p∈d.2.2,p.2.2.length≤140737488355328):
  Calls Tryz.prog 31 #[v] w fun e w'=>∃v',e=.returned v'∧OwD w' w.heap.size v' d∧Below w.heap.size w w':=by
 refine (qt0 w hD b1 b2 b3 d2 d3).mono ?_
 rintro e w' ⟨x,y,z,B,rfl,hB,h1,_,h2,h3,_,hb⟩;exact ⟨_,rfl,⟨x,y,z,rfl,h1,h2.mono hB,h3.mono hB⟩,hb⟩
theorem qen (x:FsV) (f:Fsd) (w:World) (h:RdX w x f) (hsm:(f.1.1.length≤140737488355328∧f.1.2.1.length≤1000000∧f.1.2.2.length≤1000000)∧f.2.2.1.length≤1000∧(∀g∈f.2.2.1,g.2.length≤1000000)∧f.2.2.2.length≤1000∧∀g∈f.2.2.2,g.2.length≤1000000) (hsd:(∀p∈f.1.2.1,p.2.length≤140737488355328)∧∀p∈f.1.2.2,p.2.2.length≤140737488355328):
  Calls Tryz.prog 6 #[x.val] w fun e w'=>∃y:FsV,e=.returned y.val∧OwFs w' w.heap.size y.val f∧Below w.heap.size w w':=by
 have HSM:=hide hsm;have HSD:=hide hsd;have HX:=hide h;clear hsm hsd h;obtain ⟨w1,ew⟩:∃w1,(w.alloc (.cells x.cs 32)).alloc (.cells #[.slice none 0 0,.slice none 0 0,.slice none 0 0,.int .u32 0,.slice none 0 0,.slice none 0 0] 32)=w1:=⟨_,rfl⟩;have q0:Below w.heap.size w (w.alloc (.cells x.cs 32)):=(Below.refl _ _).alloc (Nat.le_refl _) _
 have q1:Below (w.alloc (.cells x.cs 32)).heap.size (w.alloc (.cells x.cs 32)) w1:=by rw [←ew];exact (Below.refl _ _).alloc (Nat.le_refl _) _
 have HF:=hide (show FsAt w1 w.heap.size x from (Bq.new w 32 x.cs).carry q1);have HFB:=hide (show FsB w1 (w.heap.size+1) by have:=FsB.new (w.alloc (.cells x.cs 32));rw [←ew];simpa using this);have HB:=hide (q0.trans (q1.mono q0.size));clear q0 q1;unfold FsV.val;unfold FsV.cs at ew
 go_enter Tryz.func6,Tryz.ntmps6
 go_wp2_with fail
 try rw [ew]
 clear ew
 have hK:Keeps (fun wx=>(FsAt wx w.heap.size x∧FsB wx (w.heap.size+1))∧Below w.heap.size w wx):=fun w1 w2 h hb=>⟨⟨h.1.1.carry hb,h.1.2.carry hb⟩,h.2.trans (hb.mono h.2.size)⟩
 refine qaj hK (by kernel_rfl) ⟨⟨HF.out,HFB.out⟩,HB.out⟩ ?_
 intro hS;clear HF HFB HB;generalize w1.drew=wd at *
 refine qah [0,1,3,4,5,6,8,9] (fuel:=5) (a':=?zp1a) (by kernel_rfl) (by kernel_rfl) (by kernel_rfl) ?zp1p hS ?zp1n
 case zp1p=>
  iterate 8 (apply Yl.cons rfl (by kernel_rfl);focus (rintro wx ⟨⟨x1,x2⟩,x3⟩;(obtain ⟨k0,k1,k2,k3,k4,k5⟩:=qab x1);go_simp;all_goals (with_reducible rfl));try simp only [Act.put,sA,sB,sC])
  exact Yl.nil
 refine qat (i:=2) (R:=fun v wx=>∃d7:Dq6,v=.agg #[.slice d7.a1 d7.n1 d7.c1,.slice d7.a2 d7.n2 d7.c2,.slice d7.a3 d7.n3 d7.c3]∧OwD wx w.heap.size (.agg #[.slice d7.a1 d7.n1 d7.c1,.slice d7.a2 d7.n2 d7.c2,.slice d7.a3 d7.n3 d7.c3]) f.1∧Below wd.heap.size wd wx) rfl (by kernel_rfl) (by kernel_rfl) (by obtain ⟨⟨x1,x2⟩,x3⟩:=hS;go_simp;try rfl) ((qab8 (d:=f.1) wd (HX.out.d.carry hS.2) HSM.out.1.1 HSM.out.1.2.1 HSM.out.1.2.2 HSD.out.1 HSD.out.2).mono fun e wx ⟨v,h1,h2,h3⟩=>by
   obtain ⟨a1,c1,a2,c2,a3,c3,ev⟩:=h2.form;subst ev
   exact ⟨_,h1,⟨a1,_,c1,a2,_,c2,a3,_,c3⟩,rfl,h2.mono hS.2.size,h3⟩) ?_
 rintro v9 wA ⟨d7,rfl,ho7,hbb⟩;have hSn:=hK _ _ hS hbb;refine ⟨hSn, ?_⟩;clear hS;have hS:=hSn;clear hSn hbb
 try simp only [Act.put,sA,sB,sC]
 refine qat (i:=7) (R:=fun v wx=>∃a n c,v=.agg #[.slice a n c]∧OwF wx w.heap.size (.slice a n c) f.2.2.1∧Below wA.heap.size wA wx) rfl (by kernel_rfl) (by kernel_rfl) (by obtain ⟨⟨x1,x2⟩,x3⟩:=hS;go_simp;try rfl) ((qg0 _ _ _ f.2.2.1 wA (HX.out.fl.carry hS.2) HX.out.n4 (by have h4:x.n4=_:=HX.out.n4;have:=HSM.out.2.1;omega) HSM.out.2.2.1).mono fun e wx ⟨v,h1,h2,h3⟩=>by
   obtain ⟨a,c,ev⟩:=h2.form;subst ev
   exact ⟨_,h1,a,_,c,rfl,h2.mono hS.2.size,h3⟩) ?_
 rintro v9 wB ⟨a8,n8,c8,rfl,ho8,hbb⟩;have hSn:=hK _ _ hS hbb;refine ⟨hSn, ?_⟩;have ho7:=ho7.carry hbb;clear hS;have hS:=hSn;clear hSn hbb
 try simp only [Act.put,sA,sB,sC]
 refine qat (i:=10) (R:=fun v wx=>∃a n c,v=.agg #[.slice a n c]∧OwF wx w.heap.size (.slice a n c) f.2.2.2∧Below wB.heap.size wB wx) rfl (by kernel_rfl) (by kernel_rfl) (by obtain ⟨⟨x1,x2⟩,x3⟩:=hS;go_simp;try rfl) ((qg0 _ _ _ f.2.2.2 wB (HX.out.kl.carry hS.2) HX.out.n5 (by have h4:x.n5=_:=HX.out.n5;have:=HSM.out.2.2.2.1;omega) HSM.out.2.2.2.2).mono fun e wx ⟨v,h1,h2,h3⟩=>by
   obtain ⟨a,c,ev⟩:=h2.form;subst ev
   exact ⟨_,h1,a,_,c,rfl,h2.mono hS.2.size,h3⟩) ?_
 rintro v9 wC ⟨a9,n9,c9,rfl,ho9,hbb⟩;have hSn:=hK _ _ hS hbb;refine ⟨hSn, ?_⟩;have ho7:=ho7.carry hbb;have ho8:=ho8.carry hbb;clear hS;have hS:=hSn;clear hSn hbb
 try simp only [Act.put,sA,sB,sC]
 refine qad (i:=11) (v:=?qtv11) rfl (by kernel_rfl) (by kernel_rfl) (by kernel_rfl) (by rfl) ?qty11 hS ?qtr11
 case qty11=>(rintro wx ⟨⟨x1,x2⟩,x3⟩;(obtain ⟨k0,k1,k2,k3,k4,k5⟩:=qab x1);go_simp;all_goals (with_reducible rfl))
 try simp only [Act.put,sA,sB,sC]
 have hv:OwFs wC w.heap.size (⟨d7.a1,d7.n1,d7.c1,d7.a2,d7.n2,d7.c2,d7.a3,d7.n3,d7.c3,x.g,a8,n8,c8,a9,n9,c9⟩:FsV).val f:=⟨_,_,_,_,_,by rw [←HX.out.g],ho7,ho8,ho9⟩;have hst:=hv.assign hS.1.2 hS.2 (by omega);obtain ⟨⟨d0,e0⟩,⟨d1,e1⟩,⟨d2,e2⟩,⟨d3,e3⟩,⟨d4,e4⟩,⟨d5,e5⟩,ff⟩:=hS.1.2.cells;have f0:=ff 0;have f1:=ff 1;have f2:=ff 2;have f3:=ff 3;have f4:=ff 4;have f5:=ff 5;obtain ⟨wE,ewE⟩:∃wN,set6 wC (w.heap.size+1) ⟨d7.a1,d7.n1,d7.c1,d7.a2,d7.n2,d7.c2,d7.a3,d7.n3,d7.c3,x.g,a8,n8,c8,a9,n9,c9⟩=wN:=⟨_,rfl⟩;rw [ewE] at hst;have hSN:(fun wx=>(FsAt wx w.heap.size x∧FsB wx (w.heap.size+1))∧Below w.heap.size w wx) wE:=⟨⟨hS.1.1.grown hst.2.2.2.2 (by omega),FsB.of hst.2.2.1⟩,hst.2.1⟩;have HST:=hide hst;unfold set6 at ewE;dsimp only at ewE;clear ff hst hv
 refine qbx (i:=12) (w':=wE) rfl (by kernel_rfl) (by kernel_rfl) (by rw [←ewE];go_simp) hSN ?_
 clear hS ewE e0 e1 e2 e3 e4 e5 f0 f1 f2 f3 f4 f5;have hS:=hSN;clear hSN
 try simp only [Act.put,sA,sB,sC]
 refine wpAnyH_done (by kernel_rfl) ?_ _
 refine NoPanic.normal ?_
 try simp only [Act.put,sA,sB,sC]
 clear hS hK ho7 ho8 ho9;obtain ⟨z0,z1,z2,z3,z4,z5⟩:=qab HST.out.2.2.1;dsimp only at z0 z1 z2 z3 z4 z5;go_wp2
 try simp only [Exit.inBlock,Exit.then]
 refine bodyPost_ret (v:=(⟨d7.a1,d7.n1,d7.c1,d7.a2,d7.n2,d7.c2,d7.a3,d7.n3,d7.c3,x.g,a8,n8,c8,a9,n9,c9⟩:FsV).val) ?_ rfl ⟨_,rfl,HST.out.1,HST.out.2.1⟩
 simp [results,Tryz.results6,go_sem, *]
theorem qso {f:Fsd} (h:(f.1.1.length≤100000∧f.1.2.1.length≤2000∧f.1.2.2.length≤2000)∧okG f.2.2.1∧okG f.2.2.2):(f.1.1.length≤140737488355328∧f.1.2.1.length≤1000000∧f.1.2.2.length≤1000000)∧f.2.2.1.length≤1000∧(∀g∈f.2.2.1,g.2.length≤1000000)∧f.2.2.2.length≤1000∧∀g∈f.2.2.2,g.2.length≤1000000:=by
 obtain ⟨h1,h2,h3⟩:=h;exact ⟨⟨by omega,by omega,by omega⟩,by have:=h2.1;omega,fun g hg=>by have:=(h2.2.2 g hg).1;omega,by have:=h3.1;omega,fun g hg=>by have:=(h3.2.2 g hg).1;omega⟩
theorem qab9 (n:Int) (w:World):
  Calls Tryz.prog 57 #[.int .i64 n] w fun e w'=>∃dv,e=.returned (.tuple #[dv,.int .i64 (newD n).2])∧OwD w' w.heap.size dv (newD n).1∧Below w.heap.size w w':=by
 obtain ⟨w1,ew⟩:∃w1,w.alloc (.cells #[.slice none 0 0,.slice none 0 0,.slice none 0 0] 26)=w1:=⟨_,rfl⟩
 have hb1:Below w.heap.size w w1:=by rw [←ew];exact (Below.refl _ _).alloc (Nat.le_refl _) _
 have hr1:w1.heap[w.heap.size]? =some (.cells #[.slice none 0 0,.slice none 0 0,.slice none 0 0] 26 (0,0)):=by rw [←ew];exact heap_alloc_new _ _
 have hs1:w1.heap.size=w.heap.size+1:=by rw [←ew];simp
 by_cases h0:n<1
 ·have HE:=hide (show newD n=(dz,20) by unfold newD;rw [if_pos (.inl h0)])
  clear hs1
  go_enter Tryz.func57,Tryz.ntmps57
  obtain ⟨ws,ews,hws,hgs⟩:=qbi (.slice none 0 0) (.slice none 0 0) (.slice none 0 0) hr1;obtain ⟨z1,z2,z3,z4⟩:=cells3 hr1;obtain ⟨q1,q2,q3,q4⟩:=cells3 hws;have hbs:=hb1.grown hgs hb1.size (fun k hk=>by cases hk;exact Nat.le_refl _);clear hws hgs;go_wp2
  refine bodyPost_ret (v:=.tuple #[.agg #[.slice none 0 0,.slice none 0 0,.slice none 0 0],.int .i64 20]) ?_ rfl ?_
  ·simp [results,Tryz.results57,go_sem, *]
  ·rw [HE.out];exact ⟨_,rfl,qb3 _ _,hbs⟩
 ·have h0':decide (n<1)=false:=by simpa using h0
  by_cases h1:4096<n
  ·have HE:=hide (show newD n=(dz,20) by unfold newD;rw [if_pos (.inr h1)])
   clear hs1
   go_enter Tryz.func57,Tryz.ntmps57
   obtain ⟨ws,ews,hws,hgs⟩:=qbi (.slice none 0 0) (.slice none 0 0) (.slice none 0 0) hr1;obtain ⟨z1,z2,z3,z4⟩:=cells3 hr1;obtain ⟨q1,q2,q3,q4⟩:=cells3 hws;have hbs:=hb1.grown hgs hb1.size (fun k hk=>by cases hk;exact Nat.le_refl _);clear hws hgs;go_wp2
   refine bodyPost_ret (v:=.tuple #[.agg #[.slice none 0 0,.slice none 0 0,.slice none 0 0],.int .i64 20]) ?_ rfl ?_
   ·simp [results,Tryz.results57,go_sem, *]
   ·rw [HE.out];exact ⟨_,rfl,qb3 _ _,hbs⟩
  ·have h1':decide (4096<n)=false:=by simpa using h1
   obtain ⟨k,rfl⟩:∃k:Nat,n=k:=⟨n.toNat,by omega⟩;have HE:=hide (show newD k=((List.replicate (k*128) 0,[],[]),0) by unfold newD;rw [if_neg (by omega)];rfl)
   have hw:wrap64 ((k:Int)*128)=((k*128:Nat):Int):=by unfold wrap64;omega
   obtain ⟨i0,hi,hz0,hz1,hz2⟩:=info_parts Tryz.infoB;obtain ⟨w2,hmake,hown2,hg2⟩:=run_make_full (P:=Tryz.prog) w1 w1.heap.size 22 5 i0 _ 1 Tryz.underlying22 hi hz0 hz1 .i64 .i64 (k*128) (by rw [hz2];omega) (by unfold maxLen;omega) (Nat.le_refl _);have hb2:Below w1.heap.size w1 w2:=(Below.refl _ _).grown hg2 (Nat.le_refl _) (fun k hk=>by cases hk)
   have hO2:OwB w2 w1.heap.size (.slice (some ⟨w1.heap.size,0,none⟩) (k*128) (k*128)) (List.replicate (k*128) 0):=by
    show w2.ownsRow _ _ _ _ _ _
    rw [List.length_replicate]
    have e:(madeCells (Value.int IntKind.u8 0).cells (k*128*1)).toList=u8v (List.replicate (k*128) 0):=by
     show (madeCells #[Value.int .u8 0] (k*128*1)).toList=_
     rw [toList_madeCells_one]
     simp [u8v]
    rw [←e];exact hown2
   have hr2:=qac _ _ _ _ hr1 hb2;have hB2:Below w.heap.size w w2:=hb1.trans (hb2.mono hb1.size);obtain ⟨ws,ews,hws,hgs⟩:=qbi (.slice (some ⟨w1.heap.size,0,none⟩) (k*128) (k*128)) (.slice none 0 0) (.slice none 0 0) hr2;obtain ⟨z1,z2,z3,z4⟩:=cells3 hr2;obtain ⟨q1,q2,q3,q4⟩:=cells3 hws;have hbs:=hB2.grown hgs hB2.size (fun k hk=>by cases hk;exact Nat.le_refl _);have HO:Hid (OwD ws w.heap.size (.agg #[.slice (some ⟨w1.heap.size,0,none⟩) (k*128) (k*128),.slice none 0 0,.slice none 0 0]) (List.replicate (k*128) 0,[],[])):=⟨_,_,_,rfl,(hO2.grown hgs (by omega)).mono (by omega),⟨[],rfl,World.ownsRow_nil _ _ _ _,by simp⟩,⟨[],rfl,World.ownsRow_nil _ _ _ _,by simp⟩⟩;rw [show ((k*128:Nat):Int)=(k:Int)*128 by omega] at hmake;clear hs1 hi hz0 hz1 hz2 hown2 hg2 hb2 hO2 hr2 hws hgs hr1 hB2 hw
   go_enter Tryz.func57,Tryz.ntmps57
   go_wp2
   refine bodyPost_ret (v:=.tuple #[.agg #[.slice (some ⟨w1.heap.size,0,none⟩) (k*128) (k*128),.slice none 0 0,.slice none 0 0],.int .i64 0]) ?_ rfl ?_
   ·simp [results,Tryz.results57,go_sem, *]
   ·rw [HE.out];exact ⟨_,rfl,HO.out,hbs⟩
theorem qy8 {d:Dk} {v:Value} (w:World) (hD:RdD w v d):
  Calls Tryz.prog 51 #[v] w fun e w'=>∃dv,e=.returned (.tuple #[dv,.int .i64 (doD d [(true,0,[])] 1).2])∧OwD w' w.heap.size dv (doD d [(true,0,[])] 1).1∧Below w.heap.size w w':=by
 obtain ⟨a1,c1,a2,c2,a3,c3,rfl,h1,h2,h3⟩:=hD.form;have hml1:=h1.len_le;have HD:=hide hD;clear hD h1 h2 h3;generalize e1:d.1.length=n1 at *;generalize e2:d.2.1.length=n2 at *;generalize e3:d.2.2.length=n3 at *;have HNM:=hide hml1;have HMY:=hide (show mny d=n1 / 128 by rw [←e1];rfl);clear e1 e2 e3 hml1;obtain ⟨w1,ew⟩:∃w1,(w.alloc (.cells #[.slice a1 n1 c1,.slice a2 n2 c2,.slice a3 n3 c3] 26)).alloc (.cells #[.slice none 0 0,.slice none 0 0,.slice none 0 0] 26)=w1:=⟨_,rfl⟩
 have hb1:Below w.heap.size w w1:=by rw [←ew];exact ((Below.refl _ _).alloc (Nat.le_refl _) _).alloc (by simp) _
 have hd1:w1.heap[w.heap.size]? =some (.cells #[.slice a1 n1 c1,.slice a2 n2 c2,.slice a3 n3 c3] 26 (0,0)):=by
  rw [←ew,heap_alloc_old _ _ (by simp)];exact heap_alloc_new _ _
 have hr1:w1.heap[w.heap.size+1]? =some (.cells #[.slice none 0 0,.slice none 0 0,.slice none 0 0] 26 (0,0)):=by rw [←ew];exact qau _ _ _
 obtain ⟨k0,k1,k2,_⟩:=cells3 hd1
 go_enter Tryz.func51,Tryz.ntmps51
 go_wp2_with fail
 refine (qg5 (d:=d) _ (HD.out.carry hb1)).mono ?_
 rintro e w2 ⟨rfl,hb2⟩;have hB2:Below w.heap.size w w2:=hb1.trans (hb2.mono hb1.size);have hd2:=qac _ _ _ _ hd1 hb2;have hr2:=qac _ _ _ _ hr1 hb2;clear ew k0 k1 k2 hr1 hd1 hb1 hb2
 rcases qdw d with ⟨hok,hck⟩ | ⟨hok,hck⟩
 case inr=>
  rw [hck];have HE:=hide (show doD d [(true,0,[])] 1=(dz,20) by unfold doD;rw [if_pos (by rw [hck];decide),hck]);clear hck hok hd2;obtain ⟨ws,ews,hws,hgs⟩:=qbi (.slice none 0 0) (.slice none 0 0) (.slice none 0 0) hr2;obtain ⟨z1,z2,z3,z4⟩:=cells3 hr2;obtain ⟨q1,q2,q3,q4⟩:=cells3 hws;have hbs:=hB2.grown hgs hB2.size (fun k hk=>by cases hk;simp);clear hws hgs;go_wp2
  refine bodyPost_ret (v:=.tuple #[.agg #[.slice none 0 0,.slice none 0 0,.slice none 0 0],.int .i64 20]) ?_ rfl ?_
  ·simp [results,Tryz.results51,go_sem, *]
  ·rw [HE.out];exact ⟨_,rfl,qb3 _ _,hbs⟩
 rw [hck];have HOK:=hide hok;obtain ⟨hfine,hc1,hc2⟩:=Fine.of_ok hok;have HF:=hide hfine;have HCK:=hide hck;clear hck hok hfine;obtain ⟨k0,k1,k2,_⟩:=cells3 hd2;have hB4:=hB2;have hd4:=hd2;have hr4:=hr2;obtain ⟨w4,ew4⟩:∃w4,w4=w2:=⟨_,rfl⟩;rw [←ew4] at hB4 hd4 hr4 k0 k1 k2 ⊢;clear hB2 hd2 hr2 ew4;have HAE:=hide (show actE (mny d) (true,0,[])=0 from rfl)
 go_wp2_with fail
 clear k0 k1 k2
 refine (qxz (d:=d) _ (HD.out.carry hB4) HOK.out).mono ?_
 rintro e w5 ⟨v5,B,rfl,hDv5,hb5⟩;have hB5:=hB4.trans (hb5.mono hB4.size);have hr5:=qac _ _ _ _ hr4 hb5;have HDV:=hide (hDv5.mono hB4.size);clear hb5 hr4 hd4 hDv5
 go_wp2_with fail
 refine (qx1 w B (mny d) d v5 true 0 none 0 0 [] _ HDV.out hB5 (.inl ⟨rfl,.inl rfl⟩) rfl (by decide) HF.out hc2).mono ?_
 rintro e w6 ⟨v6,r,rfl,hkd,⟨y1,m1,d1,y2,m2,d2,y3,m3,d3,rfl⟩,hB6,hone⟩;have hr6:=hkd.2 _ _ _ hr5
 have HDO:=hide (show doD d [(true,0,[])] 1=(match oneD d (true,0,[]) with | none=>(dz,9) | some x=>(x,0)) by
  have h1:errD d [(true,0,[])]=0:=by
   unfold errD;rw [if_neg (by rw [HCK.out];decide)]
   show (if actE (mny d) (true,0,[])=0 then (0:Int) else _)=0
   rw [HAE.out];rfl
  have:=qacu d [(true,0,[])] 1 h1 (Nat.le_refl _)
  rw [show ((1:Nat):Int)=1 from rfl] at this;rw [this]
  show (match qbs d [(true,0,[])] with | none=>_ | some x=>_)=_
  unfold qbs
  cases oneD d (true,0,[]) with
  | none=>rfl
  | some x=>rfl)
 have HONE:=hide hone;clear hkd hr5 hB5 HDV hone;obtain ⟨w7,ew7⟩:∃w7,w6.alloc (.cells #[.slice y1 m1 d1,.slice y2 m2 d2,.slice y3 m3 d3] 26)=w7:=⟨_,rfl⟩
 have hb7:Below w6.heap.size w6 w7:=by rw [←ew7];exact (Below.refl _ _).alloc (Nat.le_refl _) _
 have hx7:w7.heap[w6.heap.size]? =some (.cells #[.slice y1 m1 d1,.slice y2 m2 d2,.slice y3 m3 d3] 26 (0,0)):=by rw [←ew7];exact heap_alloc_new _ _
 have hB7:=hB6.trans (hb7.mono hB6.size);have hr7:=qac _ _ _ _ hr6 hb7
 rcases HONE.out with ⟨ho,hr⟩ | ⟨d',ho,hr,hdv⟩
 ·subst hr
  have HE:=hide (show doD d [(true,0,[])] 1=(dz,9) by rw [HDO.out,ho]);clear ho hx7 hb7 hr6 HONE;obtain ⟨ws,ews,hws,hgs⟩:=qbi (.slice none 0 0) (.slice none 0 0) (.slice none 0 0) hr7;obtain ⟨z1,z2,z3,z4⟩:=cells3 hr7;obtain ⟨q1,q2,q3,q4⟩:=cells3 hws;have hbs:=hB7.grown hgs hB7.size (fun k hk=>by cases hk;simp);clear hws hgs;go_wp2
  refine bodyPost_ret (v:=.tuple #[.agg #[.slice none 0 0,.slice none 0 0,.slice none 0 0],.int .i64 9]) ?_ rfl ?_
  ·simp [results,Tryz.results51,go_sem, *]
  ·rw [HE.out];exact ⟨_,rfl,qb3 _ _,hbs⟩
 ·subst hr
  have HE:=hide (show doD d [(true,0,[])] 1=(d',0) by rw [HDO.out,ho]);have HOD:=hide (hdv.own.carry hb7);obtain ⟨ws,ews,hws,hgs⟩:=qbi (.slice y1 m1 d1) (.slice y2 m2 d2) (.slice y3 m3 d3) hr7;obtain ⟨z1,z2,z3,z4⟩:=cells3 hr7;obtain ⟨l1,l2,l3,l4⟩:=cells3 hx7;obtain ⟨q1,q2,q3,q4⟩:=cells3 hws;have hbs:=hB7.grown hgs hB7.size (fun k hk=>by cases hk;simp);have HOW:=hide (HOD.out.keptT3 hgs hr7);clear hws hgs hdv ho hb7 hr6 HONE;go_wp2
  refine bodyPost_ret (v:=.tuple #[.agg #[.slice y1 m1 d1,.slice y2 m2 d2,.slice y3 m3 d3],.int .i64 0]) ?_ rfl ?_
  ·simp [results,Tryz.results51,go_sem, *]
  ·rw [HE.out];exact ⟨_,rfl,HOW.out,hbs⟩
end Go.Proofs.YthilibleedbchaaGreat

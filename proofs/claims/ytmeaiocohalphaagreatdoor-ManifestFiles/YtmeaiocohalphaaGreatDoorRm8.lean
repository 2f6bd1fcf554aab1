/-
  Of the document's side of layer 6: blocksOf, Size, Get.
-/
import Derived.Test.YtmeaiocohalphaaGreatDoorVn9
import Derived.Test.YtmeaiocohalphaaGreatDoorFiRd6
import Derived.Test.YtmeaiocohalphaaGreatDoorR3
import Derived.Test.YtmeaiocohalphaaGreatDoorRTwin2
import Derived.Test.YtmeaiocohalphaaGreatDoorSLat
import Derived.Test.YtmeaiocohalphaaGreatDoorFiRef7
import Derived.Test.YtmeaiocohalphaaGreatDoorFiRef4
import Derived.Test.YtmeaiocohalphaaGreatDoorFiRef8
import Derived.Test.YtmeaiocohalphaaGreatDoorNf4
import Derived.Test.YtmeaiocohalphaaGreatDoorMathFs6
import Derived.Test.YtmeaiocohalphaaGreatDoorRmRef
import Derived.Test.YtmeaiocohalphaaGreatDoorFiApart
set_option maxHeartbeats 8000000
set_option maxRecDepth 100000
namespace Go.Proofs.YtmeaiocohalphaaGreatDoor
open Go.RowKit
set_option linter.all false
theorem qal1 {lo sz ge ar:Nat} (har:ar=2+ge % 2*16) (hlo:lo=ar*128) (hs:sz≤2048):wrap64 ((lo:Int)+sz)=((lo+sz:Nat):Int):=by
 unfold wrap64;omega
theorem qah0 {f:Fsd} (h:chk f.1≠0):fsE f=8:=by
 rcases qb0 f with ⟨hk,_⟩ | ⟨_,e⟩
 ·exact absurd (qrv (qax hk).1) h
 ·exact e
theorem qx8 {f:Fsd} (h:mny f.1≤34∨chkF f.2.2.1 (mny f.1)≠0):fsE f=8:=by
 rcases qb0 f with ⟨hk,_⟩ | ⟨_,e⟩
 ·rcases h with h | h
  ·have:=(qax hk).2.1;omega
  ·exact absurd hk.2.2.2.2.2 h
 ·exact e
theorem qah1 {f:Fsd} {p:Pu} (hp:p∈f.1.2.1) (h:p.1<34):fsE f=8:=by
 rcases qb0 f with ⟨hk,_⟩ | ⟨_,e⟩
 ·have:=hk.2.2.1 p hp;omega
 ·exact e
theorem qkx {f:Fsd} (h:¬okFs f):fsE f=8:=by
 rcases qb0 f with ⟨hk,_⟩ | ⟨_,e⟩
 ·exact absurd hk h
 ·exact e
def qmu (f g:Fsd):Bool:=decide (f.1=g.1) && decide (f.2.1=g.2.1) && decide (f.2.2.1=g.2.2.1) && decide (f.2.2.2=g.2.2.2)
theorem sameB_iff {f g:Fsd}:qmu f g=true↔f=g:=by
 unfold qmu
 simp only [Bool.and_eq_true,decide_eq_true_eq]
 constructor
 ·rintro ⟨⟨⟨h1,h2⟩,h3⟩,h4⟩
  obtain ⟨f1,f2,f3,f4⟩:=f;obtain ⟨g1,g2,g3,g4⟩:=g
  simp only at h1 h2 h3 h4
  subst h1 h2 h3 h4;rfl
 ·intro h
  subst h;exact ⟨⟨⟨rfl,rfl⟩,rfl⟩,rfl⟩
theorem qjo (f:Fsd):qmu f f=true:=sameB_iff.2 rfl
theorem qqy {f g:Fsd} (h:f≠g):qmu f g=false:=by
 cases e:qmu f g with
 | false=>rfl
 | true=>exact absurd (sameB_iff.1 e) h
theorem qem (x:FsV) (f:Fsd) (w:World) (h:RdX w x f) (hw:WfX f):
  Calls Tryz.prog 55 #[x.val] w fun e w'=>e=.returned (.int .i64 (fsE f))∧Below w.heap.size w w':=by
 have HW:=hide hw;have HX:=hide h;clear hw h;obtain ⟨w1,ew⟩:∃w1,w.alloc (.cells x.cs 33)=w1:=⟨_,rfl⟩
 have hb1:Below w.heap.size w w1:=by rw [←ew];exact (Below.refl _ _).alloc (Nat.le_refl _) _
 have qca:=hide (show FsAt w1 w.heap.size x by rw [←ew];exact Bq.new _ _ _);have qad:=hide hb1;clear hb1;unfold FsV.val;unfold FsV.cs at ew
 go_enter Tryz.func55,Tryz.ntmps55
 obtain ⟨kf0,kf1,kf2,kf3,kf4,kf5⟩:=qab qca.out;have hcon:=qjg (d:=f.1) w1 (HX.out.d.carry qad.out)
 go_wp2_with fail
 try rw [ew]
 refine hcon.mono ?_
 rintro e w2 ⟨rfl,hbb⟩;have qbr:=hide (qca.out.carry hbb);have qae:=bT qad hbb;clear hcon hbb kf0 kf1 kf2 kf3 kf4 kf5
 try clear ew
 rcases (qdr f.1).symm with ⟨hok,hck⟩ | ⟨hok,hck⟩
 ·rw [hck]
  have HE:=hide (qah0 (f:=f) (by rw [hck];decide));go_wp2;go_ret;rw [HE.out];exact ⟨rfl,by first | exact qae.out | assumption⟩
 rw [hck];have HOK:=hide hok;clear hok hck;have HLEN:=hide (show x.n1=128*mny f.1∧mny f.1≤4096 from ⟨HX.out.n1.trans (qmg HOK.out),((qb3 f.1).1 HOK.out).2.2.1⟩);have HN2:=hide (show x.n2≤65536 from by rw [HX.out.n2];exact ((qb3 f.1).1 HOK.out).2.2.2.1);obtain ⟨B,hB⟩:∃B:Nat,B=mny f.1:=⟨_,rfl⟩;have HBB:=hide hB
 have hdv:x.n1 / 128=B:=by have:=HLEN.out;rw [hB];omega
 clear hB;obtain ⟨kf0,kf1,kf2,kf3,kf4,kf5⟩:=qab qbr.out;have hcon:=qf6 x.a1 x.a2 x.a3 x.n1 x.c1 x.n2 x.c2 x.n3 x.c3 (by rw [HX.out.n1];exact HX.out.d.d1.len_le) w2;rw [hdv] at hcon
 go_wp2_with fail
 refine hcon.mono ?_
 rintro e w3 ⟨rfl,hbb⟩;have qhi:=hide (qbr.out.carry hbb);have qak:=bT qae hbb;clear hcon hbb kf0 kf1 kf2 kf3 kf4 kf5;clear hdv
 by_cases g1:B≤34
 ·have g1':(B:Int)≤34:=by omega
  have HE:=hide (qx8 (f:=f) (.inl (by rw [←HBB.out];exact g1)));go_wp2;go_ret;rw [HE.out];exact ⟨rfl,by first | exact qak.out | assumption⟩
 have g1':decide ((B:Int)≤34)=false:=decide_eq_false (by omega);clear g1;obtain ⟨kf0,kf1,kf2,kf3,kf4,kf5⟩:=qab qhi.out;have hcon:=qfo _ _ _ f.2.2.1 B w3 (HX.out.fl.carry qak.out) HX.out.n4 HW.out.fl
 go_wp2_with fail
 refine hcon.mono ?_
 rintro e w4 ⟨rfl,hbb⟩;have qmv:=hide (qhi.out.carry hbb);have qbh:=bT qak hbb;clear hcon hbb kf0 kf1 kf2 kf3 kf4 kf5 g1'
 by_cases g2:¬chkF f.2.2.1 B=0
 ·have g2':(chkF f.2.2.1 B !=0)=true:=by simpa using g2
  have HE:=hide (qx8 (f:=f) (.inr (by rw [←HBB.out];exact g2)));go_wp2;go_ret;rw [HE.out];exact ⟨rfl,by first | exact qbh.out | assumption⟩
 rw [Decidable.not_not] at g2;have HG2:=hide g2;rw [g2];clear g2;obtain ⟨kf0,kf1,kf2,kf3,kf4,kf5⟩:=qab qmv.out;have hn65:=HN2.out
 go_wp2_with fail
 clear kf0 kf1 kf2 kf3 kf4 kf5
 go_loopw [4] (fun i wr=>∃k:Nat,k≤x.n2∧i=.int .i64 k∧Hid (∀p∈f.1.2.1.take k,34≤p.1)∧Hid (Below w4.heap.size w4 wr)) (fun i _=>x.n2 - (intOf i).toNat)
 case atStart=>exact ⟨0,Nat.zero_le _,rfl,hide (by simp),hide (Below.refl _ _)⟩
 case round=>
  obtain ⟨k,hk,rfl,hall,hbel⟩:=hrel;have qfr:=hide (show Below w.heap.size w wr from qbh.out.trans (hbel.out.mono qbh.out.size));have qajf:=hide (qmv.out.carry hbel.out);obtain ⟨k0,k1,k2,k3,k4,k5⟩:=qab qajf.out
  by_cases hlt:k<x.n2
  ·have hlt':(k:Int)<x.n2:=by omega
   have hkl:k<f.1.2.1.length:=by have h2:x.n2=_:=HX.out.n2;omega
   obtain ⟨b,off,ea,q0, -⟩:=(HX.out.d.d2.carry qfr.out).at k hkl;rw [ea] at k1
   have HALL:=hide (fun (h:34≤(f.1.2.1[k]).1)=>show ∀p∈f.1.2.1.take (k+1),34≤p.1 by
    intro p hp;rw [List.take_succ_eq_append_getElem hkl] at hp
    rcases List.mem_append.1 hp with hp | hp
    ·exact hall.out p hp
    ·rw [List.mem_singleton.1 hp];exact h)
   have HBAD:=hide (fun (h:(f.1.2.1[k]).1<34)=>qah1 (List.getElem_mem hkl) h);obtain ⟨N,hN⟩:∃N,N=(f.1.2.1[k]).1:=⟨_,rfl⟩;rw [←hN] at q0 HALL HBAD;clear hN
   by_cases g3:N<34
   ·have g3':decide (N<34)=true:=decide_eq_true g3
    have HE:=hide (HBAD.out g3);clear g3;go_wp2;go_ret;rw [HE.out];exact ⟨rfl,qfr.out⟩
   ·have g3':decide (N<34)=false:=decide_eq_false g3
    have HA2:=hide (HALL.out (by omega));clear g3;go_wp2;go_roundw
    case rel=>exact ⟨k+1,by omega,rfl,HA2,hbel⟩
    case measure=>simp only [intOf];omega
  ·have hd:decide ((k:Int)<x.n2)=false:=decide_eq_false (by omega)
   have HALL:=hide (show ∀p∈f.1.2.1,34≤p.1 by
    have:=hall.out
    rwa [List.take_of_length_le (by have h2:x.n2=_:=HX.out.n2;omega)] at this)
   have hcon:=qvo (d:=f.1) wr (HX.out.d.carry qfr.out)
   go_wp2_with fail
   refine hcon.mono ?_
   rintro e w21 ⟨rfl,hbb⟩;have qaed:=hide (qajf.out.carry hbb);have qhh:=bT qfr hbb;clear hcon hbb k0 k1 k2 k3 k4 k5;clear hd hk hlt hall hbel;obtain ⟨ge,sz,er,hL⟩:∃ge sz er,qas f.1=(ge,sz,er):=⟨_,_,_,rfl⟩;rw [hL];have HL:=hide hL;clear hL;obtain ⟨kf0,kf1,kf2,kf3,kf4,kf5⟩:=qab qaed.out
   by_cases g4:¬er=0
   ·have g4':(er !=0)=true:=by simpa using g4
    have HE:=hide (qkx (of_decide_eq_false (qkt HL.out (.inl g4))));go_wp2;go_ret;rw [HE.out];exact ⟨rfl,by first | exact qhh.out | assumption⟩
   rw [Decidable.not_not] at g4;subst g4
   by_cases g5:¬ge=x.g
   ·have g5':¬(ge:Int)=x.g:=by omega
    have HE:=hide (qkx (of_decide_eq_false (qkt HL.out (.inr (by rw [←HX.out.g];exact g5)))));go_wp2;go_ret;rw [HE.out];exact ⟨rfl,by first | exact qhh.out | assumption⟩
   rw [Decidable.not_not] at g5;subst g5;have HLT:=hide (qmb HL.out);have HGL:=hide (qxd HL.out);obtain ⟨ar,har⟩:∃ar,ar=2+x.g % 2*16:=⟨_,rfl⟩;have hsw:=qov x.g w21 HLT.out.2.1;rw [←har] at hsw;have HAR:=hide har;clear har
   go_wp2_with fail
   refine hsw.mono ?_
   clear hsw;rintro e w9' ⟨rfl,ew9⟩;subst w9';obtain ⟨hsz,hge,hlen,hm,hm2,hok⟩:=HLT.out;obtain ⟨b9,o9,ea,hnc⟩:=qxc (HX.out.d.d1) (by intro e;rw [e] at hlen;simp at hlen;omega);obtain ⟨lo,hlo⟩:∃lo,lo=ar*128:=⟨_,rfl⟩;have hwr:=qacb HAR.out hlo;have hwr2:=qal1 HAR.out hlo hsz;obtain ⟨y1,y2,y3,y4,y5,y6,y7⟩:=lo_ok (HX.out.n1.trans hlen) hm hsz hnc HAR.out hlo;have hrd:=rd_at (by have:=HX.out.d.d1.carry qhh.out;rw [ea] at this;exact this) lo sz (by rw [←HX.out.n1];exact y6) (by intro e;rw [e] at hlen;simp at hlen;omega)
   have hgb:(f.1.1.drop lo).take sz=genB f.1 x.g sz:=by unfold genB;rw [hlo,HAR.out,Nat.mul_comm]
   rw [hgb] at hrd;have hR:=qaec _ _ _ (genB f.1 x.g sz) B w21 hrd HGL.out.symm;have y8:lo+sz≤x.n1:=y6;have y9:lo+sz≤x.c1:=Nat.le_trans y6 hnc;have y10:lo≤lo+sz:=Nat.le_add_right _ _;have y11:lo+sz - lo=sz:=Nat.add_sub_cancel_left _ _;clear hrd hgb hsz hge hlen hm hm2 hlo hok y6 y7 hnc;rw [ea] at kf0;rw [HBB.out] at hR;obtain ⟨RE,hRE⟩:∃e,e=qcv (genB f.1 x.g sz) (mny f.1):=⟨_,rfl⟩;obtain ⟨RL,hRL⟩:∃e,e=qfv (genB f.1 x.g sz) (mny f.1):=⟨_,rfl⟩;have HRE:=hide hRE;have HRL:=hide hRL;rw [←hRE,←hRL,←HBB.out] at hR;clear hRE hRL
   go_wp2_with fail
   refine hR.mono ?_
   rintro e wd ⟨v5,rfl,ho5,hbb⟩;have HFf_wd:=hide (qaed.out.carry hbb);have qu5:=bT qhh hbb;clear kf0 kf1 kf2 kf3 kf4 kf5 hbb hR hwr hwr2 y1 y2 y3 y4 y5 y8 y9 y10 y11;obtain ⟨m5,hm5⟩:∃m5,m5=RL.length:=⟨_,rfl⟩
   obtain ⟨u5,z5,e5⟩:∃a c,v5=.slice a m5 c:=by rw [hm5];exact ho5.form
   subst e5;have HM5:=hide hm5;obtain ⟨we,ewe⟩:∃wq,wd.alloc (.cells #[.slice u5 m5 z5] 31)=wq:=⟨_,rfl⟩
   have hbb:Below wd.heap.size wd we:=by rw [←ewe];exact (Below.refl _ _).alloc (Nat.le_refl _) _
   have HO_we:=hide (ho5.rd.carry hbb)
   have k9:we.cell? ⟨wd.heap.size,0,none⟩=some (.slice u5 m5 z5):=by rw [←ewe];simp
   have HFf_we:=hide (HFf_wd.out.carry hbb);have qah2:=bT qu5 hbb;clear ho5 hm5 hbb
   have HDEC:=hide (qacc HL.out HX.out.g (by
    rw [List.any_eq_false];intro p hp
    have:=HALL.out p hp
    simp
    omega))
   rw [←HRE.out,←HRL.out,←HBB.out,HG2.out] at HDEC
   by_cases g6:¬RE=0
   ·have g6':(RE !=0)=true:=by simpa using g6
    have HE:=hide (qkx (of_decide_eq_false (by rw [HDEC.out,decide_eq_false g6];simp)));go_wp2;go_ret;rw [HE.out];exact ⟨rfl,by first | exact qah2.out | assumption⟩
   rw [Decidable.not_not] at g6;have HRE0:=hide g6;rw [g6];clear g6;obtain ⟨kf0,kf1,kf2,kf3,kf4,kf5⟩:=qab HFf_we.out;have hcon:=qp9 u5 m5 z5 RL x.a5 x.n5 x.c5 f.2.2.2 we HO_we.out HM5.out (HX.out.kl.carry qah2.out) HX.out.n5
   go_wp2_with fail
   try rw [ewe]
   refine hcon.mono ?_
   rintro e w22 ⟨rfl,hbb⟩;have qajg:=bT qah2 hbb;clear hcon hbb kf0 kf1 kf2 kf3 kf4 kf5 k9
   try clear ewe
   by_cases g7:¬RL=f.2.2.2
   ·rw [decide_eq_false g7]
    have HE:=hide (qkx (of_decide_eq_false (by rw [HDEC.out,decide_eq_false g7];simp)));go_wp2;go_ret;rw [HE.out];exact ⟨rfl,by first | exact qajg.out | assumption⟩
   rw [Decidable.not_not] at g7;rw [decide_eq_true g7];have HE:=hide (qdv (f:=f) (of_decide_eq_true (by rw [HDEC.out,decide_eq_true g7,decide_eq_true HRE0.out];simp)));clear g7;go_wp2;go_ret;rw [HE.out];exact ⟨rfl,qajg.out⟩
theorem qjp (x y:FsV) (f g:Fsd) (w:World) (h:RdX w x f) (h':RdX w y g):
  Calls Tryz.prog 26 #[x.val,y.val] w fun e w'=>e=.returned (.bool (qmu f g))∧Below w.heap.size w w':=by
 have HX:=hide h;have HY:=hide h';clear h h';obtain ⟨w1,ew⟩:∃w1,(w.alloc (.cells x.cs 33)).alloc (.cells y.cs 33)=w1:=⟨_,rfl⟩;have q0:Below w.heap.size w (w.alloc (.cells x.cs 33)):=(Below.refl _ _).alloc (Nat.le_refl _) _
 have q1:Below (w.alloc (.cells x.cs 33)).heap.size (w.alloc (.cells x.cs 33)) w1:=by rw [←ew];exact (Below.refl _ _).alloc (Nat.le_refl _) _
 have qajh:=hide (show FsAt w1 w.heap.size x from (Bq.new w 33 x.cs).carry q1);have qaji:=hide (show FsAt w1 (w.heap.size+1) y by have:=Bq.new (w.alloc (.cells x.cs 33)) 33 y.cs;rw [←ew];simpa using this);have qad:=hide (q0.trans (q1.mono q0.size));clear q0 q1;unfold FsV.val;unfold FsV.cs at ew
 go_enter Tryz.func26,Tryz.ntmps26
 obtain ⟨kx0,kx1,kx2,kx3,kx4,kx5⟩:=qab qajh.out;obtain ⟨ky0,ky1,ky2,ky3,ky4,ky5⟩:=qab qaji.out;have hcon:=qabo (d:=f.1) (e:=g.1) w1 (HX.out.d.carry qad.out) (HY.out.d.carry qad.out)
 go_wp2_with fail
 try rw [ew]
 refine hcon.mono ?_
 rintro e w2 ⟨rfl,hbb⟩;have qajj:=hide (qajh.out.carry hbb);have qajk:=hide (qaji.out.carry hbb);have qae:=bT qad hbb;clear hcon hbb kx0 kx1 kx2 kx3 kx4 kx5 ky0 ky1 ky2 ky3 ky4 ky5
 try clear ew
 by_cases g1:¬f.1=g.1
 ·rw [decide_eq_false g1]
  have HE:=hide (show qmu f g=false from qqy (fun e=>g1 (by rw [e])));go_wp2;go_ret;rw [HE.out];exact ⟨rfl,qae.out⟩
 rw [Decidable.not_not] at g1;rw [decide_eq_true g1];obtain ⟨kx0,kx1,kx2,kx3,kx4,kx5⟩:=qab qajj.out;obtain ⟨ky0,ky1,ky2,ky3,ky4,ky5⟩:=qab qajk.out
 by_cases g2:¬x.g=y.g
 ·have g2':¬(x.g:Int)=y.g:=by omega
  have HE:=hide (show qmu f g=false from qqy (fun e=>g2 (by rw [HX.out.g,HY.out.g,e])));go_wp2;go_ret;rw [HE.out];exact ⟨rfl,qae.out⟩
 rw [Decidable.not_not] at g2
 have g2':(x.g:Int)=y.g:=by omega
 have HG:=hide g2;clear g2;have hcon:=qp9 _ _ _ f.2.2.1 _ _ _ g.2.2.1 w2 (HX.out.fl.carry qae.out) HX.out.n4 (HY.out.fl.carry qae.out) HY.out.n4
 go_wp2_with fail
 refine hcon.mono ?_
 rintro e w3 ⟨rfl,hbb⟩;have HFx_w3:=hide (qajj.out.carry hbb);have HFy_w3:=hide (qajk.out.carry hbb);have qak:=bT qae hbb;clear hcon hbb kx0 kx1 kx2 kx3 kx4 kx5 ky0 ky1 ky2 ky3 ky4 ky5 g2'
 by_cases g3:¬f.2.2.1=g.2.2.1
 ·rw [decide_eq_false g3]
  have HE:=hide (show qmu f g=false from qqy (fun e=>g3 (by rw [e])));go_wp2;go_ret;rw [HE.out];exact ⟨rfl,qak.out⟩
 rw [Decidable.not_not] at g3;rw [decide_eq_true g3];obtain ⟨kx0,kx1,kx2,kx3,kx4,kx5⟩:=qab HFx_w3.out;obtain ⟨ky0,ky1,ky2,ky3,ky4,ky5⟩:=qab HFy_w3.out;have hcon:=qp9 _ _ _ f.2.2.2 _ _ _ g.2.2.2 w3 (HX.out.kl.carry qak.out) HX.out.n5 (HY.out.kl.carry qak.out) HY.out.n5
 go_wp2_with fail
 refine hcon.mono ?_
 rintro e w4 ⟨rfl,hbb⟩;have qbh:=bT qak hbb;clear hcon hbb kx0 kx1 kx2 kx3 kx4 kx5 ky0 ky1 ky2 ky3 ky4 ky5
 have HE:=hide (show qmu f g=decide (f.2.2.2=g.2.2.2) by
  unfold qmu
  rw [decide_eq_true g1,decide_eq_true g3,decide_eq_true (show f.2.1=g.2.1 by have h1:x.g=_:=HX.out.g;have h2:y.g=_:=HY.out.g;have:=HG.out;omega)];simp)
 clear g1 g3;go_wp2;go_ret;rw [HE.out];exact ⟨rfl,qbh.out⟩
structure Dq6 where
 (a1:Option Addr) (n1 c1:Nat) (a2:Option Addr) (n2 c2:Nat) (a3:Option Addr) (n3 c3:Nat)
theorem qah3 {d:Dk} {v:Value} (w:World) (hD:RdD w v d) (b1:d.1.length≤140737488355328) (b2:d.2.1.length≤1000000) (b3:d.2.2.length≤1000000) (d2:∀p∈d.2.1,p.2.length≤140737488355328) (d3:∀p∈d.2.2,p.2.2.length≤140737488355328):
  Calls Tryz.prog 53 #[v] w fun e w'=>∃v',e=.returned v'∧OwD w' w.heap.size v' d∧Below w.heap.size w w':=by
 refine (qwq w hD b1 b2 b3 d2 d3).mono ?_
 rintro e w' ⟨x,y,z,B,rfl,hB,h1,_,h2,h3,_,hb⟩;exact ⟨_,rfl,⟨x,y,z,rfl,h1,h2.mono hB,h3.mono hB⟩,hb⟩
theorem qg8 (x:FsV) (f:Fsd) (w:World) (h:RdX w x f) (hsm:(f.1.1.length≤140737488355328∧f.1.2.1.length≤1000000∧f.1.2.2.length≤1000000)∧f.2.2.1.length≤1000∧(∀g∈f.2.2.1,g.2.length≤1000000)∧f.2.2.2.length≤1000∧∀g∈f.2.2.2,g.2.length≤1000000) (hsd:(∀p∈f.1.2.1,p.2.length≤140737488355328)∧∀p∈f.1.2.2,p.2.2.length≤140737488355328):
  Calls Tryz.prog 20 #[x.val] w fun e w'=>∃y:FsV,e=.returned y.val∧OwFs w' w.heap.size y.val f∧Below w.heap.size w w':=by
 have HSM:=hide hsm;have HSD:=hide hsd;have HX:=hide h;clear hsm hsd h;obtain ⟨w1,ew⟩:∃w1,(w.alloc (.cells x.cs 33)).alloc (.cells #[.slice none 0 0,.slice none 0 0,.slice none 0 0,.int .u32 0,.slice none 0 0,.slice none 0 0] 33)=w1:=⟨_,rfl⟩;have q0:Below w.heap.size w (w.alloc (.cells x.cs 33)):=(Below.refl _ _).alloc (Nat.le_refl _) _
 have q1:Below (w.alloc (.cells x.cs 33)).heap.size (w.alloc (.cells x.cs 33)) w1:=by rw [←ew];exact (Below.refl _ _).alloc (Nat.le_refl _) _
 have HF:=hide (show FsAt w1 w.heap.size x from (Bq.new w 33 x.cs).carry q1);have HFB:=hide (show FsB w1 (w.heap.size+1) by have:=FsB.new (w.alloc (.cells x.cs 33));rw [←ew];simpa using this);have HB:=hide (q0.trans (q1.mono q0.size));clear q0 q1;unfold FsV.val;unfold FsV.cs at ew
 go_enter Tryz.func20,Tryz.ntmps20
 go_wp2_with fail
 try rw [ew]
 clear ew
 have hK:Keeps (fun wx=>(FsAt wx w.heap.size x∧FsB wx (w.heap.size+1))∧Below w.heap.size w wx):=fun w1 w2 h hb=>⟨⟨h.1.1.carry hb,h.1.2.carry hb⟩,h.2.trans (hb.mono h.2.size)⟩
 refine qaj hK (by kernel_rfl) ⟨⟨HF.out,HFB.out⟩,HB.out⟩ ?_
 intro hS;clear HF HFB HB;generalize w1.drew=wd at *
 refine rP [0,1,3,4,5,6,8,9] 5 ?zp1a ?zp1p hS ?zp1n
 case zp1p=>
  iterate 8 (apply Yl.cons rfl (by kernel_rfl);focus (rintro wx ⟨⟨x1,x2⟩,x3⟩;(obtain ⟨k0,k1,k2,k3,k4,k5⟩:=qab x1);go_simp;all_goals (with_reducible rfl));try simp only [Act.put,sA,sB,sC])
  exact Yl.nil
 refine qa9 (i:=2) (R:=fun v wx=>∃d7:Dq6,v=.agg #[.slice d7.a1 d7.n1 d7.c1,.slice d7.a2 d7.n2 d7.c2,.slice d7.a3 d7.n3 d7.c3]∧OwD wx w.heap.size (.agg #[.slice d7.a1 d7.n1 d7.c1,.slice d7.a2 d7.n2 d7.c2,.slice d7.a3 d7.n3 d7.c3]) f.1∧Below wd.heap.size wd wx) rfl (by kernel_rfl) (by kernel_rfl) (by obtain ⟨⟨x1,x2⟩,x3⟩:=hS;go_simp;try rfl) ((qah3 (d:=f.1) wd (HX.out.d.carry hS.2) HSM.out.1.1 HSM.out.1.2.1 HSM.out.1.2.2 HSD.out.1 HSD.out.2).mono fun e wx ⟨v,h1,h2,h3⟩=>by
   obtain ⟨a1,c1,a2,c2,a3,c3,ev⟩:=h2.form;subst ev
   exact ⟨_,h1,⟨a1,_,c1,a2,_,c2,a3,_,c3⟩,rfl,h2.mono hS.2.size,h3⟩) ?_
 rintro v9 wA ⟨d7,rfl,ho7,hbb⟩;have hSn:=hK _ _ hS hbb;refine ⟨hSn, ?_⟩;clear hS;have hS:=hSn;clear hSn hbb
 try simp only [Act.put,sA,sB,sC]
 refine qa9 (i:=7) (R:=fun v wx=>∃a n c,v=.agg #[.slice a n c]∧OwF wx w.heap.size (.slice a n c) f.2.2.1∧Below wA.heap.size wA wx) rfl (by kernel_rfl) (by kernel_rfl) (by obtain ⟨⟨x1,x2⟩,x3⟩:=hS;go_simp;try rfl) ((qoi _ _ _ f.2.2.1 wA (HX.out.fl.carry hS.2) HX.out.n4 (by have h4:x.n4=_:=HX.out.n4;have:=HSM.out.2.1;omega) HSM.out.2.2.1).mono fun e wx ⟨v,h1,h2,h3⟩=>by
   obtain ⟨a,c,ev⟩:=h2.form;subst ev
   exact ⟨_,h1,a,_,c,rfl,h2.mono hS.2.size,h3⟩) ?_
 rintro v9 wB ⟨a8,n8,c8,rfl,ho8,hbb⟩;have hSn:=hK _ _ hS hbb;refine ⟨hSn, ?_⟩;have ho7:=ho7.carry hbb;clear hS;have hS:=hSn;clear hSn hbb
 try simp only [Act.put,sA,sB,sC]
 refine qa9 (i:=10) (R:=fun v wx=>∃a n c,v=.agg #[.slice a n c]∧OwF wx w.heap.size (.slice a n c) f.2.2.2∧Below wB.heap.size wB wx) rfl (by kernel_rfl) (by kernel_rfl) (by obtain ⟨⟨x1,x2⟩,x3⟩:=hS;go_simp;try rfl) ((qoi _ _ _ f.2.2.2 wB (HX.out.kl.carry hS.2) HX.out.n5 (by have h4:x.n5=_:=HX.out.n5;have:=HSM.out.2.2.2.1;omega) HSM.out.2.2.2.2).mono fun e wx ⟨v,h1,h2,h3⟩=>by
   obtain ⟨a,c,ev⟩:=h2.form;subst ev
   exact ⟨_,h1,a,_,c,rfl,h2.mono hS.2.size,h3⟩) ?_
 rintro v9 wC ⟨a9,n9,c9,rfl,ho9,hbb⟩;have hSn:=hK _ _ hS hbb;refine ⟨hSn, ?_⟩;have ho7:=ho7.carry hbb;have ho8:=ho8.carry hbb;clear hS;have hS:=hSn;clear hSn hbb
 try simp only [Act.put,sA,sB,sC]
 refine rT 11 ?qtv11 rfl ?qty11 hS ?qtr11
 case qty11=>(rintro wx ⟨⟨x1,x2⟩,x3⟩;(obtain ⟨k0,k1,k2,k3,k4,k5⟩:=qab x1);go_simp;all_goals (with_reducible rfl))
 try simp only [Act.put,sA,sB,sC]
 have hv:OwFs wC w.heap.size (⟨d7.a1,d7.n1,d7.c1,d7.a2,d7.n2,d7.c2,d7.a3,d7.n3,d7.c3,x.g,a8,n8,c8,a9,n9,c9⟩:FsV).val f:=⟨_,_,_,_,_,by rw [←HX.out.g],ho7,ho8,ho9⟩;have hst:=hv.assign hS.1.2 hS.2 (by omega);obtain ⟨⟨d0,e0⟩,⟨d1,e1⟩,⟨d2,e2⟩,⟨d3,e3⟩,⟨d4,e4⟩,⟨d5,e5⟩,ff⟩:=hS.1.2.cells;have f0:=ff 0;have f1:=ff 1;have f2:=ff 2;have f3:=ff 3;have f4:=ff 4;have f5:=ff 5;obtain ⟨wE,ewE⟩:∃wN,set6 wC (w.heap.size+1) ⟨d7.a1,d7.n1,d7.c1,d7.a2,d7.n2,d7.c2,d7.a3,d7.n3,d7.c3,x.g,a8,n8,c8,a9,n9,c9⟩=wN:=⟨_,rfl⟩;rw [ewE] at hst;have hSN:(fun wx=>(FsAt wx w.heap.size x∧FsB wx (w.heap.size+1))∧Below w.heap.size w wx) wE:=⟨⟨hS.1.1.grown hst.2.2.2.2 (by omega),FsB.of hst.2.2.1⟩,hst.2.1⟩;have HST:=hide hst;unfold set6 at ewE;dsimp only at ewE;clear ff hst hv
 refine qdo (i:=12) (w':=wE) rfl (by kernel_rfl) (by kernel_rfl) (by rw [←ewE];go_simp) hSN ?_
 clear hS ewE e0 e1 e2 e3 e4 e5 f0 f1 f2 f3 f4 f5;have hS:=hSN;clear hSN
 try simp only [Act.put,sA,sB,sC]
 refine rD ?_
 try simp only [Act.put,sA,sB,sC]
 clear hS hK ho7 ho8 ho9;obtain ⟨z0,z1,z2,z3,z4,z5⟩:=qab HST.out.2.2.1;dsimp only at z0 z1 z2 z3 z4 z5;go_wp2
 try simp only [Exit.inBlock,Exit.then]
 refine bodyPost_ret (v:=(⟨d7.a1,d7.n1,d7.c1,d7.a2,d7.n2,d7.c2,d7.a3,d7.n3,d7.c3,x.g,a8,n8,c8,a9,n9,c9⟩:FsV).val) ?_ rfl ⟨_,rfl,HST.out.1,HST.out.2.1⟩
 simp [results,Tryz.results20,go_sem, *]
theorem qzu (n:Int) (l:List Pu) (k:Nat) (hk:k<l.length):qb4 n (l.take (k+1))=if n=(l[k]).1 then some (l[k]).2 else qb4 n (l.take k):=by
 rw [List.take_succ_eq_append_getElem hk,qje]
theorem qx9 {n:Int} {l:List Pu} (k:Nat) (hk:k<l.length) (h:qb4 n l=qb4 n (l.take (k+1))):qb4 n l=if n=(l[k]).1 then some (l[k]).2 else qb4 n (l.take k):=h.trans (qzu n l k hk)
theorem qah4 {d:Dk} {v:Value} (k cnt:Nat) (w:World) (hD:RdD w v d) (hF:Fine cnt d) (hk:k<cnt) (hcnt:cnt≤4096):
  Calls Tryz.prog 200 #[v,.int .i64 k] w fun e w'=>∃bv,e=.returned bv∧OwB w' w.heap.size bv (nowD d k)∧Below w.heap.size w w':=by
 obtain ⟨a1,c1,a2,c2,a3,c3,rfl,h1,h2,_⟩:=hD.form;have H1:=hide h1;have H2:=hide h2;have HF:=hide hF;have hn2:d.2.1.length≤65536:=hF.2.1;clear hD h1 h2 hF;generalize e1:d.1.length=n1 at *;generalize e2:d.2.1.length=n2 at *;generalize e3:d.2.2.length=n3 at *;have E1:=hide e1;have E2:=hide e2;clear e1 e2 e3;obtain ⟨w1,ew⟩:∃w1,w.alloc (.cells #[.slice a1 n1 c1,.slice a2 n2 c2,.slice a3 n3 c3] 27)=w1:=⟨_,rfl⟩
 have hb1:Below w.heap.size w w1:=by rw [←ew];exact (Below.refl _ _).alloc (Nat.le_refl _) _
 have k0:w1.cell? ⟨w.heap.size,0,none⟩=some (.slice a1 n1 c1):=by rw [←ew];simp
 have k1:w1.cell? ⟨w.heap.size,1,none⟩=some (.slice a2 n2 c2):=by rw [←ew];simp
 have hsz:=hb1.size
 go_enter Tryz.func200,Tryz.ntmps200
 go_wp2;clear ew
 go_loopw [5] (fun i wr=>∃j:Nat,j≤n2∧i=.int .i64 ((j:Int) - 1)∧Hid (qb4 k d.2.1=qb4 k (d.2.1.take j))∧wr=w1) (fun i _=>(intOf i+1).toNat)
 case atStart=>
  refine ⟨n2,Nat.le_refl _,by go_num, ?_,rfl⟩
  show _=_
  rw [List.take_of_length_le (by have:=E2.out;omega)]
 case round=>
  obtain ⟨j,hj,rfl,hl,rfl⟩:=hrel
  cases j with
  | zero=>
   have hlt':decide ((0:Int)≤((0:Nat):Int) - 1)=false:=by decide
   have HR:=hide (show nowD d k=blk d.1 k by
    unfold nowD
    have:=hl.out
    rw [List.take_zero] at this
    rw [this];rfl)
   have hlen:d.1.length=128*cnt:=HF.out.1;obtain ⟨b9,o9,rfl,en,hnc,hrd⟩:=qia (H1.out.carry hb1) (k*128) (k*128+128) (by omega) (by omega)
   have eb:(d.1.drop (k*128)).take (k*128+128 - k*128)=blk d.1 k:=by
    unfold blk;rw [show k*128+128 - k*128=128 by omega,Nat.mul_comm]
   rw [eb] at hrd
   have hn1q:n1=128*cnt:=by rw [en];exact hlen
   have HLB:=hide (show (blk d.1 k).length=128 by unfold blk;rw [List.length_take,List.length_drop];omega)
   have hw1:wrap64 ((k:Int)*128)=((k*128:Nat):Int):=by unfold wrap64;omega
   have hw2:wrap64 (((k*128:Nat):Int)+128)=((k*128+128:Nat):Int):=by unfold wrap64;omega
   have hh1:k*128+128≤n1:=by omega
   have hh2:¬k*128=c1:=by omega
   have hh3:k*128+128≤c1:=by omega
   obtain ⟨v',w',hrun,hO',hg'⟩:=qd1 wr wr.heap.size (Nat.le_refl _) (.slice none 0 0) [] (World.ownsRow_nil _ _ _ _) _ _ hrd (by rw [HLB.out];decide);have hB':Below w.heap.size w w':=hb1.grown hg' hsz (fun q hq=>by cases hq);have HO:=hide ((show OwB w' wr.heap.size v' (blk d.1 k) from hO').mono hsz);clear hl hrd hn1q en hlen eb hO' hg' hj
   go_wp2_with (at_builtin;go_must (refine qfj wr rfl _ (.tmp 36) 23 rfl (v:=_) (y:=.slice (some ⟨b9,o9+k*128,none⟩) (k*128+128 - k*128) (c1 - k*128)) rfl rfl hrun ?_))
   go_ret;rw [HR.out];exact ⟨_,rfl,HO.out,hB'⟩
  | succ j=>
   have hjl:j<d.2.1.length:=by have:=E2.out;omega
   have hji:(((j+1:Nat):Int) - 1)=(j:Int):=by omega
   rw [hji];obtain ⟨b2,o2,rfl,q0,x,m,c',q1,q2,q3⟩:=(H2.out.carry hb1).at j hjl
   have hjn:(j:Int)<n2:=by omega
   by_cases hnk:(d.2.1[j]).1=k
   ·have HR:=hide (show nowD d k=(d.2.1[j]).2 by
     unfold nowD
     rw [qx9 j hjl hl.out,if_pos hnk.symm];rfl)
    have hpl:(d.2.1[j]).2.length=128:=(qcq (HF.out.2.2.2 _ (List.getElem_mem hjl))).2.2;rw [hnk] at q0;obtain ⟨v',w',hrun,hO',hg'⟩:=qd1 wr wr.heap.size (Nat.le_refl _) (.slice none 0 0) [] (World.ownsRow_nil _ _ _ _) _ _ q2 (by rw [hpl];decide);have hB':Below w.heap.size w w':=hb1.grown hg' hsz (fun q hq=>by cases hq);have HO:=hide ((show OwB w' wr.heap.size v' (d.2.1[j]).2 from hO').mono hsz);clear hl hO' hg' q2 q3 hnk hpl hji
    go_wp2_with (at_builtin;go_must (refine qfj wr rfl _ (.tmp 27) 23 rfl (v:=_) (y:=.slice x m c') rfl rfl hrun ?_))
    go_ret;rw [HR.out];exact ⟨_,rfl,HO.out,hB'⟩
   ·have HL:=hide (show qb4 k d.2.1=qb4 k (d.2.1.take j) by rw [qx9 j hjl hl.out,if_neg (fun e=>hnk e.symm)])
    have hnk':((d.2.1[j]).1==(k:Int))=false:=by simpa using hnk
    generalize (d.2.1[j]).1=N at *;clear hl q2 q3 hnk;go_wp2;go_roundw
    case rel=>exact ⟨j,by omega,by go_num,HL.out,trivial⟩
    case measure=>simp [intOf]<;>omega
theorem qaee {f:Fsd} (h:okFs f) {s:List UInt8} (ht:qaw f.2.2.1 s=0):bloE f s=0∧qat f s=0∧bloL f s=qcr (getF f.2.2.1 s):=by
 obtain ⟨l,hl⟩:=(qer _ _).1 (qnc ht).2.2;have h2:=qel h hl;exact ⟨h2.2.2.1,h2.2.2.2.2,by unfold bloL;rw [if_neg (by rw [ht];decide)]⟩
theorem qah5 {f:Fsd} (h:okFs f) {s:List UInt8} (ht:qaw f.2.2.1 s≠0):qat f s=qaw f.2.2.1 s∧bloL f s=[]:=by
 refine ⟨by unfold qat bloE;rw [if_neg (by rw [qdv h];decide),if_pos ht],by unfold bloL;rw [if_pos ht]⟩
def rbL (f:Fsd) (s:List UInt8):List Int:=if fsE f≠0 then [] else bloL f s
theorem qya {f:Fsd} (h:okFs f) (s:List UInt8):rbL f s=bloL f s:=by unfold rbL;rw [if_neg (by rw [qdv h];decide)]
theorem qal2 {f:Fsd} (h:fsE f≠0) (s:List UInt8):rbL f s=[]:=by unfold rbL;rw [if_pos h]
theorem qah6 {f:Fsd} (h:fsE f≠0) (s:List UInt8):qat f s=fsE f∧qf5 f s=0:=by unfold qat qf5;rw [if_pos h,if_pos h];exact ⟨rfl,rfl⟩
theorem qah7 (f:Fsd) (s:List UInt8):qf5 f s=(rbL f s).length:=by
 unfold qf5 rbL
 by_cases h:fsE f≠0
 ·rw [if_pos h,if_pos h];rfl
 ·rw [if_neg h,if_neg h]
theorem qev (x:FsV) (f:Fsd) (s:List UInt8) (w:World) (h:RdX w x f) (hw:WfX f):
  Calls Tryz.prog 125 #[x.val,.string (bs s)] w fun e w'=>∃v,e=.returned (.tuple #[v,.int .i64 (qat f s)])∧OwI w' w.heap.size v (rbL f s)∧Below w.heap.size w w':=by
 have HW:=hide hw;have HX:=hide h;clear hw h;obtain ⟨w1,ew⟩:∃w1,w.alloc (.cells x.cs 33)=w1:=⟨_,rfl⟩
 have hb1:Below w.heap.size w w1:=by rw [←ew];exact (Below.refl _ _).alloc (Nat.le_refl _) _
 have qca:=hide (show FsAt w1 w.heap.size x by rw [←ew];exact Bq.new _ _ _);have qad:=hide hb1;clear hb1;unfold FsV.val;unfold FsV.cs at ew
 go_enter Tryz.func125,Tryz.ntmps125
 obtain ⟨kf0,kf1,kf2,kf3,kf4,kf5⟩:=qab qca.out;have hcon:=qem x f w1 (HX.out.carry qad.out) HW.out
 go_wp2_with fail
 try rw [ew]
 refine hcon.mono ?_
 rintro e w2 ⟨rfl,hbb⟩;have qbr:=hide (qca.out.carry hbb);have qae:=bT qad hbb;clear hcon hbb kf0 kf1 kf2 kf3 kf4 kf5
 try clear ew
 rcases (qb0 f).symm with ⟨_,g1⟩ | ⟨hok,g1⟩
 ·have HE:=hide (qah6 (f:=f) (by rw [g1];decide) s)
  have HL:=hide (qal2 (f:=f) (by rw [g1];decide) s);rw [g1] at HE ⊢;clear g1;go_wp2;go_ret2;rw [HE.out.1,HL.out];exact ⟨_,rfl,World.ownsRow_nil _ _ _ _,qae.out⟩
 rw [g1];clear g1;have HOK:=hide hok;clear hok;obtain ⟨kf0,kf1,kf2,kf3,kf4,kf5⟩:=qab qbr.out;have hcon:=qsq _ _ _ f.2.2.1 s w2 (HX.out.fl.carry qae.out) HX.out.n4 HW.out.fl
 go_wp2_with fail
 refine hcon.mono ?_
 rintro e w3 ⟨v2,rfl,ho2,hbb⟩;have qak:=bT qae hbb;clear hcon hbb kf0 kf1 kf2 kf3 kf4 kf5;obtain ⟨m2,hm2⟩:∃m2,m2=(qdq f.2.2.1 s).2.length:=⟨_,rfl⟩
 obtain ⟨y2,z2,e2⟩:∃a c,v2=.slice a m2 c:=by rw [hm2];exact ho2.form
 subst e2;have HO2:=hide ho2.rd;have HM2:=hide hm2;clear ho2 hm2;obtain ⟨n9,hn9⟩:∃n9,n9=(qdq f.2.2.1 s).1:=⟨_,rfl⟩;rw [←hn9];clear hn9;obtain ⟨wk,ewk⟩:∃wk,w3.alloc (.cells #[.string (bs n9),.slice y2 m2 z2] 98)=wk:=⟨_,rfl⟩
 have hb3:Below w3.heap.size w3 wk:=by rw [←ewk];exact (Below.refl _ _).alloc (Nat.le_refl _) _
 have qhw:=bT qak hb3;have HO3:=hide (HO2.out.carry hb3)
 have k9:wk.cell? ⟨w3.heap.size,1,none⟩=some (.slice y2 m2 z2):=by rw [←ewk];simp
 clear hb3 HO2
 by_cases g1:¬qaw f.2.2.1 s=0
 ·have HE:=hide (qah5 HOK.out g1)
  have HL:=hide (qya HOK.out s);go_wp2;go_ret2;rw [HL.out,HE.out.1,HE.out.2];exact ⟨_,rfl,World.ownsRow_nil _ _ _ _,by assumption⟩
 rw [Decidable.not_not] at g1;have HE:=hide (qaee HOK.out g1);have HL:=hide (qya HOK.out s);rw [qsu g1] at HO3 HM2;rw [g1];clear g1;have hcon:=quz y2 m2 z2 (getF f.2.2.1 s) wk HO3.out HM2.out (qacd HW.out.fl s)
 go_wp2_with fail
 try rw [ewk]
 refine hcon.mono ?_
 rintro e w4 ⟨v4,rfl,ho4,hb4⟩;have qbh:=bT qhw hb4;have HO4:=hide (ho4.mono qhw.out.size);clear hb4 ho4 k9 hcon;go_wp2;go_ret2;rw [HL.out,HE.out.2.1,HE.out.2.2];exact ⟨_,rfl,HO4.out,qbh.out⟩
theorem qzv (x:FsV) (f:Fsd) (s:List UInt8) (w:World) (h:RdX w x f) (hw:WfX f):
  Calls Tryz.prog 127 #[x.val,.string (bs s)] w fun e w'=>e=.returned (.tuple #[.int .i64 (qf5 f s),.int .i64 (qat f s)])∧Below w.heap.size w w':=by
 have HW:=hide hw;have HX:=hide h;clear hw h;obtain ⟨w1,ew⟩:∃w1,w.alloc (.cells x.cs 33)=w1:=⟨_,rfl⟩
 have hb1:Below w.heap.size w w1:=by rw [←ew];exact (Below.refl _ _).alloc (Nat.le_refl _) _
 have qca:=hide (show FsAt w1 w.heap.size x by rw [←ew];exact Bq.new _ _ _);have qad:=hide hb1;clear hb1;unfold FsV.val;unfold FsV.cs at ew
 go_enter Tryz.func127,Tryz.ntmps127
 obtain ⟨kf0,kf1,kf2,kf3,kf4,kf5⟩:=qab qca.out;have hcon:=qev x f s w1 (HX.out.carry qad.out) HW.out
 go_wp2_with fail
 try rw [ew]
 refine hcon.mono ?_
 rintro e w2 ⟨v2,rfl,ho2,hbb⟩;have qae:=bT qad hbb;clear hcon hbb kf0 kf1 kf2 kf3 kf4 kf5
 try clear ew
 obtain ⟨m2,hm2⟩:∃m2,m2=(rbL f s).length:=⟨_,rfl⟩
 obtain ⟨y2,z2,e2⟩:∃a c,v2=.slice a m2 c:=by rw [hm2];exact ho2.rd6.form
 subst e2;have HO2:=hide ho2.rd6;have HM2:=hide hm2;clear ho2 hm2;go_wp2;go_ret2;rw [qah7,←HM2.out];exact ⟨rfl,qae.out⟩
theorem qal3 {f:Fsd} {s:List UInt8} (h:qat f s≠0) (i:Int):getE f s i=qat f s∧getL f s i=[]:=by
 unfold qat at h ⊢;unfold getE getL
 by_cases h1:fsE f≠0
 ·rw [if_pos h1,if_pos h1,if_pos h1];exact ⟨rfl,rfl⟩
 ·rw [if_neg h1] at h
  have e:atE f s i=bloE f s:=by unfold atE;rw [if_pos h]
  rw [if_neg h1,if_neg h1,if_neg h1,e,if_pos h,if_pos h];exact ⟨rfl,rfl⟩
theorem qaef {f:Fsd} {s:List UInt8} (h:qat f s=0) {i:Int} (hi:i<0∨((bloL f s).length:Int)≤i):getE f s i=2∧getL f s i=[]:=by
 obtain ⟨h0,h1,_⟩:=qhu h
 have e:atE f s i=2:=by unfold atE;rw [if_neg (by rw [h1];decide),if_pos hi]
 have e0:fsE f=0:=by first | exact h0 | exact qdv h0
 unfold getE getL
 simp [e0,e]
theorem qi0 {f:Fsd} {s:List UInt8} (h:qat f s=0):okFs f:=by
 rcases qb0 f with ⟨hk,_⟩ | ⟨_,e⟩
 ·exact hk
 ·unfold qat at h;rw [if_pos (by rw [e];decide),e] at h;cases h
theorem qaeg (x:FsV) (f:Fsd) (s:List UInt8) (i:Int) (w:World) (h:RdX w x f) (hw:WfX f):
  Calls Tryz.prog 128 #[x.val,.string (bs s),.int .i64 i] w fun e w'=>∃v,e=.returned (.tuple #[v,.int .i64 (getE f s i)])∧OwB w' w.heap.size v (getL f s i)∧Below w.heap.size w w':=by
 have HW:=hide hw;have HX:=hide h;clear hw h;obtain ⟨w1,ew⟩:∃w1,w.alloc (.cells x.cs 33)=w1:=⟨_,rfl⟩
 have hb1:Below w.heap.size w w1:=by rw [←ew];exact (Below.refl _ _).alloc (Nat.le_refl _) _
 have qca:=hide (show FsAt w1 w.heap.size x by rw [←ew];exact Bq.new _ _ _);have qad:=hide hb1;clear hb1;unfold FsV.val;unfold FsV.cs at ew
 go_enter Tryz.func128,Tryz.ntmps128
 obtain ⟨kf0,kf1,kf2,kf3,kf4,kf5⟩:=qab qca.out;have hcon:=qev x f s w1 (HX.out.carry qad.out) HW.out
 go_wp2_with fail
 try rw [ew]
 refine hcon.mono ?_
 rintro e w2 ⟨v2,rfl,ho2,hbb⟩;have qbr:=hide (qca.out.carry hbb);have qae:=bT qad hbb;clear hcon hbb kf0 kf1 kf2 kf3 kf4 kf5
 try clear ew
 obtain ⟨m2,hm2⟩:∃m2,m2=(rbL f s).length:=⟨_,rfl⟩
 obtain ⟨y2,z2,e2⟩:∃a c,v2=.slice a m2 c:=by rw [hm2];exact ho2.rd6.form
 subst e2;have HO2:=hide ho2.rd6;have HM2:=hide hm2;clear ho2 hm2
 by_cases g1:¬qat f s=0
 ·have HE:=hide (qal3 g1 i)
  go_wp2;go_ret2;rw [HE.out.1,HE.out.2];exact ⟨_,rfl,World.ownsRow_nil _ _ _ _,qae.out⟩
 rw [Decidable.not_not] at g1;have HS:=hide g1;have HL:=hide (qya (qi0 g1) s);rw [HL.out] at HM2 HO2;rw [g1];clear g1
 by_cases g2:i<0
 ·have HE:=hide (qaef HS.out (.inl g2))
  go_wp2;go_ret2;rw [HE.out.1,HE.out.2];exact ⟨_,rfl,World.ownsRow_nil _ _ _ _,qae.out⟩
 by_cases g3:(m2:Int)≤i
 ·have HE:=hide (qaef HS.out (.inr (by rw [←HM2.out];exact g3)))
  go_wp2;go_ret2;rw [HE.out.1,HE.out.2];exact ⟨_,rfl,World.ownsRow_nil _ _ _ _,qae.out⟩
 obtain ⟨k,hki⟩:∃k:Nat,(k:Int)=i:=⟨i.toNat,by omega⟩;subst hki
 have hk:k<(bloL f s).length:=by rw [←HM2.out];omega
 have g2':decide ((k:Int)<0)=false:=decide_eq_false g2;have g3':decide ((m2:Int)≤k)=false:=decide_eq_false g3
 have g4':(k:Int)<m2:=by omega
 obtain ⟨lb,lo,el,qn⟩:=HO2.out.at6 k hk;subst el;have HGE:=hide (qom HS.out hk);have HRG:=hide (qdp HS.out _ (List.getElem_mem hk));obtain ⟨nn,hn9⟩:∃nn:Nat,(nn:Int)=(bloL f s)[k]:=⟨((bloL f s)[k]).toNat,by have:=HRG.out.1;omega⟩;rw [←hn9] at qn HGE HRG;rw [Int.toNat_natCast] at HGE;clear hn9;have HQN:=hide (show CellAt w2 lb (lo+k) (.int .i64 (nn:Int)) from qn);have HFN:=hide (Fine.of_ok (qax (qi0 HS.out)).1);clear qn
 go_wp2_with fail
 have hK:Keeps (fun wx=>Below w2.heap.size w2 wx):=fun w1 w2 h hb=>h.trans (hb.mono h.size)
 refine qaj hK (by kernel_rfl) (Below.refl _ _) ?_
 intro hS;generalize w2.drew=wdd at *
 refine rP [0,1,2,3,4,5] 3 ?zp1a ?zp1p hS ?zp1n
 case zp1p=>
  iterate 6 (apply Yl.cons rfl (by kernel_rfl);focus (rintro wx hx;(obtain ⟨kf0,kf1,kf2,kf3,kf4,kf5⟩:=qab (qbr.out.carry hx));have qn:wx.cell? ⟨lb,lo+k,none⟩=some (.int .i64 (nn:Int)):=HQN.out.carry hx;clear hx;go_simp;all_goals (with_reducible rfl));try simp only [Act.put,sA,sB,sC])
  exact Yl.nil
 refine qa9 (i:=6) (R:=fun v wx=>OwB wx w.heap.size v (getL f s k)∧Below wdd.heap.size wdd wx) rfl (by kernel_rfl) (by kernel_rfl) (by go_simp;first | done | rfl) ((qah4 (d:=f.1) nn (mny f.1) wdd (HX.out.d.carry (qae.out.trans (hS.mono qae.out.size))) HFN.out.1 (by have:=HRG.out.2;omega) HFN.out.2.2).mono fun e wx ⟨v,h1,h2,h3⟩=>by
  rw [HGE.out.2.2.2]
  exact ⟨_,h1,h2.mono (Nat.le_trans qae.out.size hS.size),h3⟩) ?_
 rintro bv wg ⟨hob,hbb⟩;have hSn:=hK _ _ hS hbb;refine ⟨hSn, ?_⟩;clear hS hbb;have hS:=hSn;clear hSn
 try simp only [Act.put,sA,sB,sC]
 refine rP [7,8] 0 ?zp2a ?zp2p hS ?zp2n
 case zp2p=>
  iterate 2 (apply Yl.cons rfl (by kernel_rfl);focus (rintro wx hx;(obtain ⟨kf0,kf1,kf2,kf3,kf4,kf5⟩:=qab (qbr.out.carry hx));have qn:wx.cell? ⟨lb,lo+k,none⟩=some (.int .i64 (nn:Int)):=HQN.out.carry hx;clear hx;go_simp;all_goals (with_reducible rfl));try simp only [Act.put,sA,sB,sC])
  exact Yl.nil
 refine rD ?_
 try simp only [Act.put,sA,sB,sC]
 have HOB:=hide hob;have HBF:=bT qae hS;clear hob hS hK;go_wp2;go_ret2;rw [HGE.out.2.2.1];exact ⟨_,rfl,HOB.out,HBF.out⟩
end Go.Proofs.YtmeaiocohalphaaGreatDoor

/-
  Of the document's side of layer 6: Check, Twin, Same.
-/
import Derived.Test.YthpammbgcidloaaGreatFiRd7
set_option maxHeartbeats 8000000
set_option maxRecDepth 100000
namespace Go.Proofs.YthpammbgcidloaaGreat
open Go.RowKit
set_option linter.all false
theorem qakr {a sz c b:Nat} (d:b=2+c % 2*16) (e:a=b*128) (f:sz<=2048):wrap64 ((a:Int)+sz)=((a+sz:Nat):Int):=by
 unfold wrap64;omega
theorem EM {f:Fsd} (h:jD f.1≠0):fe f=8:=by
 rcases wP f with ⟨a,_⟩ | ⟨_,e⟩
 ·exact absurd (NA (ny a).1) h
 ·exact e
theorem qxl {f:Fsd} (h:bq f.1<=34∨bA f.2.2.1 (bq f.1)≠0):fe f=8:=by
 rcases wP f with ⟨a,_⟩ | ⟨_,e⟩
 ·rcases h with h | h
  ·have:=(ny a).2.1;omega
  ·exact absurd a.2.2.2.2.2 h
 ·exact e
theorem OA {f:Fsd} {p:Pu} (a:p∈f.1.2.1) (h:p.1<34):fe f=8:=by
 rcases wP f with ⟨b,_⟩ | ⟨_,e⟩
 ·have:=b.2.2.1 p a;omega
 ·exact e
theorem XR {f:Fsd} (h:¬bL f):fe f=8:=by
 rcases wP f with ⟨a,_⟩ | ⟨_,e⟩
 ·exact absurd a h
 ·exact e
def AX (f g:Fsd):Bool:=decide (f.1=g.1) && decide (f.2.1=g.2.1) && decide (f.2.2.1=g.2.2.1) && decide (f.2.2.2=g.2.2.2)
theorem qh {f g:Fsd}:AX f g=true↔f=g:=by
 unfold AX;simp only [Bool.and_eq_true,decide_eq_true_eq];constructor
 ·rintro ⟨⟨⟨a,b⟩,c⟩,d⟩
  obtain ⟨e,i,j,k⟩:=f;obtain ⟨l,m,n,o⟩:=g;simp only at a b c d
  subst a b c d;rfl
 ·intro h
  subst h;exact ⟨⟨⟨rfl,rfl⟩,rfl⟩,rfl⟩
theorem qjz (f:Fsd):AX f f=true:=qh.2 rfl
theorem tC {f g:Fsd} (h:f≠g):AX f g=false:=by
 cases e:AX f g with
 | false=>rfl
 | true=>exact absurd (qh.1 e) h
theorem XT (x:FsV) (f:Fsd) (w:World) (h:RdX w x f) (hw:WfX f):
  Calls Tryz.prog 26 #[x.val] w fun e w'=>e=.returned (.int .i64 (fe f))∧ah w w':=by
 have HW:=ag hw;have n:=ag h;clear hw h;obtain ⟨w1,U⟩:=aj (w.alloc (.cells x.cs 32));have V:ah w w1:=by rw [<-U];exact ae
 have oM:=ag (show bf w1 w.heap.size x by rw [<-U];exact Bq.new _ _ _);have bi:=ag V;clear V;unfold FsV.val;unfold FsV.cs at U;go_enter Tryz.func26,Tryz.ntmps26;obtain ⟨t,u,v,y,z,A⟩:=aV oM.o;have l:=V9 (d:=f.1) w1 (n.o.d.a bi.o);go_wp2_with fail
 try rw [U]
 refine l.mono ?_
 rintro e w2 ⟨rfl,j⟩;have lG:=ag (oM.o.a j);have bg:=bT bi j;clear l j t u v y z A;try clear U
 rcases (Co f.1).symm with ⟨C,D⟩ | ⟨C,D⟩
 ·rw [D]
  have q:=ag (EM (f:=f) (by rw [D];decide));go_wp2;go_ret;rw [q.o];exact ⟨rfl,by first | exact bg.o | assumption⟩
 rw [D];have jo:=ag C;clear C D;have W:=ag (show x.n1=128*bq f.1∧bq f.1<=4096 from ⟨n.o.n1.trans (IK jo.o),((qp f.1).1 jo.o).2.2.1⟩);have mM:=ag (show x.n2<=65536 from by rw [n.o.n2];exact ((qp f.1).1 jo.o).2.2.2.1);obtain ⟨B,hB⟩:∃B:Nat,B=bq f.1:=⟨_,rfl⟩;have X:=ag hB
 have Y:x.n1 / 128=B:=by have:=W.o;rw [hB];omega
 clear hB;obtain ⟨t,u,v,y,z,A⟩:=aV lG.o;have l:=OX x.a1 x.a2 x.a3 x.n1 x.c1 x.n2 x.c2 x.n3 x.c3 (by rw [n.o.n1];exact n.o.d.d1.len_le) w2;rw [Y] at l;go_wp2_with fail
 refine l.mono ?_
 rintro e w3 ⟨rfl,j⟩;have AY:=ag (lG.o.a j);have bU:=bT bg j;clear l j t u v y z A;clear Y;by_cases g1:B<=34
 ·have Z:(B:Int)<=34:=by omega
  have q:=ag (qxl (f:=f) (.inl (by rw [<-X.o];exact g1)));go_wp2;go_ret;rw [q.o];exact ⟨rfl,by first | exact bU.o | assumption⟩
 have Z:decide ((B:Int)<=34)=false:=decide_eq_false (by omega);have fF:=ag (show 34<B by omega);clear g1;obtain ⟨t,u,v,y,z,A⟩:=aV AY.o;have l:=WM _ _ _ f.2.2.1 B w3 (n.o.fl.a bU.o) n.o.n4 HW.o.fl;go_wp2_with fail
 refine l.mono ?_
 rintro e w4 ⟨rfl,j⟩;have Je:=ag (AY.o.a j);have jB:=bT bU j;clear l j t u v y z A Z;by_cases R:¬bA f.2.2.1 B=0
 ·have aF:(bA f.2.2.1 B !=0)=true:=by simpa using R
  have q:=ag (qxl (f:=f) (.inr (by rw [<-X.o];exact R)));go_wp2;go_ret;rw [q.o];exact ⟨rfl,by first | exact jB.o | assumption⟩
 rw [Decidable.not_not] at R;have ad:=ag R;rw [R];clear R;obtain ⟨t,u,v,y,z,A⟩:=aV Je.o;have aD:=mM.o;go_wp2_with fail
 clear t u v y z A;go_loopw [4] (fun i wr=>∃k:Nat,k<=x.n2∧i=.int .i64 k∧af (∀p∈f.1.2.1.take k,34<=p.1)∧af (ah w4 wr)) (fun i _=>x.n2 - (intOf i).toNat)
 case atStart=>exact ⟨0,Nat.zero_le _,rfl,ag (by simp),ag aB⟩
 case round=>
  obtain ⟨k,hk,rfl,E,r⟩:=hrel;have DL:=ag (show ah w wr from jB.o.trans (r.o.mono jB.o.size));have R9:=ag (Je.o.a r.o);obtain ⟨k0,k1,k2,k3,k4,k5⟩:=aV R9.o;by_cases al:k<x.n2
  ·have aE:(k:Int)<x.n2:=by omega
   have J:k<f.1.2.1.length:=by have h2:x.n2=_:=n.o.n2;omega
   obtain ⟨b,aH,ea,q0, -⟩:=(n.o.d.d2.a DL.o).at k J;rw [ea] at k1;have DT:=ag (fun (h:34<=(f.1.2.1[k]).1)=>show ∀p∈f.1.2.1.take (k+1),34<=p.1 by
    intro p G;rw [List.take_succ_eq_append_getElem J] at G;rcases List.mem_append.1 G with G | G
    ·exact E.o p G
    ·rw [List.mem_singleton.1 G];exact h)
   have H:=ag (fun (h:(f.1.2.1[k]).1<34)=>OA (List.getElem_mem J) h);obtain ⟨N,hN⟩:=ai ((f.1.2.1[k]).1);rw [<-hN] at q0 DT H;clear hN;by_cases g3:N<34
   ·have am:decide (N<34)=true:=decide_eq_true g3
    have q:=ag (H.o g3);clear g3;go_wp2;go_ret;rw [q.o];exact ⟨rfl,DL.o⟩
   ·have am:decide (N<34)=false:=decide_eq_false g3
    have an:=ag (DT.o (by omega));clear g3;go_wp2;go_roundw
    case rel=>exact ⟨k+1,by omega,rfl,an,r⟩
    case measure=>simp only [intOf];omega
  ·have hd:decide ((k:Int)<x.n2)=false:=decide_eq_false (by omega)
   have DT:=ag (show ∀p∈f.1.2.1,34<=p.1 by
    have:=E.o
    rwa [List.take_of_length_le (by have h2:x.n2=_:=n.o.n2;omega)] at this)
   have l:=quw (d:=f.1) wr (n.o.d.a DL.o);go_wp2_with fail
   refine l.mono ?_
   rintro e Av ⟨rfl,j⟩;have Sa:=ag (R9.o.a j);have Sb:=bT DL j;clear l j k0 k1 k2 k3 k4 k5;clear hd hk al E r;obtain ⟨ge,s,er,hL⟩:∃ge s er,iU f.1=(ge,s,er):=⟨_,_,_,rfl⟩;rw [hL];have HL:=ag hL;clear hL;obtain ⟨t,u,v,y,z,A⟩:=aV Sa.o
   by_cases g4:¬er=0
   ·have aJ:(er !=0)=true:=by simpa using g4
    have q:=ag (XR (of_decide_eq_false (WW HL.o (.inl g4))));go_wp2;go_ret;rw [q.o];exact ⟨rfl,by first | exact Sb.o | assumption⟩
   rw [Decidable.not_not] at g4;subst g4;by_cases g5:¬ge=x.g
   ·have BB:¬(ge:Int)=x.g:=by omega
    have q:=ag (XR (of_decide_eq_false (WW HL.o (.inr (by rw [<-n.o.g];exact g5)))));go_wp2;go_ret;rw [q.o];exact ⟨rfl,by first | exact Sb.o | assumption⟩
   rw [Decidable.not_not] at g5;subst g5;have mK:=ag (je HL.o);have Mx:=ag (qws HL.o);obtain ⟨ar,K⟩:=ai (2+x.g % 2*16);have L:=qo0 x.g Av mK.o.2.1;rw [<-K] at L;have EL:=ag K;clear K;go_wp2_with fail
   refine L.mono ?_
   clear L;rintro e ao ⟨rfl,E5⟩;subst ao;obtain ⟨M,ap,m,hm,aq,C⟩:=mK.o;obtain ⟨b9,o9,ea,O⟩:=yY (n.o.d.d1) (by intro e;rw [e] at m;simp at m;omega);obtain ⟨I,F⟩:=ai (ar*128);have av:=P9 EL.o F;have aa:=qakr EL.o F M;obtain ⟨y1,y2,y3,y4,y5,y6,y7⟩:=EJ (n.o.n1.trans m) hm M O EL.o F;have P:=EK (by have:=n.o.d.d1.a Sb.o;rw [ea] at this;exact this) I s (by rw [<-n.o.n1];exact y6) (by intro e;rw [e] at m;simp at m;omega);have ab:(f.1.1.drop I).take s=iG f.1 x.g s:=by unfold iG;rw [F,EL.o,Nat.mul_comm]
   rw [ab] at P;have hR:=qac5 _ _ _ (iG f.1 x.g s) B Av P Mx.o.symm;have y8:I+s<=x.n1:=y6;have y9:I+s<=x.c1:=aC y6 O;have aw:I<=I+s:=Nat.le_add_right _ _;have ax:I+s - I=s:=Nat.add_sub_cancel_left _ _;clear P ab M ap m hm aq F C y6 y7 O;rw [ea] at t;rw [X.o] at hR;obtain ⟨RE,Q⟩:=ai (kZ (iG f.1 x.g s) (bq f.1));obtain ⟨RL,Jf⟩:=ai (rT (iG f.1 x.g s) (bq f.1));have wV:=ag Q;have jN:=ag Jf;rw [<-Q,<-Jf,<-X.o] at hR;clear Q Jf;go_wp2_with fail
   refine hR.mono ?_
   rintro e wd ⟨v5,rfl,nE,j⟩;have Jg:=ag (Sa.o.a j);have vY:=bT Sb j;clear t u v y z A j hR av aa y1 y2 y3 y4 y5 y8 y9 aw ax;obtain ⟨m5,wT⟩:=ai RL.length;obtain ⟨u5,z5,e5⟩:∃a c,v5=.slice a m5 c:=by rw [wT];exact nE.form
   subst e5;have ay:=ag wT;obtain ⟨we,XU⟩:=aj (wd.alloc (.cells #[.slice u5 m5 z5] 30));have j:ah wd we:=by rw [<-XU];exact ae
   have Sc:=ag (nE.rd.a j);have k9:we.cell? ⟨wd.heap.size,0,none⟩=some (.slice u5 m5 z5):=by rw [<-XU];simp
   have Sd:=ag (Jg.o.a j);have Jh:=bT vY j;clear nE wT j;have vC:=ag (Qa HL.o n.o.g (by
    rw [List.any_eq_false];intro p G;have:=DT.o p G
    simp
    omega))
   rw [<-wV.o,<-jN.o,<-X.o,ad.o] at vC;by_cases S:¬RE=0
   ·have aK:(RE !=0)=true:=by simpa using S
    have q:=ag (XR (of_decide_eq_false (by rw [vC.o,decide_eq_false S];simp)));go_wp2;go_ret;rw [q.o];exact ⟨rfl,by first | exact Jh.o | assumption⟩
   rw [Decidable.not_not] at S;have ac:=ag S;rw [S];clear S;obtain ⟨t,u,v,y,z,A⟩:=aV Sd.o;have l:=qqa u5 m5 z5 RL x.a5 x.n5 x.c5 f.2.2.2 we Sc.o ay.o (n.o.kl.a Jh.o) n.o.n5;go_wp2_with fail
   try rw [XU]
   refine l.mono ?_
   rintro e aM ⟨rfl,j⟩;have XV:=ag (Sd.o.a j);have Sg:=bT Jh j;clear l j t u v y z A k9;try clear XU
   by_cases T:¬RL=f.2.2.2
   ·rw [decide_eq_false T]
    have q:=ag (XR (of_decide_eq_false (by rw [vC.o,decide_eq_false T];simp)));go_wp2;go_ret;rw [q.o];exact ⟨rfl,by first | exact Sg.o | assumption⟩
   rw [Decidable.not_not] at T;rw [decide_eq_true T];have q:=ag (uG (f:=f) (of_decide_eq_true (by rw [vC.o,decide_eq_true T,decide_eq_true ac.o];simp)));clear T;go_wp2;go_ret;rw [q.o];exact ⟨rfl,Sg.o⟩
theorem qj0 (x y:FsV) (f g:Fsd) (w:World) (h:RdX w x f) (M:RdX w y g):
  Calls Tryz.prog 14 #[x.val,y.val] w fun e w'=>e=.returned (.bool (AX f g))∧ah w w':=by
 have c:=ag h;have i:=ag M;clear h M;obtain ⟨F,m⟩:=aj ((w.alloc (.cells x.cs 32)).alloc (.cells y.cs 32));have J:ah w (w.alloc (.cells x.cs 32)):=ae;have K:Below (w.alloc (.cells x.cs 32)).heap.size (w.alloc (.cells x.cs 32)) F:=by rw [<-m];exact ae
 have N:=ag (show bf F w.heap.size x from (Bq.new w 32 x.cs).a K);have O:=ag (show bf F (w.heap.size+1) y by have:=Bq.new (w.alloc (.cells x.cs 32)) 32 y.cs;rw [<-m];simpa using this);have L:=ag (J.trans (K.mono J.size));clear J K;unfold FsV.val;unfold FsV.cs at m;go_enter Tryz.func14,Tryz.ntmps14;obtain ⟨n,p,q,r,s,t⟩:=aV N.o;obtain ⟨u,v,z,A,B,C⟩:=aV O.o;have b:=tO (d:=f.1) (e:=g.1) F (c.o.d.a L.o) (i.o.d.a L.o);go_wp2_with fail
 try rw [m]
 refine b.mono ?_
 rintro e T ⟨rfl,a⟩;have P:=ag (N.o.a a);have Q:=ag (O.o.a a);have D:=bT L a;clear b a n p q r s t u v z A B C;try clear m
 by_cases k:¬f.1=g.1
 ·rw [decide_eq_false k]
  have j:=ag (show AX f g=false from tC (fun e=>k (by rw [e])));go_wp2;go_ret;rw [j.o];exact ⟨rfl,D.o⟩
 rw [Decidable.not_not] at k;rw [decide_eq_true k];obtain ⟨n,p,q,r,s,t⟩:=aV P.o;obtain ⟨u,v,z,A,B,C⟩:=aV Q.o;by_cases G:¬x.g=y.g
 ·have E:¬(x.g:Int)=y.g:=by omega
  have j:=ag (show AX f g=false from tC (fun e=>G (by rw [c.o.g,i.o.g,e])));go_wp2;go_ret;rw [j.o];exact ⟨rfl,D.o⟩
 rw [Decidable.not_not] at G;have E:(x.g:Int)=y.g:=by omega
 have U:=ag G;clear G;have b:=qqa _ _ _ f.2.2.1 _ _ _ g.2.2.1 T (c.o.fl.a D.o) c.o.n4 (i.o.fl.a D.o) i.o.n4;go_wp2_with fail
 refine b.mono ?_
 rintro e V ⟨rfl,a⟩;have R:=ag (P.o.a a);have S:=ag (Q.o.a a);have H:=bT D a;clear b a n p q r s t u v z A B C E;by_cases l:¬f.2.2.1=g.2.2.1
 ·rw [decide_eq_false l]
  have j:=ag (show AX f g=false from tC (fun e=>l (by rw [e])));go_wp2;go_ret;rw [j.o];exact ⟨rfl,H.o⟩
 rw [Decidable.not_not] at l;rw [decide_eq_true l];obtain ⟨n,p,q,r,s,t⟩:=aV R.o;obtain ⟨u,v,z,A,B,C⟩:=aV S.o;have b:=qqa _ _ _ f.2.2.2 _ _ _ g.2.2.2 V (c.o.kl.a H.o) c.o.n5 (i.o.kl.a H.o) i.o.n5;go_wp2_with fail
 refine b.mono ?_
 rintro e X ⟨rfl,a⟩;have Y:=ag (R.o.a a);have I:=ag (S.o.a a);have W:=bT H a;clear b a n p q r s t u v z A B C;have j:=ag (show AX f g=decide (f.2.2.2=g.2.2.2) by
  unfold AX;rw [decide_eq_true k,decide_eq_true l,decide_eq_true (show f.2.1=g.2.1 by have Z:x.g=_:=c.o.g;have h2:y.g=_:=i.o.g;have:=U.o;omega)];simp)
 clear k l;go_wp2;go_ret;rw [j.o];exact ⟨rfl,W.o⟩
structure XX where
 (a1:au) (n1 c1:Nat) (a2:au) (n2 c2:Nat) (a3:au) (n3 c3:Nat)
theorem qagr {d:Dk} {v:Value} (w:World) (c:RdD w v d) (f:d.1.length<=140737488355328) (g:d.2.1.length<=1000000) (h:d.2.2.length<=1000000) (d2:∀p∈d.2.1,p.2.length<=140737488355328) (i:∀p∈d.2.2,p.2.2.length<=140737488355328):
  Calls Tryz.prog 18 #[v] w fun e w'=>∃a,e=.returned a∧jL w' w.heap.size a d∧ah w w':=by
 refine (qv3 w c f g h d2 i).mono ?_
 rintro e w' ⟨x,y,z,B,rfl,b,j,_,k,l,_,m⟩;exact ⟨_,rfl,⟨x,y,z,rfl,j,k.mono b,l.mono b⟩,m⟩
theorem XY (x:FsV) (f:Fsd) (w:World) (h:RdX w x f) (B:(f.1.1.length<=140737488355328∧f.1.2.1.length<=1000000∧f.1.2.2.length<=1000000)∧f.2.2.1.length<=1000∧(∀g∈f.2.2.1,g.2.length<=1000000)∧f.2.2.2.length<=1000∧∀g∈f.2.2.2,g.2.length<=1000000) (C:(∀p∈f.1.2.1,p.2.length<=140737488355328)∧∀p∈f.1.2.2,p.2.2.length<=140737488355328):
  Calls Tryz.prog 5 #[x.val] w fun e w'=>∃y:FsV,e=.returned y.val∧aW w' w.heap.size y.val f∧ah w w':=by
 have s:=ag B;have W:=ag C;have r:=ag h;clear B C h;obtain ⟨D,E⟩:=aj ((w.alloc (.cells x.cs 32)).alloc (.cells #[.slice none 0 0,.slice none 0 0,.slice none 0 0,.int .u32 0,.slice none 0 0,.slice none 0 0] 32));have L:ah w (w.alloc (.cells x.cs 32)):=ae;have M:Below (w.alloc (.cells x.cs 32)).heap.size (w.alloc (.cells x.cs 32)) D:=by rw [<-E];exact ae
 have X:=ag (show bf D w.heap.size x from (Bq.new w 32 x.cs).a M);have Y:=ag (show dE D (w.heap.size+1) by have:=dE.new (w.alloc (.cells x.cs 32));rw [<-E];simpa using this);have Z:=ag (L.trans (M.mono L.size));clear L M;unfold FsV.val;unfold FsV.cs at E;go_enter Tryz.func5,Tryz.ntmps5;go_wp2_with fail
 try rw [E]
 clear E;have F:aL (fun l=>(bf l w.heap.size x∧dE l (w.heap.size+1))∧ah w l):=fun D w2 h N=>⟨⟨h.1.1.a N,h.1.2.a N⟩,h.2.trans (N.mono h.2.size)⟩
 refine gH F (by kernel_rfl) ⟨⟨X.o,Y.o⟩,Z.o⟩ ?_
 intro j;clear X Y Z;generalize D.drew=wd at *;refine dm [0,1,3,4,5,6,8,9] (fuel:=5) (a':=?iD) (by kernel_rfl) (by kernel_rfl) (by kernel_rfl) ?dn j ?iE
 case dn=>
  iterate 8 (apply Yl.cons rfl (by kernel_rfl);focus (rintro l ⟨⟨z,I⟩,J⟩;(obtain ⟨k0,k1,k2,k3,k4,k5⟩:=aV z);go_simp<;>with_reducible rfl);try simp only [az])
  exact Yl.nil
 refine nZ (i:=2) (R:=fun v l=>∃b:XX,v=.agg #[.slice b.a1 b.n1 b.c1,.slice b.a2 b.n2 b.c2,.slice b.a3 b.n3 b.c3]∧jL l w.heap.size (.agg #[.slice b.a1 b.n1 b.c1,.slice b.a2 b.n2 b.c2,.slice b.a3 b.n3 b.c3]) f.1∧ah wd l) rfl (by kernel_rfl) (by kernel_rfl) (by obtain ⟨⟨z,I⟩,J⟩:=j;go_simp;try rfl) ((qagr (d:=f.1) wd (r.o.d.a j.2) s.o.1.1 s.o.1.2.1 s.o.1.2.2 W.o.1 W.o.2).mono fun e l ⟨v,h1,h2,h3⟩=>by
   obtain ⟨a1,c1,a2,c2,a3,c3,G⟩:=h2.form;subst G;exact ⟨_,h1,⟨a1,_,c1,a2,_,c2,a3,_,c3⟩,rfl,h2.mono j.2.size,h3⟩) ?_
 rintro v9 wA ⟨b,rfl,A,k⟩;have q:=F _ _ j k;refine ⟨q, ?_⟩;clear j;have j:=q;clear q k;try simp only [az]
 refine nZ (i:=7) (R:=fun v l=>∃a n c,v=.agg #[.slice a n c]∧bJ l w.heap.size (.slice a n c) f.2.2.1∧ah wA l) rfl (by kernel_rfl) (by kernel_rfl) (by obtain ⟨⟨z,I⟩,J⟩:=j;go_simp;try rfl) ((qor _ _ _ f.2.2.1 wA (r.o.fl.a j.2) r.o.n4 (by have h4:x.n4=_:=r.o.n4;have:=s.o.2.1;omega) s.o.2.2.1).mono fun e l ⟨v,h1,h2,h3⟩=>by
   obtain ⟨a,c,G⟩:=h2.form;subst G;exact ⟨_,h1,a,_,c,rfl,h2.mono j.2.size,h3⟩) ?_
 rintro v9 wB ⟨O,P,Q,rfl,K,k⟩;have q:=F _ _ j k;refine ⟨q, ?_⟩;have A:=A.a k;clear j;have j:=q;clear q k;try simp only [az]
 refine nZ (i:=10) (R:=fun v l=>∃a n c,v=.agg #[.slice a n c]∧bJ l w.heap.size (.slice a n c) f.2.2.2∧ah wB l) rfl (by kernel_rfl) (by kernel_rfl) (by obtain ⟨⟨z,I⟩,J⟩:=j;go_simp;try rfl) ((qor _ _ _ f.2.2.2 wB (r.o.kl.a j.2) r.o.n5 (by have h4:x.n5=_:=r.o.n5;have:=s.o.2.2.2.1;omega) s.o.2.2.2.2).mono fun e l ⟨v,h1,h2,h3⟩=>by
   obtain ⟨a,c,G⟩:=h2.form;subst G;exact ⟨_,h1,a,_,c,rfl,h2.mono j.2.size,h3⟩) ?_
 rintro v9 wC ⟨S,T,U,rfl,bN,k⟩;have q:=F _ _ j k;refine ⟨q, ?_⟩;have A:=A.a k;have K:=K.a k;clear j;have j:=q;clear q k;try simp only [az]
 refine bZ (i:=11) (v:=?qtv11) rfl (by kernel_rfl) (by kernel_rfl) (by kernel_rfl) (by rfl) ?Sq j ?qtr11
 case Sq=>(rintro l ⟨⟨z,I⟩,J⟩;(obtain ⟨k0,k1,k2,k3,k4,k5⟩:=aV z);go_simp<;>with_reducible rfl)
 try simp only [az]
 have hv:aW wC w.heap.size (⟨b.a1,b.n1,b.c1,b.a2,b.n2,b.c2,b.a3,b.n3,b.c3,x.g,O,P,Q,S,T,U⟩:FsV).val f:=⟨_,_,_,_,_,by rw [<-r.o.g],A,K,bN⟩;have m:=hv.assign j.1.2 j.2 (by omega);obtain ⟨⟨d0,e0⟩,⟨d1,e1⟩,⟨d2,e2⟩,⟨d3,e3⟩,⟨d4,e4⟩,⟨d5,e5⟩,t⟩:=j.1.2.cells;have f0:=t 0;have f1:=t 1;have f2:=t 2;have f3:=t 3;have f4:=t 4;have f5:=t 5;obtain ⟨wE,H⟩:=aj (aY wC (w.heap.size+1) ⟨b.a1,b.n1,b.c1,b.a2,b.n2,b.c2,b.a3,b.n3,b.c3,x.g,O,P,Q,S,T,U⟩);rw [H] at m;have V:(fun l=>(bf l w.heap.size x∧dE l (w.heap.size+1))∧ah w l) wE:=⟨⟨j.1.1.grown m.2.2.2.2 (by omega),dE.of m.2.2.1⟩,m.2.1⟩;have u:=ag m;unfold aY at H;dsimp only at H;clear t m hv;refine nL (i:=12) (w':=wE) rfl (by kernel_rfl) (by kernel_rfl) (by rw [<-H];go_simp) V ?_
 clear j H e0 e1 e2 e3 e4 e5 f0 f1 f2 f3 f4 f5;have j:=V;clear V;try simp only [az]
 refine wpAnyH_done (by kernel_rfl) ?_ _
 refine NoPanic.normal ?_
 try simp only [az]
 clear j F A K bN;obtain ⟨z0,z1,z2,z3,z4,z5⟩:=aV u.o.2.2.1;dsimp only at z0 z1 z2 z3 z4 z5;go_wp2;try simp only [Exit.inBlock,Exit.then]
 refine bodyPost_ret (v:=(⟨b.a1,b.n1,b.c1,b.a2,b.n2,b.c2,b.a3,b.n3,b.c3,x.g,O,P,Q,S,T,U⟩:FsV).val) ?_ rfl ⟨_,rfl,u.o.1,u.o.2.1⟩
 simp [results,Tryz.results5,go_sem, *]
end Go.Proofs.YthpammbgcidloaaGreat

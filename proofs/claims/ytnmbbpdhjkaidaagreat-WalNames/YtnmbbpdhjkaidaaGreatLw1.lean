/-
  What law09's begun does.
-/
import Derived.Test.YtnmbbpdhjkaidaaGreatWal9
import Derived.Test.YtnmbbpdhjkaidaaGreatMathFs3
import Derived.Test.YtnmbbpdhjkaidaaGreatKt
set_option maxHeartbeats 4000000
set_option maxRecDepth 100000
namespace Go.Proofs.YtnmbbpdhjkaidaaGreat
open Go.RowKit
set_option linter.all false
theorem belH {w a b:World} (h:Hid (Below w.heap.size w a)) (k:Below a.heap.size a b):Hid (Below w.heap.size w b):=hide (h.out.trans (k.mono h.out.size))
theorem WlB.lt {w:World} {r:Nat} (h:WlB w r):r<w.heap.size:=by
 obtain ⟨_,_,_,_,_,_,h⟩:=h;exact h.lt
theorem fz6 {w:World} {p:Nat} {t:TypeId} {cs:Array Value} (h:Bq w p t cs):w.frozen? ⟨p,0,none⟩=false∧w.frozen? ⟨p,1,none⟩=false∧w.frozen? ⟨p,2,none⟩=false∧w.frozen? ⟨p,3,none⟩=false∧w.frozen? ⟨p,4,none⟩=false∧w.frozen? ⟨p,5,none⟩=false:=⟨h.fz 0,h.fz 1,h.fz 2,h.fz 3,h.fz 4,h.fz 5⟩
theorem qi1 (w:World) (x:FsV) (W:Wl):∃wA wB wC,(w.alloc (.cells #[.slice none 0 0,.slice none 0 0,.slice none 0 0,.int .u32 0,.slice none 0 0,.slice none 0 0] 33)).alloc (.cells #[.string ⟨#[]⟩,.int .u32 0,.int .i64 0,.int .u32 0,.int .u32 0,.int .i64 0] 35)=wA∧set6 wA w.heap.size x=wB∧qao wB (w.heap.size+1) (.string (bs W.1)) (.int .u32 W.2.1) (.int .i64 W.2.2.1) (.int .u32 W.2.2.2.1) (.int .u32 W.2.2.2.2.1) (.int .i64 W.2.2.2.2.2)=wC∧
  (wA.cell? ⟨w.heap.size,0,none⟩=some (.slice none 0 0)∧wA.cell? ⟨w.heap.size,1,none⟩=some (.slice none 0 0)∧wA.cell? ⟨w.heap.size,2,none⟩=some (.slice none 0 0)∧wA.cell? ⟨w.heap.size,3,none⟩=some (.int .u32 0)∧wA.cell? ⟨w.heap.size,4,none⟩=some (.slice none 0 0)∧wA.cell? ⟨w.heap.size,5,none⟩=some (.slice none 0 0))∧(wA.frozen? ⟨w.heap.size,0,none⟩=false∧wA.frozen? ⟨w.heap.size,1,none⟩=false∧wA.frozen? ⟨w.heap.size,2,none⟩=false∧wA.frozen? ⟨w.heap.size,3,none⟩=false∧wA.frozen? ⟨w.heap.size,4,none⟩=false∧wA.frozen? ⟨w.heap.size,5,none⟩=false)∧
  (wB.cell? ⟨w.heap.size+1,0,none⟩=some (.string ⟨#[]⟩)∧wB.cell? ⟨w.heap.size+1,1,none⟩=some (.int .u32 0)∧wB.cell? ⟨w.heap.size+1,2,none⟩=some (.int .i64 0)∧wB.cell? ⟨w.heap.size+1,3,none⟩=some (.int .u32 0)∧wB.cell? ⟨w.heap.size+1,4,none⟩=some (.int .u32 0)∧wB.cell? ⟨w.heap.size+1,5,none⟩=some (.int .i64 0))∧(wB.frozen? ⟨w.heap.size+1,0,none⟩=false∧wB.frozen? ⟨w.heap.size+1,1,none⟩=false∧wB.frozen? ⟨w.heap.size+1,2,none⟩=false∧wB.frozen? ⟨w.heap.size+1,3,none⟩=false∧wB.frozen? ⟨w.heap.size+1,4,none⟩=false∧wB.frozen? ⟨w.heap.size+1,5,none⟩=false)∧
  FsAt wC w.heap.size x∧WlAt wC (w.heap.size+1) W∧Below w.heap.size w wC:=by
 have s1:(w.alloc (.cells #[.slice none 0 0,.slice none 0 0,.slice none 0 0,.int .u32 0,.slice none 0 0,.slice none 0 0] 33)).heap.size=w.heap.size+1:=by simp
 have al:∀(u:World) (o:Obj),Below u.heap.size u (u.alloc o):=fun u o=>(Below.refl _ _).alloc (Nat.le_refl _) _
 have b1:=al w (.cells #[.slice none 0 0,.slice none 0 0,.slice none 0 0,.int .u32 0,.slice none 0 0,.slice none 0 0] 33);have b2:=al (w.alloc (.cells #[.slice none 0 0,.slice none 0 0,.slice none 0 0,.int .u32 0,.slice none 0 0,.slice none 0 0] 33)) (.cells #[.string ⟨#[]⟩,.int .u32 0,.int .i64 0,.int .u32 0,.int .u32 0,.int .i64 0] 35);have h1:Bq _ w.heap.size 33 #[.slice none 0 0,.slice none 0 0,.slice none 0 0,.int .u32 0,.slice none 0 0,.slice none 0 0]:=(Bq.new w 33 #[.slice none 0 0,.slice none 0 0,.slice none 0 0,.int .u32 0,.slice none 0 0,.slice none 0 0]).carry b2;have h2:Bq _ (w.heap.size+1) 35 #[.string ⟨#[]⟩,.int .u32 0,.int .i64 0,.int .u32 0,.int .u32 0,.int .i64 0]:=s1 ▸ Bq.new (w.alloc (.cells #[.slice none 0 0,.slice none 0 0,.slice none 0 0,.int .u32 0,.slice none 0 0,.slice none 0 0] 33)) 35 #[.string ⟨#[]⟩,.int .u32 0,.int .i64 0,.int .u32 0,.int .u32 0,.int .i64 0];have hB:Below w.heap.size w _:=b1.trans (b2.mono (by omega));obtain ⟨wA,eA⟩:∃wA,(w.alloc (.cells #[.slice none 0 0,.slice none 0 0,.slice none 0 0,.int .u32 0,.slice none 0 0,.slice none 0 0] 33)).alloc (.cells #[.string ⟨#[]⟩,.int .u32 0,.int .i64 0,.int .u32 0,.int .u32 0,.int .i64 0] 35)=wA:=⟨_,rfl⟩;rw [eA] at h1 h2 hB;obtain ⟨p1,g1⟩:=(show FsB wA w.heap.size from ⟨_,_,_,_,_,_,h1⟩).put x;have h3:=h2.grown g1 (by omega);obtain ⟨p2,g2⟩:=put6 h3 (.string (bs W.1)) (.int .u32 W.2.1) (.int .i64 W.2.2.1) (.int .u32 W.2.2.2.1) (.int .u32 W.2.2.2.2.1) (.int .i64 W.2.2.2.2.2);have hB2:=hB.grown g1 hB.size (by intro k hk;cases hk;exact Nat.le_refl _);have hB3:=hB2.grown g2 hB2.size (by intro k hk;cases hk;omega);exact ⟨wA,_,_,eA,rfl,rfl,qal h1,fz6 h1,qal h3,fz6 h3,p1.grown g2 (by omega),p2,hB3⟩
theorem qacy (w:World):∃wA,(w.alloc (.cells #[.slice none 0 0,.slice none 0 0,.slice none 0 0,.int .u32 0,.slice none 0 0,.slice none 0 0] 33)).alloc (.cells #[.string ⟨#[]⟩,.int .u32 0,.int .i64 0,.int .u32 0,.int .u32 0,.int .i64 0] 35)=wA∧FsB wA w.heap.size∧WlB wA (w.heap.size+1)∧Below w.heap.size w wA:=by
 have s1:(w.alloc (.cells #[.slice none 0 0,.slice none 0 0,.slice none 0 0,.int .u32 0,.slice none 0 0,.slice none 0 0] 33)).heap.size=w.heap.size+1:=by simp
 have al:∀(u:World) (o:Obj),Below u.heap.size u (u.alloc o):=fun u o=>(Below.refl _ _).alloc (Nat.le_refl _) _
 have b1:=al w (.cells #[.slice none 0 0,.slice none 0 0,.slice none 0 0,.int .u32 0,.slice none 0 0,.slice none 0 0] 33);have b2:=al (w.alloc (.cells #[.slice none 0 0,.slice none 0 0,.slice none 0 0,.int .u32 0,.slice none 0 0,.slice none 0 0] 33)) (.cells #[.string ⟨#[]⟩,.int .u32 0,.int .i64 0,.int .u32 0,.int .u32 0,.int .i64 0] 35);exact ⟨_,rfl,(FsB.new w).carry b2,s1 ▸ WlB.new (w.alloc (.cells #[.slice none 0 0,.slice none 0 0,.slice none 0 0,.int .u32 0,.slice none 0 0,.slice none 0 0] 33)),b1.trans (b2.mono (by omega))⟩
structure BegI (h:Fsd):Prop where
 i:LogI h logN 4
 w:qai h logN=wl1
 r:qd1 h logN=[]
def BegR (w:World) (e:Ending) (w':World):Prop:=∃h,BegI h∧∃v,e=.returned (.tuple #[v,wlV wl1,.bool true])∧OwFs w' w.heap.size v h∧Below w.heap.size w w'
theorem BegR.mk {w w':World} {e:Ending} {h:Fsd} {v:Value} (h1:BegI h) (h2:e=.returned (.tuple #[v,wlV wl1,.bool true])) (h3:OwFs w' w.heap.size v h) (h4:Below w.heap.size w w'):BegR w e w':=⟨h,h1,v,h2,h3,h4⟩
theorem qna (w:World):
  Calls Tryz.prog 7 #[] w fun e w'=>BegR w e w':=by
 obtain ⟨F,y,h,e1,e2,e3,e4,e5,e6,e7,e8,e9⟩:=qacx (N:=64) (n:=4) (by decide) (by decide) (by decide) (by decide) qaf9;have HM:=hide (show qb8 64=(F,0)∧WfX F∧newW F logN 4=(y,wl1,0)∧WfX y∧qc0 y=(h,0) from ⟨e1,qlt e2,e4,qlt e5,e6⟩);have HBI:=hide (show BegI h from ⟨e7,e8,e9⟩);clear e1 e2 e3 e4 e5 e6 e7 e8 e9;obtain ⟨V,hV⟩:∃V,V=wl1:=⟨_,rfl⟩;have HV:=hide hV;clear hV;obtain ⟨w1,ew,hr,hq,hb1⟩:=qacy w;have HZr_w1:=hide hr;have HZq_w1:=hide hq;have qaf:=hide hb1;clear hr hq hb1
 go_enter Tryz.func7,Tryz.ntmps7
 have NErq:=hide (show w.heap.size≠(w.heap.size+1) by omega);have GEr:=hide (Nat.le_refl w.heap.size);have GEq:=hide (show w.heap.size≤w.heap.size+1 by omega);have hcon:=qp3 64 w1;rw [HM.out.1] at hcon;have HCON:=hide hcon;clear hcon
 go_wp2_with fail
 try rw [ew]
 refine HCON.out.mono ?_
 rintro e w2 ⟨v9,rfl,ho,hbb⟩;have qadh:=hide (HZr_w1.out.carry hbb);have qadi:=hide (HZq_w1.out.carry hbb);have qan:=belH qaf hbb;clear HCON hbb
 try clear ew
 obtain ⟨xf,e9,hx9,ho9⟩:=ho.bx;subst e9;have qqs:=hide (ho9.mono qaf.out.size);clear ho hx9 ho9;have NErf:=hide (show w.heap.size≠w2.heap.size by have:=qadh.out.lt;omega);have NEqf:=hide (show (w.heap.size+1)≠w2.heap.size by have:=qadi.out.lt;omega);have GEf:=hide (show w.heap.size≤w2.heap.size by have:=qan.out.size;omega);obtain ⟨w3,ew3⟩:∃wq,w2.alloc (.cells xf.cs 33)=wq:=⟨_,rfl⟩
 have hbn:Below w2.heap.size w2 w3:=by rw [←ew3];exact (Below.refl _ _).alloc (Nat.le_refl _) _
 have HZr_w3:=hide (qadh.out.carry hbn);have HZq_w3:=hide (qadi.out.carry hbn);have qje:=hide (qqs.out.carry hbn);have qa0:=belH qan hbn;have qlv:=hide (show FsAt w3 w2.heap.size xf by rw [←ew3];exact Bq.new _ _ _);clear hbn;unfold FsV.cs at ew3;unfold FsV.val;obtain ⟨kf0,kf1,kf2,kf3,kf4,kf5⟩:=qab qlv.out;have hcon:=qzj xf F logN 4 w3 qje.out.rdx HM.out.2.1;rw [HM.out.2.2.1,←HV.out] at hcon;have HCON:=hide hcon;clear hcon
 go_wp2_with fail
 try rw [ew3]
 refine HCON.out.mono ?_
 rintro e w4 ⟨v9,rfl,ho,hbb⟩;have qadj:=hide (HZr_w3.out.carry hbb);have qadk:=hide (HZq_w3.out.carry hbb);have qqt:=hide (qje.out.carry hbb);have qjf:=hide (qlv.out.carry hbb);have qcn:=belH qa0 hbb;clear HCON hbb kf0 kf1 kf2 kf3 kf4 kf5
 try clear ew3
 obtain ⟨y1,e9,hx9,ho9⟩:=ho.bx;subst e9;have qzp:=hide (ho9.mono qa0.out.size);clear ho hx9 ho9;have NErl:=hide (show w.heap.size≠w4.heap.size by have:=qadj.out.lt;omega);have NEql:=hide (show (w.heap.size+1)≠w4.heap.size by have:=qadk.out.lt;omega);have NEfl:=hide (show w2.heap.size≠w4.heap.size by have:=qjf.out.lt;omega);have GEl:=hide (show w.heap.size≤w4.heap.size by have:=qcn.out.size;omega);obtain ⟨w5,ew5⟩:∃wq,w4.alloc (.cells #[.string ⟨#[]⟩,.int .u32 0,.int .i64 0,.int .u32 0,.int .u32 0,.int .i64 0] 35)=wq:=⟨_,rfl⟩
 have hbn:Below w4.heap.size w4 w5:=by rw [←ew5];exact (Below.refl _ _).alloc (Nat.le_refl _) _
 have HZr_w5:=hide (qadj.out.carry hbn);have HZq_w5:=hide (qadk.out.carry hbn);have qt2:=hide (qqt.out.carry hbn);have qcu:=hide (qjf.out.carry hbn);have qzq:=hide (qzp.out.carry hbn);have qg2:=belH qcn hbn;have HZl_w5:=hide (show WlB w5 w4.heap.size by rw [←ew5];exact WlB.new _);clear hbn;obtain ⟨s2c0,s2c1,s2c2,s2c3,s2c4,s2c5⟩:=qab qcu.out;have s2f0:=qcu.out.fz 0;have s2f1:=qcu.out.fz 1;have s2f2:=qcu.out.fz 2;have s2f3:=qcu.out.fz 3;have s2f4:=qcu.out.fz 4;have s2f5:=qcu.out.fz 5;obtain ⟨hat,hgr⟩:=(FsB.of qcu.out).put y1;obtain ⟨w6,ew6⟩:∃wq,set6 w5 (w2.heap.size) y1=wq:=⟨_,rfl⟩;rw [ew6] at hat hgr;have HZr_w6:=hide (HZr_w5.out.grown hgr NErf.out);have HZq_w6:=hide (HZq_w5.out.grown hgr NEqf.out);have qqu:=hide (qzq.out.keptS hgr qcu.out (by decide) (by decide) (by decide) (by decide) (by decide));have HZl_w6:=hide (HZl_w5.out.grown hgr NEfl.out.symm);have qgf:=hide (show Below w.heap.size w w6 from qg2.out.grown hgr qg2.out.size (by intro k hk;cases hk;exact GEf.out));have qqv:=qqu;have qnb:=hide hat;clear hat hgr qqu;unfold set6 at ew6;unfold FsV.val;obtain ⟨_,_,_,_,_,_,hqz⟩:=HZl_w6.out;obtain ⟨s3c0,s3c1,s3c2,s3c3,s3c4,s3c5⟩:=qal hqz;have s3f0:=hqz.fz 0;have s3f1:=hqz.fz 1;have s3f2:=hqz.fz 2;have s3f3:=hqz.fz 3;have s3f4:=hqz.fz 4;have s3f5:=hqz.fz 5;obtain ⟨hat,hgr⟩:=put6 hqz (.string (bs V.1)) (.int .u32 V.2.1) (.int .i64 V.2.2.1) (.int .u32 V.2.2.2.1) (.int .u32 V.2.2.2.2.1) (.int .i64 V.2.2.2.2.2);obtain ⟨w7,ew7⟩:∃wq,qao w6 (w4.heap.size) (.string (bs V.1)) (.int .u32 V.2.1) (.int .i64 V.2.2.1) (.int .u32 V.2.2.2.1) (.int .u32 V.2.2.2.2.1) (.int .i64 V.2.2.2.2.2)=wq:=⟨_,rfl⟩;rw [ew7] at hat hgr;have HZr_w7:=hide (HZr_w6.out.grown hgr NErl.out);have HZq_w7:=hide (HZq_w6.out.grown hgr NEql.out);have qlw:=hide (qnb.out.grown hgr NEfl.out);have qjg:=hide (qqv.out.keptS hgr hqz (by decide) (by decide) (by decide) (by decide) (by decide));have qh1:=hide (show Below w.heap.size w w7 from qgf.out.grown hgr qgf.out.size (by intro k hk;cases hk;exact GEl.out))
 have qqw:=hide (show WlAt w7 (w4.heap.size) V from hat);clear hat hgr hqz;unfold qao at ew7;obtain ⟨kf0,kf1,kf2,kf3,kf4,kf5⟩:=qab qlw.out;have hcon:=qx4 y1 y w7 qjg.out.rdx HM.out.2.2.2.1;rw [HM.out.2.2.2.2] at hcon;have HCON:=hide hcon;clear hcon
 go_wp2_with fail
 try rw [ew5]
 try rw [ew6]
 try rw [ew7]
 refine HCON.out.mono ?_
 rintro e w8 ⟨v9,rfl,ho,hbb⟩;have HZr_w8:=hide (HZr_w7.out.carry hbb);have HZq_w8:=hide (HZq_w7.out.carry hbb);have qd5:=hide (qlw.out.carry hbb);have qt3:=hide (qjg.out.carry hbb);have qjh:=hide (qqw.out.carry hbb);have qjn:=belH qh1 hbb;clear HCON hbb s2c0 s2c1 s2c2 s2c3 s2c4 s2c5 s2f0 s2f1 s2f2 s2f3 s2f4 s2f5 s3c0 s3c1 s3c2 s3c3 s3c4 s3c5 s3f0 s3f1 s3f2 s3f3 s3f4 s3f5 kf0 kf1 kf2 kf3 kf4 kf5
 try clear ew5
 try clear ew6
 try clear ew7
 obtain ⟨y4,e9,hx9,ho9⟩:=ho.bx;subst e9;have HOn_w8:=hide (ho9.mono qh1.out.size);clear ho hx9 ho9;obtain ⟨s5c0,s5c1,s5c2,s5c3,s5c4,s5c5⟩:=qab qd5.out;have s5f0:=qd5.out.fz 0;have s5f1:=qd5.out.fz 1;have s5f2:=qd5.out.fz 2;have s5f3:=qd5.out.fz 3;have s5f4:=qd5.out.fz 4;have s5f5:=qd5.out.fz 5;obtain ⟨hat,hgr⟩:=(FsB.of qd5.out).put y4;obtain ⟨w9,ew9⟩:∃wq,set6 w8 (w2.heap.size) y4=wq:=⟨_,rfl⟩;rw [ew9] at hat hgr;have HZr_w9:=hide (HZr_w8.out.grown hgr NErf.out);have HZq_w9:=hide (HZq_w8.out.grown hgr NEqf.out);have qnc:=hide (qjh.out.grown hgr NEfl.out.symm);have qadl:=hide (HOn_w8.out.keptS hgr qd5.out (by decide) (by decide) (by decide) (by decide) (by decide));have ql1:=hide (show Below w.heap.size w w9 from qjn.out.grown hgr qjn.out.size (by intro k hk;cases hk;exact GEf.out));have qqx:=qadl;have qnd:=hide hat;clear hat hgr qadl;unfold set6 at ew9;unfold FsV.val;go_wp2
 try rw [ew9]
 try clear ew9
 clear s5c0 s5c1 s5c2 s5c3 s5c4 s5c5 s5f0 s5f1 s5f2 s5f3 s5f4 s5f5
 have hK:Keeps (fun wx=>(FsAt wx (w2.heap.size) y4∧WlAt wx (w4.heap.size) V∧FsB wx w.heap.size∧WlB wx (w.heap.size+1))∧Below w.heap.size w wx∧OwFs wx w.heap.size y4.val h):=fun _ _ h hb=>⟨⟨h.1.1.carry hb,h.1.2.1.carry hb,h.1.2.2.1.carry hb,h.1.2.2.2.carry hb⟩,h.2.1.trans (hb.mono h.2.1.size),h.2.2.carry hb⟩
 have hS0:(fun wx=>(FsAt wx (w2.heap.size) y4∧WlAt wx (w4.heap.size) V∧FsB wx w.heap.size∧WlB wx (w.heap.size+1))∧Below w.heap.size w wx∧OwFs wx w.heap.size y4.val h) w9:=⟨⟨qnd.out,qnc.out,HZr_w9.out,HZq_w9.out⟩,ql1.out,qqx.out⟩
 refine qaq hK (by kernel_rfl) hS0 ?_
 clear hS0;intro hS;generalize w9.drew=wd at *
 refine qbj (i:=0) (v:=?qzv0) rfl (by kernel_rfl) (by kernel_rfl) (by kernel_rfl) (by kernel_rfl) ?qzy0 hS ?qzr0
 case qzy0=>(rintro wx ⟨⟨x1,x2,x3,x4⟩,x5,x6⟩;obtain ⟨k0,k1,k2,k3,k4,k5⟩:=qab x1;obtain ⟨j0,j1,j2,j3,j4,j5⟩:=qac x2;go_simp;all_goals (with_reducible rfl))
 try simp only [Act.put,sA,sB,sC]
 refine qbj (i:=1) (v:=?qzv1) rfl (by kernel_rfl) (by kernel_rfl) (by kernel_rfl) (by kernel_rfl) ?qzy1 hS ?qzr1
 case qzy1=>(rintro wx ⟨⟨x1,x2,x3,x4⟩,x5,x6⟩;obtain ⟨k0,k1,k2,k3,k4,k5⟩:=qab x1;obtain ⟨j0,j1,j2,j3,j4,j5⟩:=qac x2;go_simp;all_goals (with_reducible rfl))
 try simp only [Act.put,sA,sB,sC]
 refine qbj (i:=2) (v:=?qzv2) rfl (by kernel_rfl) (by kernel_rfl) (by kernel_rfl) (by kernel_rfl) ?qzy2 hS ?qzr2
 case qzy2=>(rintro wx ⟨⟨x1,x2,x3,x4⟩,x5,x6⟩;obtain ⟨k0,k1,k2,k3,k4,k5⟩:=qab x1;obtain ⟨j0,j1,j2,j3,j4,j5⟩:=qac x2;go_simp;all_goals (with_reducible rfl))
 try simp only [Act.put,sA,sB,sC]
 refine qbj (i:=3) (v:=?qzv3) rfl (by kernel_rfl) (by kernel_rfl) (by kernel_rfl) (by kernel_rfl) ?qzy3 hS ?qzr3
 case qzy3=>(rintro wx ⟨⟨x1,x2,x3,x4⟩,x5,x6⟩;obtain ⟨k0,k1,k2,k3,k4,k5⟩:=qab x1;obtain ⟨j0,j1,j2,j3,j4,j5⟩:=qac x2;go_simp;all_goals (with_reducible rfl))
 try simp only [Act.put,sA,sB,sC]
 refine qbj (i:=4) (v:=?qzv4) rfl (by kernel_rfl) (by kernel_rfl) (by kernel_rfl) (by kernel_rfl) ?qzy4 hS ?qzr4
 case qzy4=>(rintro wx ⟨⟨x1,x2,x3,x4⟩,x5,x6⟩;obtain ⟨k0,k1,k2,k3,k4,k5⟩:=qab x1;obtain ⟨j0,j1,j2,j3,j4,j5⟩:=qac x2;go_simp;all_goals (with_reducible rfl))
 try simp only [Act.put,sA,sB,sC]
 refine qbj (i:=5) (v:=?qzv5) rfl (by kernel_rfl) (by kernel_rfl) (by kernel_rfl) (by kernel_rfl) ?qzy5 hS ?qzr5
 case qzy5=>(rintro wx ⟨⟨x1,x2,x3,x4⟩,x5,x6⟩;obtain ⟨k0,k1,k2,k3,k4,k5⟩:=qab x1;obtain ⟨j0,j1,j2,j3,j4,j5⟩:=qac x2;go_simp;all_goals (with_reducible rfl))
 try simp only [Act.put,sA,sB,sC]
 refine qbj (i:=6) (v:=?qzv6) rfl (by kernel_rfl) (by kernel_rfl) (by kernel_rfl) (by kernel_rfl) ?qzy6 hS ?qzr6
 case qzy6=>(rintro wx ⟨⟨x1,x2,x3,x4⟩,x5,x6⟩;obtain ⟨k0,k1,k2,k3,k4,k5⟩:=qab x1;obtain ⟨j0,j1,j2,j3,j4,j5⟩:=qac x2;go_simp;all_goals (with_reducible rfl))
 try simp only [Act.put,sA,sB,sC]
 refine qbj (i:=7) (v:=?qzv7) rfl (by kernel_rfl) (by kernel_rfl) (by kernel_rfl) (by kernel_rfl) ?qzy7 hS ?qzr7
 case qzy7=>(rintro wx ⟨⟨x1,x2,x3,x4⟩,x5,x6⟩;obtain ⟨k0,k1,k2,k3,k4,k5⟩:=qab x1;obtain ⟨j0,j1,j2,j3,j4,j5⟩:=qac x2;go_simp;all_goals (with_reducible rfl))
 try simp only [Act.put,sA,sB,sC]
 refine qbj (i:=8) (v:=?qzv8) rfl (by kernel_rfl) (by kernel_rfl) (by kernel_rfl) (by kernel_rfl) ?qzy8 hS ?qzr8
 case qzy8=>(rintro wx ⟨⟨x1,x2,x3,x4⟩,x5,x6⟩;obtain ⟨k0,k1,k2,k3,k4,k5⟩:=qab x1;obtain ⟨j0,j1,j2,j3,j4,j5⟩:=qac x2;go_simp;all_goals (with_reducible rfl))
 try simp only [Act.put,sA,sB,sC]
 refine qbj (i:=9) (v:=?qzv9) rfl (by kernel_rfl) (by kernel_rfl) (by kernel_rfl) (by kernel_rfl) ?qzy9 hS ?qzr9
 case qzy9=>(rintro wx ⟨⟨x1,x2,x3,x4⟩,x5,x6⟩;obtain ⟨k0,k1,k2,k3,k4,k5⟩:=qab x1;obtain ⟨j0,j1,j2,j3,j4,j5⟩:=qac x2;go_simp;all_goals (with_reducible rfl))
 try simp only [Act.put,sA,sB,sC]
 refine qbj (i:=10) (v:=?qzv10) rfl (by kernel_rfl) (by kernel_rfl) (by kernel_rfl) (by kernel_rfl) ?qzy10 hS ?qzr10
 case qzy10=>(rintro wx ⟨⟨x1,x2,x3,x4⟩,x5,x6⟩;obtain ⟨k0,k1,k2,k3,k4,k5⟩:=qab x1;obtain ⟨j0,j1,j2,j3,j4,j5⟩:=qac x2;go_simp;all_goals (with_reducible rfl))
 try simp only [Act.put,sA,sB,sC]
 refine qbj (i:=11) (v:=?qzv11) rfl (by kernel_rfl) (by kernel_rfl) (by kernel_rfl) (by kernel_rfl) ?qzy11 hS ?qzr11
 case qzy11=>(rintro wx ⟨⟨x1,x2,x3,x4⟩,x5,x6⟩;obtain ⟨k0,k1,k2,k3,k4,k5⟩:=qab x1;obtain ⟨j0,j1,j2,j3,j4,j5⟩:=qac x2;go_simp;all_goals (with_reducible rfl))
 try simp only [Act.put,sA,sB,sC]
 obtain ⟨⟨s1,s2,s3,s4⟩,s5,s6⟩:=hS;have hst:=s6.assign s3 (w0:=w) s5 (Nat.le_refl _);obtain ⟨⟨d0,e0⟩,⟨d1,e1⟩,⟨d2,e2⟩,⟨d3,e3⟩,⟨d4,e4⟩,⟨d5,e5⟩,ff⟩:=s3.cells;have f0:=ff 0;have f1:=ff 1;have f2:=ff 2;have f3:=ff 3;have f4:=ff 4;have f5:=ff 5;obtain ⟨wa,ewa⟩:∃wa,set6 wd w.heap.size y4=wa:=⟨_,rfl⟩;rw [ewa] at hst;have HFS:=hide hst.2.2.1;have hS9:(fun wx=>(FsAt wx (w2.heap.size) y4∧WlAt wx (w4.heap.size) V∧FsB wx w.heap.size∧WlB wx (w.heap.size+1))∧Below w.heap.size w wx∧OwFs wx w.heap.size y4.val h) wa:=⟨⟨s1.grown hst.2.2.2.2 NErf.out.symm,s2.grown hst.2.2.2.2 NErl.out.symm,FsB.of hst.2.2.1,s4.grown hst.2.2.2.2 (by omega)⟩,hst.2.1,hst.1⟩;unfold set6 at ewa;clear s1 s2 s3 s4 s5 s6 hst ff
 refine qam (i:=12) (w':=wa) rfl (by kernel_rfl) (by kernel_rfl) (by rw [←ewa];go_simp) hS9 ?_
 clear ewa e0 e1 e2 e3 e4 e5 f0 f1 f2 f3 f4 f5;have hS:=hS9;clear hS9
 try simp only [Act.put,sA,sB,sC]
 obtain ⟨⟨s1,s2,s3,s4⟩,s5,s6⟩:=hS;obtain ⟨_,_,_,_,_,_,s4'⟩:=s4;obtain ⟨c0,c1,c2,c3,c4,c5⟩:=qal s4';have f0:=s4'.fz 0;have f1:=s4'.fz 1;have f2:=s4'.fz 2;have f3:=s4'.fz 3;have f4:=s4'.fz 4;have f5:=s4'.fz 5;obtain ⟨hat,hgr⟩:=put6 s4' (.string (bs V.1)) (.int .u32 V.2.1) (.int .i64 V.2.2.1) (.int .u32 V.2.2.2.1) (.int .u32 V.2.2.2.2.1) (.int .i64 V.2.2.2.2.2);obtain ⟨wb,ewb⟩:∃wb,qao wa (w.heap.size+1) (.string (bs V.1)) (.int .u32 V.2.1) (.int .i64 V.2.2.1) (.int .u32 V.2.2.2.1) (.int .u32 V.2.2.2.2.1) (.int .i64 V.2.2.2.2.2)=wb:=⟨_,rfl⟩;rw [ewb] at hat hgr;have HWS:=hide hat;have HFS2:=hide (HFS.out.grown hgr (by omega));have hS9:(fun wx=>(FsAt wx (w2.heap.size) y4∧WlAt wx (w4.heap.size) V∧FsB wx w.heap.size∧WlB wx (w.heap.size+1))∧Below w.heap.size w wx∧OwFs wx w.heap.size y4.val h) wb:=⟨⟨s1.grown hgr NEqf.out.symm,s2.grown hgr NEql.out.symm,s3.grown hgr (by omega),⟨_,_,_,_,_,_,hat⟩⟩,s5.grown hgr s5.size (by intro k hk;cases hk;omega),s6.keptS hgr s4' (by decide) (by decide) (by decide) (by decide) (by decide)⟩;unfold qao at ewb;clear s1 s2 s3 s4' s5 s6 hat hgr
 refine qam (i:=13) (w':=wb) rfl (by kernel_rfl) (by kernel_rfl) (by rw [←ewb];go_simp) hS9 ?_
 clear ewb c0 c1 c2 c3 c4 c5 f0 f1 f2 f3 f4 f5;have hS:=hS9;clear hS9
 try simp only [Act.put,sA,sB,sC]
 refine qbj (i:=14) (v:=?qzv14) rfl (by kernel_rfl) (by kernel_rfl) (by kernel_rfl) (by kernel_rfl) ?qzy14 hS ?qzr14
 case qzy14=>(rintro wx ⟨⟨x1,x2,x3,x4⟩,x5,x6⟩;obtain ⟨k0,k1,k2,k3,k4,k5⟩:=qab x1;obtain ⟨j0,j1,j2,j3,j4,j5⟩:=qac x2;go_simp;all_goals (with_reducible rfl))
 try simp only [Act.put,sA,sB,sC]
 refine wpAnyH_done (by kernel_rfl) ?_ _
 refine NoPanic.normal ?_
 try simp only [Act.put,sA,sB,sC]
 obtain ⟨p0,p1,p2,p3,p4,p5⟩:=qab HFS2.out;obtain ⟨r0,r1,r2,r3,r4,r5⟩:=qal HWS.out;have HHS:=hide hS;clear hS hK;go_wp2
 refine bodyPost_ret (v:=.tuple #[y4.val,wlV V,.bool true]) ?_ rfl (BegR.mk (v:=y4.val) HBI.out ?_ HHS.out.2.2 HHS.out.2.1)
 ·simp [results,Tryz.results7,go_sem,p0,p1,p2,p3,p4,p5,r0,r1,r2,r3,r4,r5]
 ·rw [HV.out]
end Go.Proofs.YtnmbbpdhjkaidaaGreat

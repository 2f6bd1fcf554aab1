/-
  What the statement ManifestTorn answers.
-/
import Derived.Test.YtmeaiocohalphaaGreatDoorNf12
import Derived.Test.YtmeaiocohalphaaGreatDoorNf11
import Derived.Test.YtmeaiocohalphaaGreatDoorVn16
import Derived.Test.YtmeaiocohalphaaGreatDoorMathFs3
import Derived.Test.YtmeaiocohalphaaGreatDoorFsTop3
import Derived.Test.YtmeaiocohalphaaGreatDoorNf2
import Derived.Test.YtmeaiocohalphaaGreatDoorMathW3
import Derived.Test.YtmeaiocohalphaaGreatDoorMathSl
import Derived.Test.YtmeaiocohalphaaGreatDoorFiRef1
import Derived.Test.YtmeaiocohalphaaGreatDoorMathFs6
import Derived.Test.YtmeaiocohalphaaGreatDoorWal6
import Derived.Test.YtmeaiocohalphaaGreatDoorDMay
import Derived.Test.YtmeaiocohalphaaGreatDoorRowG
set_option maxHeartbeats 4000000
set_option maxRecDepth 100000
namespace Go.Proofs.YtmeaiocohalphaaGreatDoor
open Go.RowKit
set_option linter.unusedVariables false
set_option linter.unusedSimpArgs false
theorem qbh {w a b:World} (h:Hid (Below w.heap.size w a)) (k:Below a.heap.size a b):Hid (Below w.heap.size w b):=hide (h.out.trans (k.mono h.out.size))
theorem VvAt.grown9 {w w':World} {A q:Nat} {v:Value} {nx sq:Int} {lg:List UInt8} (h:VvAt w A v nx sq lg) (hg:w.grownBy w' (some q)) (hne:A≠q):VvAt w' A v nx sq lg:=
 (hg.block _ (Array.getElem?_eq_some_iff.1 h).1 (by intro e;cases e;exact hne rfl)).trans h
theorem qkg {w w':World} {q:Nat} {cs:Array Value} {t:TypeId} {fr:Nat × Nat} (hg:w.grownBy w' (some q)) (hq:w.heap[q]? =some (.cells cs t fr)):KeepG t w w':=by
 intro k cs' t' fr' hne hk
 have hkq:k≠q:=by
  intro e;subst e;rw [hq] at hk;cases hk;exact hne rfl
 exact (hg.block k (Array.getElem?_eq_some_iff.1 hk).1 (by intro e;cases e;exact hkq rfl)).trans hk
theorem AnsV.any9 {base:Nat} {L:List (List Mta)} {nx sq:Int} {lg:List UInt8} {k:Int} {e:Ending} {w':World} (h:AnsV base (L,nx,sq,lg) k e w'):∃a n c S,e=.returned (.tuple #[.agg #[.slice a n c,.int .i64 nx,.int .i64 sq,.string (bs lg)],.int .i64 k])∧OwVw w' base (.slice a n c) S∧lvs S=L∧n=L.length:=by
 obtain ⟨v,S,rfl,ho,hS⟩:=h;obtain ⟨a,c,rfl⟩:=OwG.form ho.1;exact ⟨a,_,c,S,rfl,ho,hS,by rw [←qbf,hS]⟩
def VvB (w:World) (A:Nat):Prop:=∃v nx sq lg,VvAt w A v nx sq lg
theorem VvB.lt {w:World} {A:Nat} (h:VvB w A):A<w.heap.size:=by obtain ⟨_,_,_,_,h⟩:=h;exact VvAt.lt h
theorem VvB.carry {w w':World} {A:Nat} (h:VvB w A) (hb:Below w.heap.size w w'):VvB w' A:=by obtain ⟨a,b,c,d,h⟩:=h;exact ⟨a,b,c,d,h.carry hb⟩
theorem VvB.grown {w w':World} {A q:Nat} (h:VvB w A) (hg:w.grownBy w' (some q)) (hne:A≠q):VvB w' A:=by obtain ⟨a,b,c,d,h⟩:=h;exact ⟨a,b,c,d,h.grown9 hg hne⟩
theorem qme {w:World} {A:Nat} {v:Value} {nx sq:Int} {lg:List UInt8} (h:VvAt w A v nx sq lg) (a b c d:Value):w.grownBy (set4v w A a b c d) (some A):=by
 have one:∀(u:World) (j:Nat) (x:Value),u.grownBy (u.setCell ⟨A,j,none⟩ x) (some A):=fun u j x=>⟨rfl,rfl,rfl,by simp,fun k _ hk=>heap_setCell_other u ⟨A,j,none⟩ k x (fun e=>hk (by rw [e]))⟩
 unfold set4v;exact (((one _ _ _).trans (one _ _ _)).trans (one _ _ _)).trans (one _ _ _)
theorem qaec (w:World):∃wA,(w.alloc (.cells #[.slice none 0 0,.slice none 0 0,.slice none 0 0,.int .u32 0,.slice none 0 0,.slice none 0 0] 33)).alloc (.cells #[.slice none 0 0,.int .i64 0,.int .i64 0,.string ⟨#[]⟩] 36)=wA∧FsB wA w.heap.size∧VvB wA (w.heap.size+1)∧Below w.heap.size w wA:=by
 have s1:(w.alloc (.cells #[.slice none 0 0,.slice none 0 0,.slice none 0 0,.int .u32 0,.slice none 0 0,.slice none 0 0] 33)).heap.size=w.heap.size+1:=by simp
 have al:∀(u:World) (o:Obj),Below u.heap.size u (u.alloc o):=fun u o=>(Below.refl _ _).alloc (Nat.le_refl _) _
 have b1:=al w (.cells #[.slice none 0 0,.slice none 0 0,.slice none 0 0,.int .u32 0,.slice none 0 0,.slice none 0 0] 33);have b2:=al (w.alloc (.cells #[.slice none 0 0,.slice none 0 0,.slice none 0 0,.int .u32 0,.slice none 0 0,.slice none 0 0] 33)) (.cells #[.slice none 0 0,.int .i64 0,.int .i64 0,.string ⟨#[]⟩] 36);exact ⟨_,rfl,(FsB.new w).carry b2,s1 ▸ ⟨_,0,0,[],VvAt.new (w.alloc (.cells #[.slice none 0 0,.slice none 0 0,.slice none 0 0,.int .u32 0,.slice none 0 0,.slice none 0 0] 33)) _ _ _ _⟩,b1.trans (b2.mono (by omega))⟩
def SavR (w:World) (e:Ending) (w':World):Prop:=∃h,SavI h∧∃v a c S,e=.returned (.tuple #[v,.agg #[.slice a 4 c,.int .i64 ver0.2.1,.int .i64 ver0.2.2.1,.string (bs ver0.2.2.2)],.bool true])∧OwFs w' w.heap.size v h∧OwVw w' w.heap.size (.slice a 4 c) S∧lvs S=ver0.1∧Below w.heap.size w w'
theorem qaed (w:World):Calls Tryz.prog 9 #[] w fun e w'=>SavR w e w':=by
 obtain ⟨F,hFI⟩:=for_is;obtain ⟨g,h,e1,e2,e3,hSI⟩:=qah6 hFI;obtain ⟨⟨Lv,nxv,sqv,lgv⟩,hV⟩:∃V,V=ver0:=⟨_,rfl⟩
 have hV1:Lv=ver0.1:=by rw [←hV]
 have HM:=hide (show qb9 64=(F,0)∧WfX F∧savM F (Lv,nxv,sqv,lgv)=(g,0)∧WfX g∧qa7 g=(h,0) from ⟨hFI.fmt,qfy hFI.ok,by rw [hV];exact e1,qfy e2,e3⟩);have HV:=hide hV;have HSI:=hide hSI;have HLV:=hide (show Lv.length=4∧Lv.flatten.length≤100000 from ⟨by rw [hV1];rfl,by rw [hV1];decide⟩);have HNW:=hide (fun wx:World=>hV ▸ qad5 ▸ qad4 ▸ new_vn logN wx);clear e1 e2 e3 hFI hSI hV hV1;obtain ⟨w1,ew,hr,hq,hb1⟩:=qaec w;have HZr_w1:=hide hr;have HZq_w1:=hide hq;have qad:=hide hb1;clear hr hq hb1
 go_enter Tryz.func9,Tryz.ntmps9
 have NErq:=hide (show w.heap.size≠(w.heap.size+1) by omega);have GEr:=hide (Nat.le_refl w.heap.size);have GEq:=hide (show w.heap.size≤w.heap.size+1 by omega);have hcon:=qacx 64 w1;rw [HM.out.1] at hcon;have HCON:=hide hcon;clear hcon
 go_wp2_with fail
 try rw [ew]
 refine HCON.out.mono ?_
 rintro e w2 ⟨v9,rfl,ho,hbb⟩;have qaix:=hide (HZr_w1.out.carry hbb);have qaiy:=hide (HZq_w1.out.carry hbb);have qaj:=qbh qad hbb;clear HCON hbb
 try clear ew
 obtain ⟨xf,e9,hx9,ho9⟩:=ho.bx;subst e9;have qx9:=hide (ho9.mono qad.out.size);clear ho hx9 ho9;have NErf:=hide (show w.heap.size≠w2.heap.size by have:=qaix.out.lt;omega);have NEqf:=hide (show (w.heap.size+1)≠w2.heap.size by have:=qaiy.out.lt;omega);have GEf:=hide (show w.heap.size≤w2.heap.size by have:=qaj.out.size;omega);obtain ⟨w3,ew3⟩:∃wq,w2.alloc (.cells xf.cs 33)=wq:=⟨_,rfl⟩
 have hbn:Below w2.heap.size w2 w3:=by rw [←ew3];exact (Below.refl _ _).alloc (Nat.le_refl _) _
 have HZr_w3:=hide (qaix.out.carry hbn);have HZq_w3:=hide (qaiy.out.carry hbn);have qaee:=hide (qx9.out.carry hbn);have qaw:=qbh qaj hbn;have qmf:=hide (show FsAt w3 w2.heap.size xf by rw [←ew3];exact Bq.new _ _ _);clear hbn;unfold FsV.cs at ew3;unfold FsV.val
 have hcon:Calls Tryz.prog 34 #[.string {data:=#[108,111,103]}] w3 fun e w'=>AnsV w3.heap.size (Lv,nxv,sqv,lgv) 0 e w'∧Below w3.heap.size w3 w':=HNW.out w3
 have HCON:=hide hcon;clear hcon
 go_wp2_with fail
 try rw [ew3]
 refine HCON.out.mono ?_
 rintro e w4 ⟨hans,hbb⟩;have qaiz:=hide (HZr_w3.out.carry hbb);have qai0:=hide (HZq_w3.out.carry hbb);have qaef:=hide (qaee.out.carry hbb);have qmg:=hide (qmf.out.carry hbb);have qbp:=qbh qaw hbb;clear HCON hbb
 try clear ew3
 obtain ⟨av,nv,cv,Sv,rfl,hov,hSv,hnv⟩:=hans.any9
 obtain rfl:nv=4:=by rw [hnv];exact HLV.out.1
 have HSV:=hide hSv;clear hans hSv hnv;have qya:=hide (hov.mono qaw.out.size);clear hov;have NErv:=hide (show w.heap.size≠w4.heap.size by have:=qaiz.out.lt;omega);have NEqv:=hide (show (w.heap.size+1)≠w4.heap.size by have:=qai0.out.lt;omega);have NEfv:=hide (show w2.heap.size≠w4.heap.size by have:=qmg.out.lt;omega);have GEv:=hide (show w.heap.size≤w4.heap.size by have:=qbp.out.size;omega);obtain ⟨w5,ew5⟩:∃wq,w4.alloc (.cells #[.slice av 4 cv,.int .i64 nxv,.int .i64 sqv,.string (bs lgv)] 36)=wq:=⟨_,rfl⟩
 have hbn:Below w4.heap.size w4 w5:=by rw [←ew5];exact (Below.refl _ _).alloc (Nat.le_refl _) _
 have HZr_w5:=hide (qaiz.out.carry hbn);have HZq_w5:=hide (qai0.out.carry hbn);have qaeg:=hide (qaef.out.carry hbn);have qox:=hide (qmg.out.carry hbn);have qaeh:=hide (qya.out.carry hbn);have qgv:=qbh qbp hbn;have qoy:=hide (show VvAt w5 w4.heap.size (.slice av 4 cv) nxv sqv lgv by rw [←ew5];exact VvAt.new _ _ _ _ _);clear hbn;obtain ⟨kf0,kf1,kf2,kf3,kf4,kf5⟩:=qab qox.out;obtain ⟨kv0,kv1,kv2,kv3⟩:=qoy.out.cells;have hcon:=qqp xf F av 4 cv Sv nxv sqv lgv w5 qaeg.out.rdx HM.out.2.1 qaeh.out.rd (by decide) (by rw [HSV.out];exact HLV.out.2);rw [HSV.out,HM.out.2.2.1] at hcon;have HCON:=hide hcon;clear hcon
 go_wp2_with fail
 try rw [ew5]
 refine HCON.out.mono ?_
 rintro e w6 ⟨v9,rfl,ho,hbb⟩;have HZr_w6:=hide (HZr_w5.out.carry hbb);have HZq_w6:=hide (HZq_w5.out.carry hbb);have HOf_w6:=hide (qaeg.out.carry hbb);have qed:=hide (qox.out.carry hbb);have HSv_w6:=hide (qaeh.out.carry hbb);have qs2:=hide (qoy.out.carry hbb);have qfq:=qbh qgv hbb;clear HCON hbb kf0 kf1 kf2 kf3 kf4 kf5 kv0 kv1 kv2 kv3
 try clear ew5
 obtain ⟨y1,e9,hx9,ho9⟩:=ho.bx;subst e9;have HOn_w6:=hide (ho9.mono qgv.out.size);clear ho hx9 ho9;obtain ⟨s2c0,s2c1,s2c2,s2c3,s2c4,s2c5⟩:=qab qed.out;have s2f0:=qed.out.fz 0;have s2f1:=qed.out.fz 1;have s2f2:=qed.out.fz 2;have s2f3:=qed.out.fz 3;have s2f4:=qed.out.fz 4;have s2f5:=qed.out.fz 5;obtain ⟨hat,hgr⟩:=(FsB.of qed.out).put y1;obtain ⟨w7,ew7⟩:∃wq,set6 w6 (w2.heap.size) y1=wq:=⟨_,rfl⟩;rw [ew7] at hat hgr;have HSv_w7:=hide (HSv_w6.out.keepT9 (qkg hgr qed.out) (by decide) (by decide));have qoz:=hide (qs2.out.grown9 hgr NEfv.out.symm);have HZr_w7:=hide (HZr_w6.out.grown hgr NErf.out);have HZq_w7:=hide (HZq_w6.out.grown hgr NEqf.out);have qyb:=hide (HOn_w6.out.keptS hgr qed.out (by decide) (by decide) (by decide) (by decide) (by decide));have qfr:=hide (show Below w.heap.size w w7 from qfq.out.grown hgr qfq.out.size (by intro k hk;cases hk;exact GEf.out));have qai1:=qyb;have qmh:=hide hat;clear hat hgr qyb;unfold set6 at ew7;unfold FsV.val;obtain ⟨kf0,kf1,kf2,kf3,kf4,kf5⟩:=qab qmh.out;have hcon:=qft y1 g w7 qai1.out.rdx HM.out.2.2.2.1;rw [HM.out.2.2.2.2] at hcon;have HCON:=hide hcon;clear hcon
 go_wp2_with fail
 try rw [ew7]
 refine HCON.out.mono ?_
 rintro e w8 ⟨v9,rfl,ho,hbb⟩;have HZr_w8:=hide (HZr_w7.out.carry hbb);have HZq_w8:=hide (HZq_w7.out.carry hbb);have qee:=hide (qmh.out.carry hbb);have HSv_w8:=hide (HSv_w7.out.carry hbb);have qs3:=hide (qoz.out.carry hbb);have HOf_w8:=hide (qai1.out.carry hbb);have qls:=qbh qfr hbb;clear HCON hbb s2c0 s2c1 s2c2 s2c3 s2c4 s2c5 s2f0 s2f1 s2f2 s2f3 s2f4 s2f5 kf0 kf1 kf2 kf3 kf4 kf5
 try clear ew7
 obtain ⟨y3,e9,hx9,ho9⟩:=ho.bx;subst e9;have qyc:=hide (ho9.mono qfr.out.size);clear ho hx9 ho9;obtain ⟨s4c0,s4c1,s4c2,s4c3,s4c4,s4c5⟩:=qab qee.out;have s4f0:=qee.out.fz 0;have s4f1:=qee.out.fz 1;have s4f2:=qee.out.fz 2;have s4f3:=qee.out.fz 3;have s4f4:=qee.out.fz 4;have s4f5:=qee.out.fz 5;obtain ⟨hat,hgr⟩:=(FsB.of qee.out).put y3;obtain ⟨w9,ew9⟩:∃wq,set6 w8 (w2.heap.size) y3=wq:=⟨_,rfl⟩;rw [ew9] at hat hgr;have HSv_w9:=hide (HSv_w8.out.keepT9 (qkg hgr qee.out) (by decide) (by decide));have qo0:=hide (qs3.out.grown9 hgr NEfv.out.symm);have HZr_w9:=hide (HZr_w8.out.grown hgr NErf.out);have HZq_w9:=hide (HZq_w8.out.grown hgr NEqf.out);have qai2:=hide (qyc.out.keptS hgr qee.out (by decide) (by decide) (by decide) (by decide) (by decide));have qzw:=hide (show Below w.heap.size w w9 from qls.out.grown hgr qls.out.size (by intro k hk;cases hk;exact GEf.out));have HOf_w9:=qai2;have qo1:=hide hat;clear hat hgr qai2;unfold set6 at ew9;unfold FsV.val;go_wp2
 try rw [ew9]
 try clear ew9
 clear s4c0 s4c1 s4c2 s4c3 s4c4 s4c5 s4f0 s4f1 s4f2 s4f3 s4f4 s4f5
 have hK:Keeps (fun wx=>(FsAt wx (w2.heap.size) y3∧VvAt wx (w4.heap.size) (.slice av 4 cv) nxv sqv lgv∧FsB wx w.heap.size∧VvB wx (w.heap.size+1))∧Below w.heap.size w wx∧OwFs wx w.heap.size y3.val h∧OwVw wx w.heap.size (.slice av 4 cv) Sv):=fun _ _ h hb=>⟨⟨h.1.1.carry hb,h.1.2.1.carry hb,h.1.2.2.1.carry hb,h.1.2.2.2.carry hb⟩,h.2.1.trans (hb.mono h.2.1.size),h.2.2.1.carry hb,h.2.2.2.carry hb⟩
 have hS0:(fun wx=>(FsAt wx (w2.heap.size) y3∧VvAt wx (w4.heap.size) (.slice av 4 cv) nxv sqv lgv∧FsB wx w.heap.size∧VvB wx (w.heap.size+1))∧Below w.heap.size w wx∧OwFs wx w.heap.size y3.val h∧OwVw wx w.heap.size (.slice av 4 cv) Sv) w9:=⟨⟨qo1.out,qo0.out,HZr_w9.out,HZq_w9.out⟩,qzw.out,HOf_w9.out,HSv_w9.out⟩
 refine qas hK (by kernel_rfl) hS0 ?_
 clear hS0;intro hS;generalize w9.drew=wd at *
 refine qa6 (i:=0) (v:=?qzv0) rfl (by kernel_rfl) (by kernel_rfl) (by kernel_rfl) (by kernel_rfl) ?qzy0 hS ?qzr0
 case qzy0=>(rintro wx ⟨⟨x1,x2,x3,x4⟩,x5,x6,x7⟩;obtain ⟨k0,k1,k2,k3,k4,k5⟩:=qab x1;obtain ⟨j0,j1,j2,j3⟩:=x2.cells;go_simp;all_goals (with_reducible rfl))
 try simp only [Act.put,List.setIfInBounds_toArray,List.set_cons_zero,List.set_cons_succ]
 refine qa6 (i:=1) (v:=?qzv1) rfl (by kernel_rfl) (by kernel_rfl) (by kernel_rfl) (by kernel_rfl) ?qzy1 hS ?qzr1
 case qzy1=>(rintro wx ⟨⟨x1,x2,x3,x4⟩,x5,x6,x7⟩;obtain ⟨k0,k1,k2,k3,k4,k5⟩:=qab x1;obtain ⟨j0,j1,j2,j3⟩:=x2.cells;go_simp;all_goals (with_reducible rfl))
 try simp only [Act.put,List.setIfInBounds_toArray,List.set_cons_zero,List.set_cons_succ]
 refine qa6 (i:=2) (v:=?qzv2) rfl (by kernel_rfl) (by kernel_rfl) (by kernel_rfl) (by kernel_rfl) ?qzy2 hS ?qzr2
 case qzy2=>(rintro wx ⟨⟨x1,x2,x3,x4⟩,x5,x6,x7⟩;obtain ⟨k0,k1,k2,k3,k4,k5⟩:=qab x1;obtain ⟨j0,j1,j2,j3⟩:=x2.cells;go_simp;all_goals (with_reducible rfl))
 try simp only [Act.put,List.setIfInBounds_toArray,List.set_cons_zero,List.set_cons_succ]
 refine qa6 (i:=3) (v:=?qzv3) rfl (by kernel_rfl) (by kernel_rfl) (by kernel_rfl) (by kernel_rfl) ?qzy3 hS ?qzr3
 case qzy3=>(rintro wx ⟨⟨x1,x2,x3,x4⟩,x5,x6,x7⟩;obtain ⟨k0,k1,k2,k3,k4,k5⟩:=qab x1;obtain ⟨j0,j1,j2,j3⟩:=x2.cells;go_simp;all_goals (with_reducible rfl))
 try simp only [Act.put,List.setIfInBounds_toArray,List.set_cons_zero,List.set_cons_succ]
 refine qa6 (i:=4) (v:=?qzv4) rfl (by kernel_rfl) (by kernel_rfl) (by kernel_rfl) (by kernel_rfl) ?qzy4 hS ?qzr4
 case qzy4=>(rintro wx ⟨⟨x1,x2,x3,x4⟩,x5,x6,x7⟩;obtain ⟨k0,k1,k2,k3,k4,k5⟩:=qab x1;obtain ⟨j0,j1,j2,j3⟩:=x2.cells;go_simp;all_goals (with_reducible rfl))
 try simp only [Act.put,List.setIfInBounds_toArray,List.set_cons_zero,List.set_cons_succ]
 refine qa6 (i:=5) (v:=?qzv5) rfl (by kernel_rfl) (by kernel_rfl) (by kernel_rfl) (by kernel_rfl) ?qzy5 hS ?qzr5
 case qzy5=>(rintro wx ⟨⟨x1,x2,x3,x4⟩,x5,x6,x7⟩;obtain ⟨k0,k1,k2,k3,k4,k5⟩:=qab x1;obtain ⟨j0,j1,j2,j3⟩:=x2.cells;go_simp;all_goals (with_reducible rfl))
 try simp only [Act.put,List.setIfInBounds_toArray,List.set_cons_zero,List.set_cons_succ]
 refine qa6 (i:=6) (v:=?qzv6) rfl (by kernel_rfl) (by kernel_rfl) (by kernel_rfl) (by kernel_rfl) ?qzy6 hS ?qzr6
 case qzy6=>(rintro wx ⟨⟨x1,x2,x3,x4⟩,x5,x6,x7⟩;obtain ⟨k0,k1,k2,k3,k4,k5⟩:=qab x1;obtain ⟨j0,j1,j2,j3⟩:=x2.cells;go_simp;all_goals (with_reducible rfl))
 try simp only [Act.put,List.setIfInBounds_toArray,List.set_cons_zero,List.set_cons_succ]
 refine qa6 (i:=7) (v:=?qzv7) rfl (by kernel_rfl) (by kernel_rfl) (by kernel_rfl) (by kernel_rfl) ?qzy7 hS ?qzr7
 case qzy7=>(rintro wx ⟨⟨x1,x2,x3,x4⟩,x5,x6,x7⟩;obtain ⟨k0,k1,k2,k3,k4,k5⟩:=qab x1;obtain ⟨j0,j1,j2,j3⟩:=x2.cells;go_simp;all_goals (with_reducible rfl))
 try simp only [Act.put,List.setIfInBounds_toArray,List.set_cons_zero,List.set_cons_succ]
 refine qa6 (i:=8) (v:=?qzv8) rfl (by kernel_rfl) (by kernel_rfl) (by kernel_rfl) (by kernel_rfl) ?qzy8 hS ?qzr8
 case qzy8=>(rintro wx ⟨⟨x1,x2,x3,x4⟩,x5,x6,x7⟩;obtain ⟨k0,k1,k2,k3,k4,k5⟩:=qab x1;obtain ⟨j0,j1,j2,j3⟩:=x2.cells;go_simp;all_goals (with_reducible rfl))
 try simp only [Act.put,List.setIfInBounds_toArray,List.set_cons_zero,List.set_cons_succ]
 refine qa6 (i:=9) (v:=?qzv9) rfl (by kernel_rfl) (by kernel_rfl) (by kernel_rfl) (by kernel_rfl) ?qzy9 hS ?qzr9
 case qzy9=>(rintro wx ⟨⟨x1,x2,x3,x4⟩,x5,x6,x7⟩;obtain ⟨k0,k1,k2,k3,k4,k5⟩:=qab x1;obtain ⟨j0,j1,j2,j3⟩:=x2.cells;go_simp;all_goals (with_reducible rfl))
 try simp only [Act.put,List.setIfInBounds_toArray,List.set_cons_zero,List.set_cons_succ]
 refine qa6 (i:=10) (v:=?qzv10) rfl (by kernel_rfl) (by kernel_rfl) (by kernel_rfl) (by kernel_rfl) ?qzy10 hS ?qzr10
 case qzy10=>(rintro wx ⟨⟨x1,x2,x3,x4⟩,x5,x6,x7⟩;obtain ⟨k0,k1,k2,k3,k4,k5⟩:=qab x1;obtain ⟨j0,j1,j2,j3⟩:=x2.cells;go_simp;all_goals (with_reducible rfl))
 try simp only [Act.put,List.setIfInBounds_toArray,List.set_cons_zero,List.set_cons_succ]
 refine qa6 (i:=11) (v:=?qzv11) rfl (by kernel_rfl) (by kernel_rfl) (by kernel_rfl) (by kernel_rfl) ?qzy11 hS ?qzr11
 case qzy11=>(rintro wx ⟨⟨x1,x2,x3,x4⟩,x5,x6,x7⟩;obtain ⟨k0,k1,k2,k3,k4,k5⟩:=qab x1;obtain ⟨j0,j1,j2,j3⟩:=x2.cells;go_simp;all_goals (with_reducible rfl))
 try simp only [Act.put,List.setIfInBounds_toArray,List.set_cons_zero,List.set_cons_succ]
 refine qa6 (i:=12) (v:=?qzv12) rfl (by kernel_rfl) (by kernel_rfl) (by kernel_rfl) (by kernel_rfl) ?qzy12 hS ?qzr12
 case qzy12=>(rintro wx ⟨⟨x1,x2,x3,x4⟩,x5,x6,x7⟩;obtain ⟨k0,k1,k2,k3,k4,k5⟩:=qab x1;obtain ⟨j0,j1,j2,j3⟩:=x2.cells;go_simp;all_goals (with_reducible rfl))
 try simp only [Act.put,List.setIfInBounds_toArray,List.set_cons_zero,List.set_cons_succ]
 refine qa6 (i:=13) (v:=?qzv13) rfl (by kernel_rfl) (by kernel_rfl) (by kernel_rfl) (by kernel_rfl) ?qzy13 hS ?qzr13
 case qzy13=>(rintro wx ⟨⟨x1,x2,x3,x4⟩,x5,x6,x7⟩;obtain ⟨k0,k1,k2,k3,k4,k5⟩:=qab x1;obtain ⟨j0,j1,j2,j3⟩:=x2.cells;go_simp;all_goals (with_reducible rfl))
 try simp only [Act.put,List.setIfInBounds_toArray,List.set_cons_zero,List.set_cons_succ]
 refine qa6 (i:=14) (v:=?qzv14) rfl (by kernel_rfl) (by kernel_rfl) (by kernel_rfl) (by kernel_rfl) ?qzy14 hS ?qzr14
 case qzy14=>(rintro wx ⟨⟨x1,x2,x3,x4⟩,x5,x6,x7⟩;obtain ⟨k0,k1,k2,k3,k4,k5⟩:=qab x1;obtain ⟨j0,j1,j2,j3⟩:=x2.cells;go_simp;all_goals (with_reducible rfl))
 try simp only [Act.put,List.setIfInBounds_toArray,List.set_cons_zero,List.set_cons_succ]
 refine qa6 (i:=15) (v:=?qzv15) rfl (by kernel_rfl) (by kernel_rfl) (by kernel_rfl) (by kernel_rfl) ?qzy15 hS ?qzr15
 case qzy15=>(rintro wx ⟨⟨x1,x2,x3,x4⟩,x5,x6,x7⟩;obtain ⟨k0,k1,k2,k3,k4,k5⟩:=qab x1;obtain ⟨j0,j1,j2,j3⟩:=x2.cells;go_simp;all_goals (with_reducible rfl))
 try simp only [Act.put,List.setIfInBounds_toArray,List.set_cons_zero,List.set_cons_succ]
 obtain ⟨⟨s1,s2,s3,s4⟩,s5,s6,s7⟩:=hS;have hst:=s6.assign s3 (w0:=w) s5 (Nat.le_refl _);obtain ⟨⟨d0,e0⟩,⟨d1,e1⟩,⟨d2,e2⟩,⟨d3,e3⟩,⟨d4,e4⟩,⟨d5,e5⟩,ff⟩:=s3.cells;have f0:=ff 0;have f1:=ff 1;have f2:=ff 2;have f3:=ff 3;have f4:=ff 4;have f5:=ff 5;obtain ⟨wa,ewa⟩:∃wa,set6 wd w.heap.size y3=wa:=⟨_,rfl⟩;rw [ewa] at hst;have HFS:=hide hst.2.2.1
 have hS9:(fun wx=>(FsAt wx (w2.heap.size) y3∧VvAt wx (w4.heap.size) (.slice av 4 cv) nxv sqv lgv∧FsB wx w.heap.size∧VvB wx (w.heap.size+1))∧Below w.heap.size w wx∧OwFs wx w.heap.size y3.val h∧OwVw wx w.heap.size (.slice av 4 cv) Sv) wa:=by
  obtain ⟨_,_,_,_,_,_,s3'⟩:=s3;exact ⟨⟨s1.grown hst.2.2.2.2 NErf.out.symm,s2.grown9 hst.2.2.2.2 NErv.out.symm,FsB.of hst.2.2.1,s4.grown hst.2.2.2.2 (by omega)⟩,hst.2.1,hst.1,s7.keepT9 (qkg hst.2.2.2.2 s3') (by decide) (by decide)⟩
 unfold set6 at ewa;clear s1 s2 s3 s4 s5 s6 s7 hst ff
 refine qb8 (i:=16) (w':=wa) rfl (by kernel_rfl) (by kernel_rfl) (by rw [←ewa];go_simp) hS9 ?_
 clear ewa e0 e1 e2 e3 e4 e5 f0 f1 f2 f3 f4 f5;have hS:=hS9;clear hS9
 try simp only [Act.put,List.setIfInBounds_toArray,List.set_cons_zero,List.set_cons_succ]
 obtain ⟨⟨s1,s2,s3,s4⟩,s5,s6,s7⟩:=hS;obtain ⟨_,_,_,_,s4'⟩:=s4;obtain ⟨c0,c1,c2,c3⟩:=s4'.cells;have f0:=VvAt.fz s4' 0;have f1:=VvAt.fz s4' 1;have f2:=VvAt.fz s4' 2;have f3:=VvAt.fz s4' 3;have hat:=VvAt.put (v':=.slice av 4 cv) (nx':=nxv) (sq':=sqv) (lg':=lgv) s4';have hgr:=qme s4' (.slice av 4 cv) (.int .i64 nxv) (.int .i64 sqv) (.string (bs lgv));obtain ⟨wb,ewb⟩:∃wb,set4v wa (w.heap.size+1) (.slice av 4 cv) (.int .i64 nxv) (.int .i64 sqv) (.string (bs lgv))=wb:=⟨_,rfl⟩;rw [ewb] at hat hgr;have HWS:=hide hat;have HFS2:=hide (HFS.out.grown hgr (by omega));have hS9:(fun wx=>(FsAt wx (w2.heap.size) y3∧VvAt wx (w4.heap.size) (.slice av 4 cv) nxv sqv lgv∧FsB wx w.heap.size∧VvB wx (w.heap.size+1))∧Below w.heap.size w wx∧OwFs wx w.heap.size y3.val h∧OwVw wx w.heap.size (.slice av 4 cv) Sv) wb:=⟨⟨s1.grown hgr NEqf.out.symm,s2.grown9 hgr NEqv.out.symm,s3.oth hgr (by omega),⟨_,_,_,_,hat⟩⟩,s5.grown hgr s5.size (by intro k hk;cases hk;omega),s6.keptS hgr s4' (by decide) (by decide) (by decide) (by decide) (by decide),s7.keepT9 (qkg hgr s4') (by decide) (by decide)⟩;unfold set4v at ewb;clear s1 s2 s3 s4' s5 s6 s7 hat hgr
 refine qb8 (i:=17) (w':=wb) rfl (by kernel_rfl) (by kernel_rfl) (by rw [←ewb];go_simp) hS9 ?_
 clear ewb c0 c1 c2 c3 f0 f1 f2 f3;have hS:=hS9;clear hS9
 try simp only [Act.put,List.setIfInBounds_toArray,List.set_cons_zero,List.set_cons_succ]
 refine qa6 (i:=18) (v:=?qzv18) rfl (by kernel_rfl) (by kernel_rfl) (by kernel_rfl) (by kernel_rfl) ?qzy18 hS ?qzr18
 case qzy18=>(rintro wx ⟨⟨x1,x2,x3,x4⟩,x5,x6,x7⟩;obtain ⟨k0,k1,k2,k3,k4,k5⟩:=qab x1;obtain ⟨j0,j1,j2,j3⟩:=x2.cells;go_simp;all_goals (with_reducible rfl))
 try simp only [Act.put,List.setIfInBounds_toArray,List.set_cons_zero,List.set_cons_succ]
 refine wpAnyH_done (by kernel_rfl) ?_ _
 refine NoPanic.normal ?_
 try simp only [Act.put,List.setIfInBounds_toArray,List.set_cons_zero,List.set_cons_succ]
 obtain ⟨p0,p1,p2,p3,p4,p5⟩:=qab HFS2.out;obtain ⟨r0,r1,r2,r3⟩:=HWS.out.cells;have HHS:=hide hS;clear hS hK;go_wp2
 refine bodyPost_ret (v:=.tuple #[y3.val,.agg #[.slice av 4 cv,.int .i64 nxv,.int .i64 sqv,.string (bs lgv)],.bool true]) ?_ rfl ⟨h,HSI.out,y3.val,av,cv,Sv, ?_,HHS.out.2.2.1,HHS.out.2.2.2, ?_,HHS.out.2.1⟩
 ·simp [results,Tryz.results9,go_sem,p0,p1,p2,p3,p4,p5,r0,r1,r2,r3]
 ·rw [←HV.out]
 ·rw [HSV.out,←HV.out]
set_option synthInstance.maxHeartbeats 400000
set_option synthInstance.maxSize 4000
theorem fz6m {w:World} {p:Nat} {t:TypeId} {cs:Array Value} (h:Bq w p t cs):w.frozen? ⟨p,0,none⟩=false∧w.frozen? ⟨p,1,none⟩=false∧w.frozen? ⟨p,2,none⟩=false∧w.frozen? ⟨p,3,none⟩=false∧w.frozen? ⟨p,4,none⟩=false∧w.frozen? ⟨p,5,none⟩=false:=⟨h.fz 0,h.fz 1,h.fz 2,h.fz 3,h.fz 4,h.fz 5⟩
theorem qalr {w:World} {r:Nat} {t:TypeId} {v0 v1 v2 v3 v4 v5:Value} (h:Bq w r t #[v0,v1,v2,v3,v4,v5]):w.cell? ⟨r,0,none⟩=some v0∧w.cell? ⟨r,1,none⟩=some v1∧w.cell? ⟨r,2,none⟩=some v2∧w.cell? ⟨r,3,none⟩=some v3∧w.cell? ⟨r,4,none⟩=some v4∧w.cell? ⟨r,5,none⟩=some v5:=by
 unfold World.cell?;rw [h];exact ⟨rfl,rfl,rfl,rfl,rfl,rfl⟩
theorem qah8 (w:World) (x:FsV) (v:Value) (nx sq:Int) (lg:List UInt8):∃wA wB wC,(w.alloc (.cells #[.slice none 0 0,.slice none 0 0,.slice none 0 0,.int .u32 0,.slice none 0 0,.slice none 0 0] 33)).alloc (.cells #[.slice none 0 0,.int .i64 0,.int .i64 0,.string ⟨#[]⟩] 36)=wA∧set6 wA w.heap.size x=wB∧set4v wB (w.heap.size+1) v (.int .i64 nx) (.int .i64 sq) (.string (bs lg))=wC∧
  (wA.cell? ⟨w.heap.size,0,none⟩=some (.slice none 0 0)∧wA.cell? ⟨w.heap.size,1,none⟩=some (.slice none 0 0)∧wA.cell? ⟨w.heap.size,2,none⟩=some (.slice none 0 0)∧wA.cell? ⟨w.heap.size,3,none⟩=some (.int .u32 0)∧wA.cell? ⟨w.heap.size,4,none⟩=some (.slice none 0 0)∧wA.cell? ⟨w.heap.size,5,none⟩=some (.slice none 0 0))∧(wA.frozen? ⟨w.heap.size,0,none⟩=false∧wA.frozen? ⟨w.heap.size,1,none⟩=false∧wA.frozen? ⟨w.heap.size,2,none⟩=false∧wA.frozen? ⟨w.heap.size,3,none⟩=false∧wA.frozen? ⟨w.heap.size,4,none⟩=false∧wA.frozen? ⟨w.heap.size,5,none⟩=false)∧
  (wB.cell? ⟨w.heap.size+1,0,none⟩=some (.slice none 0 0)∧wB.cell? ⟨w.heap.size+1,1,none⟩=some (.int .i64 0)∧wB.cell? ⟨w.heap.size+1,2,none⟩=some (.int .i64 0)∧wB.cell? ⟨w.heap.size+1,3,none⟩=some (.string ⟨#[]⟩))∧(wB.frozen? ⟨w.heap.size+1,0,none⟩=false∧wB.frozen? ⟨w.heap.size+1,1,none⟩=false∧wB.frozen? ⟨w.heap.size+1,2,none⟩=false∧wB.frozen? ⟨w.heap.size+1,3,none⟩=false)∧
  FsAt wC w.heap.size x∧VvAt wC (w.heap.size+1) v nx sq lg∧Below w.heap.size w wC:=by
 have s1:(w.alloc (.cells #[.slice none 0 0,.slice none 0 0,.slice none 0 0,.int .u32 0,.slice none 0 0,.slice none 0 0] 33)).heap.size=w.heap.size+1:=by simp
 have al:∀(u:World) (o:Obj),Below u.heap.size u (u.alloc o):=fun u o=>(Below.refl _ _).alloc (Nat.le_refl _) _
 have b1:=al w (.cells #[.slice none 0 0,.slice none 0 0,.slice none 0 0,.int .u32 0,.slice none 0 0,.slice none 0 0] 33);have b2:=al (w.alloc (.cells #[.slice none 0 0,.slice none 0 0,.slice none 0 0,.int .u32 0,.slice none 0 0,.slice none 0 0] 33)) (.cells #[.slice none 0 0,.int .i64 0,.int .i64 0,.string ⟨#[]⟩] 36);have h1:Bq _ w.heap.size 33 #[.slice none 0 0,.slice none 0 0,.slice none 0 0,.int .u32 0,.slice none 0 0,.slice none 0 0]:=(Bq.new w 33 #[.slice none 0 0,.slice none 0 0,.slice none 0 0,.int .u32 0,.slice none 0 0,.slice none 0 0]).carry b2;have h2:VvAt _ (w.heap.size+1) (.slice none 0 0) 0 0 []:=s1 ▸ VvAt.new (w.alloc (.cells #[.slice none 0 0,.slice none 0 0,.slice none 0 0,.int .u32 0,.slice none 0 0,.slice none 0 0] 33)) (.slice none 0 0) 0 0 [];have hB:Below w.heap.size w _:=b1.trans (b2.mono (by omega));obtain ⟨wA,eA⟩:∃wA,(w.alloc (.cells #[.slice none 0 0,.slice none 0 0,.slice none 0 0,.int .u32 0,.slice none 0 0,.slice none 0 0] 33)).alloc (.cells #[.slice none 0 0,.int .i64 0,.int .i64 0,.string ⟨#[]⟩] 36)=wA:=⟨_,rfl⟩;have eA':(w.alloc (.cells #[.slice none 0 0,.slice none 0 0,.slice none 0 0,.int .u32 0,.slice none 0 0,.slice none 0 0] 33)).alloc (.cells #[.slice none 0 0,.int .i64 0,.int .i64 0,.string (bs [])] 36)=wA:=eA;rw [eA] at h1 hB;rw [eA'] at h2;obtain ⟨p1,g1⟩:=(show FsB wA w.heap.size from ⟨_,_,_,_,_,_,h1⟩).put x;have h3:=h2.grown9 g1 (by omega);have p2:=VvAt.put (v':=v) (nx':=nx) (sq':=sq) (lg':=lg) h3;have g2:=qme h3 v (.int .i64 nx) (.int .i64 sq) (.string (bs lg));have hB2:=hB.grown g1 hB.size (by intro k hk;cases hk;exact Nat.le_refl _);have hB3:=hB2.grown g2 hB2.size (by intro k hk;cases hk;omega);exact ⟨wA,_,_,eA,rfl,rfl,qalr h1,fz6m h1,h3.cells,⟨VvAt.fz h3 0,VvAt.fz h3 1,VvAt.fz h3 2,VvAt.fz h3 3⟩,p1.grown g2 (by omega),p2,hB3⟩
theorem qals {h:Fsd} (hI:SavI h) {V:Vrs} (hV:V=ver0):lodE h=0∧lodV h=V:=⟨hI.lod,by rw [hI.ver,hV]⟩
theorem quq (w:World):Calls Tryz.prog 8 #[] w fun e w'=>e=.returned (.bool true)∧Below w.heap.size w w':=by
 go_enter Tryz.func8,Tryz.ntmps8
 have hcon:=qaed w;have HCON:=hide hcon;clear hcon
 go_wp2_with fail
 refine HCON.out.mono ?_
 rintro e w1 ⟨h,hSI,v9,av,cv,Sv,rfl,ho,hov,hSv,hbb⟩;have qad:=hide hbb;clear HCON hbb;have HSI:=hide hSI;obtain ⟨⟨Lv,nxv,sqv,lgv⟩,hV⟩:∃V,V=ver0:=⟨_,rfl⟩;rw [←hV] at hSv ⊢;have HV:=hide hV;have HSV:=hide hSv;have HLO:=hide (qals hSI hV)
 have HLV:=hide (show Lv.length=4∧Lv.flatten.length≤100000 by
  have e:Lv=ver0.1:=by rw [←hV]
  rw [e];exact ⟨rfl,by decide⟩)
 have HLG:=hide (show (bs lgv).toList=(bs logN).toList by
  have e:lgv=logN:=by
    have e9:lgv=ver0.2.2.2:=by rw [←hV]
    rw [e9];rfl
  rw [e])
 clear hSI hV hSv;dsimp only;obtain ⟨xf,e9,hx9,ho9⟩:=ho.bx;subst e9;have HOf_w1:=hide (ho9);have HSv_w1:=hide (hov);clear ho hov hx9 ho9;have GEf:=hide (show w.heap.size≤w1.heap.size by have:=qad.out.size;omega);have GEv:=hide (show w.heap.size≤(w1.heap.size+1) by have:=qad.out.size;omega);have NEfv:=hide (show w1.heap.size≠w1.heap.size+1 by omega);obtain ⟨wA,wB,w2,eA,eB,ew2,cA,fA,cB,fB,hF,hL,hbn⟩:=qah8 w1 xf (.slice av 4 cv) nxv sqv lgv;obtain ⟨c0,c1,c2,c3,c4,c5⟩:=cA;obtain ⟨f0,f1,f2,f3,f4,f5⟩:=fA;obtain ⟨d0,d1,d2,d3⟩:=cB;obtain ⟨g0,g1,g2,g3⟩:=fB;have qx9:=hide (HOf_w1.out.carry hbn);have HSv_w2:=hide (HSv_w1.out.carry hbn);have qaj:=qbh qad hbn;have qs4:=hide hF;have qaei:=hide hL;clear hF hL hbn;unfold set6 at eB;unfold set4v at ew2;unfold FsV.val;obtain ⟨kf0,kf1,kf2,kf3,kf4,kf5⟩:=qab qs4.out;have hcon:=qha xf h w2 qx9.out.rdx (qfy HSI.out.ok);rw [HLO.out.1,HLO.out.2] at hcon;have HCON:=hide hcon;clear hcon
 go_wp2_with fail
 try rw [eA]
 try rw [eB]
 try rw [ew2]
 refine HCON.out.mono ?_
 rintro e w3 ⟨hans,hbb⟩;have qaee:=hide (qx9.out.carry hbb);have HSv_w3:=hide (HSv_w2.out.carry hbb);have qmf:=hide (qs4.out.carry hbb);have qs5:=hide (qaei.out.carry hbb);have qaw:=qbh qaj hbb;clear HCON hbb;clear c0 c1 c2 c3 c4 c5 f0 f1 f2 f3 f4 f5 d0 d1 d2 d3 g0 g1 g2 g3 kf0 kf1 kf2 kf3 kf4 kf5
 try clear eA
 try clear eB
 try clear ew2
 obtain ⟨ax,nx0,cx,Sx,rfl,hox,hSx,hnx⟩:=hans.any9
 obtain rfl:nx0=4:=by rw [hnx];exact HLV.out.1
 have HSX:=hide hSx;clear hans hSx hnx;have HSx_w3:=hide (hox.mono qaj.out.size);clear hox;have NEfx:=hide (show w1.heap.size≠w3.heap.size by have:=qmf.out.lt;omega);have NEvx:=hide (show (w1.heap.size+1)≠w3.heap.size by have:=qs5.out.lt;omega);have GEx:=hide (show w.heap.size≤w3.heap.size by have:=qaw.out.size;omega);obtain ⟨w4,ew4⟩:∃wq,w3.alloc (.cells #[.slice ax 4 cx,.int .i64 nxv,.int .i64 sqv,.string (bs lgv)] 36)=wq:=⟨_,rfl⟩
 have hbn:Below w3.heap.size w3 w4:=by rw [←ew4];exact (Below.refl _ _).alloc (Nat.le_refl _) _
 have qaef:=hide (qaee.out.carry hbn);have qya:=hide (HSv_w3.out.carry hbn);have qmg:=hide (qmf.out.carry hbn);have qyd:=hide (qs5.out.carry hbn);have qai3:=hide (HSx_w3.out.carry hbn);have qbp:=qbh qaw hbn;have qai4:=hide (show VvAt w4 w3.heap.size (.slice ax 4 cx) nxv sqv lgv by rw [←ew4];exact VvAt.new _ _ _ _ _);clear hbn;obtain ⟨kx0,kx1,kx2,kx3⟩:=qai4.out.cells;obtain ⟨kv0,kv1,kv2,kv3⟩:=qyd.out.cells;have hcon:=qhb ax 4 cx Sx nxv sqv lgv av 4 cv Sv nxv sqv lgv w4 qai3.out.rd qya.out.rd (by decide) (by rw [HSX.out];exact HLV.out.2);rw [decide_eq_true (show (lvs Sx,nxv,sqv,lgv)=(lvs Sv,nxv,sqv,lgv) by rw [HSX.out,HSV.out])] at hcon;have HCON:=hide hcon;clear hcon
 go_wp2_with fail
 try rw [ew4]
 refine HCON.out.mono ?_
 rintro e w5 ⟨rfl,hbb⟩;have qaeg:=hide (qaef.out.carry hbb);have qaeh:=hide (qya.out.carry hbb);have qox:=hide (qmg.out.carry hbb);have qoy:=hide (qyd.out.carry hbb);have HSx_w5:=hide (qai3.out.carry hbb);have HMx_w5:=hide (qai4.out.carry hbb);have qgv:=qbh qbp hbb;clear HCON hbb;clear kx0 kx1 kx2 kx3 kv0 kv1 kv2 kv3
 try clear ew4
 obtain ⟨kx0,kx1,kx2,kx3⟩:=HMx_w5.out.cells
 have hlg:((bs lgv).toList==[108,111,103])=true:=by
  rw [HLG.out,qiu];rfl
 go_wp2;go_ret;exact ⟨rfl,qgv.out⟩
theorem qzx (x:FsV) (f:Fsd) (w:World) (h:RdX w x f) (hs:(∀g∈f.2.2.1,g.2.length≤1000000000000000)∧∀g∈f.2.2.2,g.2.length≤1000000000000000):
  Calls Tryz.prog 18 #[x.val] w fun e w'=>∃r,e=.returned (.bool r)∧(r=false→(f.1.1.length≤100000∧f.1.2.1.length≤2000∧f.1.2.2.length≤2000)∧okG f.2.2.1∧okG f.2.2.2)∧Below w.heap.size w w':=by
 have HSZ:=hide hs;clear hs;obtain ⟨w1,ew⟩:∃w1,w.alloc (.cells x.cs 33)=w1:=⟨_,rfl⟩
 have hb1:Below w.heap.size w w1:=by rw [←ew];exact (Below.refl _ _).alloc (Nat.le_refl _) _
 have qbc:=hide (show FsAt w1 w.heap.size x by rw [←ew];exact Bq.new _ _ _);obtain ⟨k0,k1,k2,k3,k4,k5⟩:=qab qbc.out;have HX:=hide h;have qad:=hide hb1;clear h hb1;unfold FsV.val;unfold FsV.cs at ew
 go_enter Tryz.func18,Tryz.ntmps18
 go_wp2_with fail
 refine (qabm (d:=f.1) w1 (HX.out.d.carry qad.out)).mono ?_
 rintro e w2 ⟨⟨r1,rfl,hr1⟩,hb2⟩;have qdt:=hide (qbc.out.carry hb2);have qaj:=hide (show Below w.heap.size w w2 from qad.out.trans (hb2.mono qad.out.size));clear k0 k1 k2 k3 k4 k5 ew hb2;have H1:=hide hr1;clear hr1
 cases r1 with
 | true=>
  go_wp2;go_ret;exact ⟨_,rfl,(fun h=>by cases h),qaj.out⟩
 | false=>
 obtain ⟨k0,k1,k2,k3,k4,k5⟩:=qab qdt.out
 go_wp2_with fail
 refine (qok _ _ _ f.2.2.1 w2 (HX.out.fl.carry qaj.out) HX.out.n4 HSZ.out.1).mono ?_
 rintro e w3 ⟨r2,rfl,hr2,hb3⟩;have qgu:=hide (qdt.out.carry hb3);have qaw:=hide (show Below w.heap.size w w3 from qaj.out.trans (hb3.mono qaj.out.size));clear k0 k1 k2 k3 k4 k5 hb3;have H2:=hide hr2;clear hr2
 cases r2 with
 | true=>
  go_wp2;go_ret;exact ⟨_,rfl,(fun h=>by cases h),qaw.out⟩
 | false=>
 obtain ⟨k0,k1,k2,k3,k4,k5⟩:=qab qgu.out
 go_wp2_with fail
 refine (qok _ _ _ f.2.2.2 w3 (HX.out.kl.carry qaw.out) HX.out.n5 HSZ.out.2).mono ?_
 rintro e w4 ⟨r3,rfl,hr3,hb4⟩;have qbp:=hide (show Below w.heap.size w w4 from qaw.out.trans (hb4.mono qaw.out.size));clear k0 k1 k2 k3 k4 k5 hb4;have H3:=hide hr3;clear hr3;go_wp2;go_ret;exact ⟨r3,rfl,fun h=>⟨H1.out (by trivial),H2.out (by trivial),H3.out h⟩,qbp.out⟩
theorem qalt:WfX fz:=⟨by show (0:Nat)<_;omega,(fun g hg=>by cases hg),(fun g hg=>by cases hg)⟩
set_option synthInstance.maxHeartbeats 400000
set_option synthInstance.maxSize 4000
theorem qah9 (b:List UInt8):(redV b).1.length≤4∧(redV b).1.flatten.length≤128:=by
 unfold redV
 split
 ·exact ⟨by show (levM 4 (some b)).1.length≤4;rw [qwp];exact Nat.le_refl _,qsz _⟩
 ·exact ⟨by simp [zerV],by simp [zerV]⟩
theorem qi4 (f:Fsd):(lodV f).1.length≤4∧(lodV f).1.flatten.length≤128:=by
 have hz:zerV.1.length≤4∧zerV.1.flatten.length≤128:=⟨by simp [zerV],by simp [zerV]⟩;unfold lodV
 split
 ·exact hz
 ·unfold hldV
  split
  ·exact hz
  ·split
   ·exact qah9 _
   ·exact hz
theorem qai5 {g:Fsd} (h:(qa7 g).2≠0):(qa7 g).1=fz:=by
 unfold qa7 endW at *
 split
 ·rfl
 ·rename_i h0;rw [if_neg h0] at h;exact absurd rfl h
theorem qaej {g H4:Fsd} {C:Int} (hok:okFs g) (h:(H4,C)=qa7 g):WfX H4:=by
 by_cases h0:C=0
 ·subst h0
  obtain ⟨x,e,hx, -⟩:=qgr hok (by rw [←h]);rw [←h] at e
  rw [show H4=_ from (Prod.ext_iff.1 e).1];exact qfy hx
 ·have:=qai5 (g:=g) (by rw [←h];exact h0)
  rw [←h] at this
  rw [show H4=fz from this];exact qalt
end Go.Proofs.YtmeaiocohalphaaGreatDoor

/-
  What the statement FilesApart answers.
-/
import Derived.Test.YthilibleedbchaaGreatTz
import Derived.Test.YthilibleedbchaaGreatMathFi3
import Derived.Test.YthilibleedbchaaGreatMathFi2
set_option maxHeartbeats 4000000
set_option maxRecDepth 100000
namespace Go.Proofs.YthilibleedbchaaGreat
open Go.RowKit
set_option linter.all false
theorem tf_cell {w:World} {base g n c:Nat} (h:RowF w base (.slice (some ⟨g,0,none⟩) n c) n) (k:Nat) (hk:k<n):∃u,w.cell? ⟨g,k*2+1,none⟩=some u∧w.frozen? ⟨g,k*2+1,none⟩=false:=by
 rcases h with ⟨h,h0⟩ | ⟨g',cap,cs,e,h1,h2,h3,h4⟩
 ·omega
 cases e;obtain ⟨u,e1,e2⟩:=h4 k hk;exact ⟨u,(cell_of_row w g (k*2+1) _ _ (0,0) h2).trans e1,frozen_of_row w g (k*2+1) _ _ h2⟩
theorem qyg {w w':World} {base g n c:Nat} (h:RowF w base (.slice (some ⟨g,0,none⟩) n c) n) (k':Shp base w w') (k:Nat) (hk:k<n) {u:Value} (hc:w.cell? ⟨g,k*2+1,none⟩=some u):w'.cell? ⟨g,k*2+1,none⟩=some u∧w'.frozen? ⟨g,k*2+1,none⟩=false:=by
 rcases h with ⟨h,h0⟩ | ⟨g',cap,cs,e,h1,h2,h3,h4⟩
 ·omega
 cases e;obtain ⟨cs',e1,_,e3⟩:=k'.2.2 g _ _ h2
 have:=e3 (by decide)
 subst this;have e2:=(cell_of_row w g (k*2+1) _ _ (0,0) h2);rw [e2] at hc;exact ⟨(cell_of_row w' g (k*2+1) _ _ (0,0) e1).trans hc,frozen_of_row w' g (k*2+1) _ _ e1⟩
theorem qt4 {P:Program} {o:Oper} {a:Act} {s x:Operand} {t:TypeId} {vs vx v:Value} {w w':World} (ho:o.op=.call {callee:=.builtin .append,args:=#[s,x],argTypes:=#[t,t]}) (hs:a.eval s=vs) (hx:a.eval x=vx) (hrun:(Builtin.append_ #[t,t] o.type #[vs,vx]).run P w=.ok v w'):(execOp a.eval o).run P w=.ok (.value v) w':=by
 simp [execOp,ho,resolve,invoke,builtin,hs,hx,hrun,Result.andThen]
theorem Bq.shp6 {w w':World} {base p:Nat} {t:TypeId} {cs:Array Value} (h:Bq w p t cs) (k:Shp base w w') (ht:t≠116):Bq w' p t cs:=by
 obtain ⟨cs',e1,_,e3⟩:=k.2.2 p _ _ h
 have:=e3 ht
 subst this;exact e1
theorem qyh (a1:Option Addr) (n1 c1:Nat) (a2:Option Addr) (n2 c2:Nat) (a3:Option Addr) (n3 c3 gg:Nat) (a4:Option Addr) (n4 c4:Nat) (a5:Option Addr) (n5 c5:Nat) (base:Nat) (d:Dk) (w:World) (hO:OwD w base (.agg #[.slice a1 n1 c1,.slice a2 n2 c2,.slice a3 n3 c3]) d) (h4:RowF w base (.slice a4 n4 c4) n4) (h5:RowF w base (.slice a5 n5 c5) n5) (hb:base≤w.heap.size) (hn4:n4≤maxLen) (hn5:n5≤maxLen):
  Calls Tryz.prog 24 #[.agg #[.slice a1 n1 c1,.slice a2 n2 c2,.slice a3 n3 c3,.int .u32 gg,.slice a4 n4 c4,.slice a5 n5 c5]] w fun e w'=>e=.returned (.tuple #[])∧Below base w w'∧Tz base w w':=by
 obtain ⟨o1,o2,o3⟩:OwB w base (.slice a1 n1 c1) d.1∧OwW w base (.slice a2 n2 c2) d.2.1∧OwA w base (.slice a3 n3 c3) d.2.2:=by
  obtain ⟨_,_,_,e,h1,h2,h3⟩:=hO
  injection e with e
  simp at e
  obtain ⟨rfl,rfl,rfl⟩:=e;exact ⟨h1,h2,h3⟩
 have hl1:n1≤maxLen:=by rw [o1.len'];exact o1.rd.len_le
 have hn2:n2=d.2.1.length:=by obtain ⟨_,_,e⟩:=o2.rd.form;cases e;rfl
 have hl2:n2≤maxLen:=by rw [hn2];exact o2.rd.len_le
 unfold maxLen at hl1 hl2 hn4 hn5;obtain ⟨w1,ew⟩:∃w1,w.alloc (.cells #[.slice a1 n1 c1,.slice a2 n2 c2,.slice a3 n3 c3,.int .u32 gg,.slice a4 n4 c4,.slice a5 n5 c5] 32)=w1:=⟨_,rfl⟩
 have hb1:Below w.heap.size w w1:=by rw [←ew];exact (Below.refl _ _).alloc (Nat.le_refl _) _
 have hX1:Bq w1 w.heap.size 32 #[.slice a1 n1 c1,.slice a2 n2 c2,.slice a3 n3 c3,.int .u32 gg,.slice a4 n4 c4,.slice a5 n5 c5]:=by rw [←ew];exact Bq.new _ _ _
 have O1:=hide (o1.carry hb1);have O2:=hide (o2.carry hb1);have R4:=hide (h4.carry hb1);have R5:=hide (h5.carry hb1);have HBW:=hide (hb1.mono hb);have HTW:=hide (Tz.below (base:=base) hb1);have HBS:=hide (Nat.le_trans hb hb1.size)
 have HBX:Hid (∀wr,Turned w1 wr→Bq wr w.heap.size 32 #[.slice a1 n1 c1,.slice a2 n2 c2,.slice a3 n3 c3,.int .u32 gg,.slice a4 n4 c4,.slice a5 n5 c5]):=fun wr hT=>hT.2.1 _ _ _ _ hX1 (by decide)
 have H2:Hid (∀k,k<n2→∃gw av cv lv,a2=some ⟨gw,0,none⟩∧OwB w1 base (.slice av lv.length cv) lv∧Hid (∀wr,Turned w1 wr→wr.cell? ⟨gw,k*2+1,none⟩=some (.slice av lv.length cv))):=by
  intro k hk;rw [hn2] at hk;have hO2:=O2.out;rw [hn2] at hO2;obtain ⟨gw,h1,h2,h3,vv,h4,h5⟩:=hO2.at k hk;subst h1;obtain ⟨zy,e1,hy,hy2⟩:=id hO2;obtain ⟨cs,hc⟩:=qbw hy gw rfl;obtain ⟨av,cv,rfl⟩:=h5.form;refine ⟨gw,av,cv,_,rfl,h5,fun wr hT=>?_⟩;rw [World.cell?_of_block (w:=w1) (a:=⟨gw,k*2+1,none⟩) (by rw [hc];exact hT.2.1 _ _ _ _ hc (by decide))];exact h4
 have HWS:=hide ew;clear hO o1 o2 o3 h4 h5 hb hb1 hX1 hn2
 go_enter Tryz.func24,Tryz.ntmps24
 go_wp2;clear ew
 go_loopw [2] (fun i wr=>∃k:Nat,k≤n1∧i=.int .i64 k∧Hid (Turned w1 wr∧Below base w1 wr)) (fun i _=>n1 - (intOf i).toNat)
 case atStart=>exact ⟨0,Nat.zero_le _,rfl,hide ⟨Turned.refl _,Below.refl _ _⟩⟩
 case round=>
  obtain ⟨k,hk,rfl,hT⟩:=hrel;have hbx:=HBX.out wr hT.out.1;have p0:=hbx.cell 0;have p1:=hbx.cell 1;have p4:=hbx.cell 4;have p5:=hbx.cell 5;clear hbx
  by_cases hlt:k<n1
  ·have hlt':(k:Int)<n1:=by omega
   obtain ⟨g,bk,bj,rfl,hc,hf,hw8,HN⟩:=qqi O1.out hT.out.1 hT.out.2 k hlt;go_wp2
   go_region
   go_wp2;exact ⟨⟨k+1,by omega,rfl,HN⟩,by simp only [intOf];omega⟩
  ·have hd:decide ((k:Int)<n1)=false:=by simpa using (by omega:¬(k:Int)<n1)
   go_wp2;clear p0 p1 p4 p5 hd hlt hk;obtain ⟨wa,ewa⟩:∃wa,wa=wr:=⟨_,rfl⟩;rw [←ewa];rw [←ewa] at hT;clear ewa
   go_loopw [3] (fun i wr=>∃k:Nat,k≤n2∧i=.int .i64 k∧Hid (Turned w1 wr∧Below base w1 wr)) (fun i _=>n2 - (intOf i).toNat)
   case atStart=>exact ⟨0,Nat.zero_le _,rfl,hT⟩
   case round=>
    clear hT;obtain ⟨k,hk,rfl,hT⟩:=hrel;have hbx:=HBX.out wr hT.out.1;have p1:=hbx.cell 1;have p4:=hbx.cell 4;have p5:=hbx.cell 5;clear hbx
    by_cases hlt:k<n2
    ·have hlt':(k:Int)<n2:=by omega
     obtain ⟨gw,av,cv,lv,rfl,hOv,HCV⟩:=H2.out k hlt;have hlv:lv.length≤maxLen:=hOv.rd.len_le;unfold maxLen at hlv;have HOV:=hide hOv;clear hOv;generalize lv.length=m at *;have hcv:=HCV.out wr hT.out.1;go_wp2;obtain ⟨wk,ewk⟩:∃wk,wk=wr:=⟨_,rfl⟩;rw [←ewk];rw [←ewk] at hT;clear ewk hcv p1 p4 p5
     go_loopw [4] (fun i wr=>∃j:Nat,j≤m∧i=.int .i64 j∧Hid (Turned w1 wr∧Below base w1 wr)) (fun i _=>m - (intOf i).toNat)
     case atStart=>exact ⟨0,Nat.zero_le _,rfl,hT⟩
     case round=>
      clear hT;obtain ⟨j,hj,rfl,hT⟩:=hrel;have p1:=(HBX.out wr hT.out.1).cell 1;have hcv:=HCV.out wr hT.out.1
      by_cases hjt:j<m
      ·have hjt':(j:Int)<m:=by omega
       obtain ⟨g,bk,bj,rfl,hc,hf,hw8,HN⟩:=qqi HOV.out hT.out.1 hT.out.2 j hjt;go_wp2
       go_region
       go_wp2;exact ⟨⟨j+1,by omega,rfl,HN⟩,by simp only [intOf];omega⟩
      ·have hjt':decide ((j:Int)<m)=false:=by simpa using (by omega:¬(j:Int)<m)
       go_wp2;exact ⟨⟨k+1,by omega,rfl,hT⟩,by simp only [intOf];omega⟩
    ·have hd:decide ((k:Int)<n2)=false:=by simpa using (by omega:¬(k:Int)<n2)
     go_wp2;clear p1 p4 p5 hd hlt hk;obtain ⟨wb,ewb⟩:∃wb,wb=wr:=⟨_,rfl⟩;rw [←ewb];rw [←ewb] at hT;clear ewb;have HBXB:=hide (HBX.out wb hT.out.1);have R4B:=hide (R4.out.turned hT.out.1);have R5B:=hide (R5.out.turned hT.out.1);have HBSB:=hide (Nat.le_trans HBS.out hT.out.1.1)
     have HBTF:Hid (∀wr,Tf base wb wr→Bq wr w.heap.size 32 #[.slice a1 n1 c1,.slice a2 n2 c2,.slice a3 n3 c3,.int .u32 gg,.slice a4 n4 c4,.slice a5 n5 c5]):=fun wr hT=>hT.2.2.1 _ _ _ HBXB.out (by decide) (by decide)
     have HEND:=hide (fun (wr:World) (hf:Tf base wb wr)=>(⟨(HBW.out.trans hT.out.2).trans hf.1,(HTW.out.trans (Tz.turned hT.out.1)).trans (Tz.tf hf)⟩:Below base w wr∧Tz base w wr));clear hT
     go_loopw [5] (fun i wr=>∃k:Nat,k≤n4∧i=.int .i64 k∧Hid (Tf base wb wr)) (fun i _=>n4 - (intOf i).toNat)
     case atStart=>exact ⟨0,Nat.zero_le _,rfl,hide (Tf.refl _ _)⟩
     case round=>
      obtain ⟨k,hk,rfl,hT⟩:=hrel;have hbx:=HBTF.out wr hT.out;have p4:=hbx.cell 4;have p5:=hbx.cell 5;clear hbx
      by_cases hlt:k<n4
      ·have hlt':(k:Int)<n4:=by omega
       have hszr:=Nat.le_trans HBSB.out hT.out.2.1;obtain ⟨g,b2,m2,d2,rfl,hc,hmd,g',c',w',hrun0,hsh,HN⟩:=qxf (w:=wr.drew) hszr ((hT.out.2.2.2.2 _ _ R4B.out).carry (Below.refl _ _).drew) k hlt 77 77;have hc':wr.cell? ⟨g,k*2+1,none⟩=some (.slice b2 m2 d2):=hc;have HRUN:=hide hrun0;have hkp:=(Bq.shp6 ((HBTF.out wr hT.out).carry (Below.refl wr.heap.size wr).drew) hsh.out (by decide)).cell 4;obtain ⟨q9,z9⟩:=qyg (((hT.out.2.2.2.2 _ _ R4B.out).carry (Below.refl wr.heap.size wr).drew)) hsh.out k hlt hc;have HSW:=hide (show (fun wx=>wx.cell? ⟨w.heap.size,4,none⟩=some (.slice (some ⟨g,0,none⟩) n4 c4)∧wx.cell? ⟨g,k*2+1,none⟩=some (.slice b2 m2 d2)) w' from ⟨hkp,q9⟩);have HNN:=hide ((hT.out.trans (Tf.shp (qkz hszr (Below.refl _ _).drew))).trans HN.out);have hK:Keeps (fun wx=>wx.cell? ⟨w.heap.size,4,none⟩=some (.slice (some ⟨g,0,none⟩) n4 c4)∧wx.cell? ⟨g,k*2+1,none⟩=some (.slice b2 m2 d2)):=(qaa _ _).and (qaa _ _);clear hrun0 hszr hkp hsh HN;go_wp2
       refine qbh hK 17 (by kernel_rfl) ⟨p4,hc'⟩ ?_
       intro hS;clear hc';generalize wr.drew=wd at *
       refine qbq [0,1,2,3,4,5,6,7,8,9,10,11,12] (fuel:=5) (a':=?zp1a) (by kernel_rfl) (by kernel_rfl) (by kernel_rfl) ?zp1p hS ?zp1n
       case zp1p=>
        iterate 13 (apply Yl.cons rfl (by kernel_rfl);focus (rintro wx ⟨x1,x2⟩;go_simp;all_goals (with_reducible rfl));try simp only [Act.put,sA,sB,sC])
        exact Yl.nil
       refine qaq (i:=13) (v:=.slice (some ⟨wd.heap.size,0,none⟩) 1 1) (w':=wd.alloc (.cells #[.int .i64 77,.int .i64 77] 116)) rfl (by kernel_rfl) (by rfl) (by go_simp) (fun _=>hK _ _ hS ((Below.refl _ _).alloc (Nat.le_refl _) _)) ?_
       try simp only [Act.put,sA,sB,sC]
       refine qaq (i:=14) (v:=.slice (some ⟨g',0,none⟩) 1 c') (w':=w') rfl (by kernel_rfl) (by rfl) (qt4 rfl rfl rfl HRUN.out) (fun _=>HSW.out) ?_
       have hS9:=HSW.out;clear hS;have hS:=hS9;clear hS9
       try simp only [Act.put,sA,sB,sC]
       refine qaq (i:=15) (v:=.pointer (some ⟨g,k*2,none⟩)) (w':=w') rfl (by kernel_rfl) (by rfl) (by go_simp) (fun _=>hS) ?_
       try simp only [Act.put,sA,sB,sC]
       refine qbn (i:=16) (v:=?qdv16) rfl (by kernel_rfl) (by kernel_rfl) (by kernel_rfl) rfl (by kernel_rfl) (by kernel_rfl) (by rfl) ?qdy16 hS ?qdr16
       case qdy16=>(rintro wx ⟨x1,x2⟩;go_simp;all_goals (with_reducible rfl))
       try simp only [Act.put,sA,sB,sC]
       refine qbp (i:=17) (w':=w'.setCell ⟨g,k*2+1,none⟩ (.slice (some ⟨g',0,none⟩) 1 c')) rfl (by kernel_rfl) (by kernel_rfl) (by rfl) (by go_simp) ?_
       try simp only [Act.put,sA,sB,sC]
       refine qaw (by kernel_rfl) ?_ _
       refine NoPanic.normal ?_
       clear hS hK;go_wp2;exact ⟨⟨k+1,by omega,rfl,HNN⟩,by simp only [intOf];omega⟩
      ·have hd:decide ((k:Int)<n4)=false:=by simpa using (by omega:¬(k:Int)<n4)
       go_wp2;clear p4 p5 hd hlt hk;obtain ⟨wc,ewc⟩:∃wc,wc=wr:=⟨_,rfl⟩;rw [←ewc];rw [←ewc] at hT;clear ewc
       go_loopw [6] (fun i wr=>∃k:Nat,k≤n5∧i=.int .i64 k∧Hid (Tf base wb wr)) (fun i _=>n5 - (intOf i).toNat)
       case atStart=>exact ⟨0,Nat.zero_le _,rfl,hT⟩
       case round=>
        clear hT;obtain ⟨k,hk,rfl,hT⟩:=hrel;have p5:=(HBTF.out wr hT.out).cell 5
        by_cases hlt:k<n5
        ·have hlt':(k:Int)<n5:=by omega
         have hszr:=Nat.le_trans HBSB.out hT.out.2.1;obtain ⟨g,b2,m2,d2,rfl,hc,hmd,g',c',w',hrun0,hsh,HN⟩:=qxf (w:=wr.drew) hszr ((hT.out.2.2.2.2 _ _ R5B.out).carry (Below.refl _ _).drew) k hlt 78 78;have hc':wr.cell? ⟨g,k*2+1,none⟩=some (.slice b2 m2 d2):=hc;have HRUN:=hide hrun0;have hkp:=(Bq.shp6 ((HBTF.out wr hT.out).carry (Below.refl wr.heap.size wr).drew) hsh.out (by decide)).cell 5;obtain ⟨q9,z9⟩:=qyg (((hT.out.2.2.2.2 _ _ R5B.out).carry (Below.refl wr.heap.size wr).drew)) hsh.out k hlt hc;have HSW:=hide (show (fun wx=>wx.cell? ⟨w.heap.size,5,none⟩=some (.slice (some ⟨g,0,none⟩) n5 c5)∧wx.cell? ⟨g,k*2+1,none⟩=some (.slice b2 m2 d2)) w' from ⟨hkp,q9⟩);have HNN:=hide ((hT.out.trans (Tf.shp (qkz hszr (Below.refl _ _).drew))).trans HN.out);have hK:Keeps (fun wx=>wx.cell? ⟨w.heap.size,5,none⟩=some (.slice (some ⟨g,0,none⟩) n5 c5)∧wx.cell? ⟨g,k*2+1,none⟩=some (.slice b2 m2 d2)):=(qaa _ _).and (qaa _ _);clear hrun0 hszr hkp hsh HN;go_wp2
         refine qbh hK 17 (by kernel_rfl) ⟨p5,hc'⟩ ?_
         intro hS;clear hc';generalize wr.drew=wd at *
         refine qbq [0,1,2,3,4,5,6,7,8,9,10,11,12] (fuel:=5) (a':=?zp2a) (by kernel_rfl) (by kernel_rfl) (by kernel_rfl) ?zp2p hS ?zp2n
         case zp2p=>
          iterate 13 (apply Yl.cons rfl (by kernel_rfl);focus (rintro wx ⟨x1,x2⟩;go_simp;all_goals (with_reducible rfl));try simp only [Act.put,sA,sB,sC])
          exact Yl.nil
         refine qaq (i:=13) (v:=.slice (some ⟨wd.heap.size,0,none⟩) 1 1) (w':=wd.alloc (.cells #[.int .i64 78,.int .i64 78] 116)) rfl (by kernel_rfl) (by rfl) (by go_simp) (fun _=>hK _ _ hS ((Below.refl _ _).alloc (Nat.le_refl _) _)) ?_
         try simp only [Act.put,sA,sB,sC]
         refine qaq (i:=14) (v:=.slice (some ⟨g',0,none⟩) 1 c') (w':=w') rfl (by kernel_rfl) (by rfl) (qt4 rfl rfl rfl HRUN.out) (fun _=>HSW.out) ?_
         have hS9:=HSW.out;clear hS;have hS:=hS9;clear hS9
         try simp only [Act.put,sA,sB,sC]
         refine qaq (i:=15) (v:=.pointer (some ⟨g,k*2,none⟩)) (w':=w') rfl (by kernel_rfl) (by rfl) (by go_simp) (fun _=>hS) ?_
         try simp only [Act.put,sA,sB,sC]
         refine qbn (i:=16) (v:=?qev16) rfl (by kernel_rfl) (by kernel_rfl) (by kernel_rfl) rfl (by kernel_rfl) (by kernel_rfl) (by rfl) ?qey16 hS ?qer16
         case qey16=>(rintro wx ⟨x1,x2⟩;go_simp;all_goals (with_reducible rfl))
         try simp only [Act.put,sA,sB,sC]
         refine qbp (i:=17) (w':=w'.setCell ⟨g,k*2+1,none⟩ (.slice (some ⟨g',0,none⟩) 1 c')) rfl (by kernel_rfl) (by kernel_rfl) (by rfl) (by go_simp) ?_
         try simp only [Act.put,sA,sB,sC]
         refine qaw (by kernel_rfl) ?_ _
         refine NoPanic.normal ?_
         clear hS hK;go_wp2;exact ⟨⟨k+1,by omega,rfl,HNN⟩,by simp only [intOf];omega⟩
        ·have hd:decide ((k:Int)<n5)=false:=by simpa using (by omega:¬(k:Int)<n5)
         have HZ:=hide (HEND.out wr hT.out);go_wp2
         refine bodyPost_end (v:=.tuple #[]) ?_ rfl ⟨rfl,HZ.out.1,HZ.out.2⟩
         simp [results,Tryz.results24,go_sem]
theorem qol (x:FsV) (f:Fsd) (w:World) (h:RdX w x f):
  Calls Tryz.prog 89 #[x.val] w fun e w'=>e=.returned (.int .i64 (qbe f))∧Below w.heap.size w w':=by
 obtain ⟨w1,ew⟩:∃w1,w.alloc (.cells x.cs 32)=w1:=⟨_,rfl⟩
 have hb1:Below w.heap.size w w1:=by rw [←ew];exact (Below.refl _ _).alloc (Nat.le_refl _) _
 have qcv:=hide (show FsAt w1 w.heap.size x by rw [←ew];exact Bq.new _ _ _);obtain ⟨k0,k1,k2,k3,k4,k5⟩:=qab qcv.out;have HX:=hide h;have qag:=hide hb1;clear h hb1;unfold FsV.val;unfold FsV.cs at ew
 go_enter Tryz.func89,Tryz.ntmps89
 go_wp2_with fail
 refine (qtw (d:=f.1) w1 (HX.out.d.carry qag.out)).mono ?_
 rintro e w2 ⟨rfl,hb2⟩;have qai:=bT qag hb2;clear k0 k1 k2 k3 k4 k5 ew hb2;go_wp2;go_ret;exact ⟨rfl,qai.out⟩
theorem qih (fs:List Fl):(qdz fs).length≤4096:=by
 unfold qdz
 by_cases h:chkF fs 4096=0
 ·rw [if_pos h]
  have h1:=(qcd h).2.2.2.1.1;exact (qh0 h1).1
 ·rw [if_neg h];simp
theorem qt5 (fs:List Fl):∀x∈qdz fs,wfX x:=by
 unfold qdz
 by_cases h:chkF fs 4096=0
 ·rw [if_pos h]
  intro x hx;have h1:=(qcd h).2.2.2.1.1
  have:=(qh0 h1).2 x hx
  unfold wfX;omega
 ·rw [if_neg h];simp
theorem qqp (f:Fsd):∀x∈qbf f,wfX x:=by
 intro x hx
 rcases List.mem_append.1 hx with h | h
 ·exact qt5 _ x h
 ·exact qt5 _ x h
theorem qaej (x:FsV) (f:Fsd) (w:World) (h:RdX w x f) (hw:WfX f):
  Calls Tryz.prog 90 #[x.val] w fun e w'=>∃v,e=.returned v∧OwE w' w.heap.size v (qbf f)∧Below w.heap.size w w':=by
 obtain ⟨w1,ew⟩:∃w1,w.alloc (.cells x.cs 32)=w1:=⟨_,rfl⟩
 have hb1:Below w.heap.size w w1:=by rw [←ew];exact (Below.refl _ _).alloc (Nat.le_refl _) _
 have qcv:=hide (show FsAt w1 w.heap.size x by rw [←ew];exact Bq.new _ _ _);obtain ⟨k0,k1,k2,k3,k4,k5⟩:=qab qcv.out;have HX:=hide h;have qag:=hide hb1;clear h hb1;unfold FsV.val;unfold FsV.cs at ew
 go_enter Tryz.func90,Tryz.ntmps90
 go_wp2_with fail
 refine (qtj _ _ _ f.2.2.1 w1 (HX.out.fl.carry qag.out) HX.out.n4 hw.fl).mono ?_
 rintro e w2 ⟨v2,rfl,ho2,hb2⟩;have qlz:=hide (qcv.out.carry hb2);have qai:=bT qag hb2;obtain ⟨m2,hm2⟩:∃m2,m2=(qdz f.2.2.1).length:=⟨_,rfl⟩
 obtain ⟨y2,z2,e2⟩:∃a c,v2=.slice a m2 c:=by rw [hm2];exact ho2.form
 subst e2;have HO2:=hide (ho2.mono qag.out.size);have HM2:=hide hm2;clear k0 k1 k2 k3 k4 k5 ew hb2 ho2 hm2;obtain ⟨k0,k1,k2,k3,k4,k5⟩:=qab qlz.out
 go_wp2_with fail
 refine (qtj _ _ _ f.2.2.2 w2 (HX.out.kl.carry qai.out) HX.out.n5 hw.kl).mono ?_
 rintro e w3 ⟨v3,rfl,ho3,hb3⟩;have qsd:=hide (qlz.out.carry hb3);have qao:=bT qai hb3;obtain ⟨m3,hm3⟩:∃m3,m3=(qdz f.2.2.2).length:=⟨_,rfl⟩
 obtain ⟨y3,z3,e3⟩:∃a c,v3=.slice a m3 c:=by rw [hm3];exact ho3.form
 subst e3;have HO3:=hide (ho3.mono qai.out.size);have HO2':=hide (HO2.out.carry hb3);have HM3:=hide hm3;clear k0 k1 k2 k3 k4 k5 hb3 ho3 hm3 HO2 hw;have hbx:Below w3.heap.size w3 (w3.alloc (.cells #[.slice y2 m2 z2,.slice y3 m3 z3] 73)):=(Below.refl _ _).alloc (Nat.le_refl _) _;have hct:=qmk w3.heap.size y2 m2 z2 y3 m3 z3 (qdz f.2.2.1) (qdz f.2.2.2) (w3.alloc (.cells #[.slice y2 m2 z2,.slice y3 m3 z3] 73)) (heap_alloc_new w3 _) (HO2'.out.rd.carry hbx) HM2.out (HO3.out.rd.carry hbx) HM3.out (by have:=qih f.2.2.1;have:=qih f.2.2.2;omega);have HBX:=hide hbx;clear hbx
 go_wp2_with fail
 refine hct.mono ?_
 rintro e w4 ⟨v4,rfl,ho4,hb4⟩;have hbx:=HBX.out.trans (hb4.mono (HBX.out.size));have HB4:=bT qao hbx;have HO4:=hide (ho4.mono (Nat.le_trans qao.out.size HBX.out.size));clear hct hbx HBX hb4 ho4;go_wp2;go_ret;exact ⟨_,rfl,HO4.out,HB4.out⟩
theorem any34 (l:List Pu) (k:Nat) (hk:k<l.length):(l.take (k+1)).any (fun p=>decide (p.1<34))=((l.take k).any (fun p=>decide (p.1<34)) || decide ((l[k]).1<34)):=by
 rw [List.take_succ_eq_append_getElem hk,List.any_append]
 simp
theorem ql0 (N:Int) (u:Value) (w:World) (hu:u.oneCell'=true):
  Calls Tryz.prog 123 #[.agg #[.int .i64 N,u]] w fun e w'=>e=.returned (.bool (decide (N<34)))∧Below w.heap.size w w':=by
 have hb0:∀o,Below w.heap.size w (w.alloc o):=fun o=>(Below.refl _ _).alloc (Nat.le_refl _) _
 go_enter Tryz.func123,Tryz.ntmps123
 go_wp2;go_ret;exact ⟨rfl,hb0 _⟩
theorem qqq (a:Option Addr) (n c:Nat) (l:List Pu) (w:World) (hrd:RdW w (.slice a n c) l) (hn:n=l.length):
  Calls Tryz.prog 149 #[.slice a n c,.func (.func 123) #[] #[]] w fun e w'=>∃i:Int,e=.returned (.int .i64 i)∧decide (0≤i)=l.any (fun p=>decide (p.1<34))∧Below w.heap.size w w':=by
 have hm:n≤maxLen:=hn ▸ hrd.len_le;unfold maxLen at hm;have HR:=hide hrd;have HN:=hide hn;clear hrd hn
 go_enter Tryz.func149,Tryz.ntmps149
 go_wp2
 go_loopw [8] (fun i wr=>∃k:Nat,k≤n∧i=.int .i64 k∧Hid ((l.take k).any (fun p=>decide (p.1<34))=false)∧Below w.heap.size w wr) (fun i _=>n - (intOf i).toNat)
 case atStart=>exact ⟨0,Nat.zero_le _,rfl,hide (by simp),Below.refl _ _⟩
 case round=>
  obtain ⟨k,hk,rfl,hall,hbel⟩:=hrel
  by_cases hlt:k<n
  ·have hlt':(k:Int)<n:=by omega
   have hkl:k<l.length:=by have:=HN.out;omega
   obtain ⟨b,off,rfl,q0,x9,m9,d9,q1,q2,q3⟩:=(HR.out.carry hbel).at k hkl;obtain ⟨N,hN⟩:∃N,N=(l[k]).1:=⟨_,rfl⟩;rw [←hN] at q0;have HN2:=hide hN;clear q2 q3 hN
   go_wp2_with fail
   refine (ql0 N _ _ rfl).mono ?_
   rintro e w1 ⟨rfl,hb1⟩;have hb1':Below w.heap.size w w1:=hbel.trans (hb1.mono hbel.size);clear hb1 q0 q1
   by_cases hq:N<34
   ·have HM:=hide (show l.any (fun p=>decide (p.1<34))=true by
     rw [List.any_eq_true]
     exact ⟨l[k],List.getElem_mem hkl,by rw [←HN2.out];simpa using hq⟩)
    have hq':decide (N<34)=true:=by simpa using hq
    clear hq;go_wp2;go_ret;exact ⟨_,rfl,by rw [HM.out];simp,hb1'⟩
   ·have HM:=hide (show (l.take (k+1)).any (fun p=>decide (p.1<34))=false by
     rw [any34 l k hkl,hall.out,←HN2.out];simpa using hq)
    have hq':decide (N<34)=false:=by simpa using hq
    clear hq;go_wp2;go_roundw
    case rel=>exact ⟨k+1,by omega,rfl,HM,hb1'⟩
    case measure=>simp only [intOf];omega
  ·have hd:decide ((k:Int)<n)=false:=by simpa using (by omega:¬(k:Int)<n)
   have HM:=hide (show l.any (fun p=>decide (p.1<34))=false by
    have:=hall.out
    rwa [List.take_of_length_le (by have:=HN.out;omega)] at this)
   go_wp2;go_ret;exact ⟨_,rfl,by rw [HM.out];rfl,hbel⟩
theorem qlc (a:Option Addr) (n c:Nat) (l:List Pu) (w:World) (hrd:RdW w (.slice a n c) l) (hn:n=l.length):
  Calls Tryz.prog 77 #[.slice a n c,.func (.func 123) #[] #[]] w fun e w'=>e=.returned (.bool (l.any (fun p=>decide (p.1<34))))∧Below w.heap.size w w':=by
 have hix:=qqq a n c l w hrd hn;clear hrd hn
 go_enter Tryz.func77,Tryz.ntmps77
 go_wp2_with fail
 refine hix.mono ?_
 rintro e w1 ⟨i,rfl,hi,hb1⟩;have HI:=hide hi;clear hi;go_wp2;go_ret;exact ⟨by rw [←HI.out];rfl,hb1⟩
theorem lo_ok {n1 c1 m sz lo ge ar:Nat} (h1:n1=128*m) (hm:34<m) (hs:sz≤2048) (hc:n1≤c1) (har:ar=2+ge % 2*16) (hlo:lo=ar*128):lo≤n1∧¬lo=c1∧lo≤c1∧sz≤n1 - lo∧sz≤c1 - lo∧lo+sz≤n1∧lo≤4096:=by omega
theorem qyi {lo ge ar:Nat} (har:ar=2+ge % 2*16) (hlo:lo=ar*128):wrap64 ((ar:Int)*128)=(lo:Int):=by
 unfold wrap64;omega
theorem qaek {w:World} {b off n c:Nat} {l:List UInt8} (h:Rd w (.slice (some ⟨b,off,none⟩) n c) l) (lo sz:Nat) (h2:lo+sz≤l.length) (hl:l≠[]):Rd w (.slice (some ⟨b,off+lo,none⟩) sz (c - lo)) ((l.drop lo).take sz):=by
 by_cases h0:sz=0
 ·subst h0;exact .inl ⟨by simp,.inr ⟨_,_,rfl⟩⟩
 ·obtain ⟨b',off',e,_,_,h3⟩:=qk5 h lo (lo+sz) (by omega) h2
  cases e;rw [show lo+sz - lo=sz by omega] at h3;exact h3
theorem qom {w:World} {a:Option Addr} {n c:Nat} {l:List UInt8} (h:Rd w (.slice a n c) l) (hl:l≠[]):∃b off,a=some ⟨b,off,none⟩∧n≤c:=by
 rcases h with ⟨rfl,_⟩ | ⟨b,off,c',e,e1,e2,hc⟩
 ·exact absurd rfl hl
 ·cases e;exact ⟨b,off,rfl,e1⟩
theorem RdD.d1 {w:World} {x1:Option Addr} {m1 d1:Nat} {v2 v3:Value} {d:Dk} (h:RdD w (.agg #[.slice x1 m1 d1,v2,v3]) d):Rd w (.slice x1 m1 d1) d.1:=by
 obtain ⟨x,y,z,e,h1,h2,h3⟩:=h;have e1:_=x:=congrArg (fun v:Value=>match v with | .agg z=>z[0]! | _=>undef) e
 simp at e1
 rw [e1];exact h1
theorem RdD.d2 {w:World} {v1 v2 v3:Value} {d:Dk} (h:RdD w (.agg #[v1,v2,v3]) d):RdW w v2 d.2.1:=by
 obtain ⟨x,y,z,e,h1,h2,h3⟩:=h;have e1:_=y:=congrArg (fun v:Value=>match v with | .agg z=>z[1]! | _=>undef) e
 simp at e1
 rw [e1];exact h2
theorem qyj {f:Fsd} {ge sz:Nat} (hL:qbj f.1=(ge,sz,0)) (hg:ge=f.2.1) (ha:f.1.2.1.any (fun p=>decide (p.1<34))=false):
  decide (okFs f)=(decide (qdg (genB f.1 ge sz) (mny f.1)=0) && decide (qgf (genB f.1 ge sz) (mny f.1)=f.2.2.2) && decide (chkF f.2.2.1 (mny f.1)=0)):=by
 subst hg
 have h1:∀p∈f.1.2.1,34≤p.1:=by
  intro p hp
  have:=List.any_eq_false.1 ha p hp
  simp at this;omega
 rw [Bool.eq_iff_iff]
 simp only [decide_eq_true_eq,Bool.and_eq_true]
 unfold okFs;rw [hL]
 constructor
 ·rintro ⟨_,_,_,h2,h3,h4⟩;exact ⟨⟨h2,h3⟩,h4⟩
 ·rintro ⟨⟨h2,h3⟩,h4⟩;exact ⟨rfl,rfl,h1,h2,h3,h4⟩
theorem qj2 {f:Fsd} {ge sz:Nat} {er:Int} (hL:qbj f.1=(ge,sz,er)) (h:er≠0∨ge≠f.2.1):decide (okFs f)=false:=by
 rw [decide_eq_false_iff_not];rintro ⟨h1,h2,_⟩;rw [hL] at h1 h2
 rcases h with h | h
 ·exact h h1
 ·exact h h2
theorem qabm {f:Fsd} (h:f.1.2.1.any (fun p=>decide (p.1<34))=true):decide (okFs f)=false:=by
 rw [decide_eq_false_iff_not];rintro ⟨_,_,h3,_⟩;obtain ⟨p,hp,h4⟩:=List.any_eq_true.1 h
 have:=h3 p hp
 simp at h4
 omega
theorem qld {d:Dk} {ge sz:Nat} (h:qbj d=(ge,sz,0)):sz≤2048∧ge<4294967296∧d.1.length=128*mny d∧34<mny d∧mny d≤4096∧okD d=true:=by
 obtain ⟨h1,h2,hg,hb⟩:=qm1 h
 have:=qvn hb hg
 have h3:=(qdh d).1 h1
 refine ⟨?_, ?_,by have:=h3.1;unfold mny;omega,h2,h3.2.2.1,h1⟩<;>
 ·unfold qd0 at this
  split at this
  ·have e1:=congrArg Prod.fst this
   have e2:=congrArg Prod.snd this
   simp only at e1 e2
   have:=qx7 (blk d.1 (ge % 2))
   omega
  ·have e1:=congrArg Prod.fst this
   simp only at e1
   omega
theorem qt6 {d:Dk} {ge sz:Nat} (h:qbj d=(ge,sz,0)):(genB d ge sz).length=sz:=by
 obtain ⟨h1,h2,h3,h4,_⟩:=qld h;unfold genB;rw [List.length_take,List.length_drop];omega
theorem qabn (x:FsV) (f:Fsd) (w:World) (h:RdX w x f) (hw:WfX f):
  Calls Tryz.prog 63 #[x.val] w fun e w'=>e=.returned (.bool (decide (okFs f)))∧Below w.heap.size w w':=by
 have HW:=hide hw;clear hw;obtain ⟨w1,ew⟩:∃w1,w.alloc (.cells x.cs 32)=w1:=⟨_,rfl⟩
 have hb1:Below w.heap.size w w1:=by rw [←ew];exact (Below.refl _ _).alloc (Nat.le_refl _) _
 have qcv:=hide (show FsAt w1 w.heap.size x by rw [←ew];exact Bq.new _ _ _);obtain ⟨k0,k1,k2,k3,k4,k5⟩:=qab qcv.out;have HX:=hide h;have qag:=hide hb1;clear h hb1;unfold FsV.val;unfold FsV.cs at ew
 go_enter Tryz.func63,Tryz.ntmps63
 go_wp2_with fail
 refine (qsb (d:=f.1) w1 (HX.out.d.carry qag.out)).mono ?_
 rintro e w2 ⟨rfl,hb2⟩;have qlz:=hide (qcv.out.carry hb2);have qai:=bT qag hb2;clear k0 k1 k2 k3 k4 k5 ew hb2;obtain ⟨ge,sz,er,hL⟩:∃ge sz er,qbj f.1=(ge,sz,er):=⟨_,_,_,rfl⟩;rw [hL];have HL:=hide hL;clear hL;obtain ⟨k0,k1,k2,k3,k4,k5⟩:=qab qlz.out
 by_cases g1:¬er=0
 ·have HN:=hide (qj2 HL.out (.inl g1))
  go_wp2;go_ret;rw [HN.out];exact ⟨rfl,qai.out⟩
 rw [Decidable.not_not] at g1;subst g1
 by_cases g2:¬ge=x.g
 ·have HN:=hide (qj2 HL.out (.inr (by rw [←HX.out.g];exact g2)))
  have g2':¬(ge:Int)=x.g:=by omega
  clear g2;go_wp2;go_ret;rw [HN.out];exact ⟨rfl,qai.out⟩
 rw [Decidable.not_not] at g2;subst g2
 go_wp2_with fail
 refine (qlc _ _ _ f.1.2.1 w2 (HX.out.d.d2.carry qai.out) HX.out.n2).mono ?_
 rintro e w3 ⟨rfl,hb3⟩;have qsd:=hide (qlz.out.carry hb3);have qao:=bT qai hb3;clear k0 k1 k2 k3 k4 k5 hb3;obtain ⟨an,han⟩:∃an,f.1.2.1.any (fun p=>decide (p.1<34))=an:=⟨_,rfl⟩;rw [han];have HA:=hide han;clear han
 cases an with
 | true=>
  have HN:=hide (qabm HA.out);go_wp2;go_ret;rw [HN.out];exact ⟨rfl,qao.out⟩
 | false=>
 have HE:=hide (qyj HL.out HX.out.g HA.out);have HLT:=hide (qld HL.out);have HGL:=hide (qt6 HL.out);have HM:=hide (qj1 HLT.out.2.2.2.2.2);obtain ⟨B,hB⟩:∃B:Int,B=mny f.1:=⟨_,rfl⟩;rw [←hB] at HE HM;have HB0:=hide hB;clear HA hB
 go_wp2_with fail
 obtain ⟨ar,har⟩:∃ar,ar=2+x.g % 2*16:=⟨_,rfl⟩;have hsw:=qg7 x.g w3 HLT.out.2.1;rw [←har] at hsw;have HAR:=hide har;clear har
 refine hsw.mono ?_
 clear hsw;rintro e w3' ⟨rfl,ew3⟩;subst w3';obtain ⟨k0,k1,k2,k3,k4,k5⟩:=qab qsd.out
 go_wp2_with fail
 refine (qol x f w3 (HX.out.carry qao.out)).mono ?_
 rintro e w4 ⟨rfl,hb4⟩;have HF_w4:=hide (qsd.out.carry hb4);have qca:=bT qao hb4;clear k0 k1 k2 k3 k4 k5 hb4;obtain ⟨hsz,hge,hlen,hm,hm2,hok⟩:=HLT.out;obtain ⟨b9,o9,ea,hnc⟩:=qom (HX.out.d.d1) (by intro e;rw [e] at hlen;simp at hlen;omega);obtain ⟨lo,hlo⟩:∃lo,lo=ar*128:=⟨_,rfl⟩;have hwr:=qyi HAR.out hlo;obtain ⟨y1,y2,y3,y4,y5,y6,y7⟩:=lo_ok (HX.out.n1.trans hlen) hm hsz hnc HAR.out hlo;have hrd:=qaek (by have:=HX.out.d.d1.carry qca.out;rw [ea] at this;exact this) lo sz (by rw [←HX.out.n1];exact y6) (by intro e;rw [e] at hlen;simp at hlen;omega)
 have hgb:(f.1.1.drop lo).take sz=genB f.1 x.g sz:=by unfold genB;rw [hlo,HAR.out,Nat.mul_comm]
 rw [hgb] at hrd;have hR:=qye _ _ _ (genB f.1 x.g sz) (qbe f) w4 hrd HGL.out.symm (by rw [HGL.out];omega);rw [HM.out] at hR ⊢;have HSZ:=hide (show sz≤2048 from hsz);clear hrd hgb hsz hge hlen hm hm2 hlo hok y6 y7 hnc;obtain ⟨k0,k1,k2,k3,k4,k5⟩:=qab HF_w4.out;rw [ea] at k0
 go_wp2_with fail
 refine hR.mono ?_
 rintro e w5 ⟨v5,rfl,ho5,hb5⟩;have HF_w5:=hide (HF_w4.out.carry hb5);have qi5:=bT qca hb5;clear k0 k1 k2 k3 k4 k5 hb5 hR hwr y1 y2 y3 y4 y5;obtain ⟨L,hL⟩:∃L,L=qgf (genB f.1 x.g sz) B:=⟨_,rfl⟩;rw [←hL] at ho5 HE;obtain ⟨m5,hm5⟩:∃m5,m5=L.length:=⟨_,rfl⟩
 obtain ⟨u5,z5,e5⟩:∃a c,v5=.slice a m5 c:=by rw [hm5];exact ho5.form
 subst e5;have HO5:=hide ho5.rd;have HM5:=hide hm5;obtain ⟨w6,ew6⟩:∃w6,w5.alloc (.cells #[.slice u5 m5 z5] 30)=w6:=⟨_,rfl⟩
 have hb6:Below w5.heap.size w5 w6:=by rw [←ew6];exact (Below.refl _ _).alloc (Nat.le_refl _) _
 have HF_w6:=hide (HF_w5.out.carry hb6);have qhc:=bT qi5 hb6;have HO6:=hide (HO5.out.carry hb6);clear ho5 hm5 hL HO5;obtain ⟨k0,k1,k2,k3,k4,k5⟩:=qab HF_w6.out
 have k9:w6.cell? ⟨w5.heap.size,0,none⟩=some (.slice u5 m5 z5):=by rw [←ew6];simp
 clear hb6
 by_cases g3:¬qdg (genB f.1 x.g sz) B=0
 ·rw [decide_eq_false g3] at HE
  go_wp2;go_ret;rw [HE.out];exact ⟨rfl,by assumption⟩
 rw [Decidable.not_not] at g3;rw [g3];rw [decide_eq_true g3] at HE;clear g3
 go_wp2_with fail
 refine (qw7 u5 m5 z5 L x.a5 x.n5 x.c5 f.2.2.2 w6 HO6.out HM5.out (HX.out.kl.carry qhc.out) HX.out.n5).mono ?_
 rintro e w7 ⟨rfl,hb7⟩;have HF_w7:=hide (HF_w6.out.carry hb7);have qjm:=bT qhc hb7;clear k0 k1 k2 k3 k4 k5 k9 hb7 ew6
 by_cases g4:¬L=f.2.2.2
 ·rw [decide_eq_false g4] at HE ⊢
  go_wp2;go_ret;rw [HE.out];exact ⟨rfl,qjm.out⟩
 rw [Decidable.not_not] at g4;rw [decide_eq_true g4] at HE ⊢;clear g4;obtain ⟨k0,k1,k2,k3,k4,k5⟩:=qab HF_w7.out
 go_wp2_with fail
 refine (qek _ _ _ f.2.2.1 B w7 (HX.out.fl.carry qjm.out) HX.out.n4 HW.out.fl).mono ?_
 rintro e w8 ⟨rfl,hb8⟩;have qge:=bT qjm hb8;clear k0 k1 k2 k3 k4 k5 hb8
 by_cases g5:chkF f.2.2.1 B=0
 ·rw [g5]
  rw [decide_eq_true g5] at HE;clear g5;go_wp2;go_ret;rw [HE.out];exact ⟨rfl,qge.out⟩
 ·rw [decide_eq_false g5] at HE
  have HQ:=hide (show (chkF f.2.2.1 B==0)=false by simpa using g5);clear g5;go_wp2;go_ret;rw [HE.out];exact ⟨congrArg (fun z=>Ending.returned (Value.bool z)) HQ.out,qge.out⟩
theorem qt7 (x:FsV) (f:Fsd) (w:World) (h:RdX w x f) (hw:WfX f):
  Calls Tryz.prog 22 #[x.val] w fun e w'=>e=.returned (.int .i64 (fsE f))∧Below w.heap.size w w':=by
 have HW:=hide hw;clear hw;obtain ⟨w1,ew⟩:∃w1,w.alloc (.cells x.cs 32)=w1:=⟨_,rfl⟩
 have hb1:Below w.heap.size w w1:=by rw [←ew];exact (Below.refl _ _).alloc (Nat.le_refl _) _
 have qcv:=hide (show FsAt w1 w.heap.size x by rw [←ew];exact Bq.new _ _ _);obtain ⟨k0,k1,k2,k3,k4,k5⟩:=qab qcv.out;have HX:=hide h;have qag:=hide hb1;clear h hb1;unfold FsV.val;unfold FsV.cs at ew
 go_enter Tryz.func22,Tryz.ntmps22
 go_wp2_with fail
 refine (qabn x f w1 (HX.out.carry qag.out) HW.out).mono ?_
 rintro e w2 ⟨rfl,hb2⟩;have qai:=bT qag hb2;clear k0 k1 k2 k3 k4 k5 ew hb2
 rcases qcc f with ⟨g1,g2⟩ | ⟨g1,g2⟩
 ·have HE:=hide g2
  rw [decide_eq_true g1];clear g1 g2;go_wp2;go_ret;rw [HE.out];exact ⟨rfl,qai.out⟩
 ·have HE:=hide g2
  rw [decide_eq_false g1];clear g1 g2;go_wp2;go_ret;rw [HE.out];exact ⟨rfl,qai.out⟩
theorem qon {a b:Int} {l:List Ex} {w:Int} (ha:0≤a) (h:qdd a b l w=0):∀x∈qde a b l w,wfX x:=by
 obtain ⟨f1,f2,r,f3,f4⟩:=qaao h;obtain ⟨r1,r2,r3⟩:=qgt f1;obtain ⟨g1,g2,g3,g4⟩:=qjq f1
 rcases qoz (qcz a b l) w f2 (fun x hx=>(r1.1 x hx).2.1) with ⟨k1,_⟩ | ⟨p,x,q,c,k1,k2,k3,k4,k5⟩
 ·rw [k1] at f3;cases f3
 rw [k2] at f3;cases f3;have hri:qlx a b (p++[(x.1,c)]):=qur (q:=q) (x:=x) (y:=(x.1,c)) (k1 ▸ r1) rfl k3 k4;rw [f4];intro y hy
 have:=hri.1 y hy
 unfold wfX;omega
end Go.Proofs.YthilibleedbchaaGreat

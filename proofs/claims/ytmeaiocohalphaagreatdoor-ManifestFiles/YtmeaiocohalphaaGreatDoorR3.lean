/-
  What the document's four, number, Block, Of, Where and Latest do.
-/
import Derived.Test.YtmeaiocohalphaaGreatDoorFiRd6
import Derived.Test.YtmeaiocohalphaaGreatDoorFiCut5
import Derived.Test.YtmeaiocohalphaaGreatDoorFiApart
import Derived.Test.YtmeaiocohalphaaGreatDoorSLat
import Derived.BigQuiet
set_option maxHeartbeats 8000000
set_option maxRecDepth 100000
namespace Go.Proofs.YtmeaiocohalphaaGreatDoor
open Go.RowKit
set_option linter.all false
theorem qmt {ops:Operand} {a:Act} {w:World} {v:Value} {l:List UInt8} {o:Oper} (ho:o.op=.convert 23 9 ops) (hv:a.eval ops=v) (h:Rd w v l):(execOp a.eval o).run Tryz.prog w=.ok (.value (.string (bs l))) w:=qyp ho Tryz.underlying23 Tryz.underlying5 Tryz.underlying9 hv h
theorem qaeb (m:Nat) (h:m≤4096):wrap64 (m:Int)=(m:Int):=by unfold wrap64;omega
theorem qaec (a:Option Addr) (n c:Nat) (b:List UInt8) (B:Int) (w:World) (hrd:Rd w (.slice a n c) b) (hn:n=b.length):
  Calls Tryz.prog 120 #[.slice a n c,.int .i64 B] w fun e w'=>∃v,e=.returned (.tuple #[.agg #[v],.int .i64 (qcv b B)])∧OwF w' w.heap.size v (qfv b B)∧Below w.heap.size w w':=by
 obtain ⟨W0,hW0⟩:∃W0,W0=w.alloc (.cells #[.slice none 0 0] 31):=⟨_,rfl⟩
 have hb0:Below w.heap.size w W0:=by rw [hW0];exact (Below.refl _ _).alloc (Nat.le_refl _) _
 have HA_W0:=hide (show BlkD W0 w.heap.size by rw [hW0];exact BlkD.new w _);have HB_W0:=hide hb0;have HR:=hide hrd;have HN:=hide hn;have hbm:=qj3 B W0;clear hrd hn hb0
 by_cases g1:blkP B
 case neg=>
  rw [decide_eq_false g1] at hbm;have HE:=hide (qre (b:=b) g1);have HL:=hide (qdn (b:=b) (B:=B) (by rw [HE.out];omega));clear g1
  go_enter Tryz.func120,Tryz.ntmps120
  go_wp2_with fail
  rw [←hW0];clear hW0
  refine (hbm).mono ?_
  rintro e w1 ⟨rfl,hb1⟩;have qbn:=hide (HA_W0.out.carry hb1);have qad:=bT HB_W0 hb1;clear HA_W0 HB_W0 hb1;clear hbm;have hc:=qbn.out.cell;have hf:=qbn.out.fz;obtain ⟨z0,hg, -⟩:=qbn.out.put (.slice none 0 0);obtain ⟨y,hy⟩:=qbn.out;have HOR:=hide (show OwF (w1.setCell ⟨w.heap.size,0,none⟩ (.slice none 0 0)) w.heap.size (.slice none 0 0) _ from OwF.nil _ _);have HBR:=hide (qad.out.grown hg qad.out.size (by intro k hk;cases hk;omega));clear hy hg;go_wp2;obtain ⟨w9,hw9⟩:∃w9,w9=w1.setCell ⟨w.heap.size,0,none⟩ (.slice none 0 0):=⟨_,rfl⟩;rw [←hw9] at z0 HOR HBR ⊢
  try simp only [Exit.inBlock,Exit.then]
  refine bodyPost_ret (v:=.tuple #[.agg #[.slice none 0 0],.int .i64 2]) ?_ rfl ⟨.slice none 0 0,by rw [HE.out],by rw [HL.out];exact HOR.out,HBR.out⟩
  clear hw9 hc hf
  simp [results,Tryz.results120,go_sem, *]
 rw [decide_eq_true g1] at hbm;have HBK:=hide g1;clear g1
 go_enter Tryz.func120,Tryz.ntmps120
 go_wp2_with fail
 rw [←hW0];clear hW0
 refine (hbm).mono ?_
 rintro e w1 ⟨rfl,hb1⟩;have qbn:=hide (HA_W0.out.carry hb1);have qad:=bT HB_W0 hb1;clear HA_W0 HB_W0 hb1;clear hbm
 by_cases g2:2048<n
 ·have g2':(2048:Int)<n:=by omega
  have HE:=hide (qnh HBK.out (by have:=HN.out;omega:2048<b.length));have HL:=hide (qdn (b:=b) (B:=B) (by rw [HE.out];omega));have hc:=qbn.out.cell;have hf:=qbn.out.fz;obtain ⟨z0,hg, -⟩:=qbn.out.put (.slice none 0 0);obtain ⟨y,hy⟩:=qbn.out;have HOR:=hide (show OwF (w1.setCell ⟨w.heap.size,0,none⟩ (.slice none 0 0)) w.heap.size (.slice none 0 0) _ from OwF.nil _ _);have HBR:=hide (qad.out.grown hg qad.out.size (by intro k hk;cases hk;omega));clear hy hg;go_wp2;obtain ⟨w9,hw9⟩:∃w9,w9=w1.setCell ⟨w.heap.size,0,none⟩ (.slice none 0 0):=⟨_,rfl⟩;rw [←hw9] at z0 HOR HBR ⊢
  try simp only [Exit.inBlock,Exit.then]
  refine bodyPost_ret (v:=.tuple #[.agg #[.slice none 0 0],.int .i64 3]) ?_ rfl ⟨.slice none 0 0,by rw [HE.out],by rw [HL.out];exact HOR.out,HBR.out⟩
  clear hw9 hc hf
  simp [results,Tryz.results120,go_sem, *]
 have g2':decide ((2048:Int)<n)=false:=by simpa using (by omega:¬(2048:Int)<n)
 have HN2:=hide (show ¬2048<b.length by have:=HN.out;omega);have HBL:=hide (show b.length≤1000000 by have:=HN.out;omega);obtain ⟨X1,hX1⟩:∃X,X=w1.alloc (.cells #[.slice a n c,.bool false] 200):=⟨_,rfl⟩;obtain ⟨X2,hX2⟩:∃X,X=X1.alloc (.cells #[.slice none 0 0] 31):=⟨_,rfl⟩
 have hbx1:Below w1.heap.size w1 X1:=by rw [hX1];exact (Below.refl _ _).alloc (Nat.le_refl _) _
 have hbx2:Below X1.heap.size X1 X2:=by rw [hX2];exact (Below.refl _ _).alloc (Nat.le_refl _) _
 obtain ⟨R0,hR0⟩:∃R,R=w.heap.size:=⟨_,rfl⟩;obtain ⟨Rb,hRb⟩:∃R,R=w1.heap.size:=⟨_,rfl⟩;obtain ⟨Db,hDb⟩:∃D,D=w1.heap.size+1:=⟨_,rfl⟩;obtain ⟨Bs,hBs⟩:∃B,B=w1.heap.size+2:=⟨_,rfl⟩
 have hsx1:X1.heap.size=w1.heap.size+1:=by rw [hX1];simp
 have hsx2:X2.heap.size=w1.heap.size+2:=by rw [hX2];simp [hsx1]
 have h0w:w.heap.size<w1.heap.size:=by obtain ⟨y,hy⟩:=qbn.out;exact (Array.getElem?_eq_some_iff.1 hy).1
 have HRX:=hide (show RdrAt X2 Rb (.slice a n c) false by rw [hRb];refine RdrAt.carry ?_ hbx2;rw [hX1];exact RdrAt.new w1 _ _)
 have HMX:=hide (show MemD w R0 Rb Db Bs (.slice none 0 0) [] X2 by
  refine ⟨?_,OwF.nil _ _, ?_,qad.out.trans ((hbx1.trans (hbx2.mono hbx1.size)).mono qad.out.size),by omega,by omega,by omega,by omega,by omega,by omega,by omega,by omega,by omega,by omega⟩
  ·rw [hDb,←hsx1,hX2];exact DirAt.new X1 _
  ·rw [hR0];exact (qbn.out.carry hbx1).carry hbx2)
 have HXB:=hide HMX.out.2.2.2.1
 go_wp2_with fail
 rw [←hX1,←hX2];rw [←hDb];rw [←hRb];rw [←hR0]
 refine (qfc Rb a n c b false 40 X2 HRX.out (HR.out.carry HXB.out) HN.out HBL.out).mono ?_
 rintro e x1 ⟨m0,l1,bad1,rfl,hnr,a1,c1,hs1,hr1,hg1,hk1⟩;have hm0:m0≤40:=hnr.le.1;have HQ1:=hide (qzr hnr);have HL1:=hide hnr.le.2;have HM1:=hide (HMX.out.rdr HRX.out hg1 hk1);have HR1:=hide hr1;have HS1:=hide hs1;clear hnr hr1 hg1 hk1 hs1 HRX HMX HXB hX1 hX2 hbx1 hbx2 hR0 hRb hDb hBs hsx1 hsx2 h0w qbn qad;obtain ⟨q1,hq1⟩:∃q,q=l1.length:=⟨_,rfl⟩;rw [←hq1] at HR1 HS1;have HQL1:=hide hq1;clear hq1;go_wp2
 go_loopw [9] (fun i wr=>∃k:Nat,k≤m0∧i=.int .u64 k∧∃av nv cv l bad vd ds,Hid (nv=l.length)∧Hid (l.length≤b.length)∧Hid (RdrAt wr Rb (.slice av nv cv) bad)∧Hid (SubX (.slice a n c) b (.slice av nv cv) l)∧Hid (MemD w R0 Rb Db Bs vd ds wr)∧Hid (ds.length≤k)∧Hid (∀f∈ds,∀x∈f.2,smX x)∧Hid (OutQ b m0 k ds l bad)) (fun i _=>m0 - (intOf i).toNat)
 case atStart=>exact ⟨0,Nat.zero_le _,rfl,a1,q1,c1,l1,bad1,.slice none 0 0,[],HQL1,HL1,HR1,HS1,HM1,hide (Nat.le_refl _),hide (by simp),HQ1⟩
 case round=>
  obtain ⟨k,hk,rfl,av,nv,cv,l,bad,vd,ds,hnv,hlb,hra,hsx,hmd,hdl,hsm,hoq⟩:=hrel;have rb:=hra.out.cell1
  by_cases hgo:k<m0∧bad=false
  ·obtain ⟨hlt,rfl⟩:=hgo
   have hlt':(k:Int)<m0:=by omega
   have HRl:=hide (hsx.out.1 _ (HR.out.carry hmd.out.2.2.2.1))
   go_wp2_with fail
   refine (qx6 Rb av nv cv l false wr hra.out HRl.out hnv.out (by have:=hlb.out;have:=HBL.out;omega)).mono ?_
   rintro e y1 ⟨s,l2,bad2,rfl,htr,a2,c2,hs2,hr2,hg2,hk2⟩;have HTR:=hide htr;have HL2:=hide (Nat.le_trans htr.le hlb.out);have HS2:=hide (hsx.out.trans hs2);have HM2:=hide (hmd.out.rdr hra.out hg2 hk2);have HR2:=hide hr2;clear htr hs2 hr2 hg2 hk2 HRl rb;obtain ⟨q2,hq2⟩:∃q,q=l2.length:=⟨_,rfl⟩;rw [←hq2] at HR2 HS2;have HQL2:=hide hq2;clear hq2;obtain ⟨y2,hy2⟩:∃X,X=y1.alloc (.cells #[.string (bs s),.slice none 0 0] 98):=⟨_,rfl⟩
   have hby:Below y1.heap.size y1 y2:=by rw [hy2];exact (Below.refl _ _).alloc (Nat.le_refl _) _
   obtain ⟨F,hF⟩:∃F,F=y1.heap.size:=⟨_,rfl⟩;have HR3:=hide (HR2.out.carry hby);have HM3:=hide (HM2.out.carry hby);have HF3:=hide (show Mem y1 Rb F (F+1) (bs s) (.slice none 0 0) [] y2 from ⟨by rw [hy2,hF];exact FileAt.new y1 _ _,OwE.nil _ _,qdt (qzs y1 _) hby,by rw [hy2,hF];simp,(Array.getElem?_eq_some_iff.1 HR2.out).1,hF,rfl⟩);have HRl:=hide (HS2.out.1 _ (HR.out.carry HM3.out.2.2.2.1))
   go_wp2_with fail
   rw [←hy2];rw [←hF];clear hby hy2 hF
   refine (qfc Rb a2 q2 c2 l2 bad2 64 y2 HR3.out HRl.out HQL2.out (by have:=HL2.out;have:=HBL.out;omega)).mono ?_
   rintro e y3 ⟨m,l3,bad3,rfl,hnr,a3,c3,hs3,hr3,hg3,hk3⟩;have hm:m≤64:=hnr.le.1;have HIQ:=hide (qaea hoq.out hlt HTR.out hnr);have HL3:=hide (Nat.le_trans hnr.le.2 HL2.out);have HS3:=hide (HS2.out.trans hs3);have HF4:=hide (HF3.out.rdr HR3.out hg3 hk3);have HR4:=hide hr3;clear hnr hs3 hr3 hg3 hk3 HRl HM3 HF3 HR3 HTR;obtain ⟨q3,hq3⟩:∃q,q=l3.length:=⟨_,rfl⟩;rw [←hq3] at HR4 HS3;have HQL3:=hide hq3;clear hq3;go_wp2
   go_loopw [12] (fun i wx=>∃j:Nat,j≤m∧i=.int .u64 j∧∃aw nw cw lw badw ve es,Hid (nw=lw.length)∧Hid (lw.length≤b.length)∧Hid (RdrAt wx Rb (.slice aw nw cw) badw)∧Hid (SubX (.slice a n c) b (.slice aw nw cw) lw)∧Hid (Mem y1 Rb F (F+1) (bs s) ve es wx)∧Hid (es.length≤j)∧Hid (∀x∈es,smX x)∧Hid (InQ b k s m j es lw badw)) (fun i _=>m - (intOf i).toNat)
   case atStart=>exact ⟨0,Nat.zero_le _,rfl,a3,q3,c3,l3,bad3,.slice none 0 0,[],HQL3,HL3,HR4,HS3,HF4,hide (Nat.le_refl _),hide (by simp),HIQ⟩
   case round=>
    obtain ⟨j,hj,rfl,aw,nw,cw,lw,badw,ve,es,hnw,hlw,hrw,hsw,hmw,hel,hse,hiq⟩:=hrel;obtain ⟨wx,hwx⟩:∃x,x=wr:=⟨_,rfl⟩;rw [←hwx] at hrw hmw ⊢;clear hwx;have rb2:=hrw.out.cell1;have HMD:=hide (HM2.out.after HR2.out hmw.out.2.2.1)
    by_cases hgi:j<m∧badw=false
    ·obtain ⟨hji,rfl⟩:=hgi
     have hji':(j:Int)<m:=by omega
     have HRl:=hide (hsw.out.1 _ (HR.out.carry HMD.out.2.2.2.1))
     go_wp2_with fail
     refine (qfc Rb aw nw cw lw false 4096 wx hrw.out HRl.out hnw.out (by have:=hlw.out;have:=HBL.out;omega)).mono ?_
     rintro e z1 ⟨x,l4,bad4,rfl,hnx,a4,c4,hs4,hr4,hg4,hk4⟩;have hx4:x≤4096:=hnx.le.1;have HNX:=hide hnx;have HL4:=hide (Nat.le_trans hnx.le.2 hlw.out);have HS4:=hide (hsw.out.trans hs4);have HM4:=hide (hmw.out.rdr hrw.out hg4 hk4);have HD4:=hide (HMD.out.rdr hrw.out hg4 hk4);have HR5:=hide hr4;clear hnx hs4 hr4 hg4 hk4 HRl rb2 hrw hmw HMD;obtain ⟨q4,hq4⟩:∃q,q=l4.length:=⟨_,rfl⟩;rw [←hq4] at HR5 HS4;have HQL4:=hide hq4;clear hq4;obtain ⟨z2,hz2⟩:∃X,X=z1.alloc (.cells #[.int .i64 x,.int .i64 0] 237):=⟨_,rfl⟩
     have hbz:Below z1.heap.size z1 z2:=by rw [hz2];exact (Below.refl _ _).alloc (Nat.le_refl _) _
     obtain ⟨X,hX⟩:∃X,X=z1.heap.size:=⟨_,rfl⟩;have HXX:=hide (show ExtAt z2 X (.int .i64 x) (.int .i64 0) by rw [hz2,hX];exact ExtAt.new z1 _ _)
     have hltX:∀g,ve.ownBlock=some g→g<X:=by rw [hX];exact own_lt HM4.out.2.1
     have hBX:F+1≤X:=by rw [hX];exact HM4.out.2.2.2.1
     have HLX:=hide hltX;have HBX:=hide hBX;have HR6:=hide (HR5.out.carry hbz);have HM6:=hide (HM4.out.carry hbz);have HRl:=hide (HS4.out.1 _ (HR.out.carry (HD4.out.carry hbz).2.2.2.1));have w64:=qaeb x hx4;clear hltX hBX hbz HR5 HM4
     go_wp2_with fail
     rw [←hz2];rw [←hX];clear hz2 hX
     refine (qfc Rb a4 q4 c4 l4 bad4 4096 z2 HR6.out HRl.out HQL4.out (by have:=HL4.out;have:=HBL.out;omega)).mono ?_
     rintro e z3 ⟨y,l5,bad5,rfl,hny,a5,c5,hs5,hr5,hg5,hk5⟩;have hy4:y≤4096:=hny.le.1;have HIN:=hide (qahx hiq.out hji HNX.out hny);have HL5:=hide (Nat.le_trans hny.le.2 HL4.out);have HS5:=hide (HS4.out.trans hs5);have HM7:=hide (HM6.out.rdr HR6.out hg5 hk5);have HX7:=hide (HXX.out.keepT (by decide) hk5);obtain ⟨q5,hq5⟩:∃q,q=l5.length:=⟨_,rfl⟩;rw [←hq5] at hr5 HS5;have HQL5:=hide hq5;clear hq5;obtain ⟨z4,hz4⟩:∃z,z=z3.setCell ⟨X,1,none⟩ (.int .i64 y):=⟨_,rfl⟩;have HM8:=hide (show Mem y1 Rb F (F+1) (bs s) ve es z4 by rw [hz4];exact HM7.out.setX HX7.out HLX.out HBX.out _);have HX8:=hide (show ExtAt z4 X (.int .i64 x) (.int .i64 y) by rw [hz4];exact HX7.out.put1 _);have HR8:=hide (show RdrAt z4 Rb (.slice a5 q5 c5) bad5 by rw [hz4];exact hr5.keepT (by decide) (KeepT.set HX7.out));have xc0:=HX7.out.cell0;have xc1:=HX7.out.cell1;have xfz:=frozen_of_row z3 X 1 _ _ HX7.out;have u0:=HX8.out.cell0;have u1:=HX8.out.cell1;have f8:=HM8.out.1.cell1;obtain ⟨av2,cv2,hve⟩:=HM8.out.2.1.form;subst hve;obtain ⟨g9,c9,w9,hrun,hF9,hM10,hR10⟩:=HM8.out.app HR8.out (by have:=hel.out;omega) (x:Int) (y:Int);have HM10:=hide hM10;have HR10:=hide hR10;have f9:=hF9.cell1;have ffz:=frozen_of_row w9 F 1 _ _ hF9;have w65:=qaeb y hy4;have HEL:=hide (show (es++[((x:Int),(y:Int))]).length≤j+1 by rw [List.length_append];have:=hel.out;simp;omega)
     have HSE:=hide (show ∀z∈es++[((x:Int),(y:Int))],smX z by
      intro z hz
      rcases List.mem_append.1 hz with hz | hz
      ·exact hse.out z hz
      ·obtain rfl:z=((x:Int),(y:Int)):=by simpa using hz
       unfold smX
       simp only
       omega)
     clear hny hs5 hr5 hg5 hk5 HRl hM10 hR10 hF9 HM6 HR6 HXX HM7 HX7 HM8 HX8 HR8 HLX HBX hse hel hiq HNX HD4 HL4 HS4;obtain ⟨fl,hfl⟩:∃fl,fl=es.length:=⟨_,rfl⟩;rw [←hfl] at hrun f8 f9 HM10 HR10;clear hfl;obtain ⟨N9,hN9⟩:∃N,N=fl+1:=⟨_,rfl⟩;rw [←hN9] at hrun HM10 HR10;clear hN9;rw [show z4.heap.size=z3.heap.size by rw [hz4];simp] at hrun;rw [hz4] at hrun u0 u1 f8
     go_wp2_with (at_builtin;refine qaf rfl (.tmp 65) (.tmp 67) 96 rfl rfl rfl rfl hrun ?_)
     try clear hrun
     generalize w9.setCell ⟨F,1,none⟩ (.slice (some ⟨g9,0,none⟩) N9 c9)=wz at *;go_roundw
     case rel=>exact ⟨j+1,by omega,rfl,a5,q5,c5,l5,bad5,_,_,HQL5,HL5,HR10,HS5,HM10,HEL,HSE,HIN⟩
     case measure=>simp only [intOf];omega
    ·have HEND:=hide hgi
     clear hgi
     by_cases hjm:j<m
     ·have hbt:badw=true:=by
       cases badw with
       | true=>rfl
       | false=>exact absurd ⟨hjm,rfl⟩ HEND.out
      subst hbt
      have hjm':(j:Int)<m:=by omega
      have hcond:True:=trivial;have dz:=HMD.out.1.cell;have f0:=hmw.out.1.cell0;have f1:=hmw.out.1.cell1;obtain ⟨avd,cvd,hvd⟩:=HMD.out.2.1.form;subst hvd;obtain ⟨av2,cv2,hve⟩:=hmw.out.2.1.form;subst hve;obtain ⟨g9,c9,w9,hrun,hD9,hM10,hR10⟩:=HMD.out.app hrw.out (by have:=hdl.out;omega) s _ es (hmw.out.2.1.mono (by have h1:=hmw.out.2.2.2.2;have h2:=HM2.out.2.2.2.2.1;omega));have d9:=hD9.cell;have dfz:=frozen_of_row w9 Db 0 _ _ hD9;have HM10:=hide hM10;have HR10:=hide hR10;have HDL:=hide (show (ds++[(s,es)]).length≤k+1 by rw [List.length_append];have:=hdl.out;simp;omega)
      have HSM:=hide (show ∀f∈ds++[(s,es)],∀x∈f.2,smX x by
       intro f hf
       rcases List.mem_append.1 hf with hf | hf
       ·exact hsm.out f hf
       ·obtain rfl:f=(s,es):=by simpa using hf
        exact hse.out)
      have HOQ:=hide (qti hoq.out hiq.out hj HEND.out);clear hM10 hR10 hD9 HMD hmw hrw hse hel hiq hoq hdl hsm;obtain ⟨fl,hfl⟩:∃fl,fl=ds.length:=⟨_,rfl⟩;rw [←hfl] at hrun dz d9 HM10 HR10;clear hfl;obtain ⟨el,hel⟩:∃el,el=es.length:=⟨_,rfl⟩;rw [←hel] at hrun f1;clear hel;obtain ⟨N9,hN9⟩:∃N,N=fl+1:=⟨_,rfl⟩;rw [←hN9] at hrun HM10 HR10;clear hN9
      go_wp2_with (at_builtin;refine qaf rfl (.tmp 71) (.tmp 73) 29 rfl rfl rfl rfl hrun ?_)
      try clear hrun
      generalize w9.setCell ⟨Db,0,none⟩ (.slice (some ⟨g9,0,none⟩) N9 c9)=wz at *;go_roundw
      case rel=>exact ⟨k+1,by omega,rfl,aw,nw,cw,lw,true,_,_,hnw,hlw,HR10,hsw,HM10,HDL,HSM,HOQ⟩
      case measure=>simp only [intOf];omega
     ·have hjm':decide ((j:Int)<m)=false:=by simpa using (by omega:¬(j:Int)<m)
      have hcond:True:=trivial;have dz:=HMD.out.1.cell;have f0:=hmw.out.1.cell0;have f1:=hmw.out.1.cell1;obtain ⟨avd,cvd,hvd⟩:=HMD.out.2.1.form;subst hvd;obtain ⟨av2,cv2,hve⟩:=hmw.out.2.1.form;subst hve;obtain ⟨g9,c9,w9,hrun,hD9,hM10,hR10⟩:=HMD.out.app hrw.out (by have:=hdl.out;omega) s _ es (hmw.out.2.1.mono (by have h1:=hmw.out.2.2.2.2;have h2:=HM2.out.2.2.2.2.1;omega));have d9:=hD9.cell;have dfz:=frozen_of_row w9 Db 0 _ _ hD9;have HM10:=hide hM10;have HR10:=hide hR10;have HDL:=hide (show (ds++[(s,es)]).length≤k+1 by rw [List.length_append];have:=hdl.out;simp;omega)
      have HSM:=hide (show ∀f∈ds++[(s,es)],∀x∈f.2,smX x by
       intro f hf
       rcases List.mem_append.1 hf with hf | hf
       ·exact hsm.out f hf
       ·obtain rfl:f=(s,es):=by simpa using hf
        exact hse.out)
      have HOQ:=hide (qti hoq.out hiq.out hj HEND.out);clear hM10 hR10 hD9 HMD hmw hrw hse hel hiq hoq hdl hsm;obtain ⟨fl,hfl⟩:∃fl,fl=ds.length:=⟨_,rfl⟩;rw [←hfl] at hrun dz d9 HM10 HR10;clear hfl;obtain ⟨el,hel⟩:∃el,el=es.length:=⟨_,rfl⟩;rw [←hel] at hrun f1;clear hel;obtain ⟨N9,hN9⟩:∃N,N=fl+1:=⟨_,rfl⟩;rw [←hN9] at hrun HM10 HR10;clear hN9
      go_wp2_with (at_builtin;refine qaf rfl (.tmp 71) (.tmp 73) 29 rfl rfl rfl rfl hrun ?_)
      try clear hrun
      generalize w9.setCell ⟨Db,0,none⟩ (.slice (some ⟨g9,0,none⟩) N9 c9)=wz at *;go_roundw
      case rel=>exact ⟨k+1,by omega,rfl,aw,nw,cw,lw,badw,_,_,hnw,hlw,HR10,hsw,HM10,HDL,HSM,HOQ⟩
      case measure=>simp only [intOf];omega
  ·have HEND:=hide hgo
   clear hgo;obtain ⟨hyes,hno⟩:=qahy HBK.out HN2.out hoq.out hk HEND.out;have HYES:=hide hyes;have HNO:=hide hno;have HWF:=hide (show wfFs ds from fun f hf x hx=>qais (hsm.out f hf x hx));clear hyes hno hoq hsm;obtain ⟨avd,cvd,hvd⟩:=hmd.out.2.1.form;subst hvd;obtain ⟨p,hp⟩:∃p,p=ds.length:=⟨_,rfl⟩;rw [←hp] at hmd;have HP:=hide hp;clear hp;have dz:=hmd.out.1.cell
   cases bad with
   | true=>
    have HE:=hide (HNO.out (by simp));have HL:=hide (qdn (b:=b) (B:=B) (by rw [HE.out];omega));have HA_wr:=hide hmd.out.2.2.1;have qfr:=hide hmd.out.2.2.2.1
    by_cases hlt:k<m0
    ·have hlt':(k:Int)<m0:=by omega
     go_wp2
     go_quiet (fail)
     obtain ⟨WQ,hWQ⟩:∃x,x=wr.drewN nq:=⟨_,rfl⟩
     have hbq:Below wr.heap.size wr WQ:=by rw [hWQ];exact below_drewN (Below.refl _ _) _
     rw [←hWQ];have HAq:=hide (HA_wr.out.carry hbq);have HBq:=hide (qfr.out.trans (hbq.mono qfr.out.size));have HSq:=hide hmd.out.2.2.2.2.2;clear hWQ hbq;have hc:=HAq.out.cell;have hf:=HAq.out.fz;obtain ⟨z0,hg, -⟩:=HAq.out.put (.slice none 0 0);obtain ⟨y,hy⟩:=HAq.out;have HOR:=hide (show OwF (WQ.setCell ⟨R0,0,none⟩ (.slice none 0 0)) w.heap.size (.slice none 0 0) _ from OwF.nil _ _);have HBR:=hide (HBq.out.grown hg HBq.out.size (by intro k hk;cases hk;have:=HSq.out;omega));clear hy hg;go_wp2;obtain ⟨w9,hw9⟩:∃w9,w9=WQ.setCell ⟨R0,0,none⟩ (.slice none 0 0):=⟨_,rfl⟩;rw [←hw9] at z0 HOR HBR ⊢
     try simp only [Exit.inBlock,Exit.then]
     refine bodyPost_ret (v:=.tuple #[.agg #[.slice none 0 0],.int .i64 8]) ?_ rfl ⟨.slice none 0 0,by rw [HE.out],by rw [HL.out];exact HOR.out,HBR.out⟩
     clear hw9 hc hf
     simp [results,Tryz.results120,go_sem, *]
    ·have hlt':decide ((k:Int)<m0)=false:=by simpa using (by omega:¬(k:Int)<m0)
     go_wp2
     go_quiet (fail)
     obtain ⟨WQ,hWQ⟩:∃x,x=wr.drewN nq:=⟨_,rfl⟩
     have hbq:Below wr.heap.size wr WQ:=by rw [hWQ];exact below_drewN (Below.refl _ _) _
     rw [←hWQ];have HAq:=hide (HA_wr.out.carry hbq);have HBq:=hide (qfr.out.trans (hbq.mono qfr.out.size));have HSq:=hide hmd.out.2.2.2.2.2;clear hWQ hbq;have hc:=HAq.out.cell;have hf:=HAq.out.fz;obtain ⟨z0,hg, -⟩:=HAq.out.put (.slice none 0 0);obtain ⟨y,hy⟩:=HAq.out;have HOR:=hide (show OwF (WQ.setCell ⟨R0,0,none⟩ (.slice none 0 0)) w.heap.size (.slice none 0 0) _ from OwF.nil _ _);have HBR:=hide (HBq.out.grown hg HBq.out.size (by intro k hk;cases hk;have:=HSq.out;omega));clear hy hg;go_wp2;obtain ⟨w9,hw9⟩:∃w9,w9=WQ.setCell ⟨R0,0,none⟩ (.slice none 0 0):=⟨_,rfl⟩;rw [←hw9] at z0 HOR HBR ⊢
     try simp only [Exit.inBlock,Exit.then]
     refine bodyPost_ret (v:=.tuple #[.agg #[.slice none 0 0],.int .i64 8]) ?_ rfl ⟨.slice none 0 0,by rw [HE.out],by rw [HL.out];exact HOR.out,HBR.out⟩
     clear hw9 hc hf
     simp [results,Tryz.results120,go_sem, *]
   | false=>
    have hlt:¬k<m0:=fun h=>HEND.out ⟨h,rfl⟩
    have hlt':decide ((k:Int)<m0)=false:=by simpa using (by omega:¬(k:Int)<m0)
    obtain ⟨S,eS⟩:∃S:World→Prop,S=fun wx=>RdrAt wx Rb (.slice av nv cv) false∧DirAt wx Db (.slice avd p cvd)∧RdF wx (.slice avd p cvd) ds∧Rd wx (.slice a n c) b∧Below wr.heap.size wr wx:=⟨_,rfl⟩
    have hK:Keeps S:=by rw [eS];exact fun _ _ h hb=>⟨h.1.carry hb,h.2.1.carry hb,h.2.2.1.carry hb,h.2.2.2.1.carry hb,h.2.2.2.2.trans (hb.mono h.2.2.2.2.size)⟩
    have hS0:S wr:=by rw [eS];exact ⟨hra.out,hmd.out.1,hmd.out.2.1.rd,HR.out.carry hmd.out.2.2.2.1,Below.refl _ _⟩
    rw [eS] at hK hS0;clear eS
    have hck:=fun wx (h:RdF wx (.slice avd p cvd) ds)=>qfo avd p cvd ds B wx h HP.out HWF.out
    by_cases hc0:chkF ds B=0
    ·rw [hc0] at hck
     have HC0:=hide hc0;have HMy:=hide (qeq hc0).2;clear hc0
     have hby:=fun wx (h:RdF wx (.slice avd p cvd) ds)=>qg3 avd p cvd ds wx h HP.out (qga HMy.out.1 HMy.out.2.1 HMy.out.2.2.1)
     have HCK:=hide hck;have HBY:=hide hby;clear hck hby;go_wp2;clear rb dz
     refine qaj hK (by kernel_rfl) hS0 ?_
     intro hS
     refine rP [0,1,2,3,4,5,6] 11 ?qa1 ?qp1 hS ?qn1
     case qp1=>
      iterate 7 (apply Yl.cons rfl (by kernel_rfl);focus (rintro wx ⟨y1,y2,y3⟩;(have x1:=y1.cell1);(have x2:=y2.cell);clear y1 y2 y3;go_simp;all_goals (with_reducible rfl));try simp only [Act.put,sA,sB,sC])
      exact Yl.nil
     try simp only [Act.put,sA,sB,sC]
     refine rV hK 7 (.int .i64 0) rfl hS (HCK.out _ hS.2.2.1) ?_
     clear hS;intro w83 hS
     try simp only [Act.put,sA,sB,sC]
     refine rP [8,9,10,11,14] 5 ?qa2 ?qp2 hS ?qn2
     case qp2=>
      iterate 5 (apply Yl.cons rfl (by kernel_rfl);focus (rintro wx ⟨y1,y2,y3⟩;(have x1:=y1.cell1);(have x2:=y2.cell);clear y1 y2 y3;go_simp;all_goals (with_reducible rfl));try simp only [Act.put,sA,sB,sC])
      exact Yl.nil
     try simp only [Act.put,sA,sB,sC]
     refine qkm (i:=15) (v:=.string (bs b)) rfl (by kernel_rfl) (by kernel_rfl) (by kernel_rfl) (by rfl) (fun wx hx=>qmt rfl rfl hx.2.2.2.1) hS ?_
     try simp only [Act.put,sA,sB,sC]
     refine qa9 (i:=12) (R:=fun v wx=>∃a6 c6,v=.slice a6 (bytF ds).length c6∧Rd wx (.slice a6 (bytF ds).length c6) (bytF ds)∧Below w83.heap.size w83 wx) rfl (by kernel_rfl) (by rfl) (by go_simp) ((HBY.out _ hS.2.2.1).mono fun e wx ⟨v,h1,h2,h3⟩=>by
      obtain ⟨a6,c6,hf⟩:=qqe h2;subst hf
      exact ⟨_,h1,a6,c6,rfl,qfy h2,h3⟩) ?_
     rintro v88 w88 ⟨a6,c6,rfl,hrd6,hb88⟩;have hS88:=hK _ _ hS hb88;refine ⟨hS88, ?_⟩;clear hS;have hS:=hS88
     try simp only [Act.put,sA,sB,sC]
     refine rR 13 (.string (bs (bytF ds))) w88 rfl (qmt rfl rfl hrd6) hS ?_
     try simp only [Act.put,sA,sB,sC]
     have heq:=qep (bytF ds) b;have HAz:=hide (hmd.out.2.2.1.carry hS.2.2.2.2);have HDz:=hide hS.2.1;have HOz:=hide (hmd.out.2.1.carry hS.2.2.2.2);have HBz:=hide (hmd.out.2.2.2.1.trans (hS.2.2.2.2.mono hmd.out.2.2.2.1.size));have HSzz:=hide hmd.out.2.2.2.2.2
     by_cases hbb:bytF ds=b
     ·have hq:((bs (bytF ds)).toList==(bs b).toList)=true:=by rw [heq,hbb];simp
      obtain ⟨hE0,hL0⟩:=HYES.out (by first | rfl | trivial) HC0.out hbb;have HE:=hide hE0;have HL:=hide hL0;clear hE0 hL0 heq hbb
      refine rP [16,17] 0 ?qa3 ?qp3 hS ?qn3
      case qp3=>
       iterate 2 (apply Yl.cons rfl (by kernel_rfl);focus (intro wx hx;clear hx;go_simp;all_goals (with_reducible rfl));try simp only [Act.put,sA,sB,sC])
       exact Yl.nil
      try simp only [Act.put,sA,sB,sC]
      refine rD ?_
      clear hS hS88 hK hS0;have d9:=HDz.out.cell;have hc:=HAz.out.cell;have hf:=HAz.out.fz;obtain ⟨z0,hg, -⟩:=HAz.out.put (.slice avd p cvd);obtain ⟨y,hy⟩:=HAz.out;have HOR:=hide (show OwF (w88.setCell ⟨R0,0,none⟩ (.slice avd p cvd)) w.heap.size (.slice avd p cvd) _ from (HOz.out.mono (by have:=HSzz.out;omega)).keptS hg hy (by decide) (by decide));have HBR:=hide (HBz.out.grown hg HBz.out.size (by intro k hk;cases hk;have:=HSzz.out;omega));clear hy hg;go_wp2;obtain ⟨w9,hw9⟩:∃w9,w9=w88.setCell ⟨R0,0,none⟩ (.slice avd p cvd):=⟨_,rfl⟩;rw [←hw9] at z0 HOR HBR ⊢
      try simp only [Exit.inBlock,Exit.then]
      refine bodyPost_ret (v:=.tuple #[.agg #[.slice avd p cvd],.int .i64 0]) ?_ rfl ⟨.slice avd p cvd,by rw [HE.out],by rw [HL.out];exact HOR.out,HBR.out⟩
      clear hw9 hc hf
      simp [results,Tryz.results120,go_sem, *]
     ·have hq:((bs (bytF ds)).toList==(bs b).toList)=false:=by rw [heq];simpa using hbb
      have HE:=hide (HNO.out (fun h=>hbb h.2.2));have HL:=hide (qdn (b:=b) (B:=B) (by rw [HE.out];omega));clear heq hbb
      refine rP [16,17] 0 ?qa4 ?qp4 hS ?qn4
      case qp4=>
       iterate 2 (apply Yl.cons rfl (by kernel_rfl);focus (intro wx hx;clear hx;go_simp;all_goals (with_reducible rfl));try simp only [Act.put,sA,sB,sC])
       exact Yl.nil
      try simp only [Act.put,sA,sB,sC]
      refine rD ?_
      clear hS hS88 hK hS0;have hc:=HAz.out.cell;have hf:=HAz.out.fz;obtain ⟨z0,hg, -⟩:=HAz.out.put (.slice none 0 0);obtain ⟨y,hy⟩:=HAz.out;have HOR:=hide (show OwF (w88.setCell ⟨R0,0,none⟩ (.slice none 0 0)) w.heap.size (.slice none 0 0) _ from OwF.nil _ _);have HBR:=hide (HBz.out.grown hg HBz.out.size (by intro k hk;cases hk;have:=HSzz.out;omega));clear hy hg;go_wp2;obtain ⟨w9,hw9⟩:∃w9,w9=w88.setCell ⟨R0,0,none⟩ (.slice none 0 0):=⟨_,rfl⟩;rw [←hw9] at z0 HOR HBR ⊢
      try simp only [Exit.inBlock,Exit.then]
      refine bodyPost_ret (v:=.tuple #[.agg #[.slice none 0 0],.int .i64 8]) ?_ rfl ⟨.slice none 0 0,by rw [HE.out],by rw [HL.out];exact HOR.out,HBR.out⟩
      clear hw9 hc hf
      simp [results,Tryz.results120,go_sem, *]
    ·have HE:=hide (HNO.out (fun h=>hc0 h.2.1))
     have HL:=hide (qdn (b:=b) (B:=B) (by rw [HE.out];omega));obtain ⟨Z,hZ⟩:∃Z,Z=chkF ds B:=⟨_,rfl⟩;rw [←hZ] at hck hc0
     have hz':(Z==0)=false:=by simpa using hc0
     have hz2:(Z !=0)=true:=by simpa using hc0
     have HCK:=hide hck;clear hck hZ;go_wp2;clear rb dz
     refine qaj hK (by kernel_rfl) hS0 ?_
     intro hS
     refine rP [0,1,2,3,4,5,6] 11 ?qa5 ?qp5 hS ?qn5
     case qp5=>
      iterate 7 (apply Yl.cons rfl (by kernel_rfl);focus (rintro wx ⟨y1,y2,y3⟩;(have x1:=y1.cell1);(have x2:=y2.cell);clear y1 y2 y3;go_simp;all_goals (with_reducible rfl));try simp only [Act.put,sA,sB,sC])
      exact Yl.nil
     try simp only [Act.put,sA,sB,sC]
     refine rV hK 7 (.int .i64 Z) rfl hS (HCK.out _ hS.2.2.1) ?_
     clear hS;intro w83 hS
     try simp only [Act.put,sA,sB,sC]
     refine rP [8,9,10,11,12,13,14,15,16,17] 0 ?qa6 ?qp6 hS ?qn6
     case qp6=>
      iterate 3 (apply Yl.cons rfl (by kernel_rfl);focus (intro wx hx;clear hx;(try simp only [hz2]);go_simp;(try simp only [hz2]);all_goals (with_reducible rfl));try simp only [Act.put,sA,sB,sC])
      iterate 6 (apply Yl.skip rfl (by kernel_rfl);try simp only [Act.put,sA,sB,sC])
      iterate 1 (apply Yl.cons rfl (by kernel_rfl);focus (intro wx hx;clear hx;go_simp;all_goals (with_reducible rfl));try simp only [Act.put,sA,sB,sC])
      exact Yl.nil
     try simp only [Act.put,sA,sB,sC]
     refine rD ?_
     have HAz:=hide (hmd.out.2.2.1.carry hS.2.2.2.2);have HBz:=hide (hmd.out.2.2.2.1.trans (hS.2.2.2.2.mono hmd.out.2.2.2.1.size));have HSzz:=hide hmd.out.2.2.2.2.2;clear hS hK hS0;have hc:=HAz.out.cell;have hf:=HAz.out.fz;obtain ⟨z0,hg, -⟩:=HAz.out.put (.slice none 0 0);obtain ⟨y,hy⟩:=HAz.out;have HOR:=hide (show OwF (w83.setCell ⟨R0,0,none⟩ (.slice none 0 0)) w.heap.size (.slice none 0 0) _ from OwF.nil _ _);have HBR:=hide (HBz.out.grown hg HBz.out.size (by intro k hk;cases hk;have:=HSzz.out;omega));clear hy hg;go_wp2;obtain ⟨w9,hw9⟩:∃w9,w9=w83.setCell ⟨R0,0,none⟩ (.slice none 0 0):=⟨_,rfl⟩;rw [←hw9] at z0 HOR HBR ⊢
     try simp only [Exit.inBlock,Exit.then]
     refine bodyPost_ret (v:=.tuple #[.agg #[.slice none 0 0],.int .i64 8]) ?_ rfl ⟨.slice none 0 0,by rw [HE.out],by rw [HL.out];exact HOR.out,HBR.out⟩
     clear hw9 hc hf
     simp [results,Tryz.results120,go_sem, *]
theorem qaly (w:World) (l:List UInt8) (h:l.length≤maxLen) (cs:Array Value) (hc:cs.toList=u8v l):OwB (w.alloc (.cells cs 5)) w.heap.size (.slice (some ⟨w.heap.size,0,none⟩) l.length l.length) l:=by
 show World.ownsRow _ _ _ _ _ _ _
 have hl:cs.size=l.length:=by rw [←Array.length_toList,hc];simp [u8v]
 refine ⟨by simp [u8v],.inr ⟨w.heap.size,l.length,cs,rfl,Nat.le_refl _,heap_alloc_new _ _,Nat.le_refl _,h,by simp [hl], ?_⟩⟩;rw [hc,List.take_of_length_le (by simp [u8v])]
theorem qzt (n:Nat) (h:n<4294967296):#[Value.int .u8 ((n:Int) % 256),.int .u8 ((n:Int) / 256 % 256),.int .u8 ((n:Int) / 65536 % 256),.int .u8 ((n:Int) / 16777216)].toList=u8v (le4 n):=by
 simp only [u8v,le4,List.map_cons,List.map_nil,UInt8.toNat_ofNat']
 have e1:((n % 256 % 2 ^ 8:Nat):Int)=(n:Int) % 256:=by omega
 have e2:((n / 256 % 256 % 2 ^ 8:Nat):Int)=(n:Int) / 256 % 256:=by omega
 have e3:((n / 65536 % 256 % 2 ^ 8:Nat):Int)=(n:Int) / 65536 % 256:=by omega
 have e4:((n / 16777216 % 256 % 2 ^ 8:Nat):Int)=(n:Int) / 16777216:=by omega
 rw [e1,e2,e3,e4]
theorem qtk (n:Nat) (w:World) (hn:n<4294967296):
  Calls Tryz.prog 271 #[.int .u32 n] w fun e w'=>∃v,e=.returned v∧OwB w' w.heap.size v (le4 n)∧Below w.heap.size w w':=by
 go_enter Tryz.func271,Tryz.ntmps271
 go_wp2;go_ret;exact ⟨_,rfl,qaly w (le4 n) (by unfold maxLen;rw [qc9];decide) _ (qzt n hn),(Below.refl _ _).alloc (Nat.le_refl _) _⟩
def slLen:Value→Nat
 | .slice _ n _=>n
 | _=>0
theorem qahz {b:List UInt8} (h:b.length=4):∃b0 b1 b2 b3:UInt8,b=[b0,b1,b2,b3]:=by
 match b,h with
 | [b0,b1,b2,b3],_=>exact ⟨b0,b1,b2,b3,rfl⟩
theorem qalz (b0 b1 b2 b3:UInt8):((((b0.toNat:Int)+(b1.toNat:Int) % 4294967296*256+(b2.toNat:Int) % 4294967296*65536) % 4294967296+(b3.toNat:Int) % 4294967296*16777216 % 4294967296) % 4294967296)=(un4 [b0,b1,b2,b3]:Nat):=by
 have h0:=b0.toNat_lt;have h1:=b1.toNat_lt;have h2:=b2.toNat_lt;have h3:=b3.toNat_lt
 simp only [un4]
 omega
theorem qx7 (g off cp:Nat) (b:List UInt8) (w:World) (hb:b.length=4) (hrd:Rd w (.slice (some ⟨g,off,none⟩) 4 cp) b):
  Calls Tryz.prog 241 #[.slice (some ⟨g,off,none⟩) 4 cp] w fun e w'=>e=.returned (.int .u32 (un4 b))∧Below w.heap.size w w':=by
 have hcs:∀j,(h:j<b.length)→w.cell? ⟨g,off+j,none⟩=some (.int .u8 (b[j]).toNat):=by
  rcases hrd with ⟨rfl,_⟩ | ⟨b',off',c',e,_,_,hc⟩
  ·exact absurd hb (by decide)
  ·simp only [Value.slice.injEq,Option.some.injEq,Addr.mk.injEq] at e
   obtain ⟨⟨rfl,rfl,_⟩,_,rfl⟩:=e;exact hc
 obtain ⟨b0,b1,b2,b3,rfl⟩:=qahz hb;have c0:w.cell? ⟨g,off,none⟩=some (.int .u8 b0.toNat):=hcs 0 (by simp);have c1:w.cell? ⟨g,off+1,none⟩=some (.int .u8 b1.toNat):=hcs 1 (by simp);have c2:w.cell? ⟨g,off+2,none⟩=some (.int .u8 b2.toNat):=hcs 2 (by simp);have c3:w.cell? ⟨g,off+3,none⟩=some (.int .u8 b3.toNat):=hcs 3 (by simp);clear hcs hrd hb
 go_enter Tryz.func241,Tryz.ntmps241
 go_wp2
 go_quiet (fail)
 go_wp2;go_ret;exact ⟨congrArg (fun x=>Ending.returned (.int .u32 x)) (qalz b0 b1 b2 b3),below_drewN (Below.refl _ _) _⟩
theorem qov (gen:Nat) (w:World) (hg:gen<4294967296):
  Calls Tryz.prog 119 #[.int .u32 gen] w fun e w'=>e=.returned (.tuple #[.int .i64 (gen % 2:Nat),.int .i64 (2+gen % 2*16:Nat)])∧w'=w:=by
 rcases (by omega:gen % 2=0∨gen % 2=1) with h | h
 ·have h':(gen:Int) % 2=0:=by omega
  have h'':Int.tmod (gen:Int) 2=0:=by rw [Int.tmod_eq_emod_of_nonneg (by omega)];exact h'
  rw [h]
  go_enter Tryz.func119,Tryz.ntmps119
  go_wp2;go_ret2;exact ⟨rfl,rfl⟩
 ·have h':(gen:Int) % 2=1:=by omega
  have h'':Int.tmod (gen:Int) 2=1:=by rw [Int.tmod_eq_emod_of_nonneg (by omega)];exact h'
  rw [h]
  go_enter Tryz.func119,Tryz.ntmps119
  go_wp2;go_ret2;exact ⟨rfl,rfl⟩
theorem qvn (gen:Nat) (size:Int) (w:World) (hg:gen<4294967296):
  Calls Tryz.prog 242 #[.int .u32 gen,.int .i64 size] w fun e w'=>∃bv,e=.returned (.tuple #[bv,.int .i64 (qa8 gen size).2])∧OwB w' w.heap.size bv (qa8 gen size).1∧Below w.heap.size w w':=by
 by_cases h0:gen=0
 ·have HE:=hide (show qa8 gen size=([],2) by unfold qa8;rw [if_pos (.inl h0)])
  have h0':(gen:Int)=0:=by omega
  go_enter Tryz.func242,Tryz.ntmps242
  go_wp2;go_ret2;rw [HE.out];exact ⟨_,rfl,World.ownsRow_nil _ _ _ _,Below.refl _ _⟩
 ·have h0':¬(gen:Int)=0:=by omega
  by_cases h1:size<0
  ·have HE:=hide (show qa8 gen size=([],2) by unfold qa8;rw [if_pos (.inr (.inl h1))])
   go_enter Tryz.func242,Tryz.ntmps242
   go_wp2;go_ret2;rw [HE.out];exact ⟨_,rfl,World.ownsRow_nil _ _ _ _,Below.refl _ _⟩
  ·have h1':decide (size<0)=false:=by simpa using h1
   by_cases h2:2048<size
   ·have HE:=hide (show qa8 gen size=([],2) by unfold qa8;rw [if_pos (.inr (.inr h2))])
    go_enter Tryz.func242,Tryz.ntmps242
    go_wp2;go_ret2;rw [HE.out];exact ⟨_,rfl,World.ownsRow_nil _ _ _ _,Below.refl _ _⟩
   ·have h2':decide (2048<size)=false:=by simpa using h2
    obtain ⟨s,rfl⟩:∃s:Nat,size=s:=⟨size.toNat,by omega⟩
    have hs:s≤2048:=by omega
    have HE:=hide (show qa8 gen s=(le4 gen++(le4 s++List.replicate 120 0),0) by rw [qrx h0 (by omega) (by omega)];rfl)
    have hws:IntKind.u32.wrap (s:Int)=s:=by rw [IntKind.wrap_u32'];omega
    have hws':(s:Int) % 4294967296=s:=by omega
    go_enter Tryz.func242,Tryz.ntmps242
    go_wp2_with fail
    refine (qtk gen _ hg).mono ?_
    rintro e w1 ⟨v1,rfl,hO1,hb1⟩
    go_wp2_with fail
    refine (qtk s _ (by omega)).mono ?_
    rintro e w2 ⟨v2,rfl,hO2,hb2⟩;have hO1':=hO1.carry hb2;have hB2:Below w.heap.size w w2:=hb1.trans (hb2.mono hb1.size);have HR2:=hide hO2.rd;clear hO1 hO2 hb1 hb2 h0 h1 h2 h0' h1' h2'
    go_wp2_with (at_builtin;go_must (refine qfz w w2 rfl (.tmp 18) (.tmp 21) 23 rfl w.heap.size 5 Tryz.underlying23 Tryz.infoB _ (le4 gen) hO1' rfl hB2 (Nat.le_refl _) _ (le4 s) HR2.out rfl (by simp [qc9]) ?_);intro v3 w3 hO3 hb3)
    go_loopw [6] (fun x wr=>∃k:Nat,k≤120∧wr.ownsRow w.heap.size 5 1 x (le4 gen++le4 s++List.replicate k 0).length (u8v (le4 gen++le4 s++List.replicate k 0))∧Below w.heap.size w wr) (fun x _=>128 - slLen x)
    case atStart=>exact ⟨0,Nat.zero_le _,by simpa using hO3,hb3⟩
    case round=>
     obtain ⟨k,hk,hO,hb⟩:=hrel;have hO':OwB wr w.heap.size _ (le4 gen++le4 s++List.replicate k 0):=hO;obtain ⟨a,c,rfl⟩:=hO'.form;obtain ⟨n,en⟩:∃n,n=(le4 gen++le4 s++List.replicate k 0).length:=⟨_,rfl⟩
     have hn:n=8+k:=by rw [en];simp [qc9];omega
     have hO2:wr.ownsRow w.heap.size 5 1 (.slice a n c) (le4 gen++le4 s++List.replicate k 0).length (u8v (le4 gen++le4 s++List.replicate k 0)):=by rw [en];exact hO
     rw [←en];have EN:=hide en;clear hO hO' en
     by_cases hlt:k<120
     ·have hlt':(n:Int)<128:=by omega
      have HN:=hide hn;clear hn
      go_wp2_with (at_builtin;go_must (refine qd9 w wr rfl (.tmp 26) (.tmp 27) 23 rfl w.heap.size 5 Tryz.underlying23 Tryz.infoB _ _ hO2 rfl hb (Nat.le_refl _) _ 0 rfl rfl (by rw [←EN.out,HN.out];omega) ?_);intro v4 w4 hO4 hb4)
      have e:le4 gen++le4 s++List.replicate k 0++[0]=le4 gen++le4 s++List.replicate (k+1) 0:=by rw [List.append_assoc _ (List.replicate k 0) [0],←List.replicate_succ']
      rw [e] at hO4;have hO4':OwB w4 w.heap.size _ (le4 gen++le4 s++List.replicate (k+1) 0):=hO4;obtain ⟨a4,c4,e4⟩:=hO4'.form
      have hl4:(le4 gen++le4 s++List.replicate (k+1) 0).length=n+1:=by rw [HN.out];simp [qc9];omega
      rw [hl4] at e4;subst e4;go_roundw
      case rel=>exact ⟨k+1,by omega,hO4,hb4⟩
      case measure=>simp [slLen]<;>omega
     ·obtain rfl:k=120:=by omega
      have hlt':decide ((n:Int)<128)=false:=by simpa using (by omega:¬(n:Int)<128)
      have HO:=hide hO2;clear hO2 hn;go_wp2;go_ret2;rw [HE.out];refine ⟨_,rfl, ?_,hb⟩
      show World.ownsRow _ _ _ _ _ _ _
      rw [←List.append_assoc];exact HO.out
theorem qal0 (b:List UInt8) (v:Value) (w:World) (hrd:Rd w v b):
  Calls Tryz.prog 192 #[v] w fun e w'=>e=.returned (.tuple #[.int .u32 (ofS b).1,.int .i64 (ofS b).2.1,.int .i64 (ofS b).2.2])∧Below w.heap.size w w':=by
 obtain ⟨a,c,rfl⟩:=hrd.form
 by_cases hl:b.length=128
 ·rw [hl] at hrd ⊢
  obtain ⟨g,off,rfl, -,hnc,hr1⟩:=qia hrd 0 4 (by omega) (by omega);obtain ⟨g',off',e', -, -,hr2⟩:=qia hrd 4 8 (by omega) (by omega);cases e';have e1:(b.drop 0).take (4 - 0)=b.take 4:=rfl;have e2:(b.drop 4).take (8 - 4)=(b.drop 4).take 4:=rfl;rw [e1] at hr1;rw [e2] at hr2;have hr1:Rd w (.slice (some ⟨g,off,none⟩) 4 c) (b.take 4):=hr1;have hr2:Rd w (.slice (some ⟨g,off+4,none⟩) 4 (c - 4)) ((b.drop 4).take 4):=hr2
  have l1:(b.take 4).length=4:=by rw [List.length_take];omega
  have l2:((b.drop 4).take 4).length=4:=by rw [List.length_take,List.length_drop];omega
  obtain ⟨G,eG⟩:∃G,G=un4 (b.take 4):=⟨_,rfl⟩;obtain ⟨Z,eZ⟩:∃Z,Z=un4 ((b.drop 4).take 4):=⟨_,rfl⟩
  have hG:G<4294967296:=by rw [eG];have:=qlt (b.take 4);rw [l1] at this;omega
  have hZ:Z<4294967296:=by rw [eZ];have:=qlt ((b.drop 4).take 4);rw [l2] at this;omega
  have HOF:=hide (show ofS b=if (qa8 G Z).2≠0∨b≠(qa8 G Z).1 then (0,0,8) else (G,Z,0) by unfold ofS;rw [if_neg (by omega),←eG,←eZ]);have HR:=hide hrd;have HR1:=hide hr1;have HR2:=hide hr2;have HL1:=hide l1;have HL2:=hide l2;have EG:=hide eG;have EZ:=hide eZ
  have hwz:IntKind.i64.wrap (Z:Int)=Z:=by rw [IntKind.wrap_i64];omega
  have hc4:(4:Int)≤c:=by omega
  have hc8:(8:Int)≤c:=by omega
  have hn8:8≤c:=by omega
  have hn4:4≤c:=by omega
  have hc0:¬c=0:=by omega
  have hc44:¬c=4:=by omega
  have hc4':¬4=c:=by omega
  clear hl hrd hr1 hr2 e1 e2 l1 l2 eG eZ
  have hK:Keeps (fun wx=>Rd wx (.slice (some ⟨g,off,none⟩) 4 c) (b.take 4)∧Rd wx (.slice (some ⟨g,off+4,none⟩) 4 (c - 4)) ((b.drop 4).take 4)∧Below w.heap.size w wx):=fun w1 w2 h hb=>⟨h.1.carry hb,h.2.1.carry hb,h.2.2.trans (hb.mono h.2.2.size)⟩
  go_enter Tryz.func192,Tryz.ntmps192
  go_wp2
  refine qaj hK (by kernel_rfl) ⟨HR1.out,HR2.out,Below.refl _ _⟩ ?_
  intro hS
  refine rP [0,1,3,4] 4 ?qaa1 ?qap1 hS ?qan1
  case qap1=>
   iterate 4 (apply Yl.cons rfl rfl;focus (rintro wx ⟨x1,x2,x3⟩;go_simp;all_goals (with_reducible rfl));try simp only [Act.put,sA,sB,sC])
   exact Yl.nil
  refine rV hK 2 (.int .u32 G) rfl hS ((qx7 g off c _ _ HL1.out hS.1).mono fun e wy ⟨h1,h2⟩=>⟨h1.trans (by rw [EG.out]),h2⟩) ?_
  clear hS;intro w14 hS
  try simp only [Act.put,sA,sB,sC]
  refine rV hK 5 (.int .u32 Z) rfl hS ((qx7 g (off+4) (c - 4) _ _ HL2.out hS.2.1).mono fun e wy ⟨h1,h2⟩=>⟨h1.trans (by rw [EZ.out]),h2⟩) ?_
  clear hS;intro w17 hS
  try simp only [Act.put,sA,sB,sC]
  refine rP [6,7] 0 ?qaa2 ?qap2 hS ?qan2
  case qap2=>
   iterate 2 (apply Yl.cons rfl rfl;focus (rintro wx ⟨x1,x2,x3⟩;go_simp;all_goals (with_reducible rfl));try simp only [Act.put,sA,sB,sC])
   exact Yl.nil
  refine rD ?_
  try simp only [Act.put,sA,sB,sC]
  obtain ⟨-, -,hB2⟩:=hS;clear hc4 hc8 hn8 hn4 hc0 hc44 hc4' hK
  by_cases hz:2048<Z
  ·have hz':(2048:Int)<Z:=by omega
   have HE:=hide (show ofS b=(0,0,8) by rw [HOF.out,if_pos (.inl (by unfold qa8;rw [if_pos (.inr (.inr hz'))];decide))]);go_wp2;go_ret3;rw [HE.out];exact ⟨rfl,hB2⟩
  have hz':decide ((2048:Int)<Z)=false:=by simpa using (by omega:¬(2048:Int)<Z)
  go_wp2_with fail
  refine (qvn G Z _ hG).mono ?_
  rintro e w3 ⟨bv,rfl,hO3,hb3⟩;have hB3:Below w.heap.size w w3:=hB2.trans (hb3.mono hB2.size);have HO3:=hide hO3;clear hO3 hb3 hz'
  by_cases hok:(qa8 G Z).2=0
  ·rw [hok]
   have h1:=qb1 (P:=Tryz.prog) 23 5 9 Tryz.underlying23 Tryz.underlying5 Tryz.underlying9 HO3.out.rd;have h2:=qb1 (P:=Tryz.prog) 23 5 9 Tryz.underlying23 Tryz.underlying5 Tryz.underlying9 (HR.out.carry hB3)
   by_cases heq:b=(qa8 G Z).1
   ·have HE:=hide (show ofS b=(G,Z,0) by rw [HOF.out,if_neg (by rw [hok];simp [←heq])])
    rw [←heq] at h1;clear heq;go_wp2;go_ret3;rw [HE.out];exact ⟨rfl,hB3⟩
   ·have HE:=hide (show ofS b=(0,0,8) by rw [HOF.out,if_pos (.inr heq)])
    have hne2:((bs (qa8 G Z).1).toList==(bs b).toList)=false:=by
     rw [qns];simp;intro h;exact heq h.symm
    clear heq;go_wp2;go_ret3;rw [HE.out];exact ⟨rfl,hB3⟩
  ·have HE:=hide (show ofS b=(0,0,8) by rw [HOF.out,if_pos (.inl hok)])
   rw [show (qa8 G Z).2=2 by rw [qnt hok]];go_wp2;go_ret3;rw [HE.out];exact ⟨rfl,hB3⟩
 ·have HE:=hide (show ofS b=(0,0,3) by unfold ofS;rw [if_pos hl])
  have hl':¬(b.length:Int)=128:=by omega
  go_enter Tryz.func192,Tryz.ntmps192
  go_wp2;go_ret3;rw [HE.out];exact ⟨rfl,Below.refl _ _⟩
theorem qvo {d:Dk} {v:Value} (w:World) (hD:RdD w v d):
  Calls Tryz.prog 118 #[v] w fun e w'=>e=.returned (.tuple #[.int .u32 (qas d).1,.int .i64 (qas d).2.1,.int .i64 (qas d).2.2])∧Below w.heap.size w w':=by
 obtain ⟨a1,c1,a2,c2,a3,c3,rfl,h1,_,_⟩:=hD.form;have hn1:d.1.length≤maxLen:=h1.len_le;have HD:=hide hD;have H1:=hide h1;clear hD h1;generalize e1:d.1.length=n1 at *;generalize e2:d.2.1.length=n2 at *;generalize e3:d.2.2.length=n3 at *;have E1:=hide e1;clear e1 e2 e3;obtain ⟨q,eq⟩:∃q,q=n1 / 128:=⟨_,rfl⟩;have HQ:=hide (show q=mny d by rw [mny,E1.out,eq]);have HC:=hide (fun wx=>eq ▸ qf6 a1 a2 a3 n1 c1 n2 c2 n3 c3 hn1 wx:∀wx,Calls Tryz.prog 116 #[.agg #[.slice a1 n1 c1,.slice a2 n2 c2,.slice a3 n3 c3]] wx fun e w'=>e=.returned (.int .i64 q)∧Below wx.heap.size wx w');clear eq;obtain ⟨w1,ew⟩:∃w1,w.alloc (.cells #[.slice a1 n1 c1,.slice a2 n2 c2,.slice a3 n3 c3] 27)=w1:=⟨_,rfl⟩
 have hb1:Below w.heap.size w w1:=by rw [←ew];exact (Below.refl _ _).alloc (Nat.le_refl _) _
 have hd1:w1.heap[w.heap.size]? =some (.cells #[.slice a1 n1 c1,.slice a2 n2 c2,.slice a3 n3 c3] 27 (0,0)):=by rw [←ew];exact heap_alloc_new _ _
 obtain ⟨k0,k1,k2, -⟩:=cells3 hd1
 go_enter Tryz.func118,Tryz.ntmps118
 go_wp2_with fail
 refine (qjg (d:=d) _ (HD.out.carry hb1)).mono ?_
 rintro e w2 ⟨rfl,hb2⟩;have hB2:Below w.heap.size w w2:=hb1.trans (hb2.mono hb1.size);have hd2:=qac _ _ _ _ hd1 hb2;clear ew k0 k1 k2 hb1 hb2 hd1;obtain ⟨k0,k1,k2, -⟩:=cells3 hd2
 rcases qdr d with ⟨hok,hck⟩ | ⟨hok,hck⟩
 ·rw [hck]
  have HCK:=hide hck;have HOK:=hide hok;clear hck hok
  go_wp2_with fail
  refine (HC.out _).mono ?_
  rintro e w3 ⟨rfl,hb3⟩;have hB3:Below w.heap.size w w3:=hB2.trans (hb3.mono hB2.size);have hd3:=qac _ _ _ _ hd2 hb3;clear k0 k1 k2 hb3 hd2 hB2
  by_cases hq:q≤34
  ·have HE:=hide (show qas d=(0,0,70) by unfold qas;rw [if_neg (by rw [HCK.out];decide),if_pos (by rw [←HQ.out];exact hq)])
   have hq':(q:Int)≤34:=by omega
   go_wp2;go_ret3;rw [HE.out];exact ⟨rfl,hB3⟩
  ·have HE:=hide (show qas d=if (accS d 2).1=0 then (0,0,70) else ((accS d 2).1,(accS d 2).2,0) by unfold qas;rw [if_neg (by rw [HCK.out];decide),if_neg (by rw [←HQ.out];exact hq)];rfl)
   have hq':decide ((q:Int)≤34)=false:=by simpa using (by omega:¬(q:Int)≤34)
   have HM:=hide (show 34<mny d by rw [←HQ.out];omega);clear hq;go_wp2;clear hq'
   go_loopw [6,7,8] (fun g s i wr=>∃k:Nat,k≤2∧i=.int .i64 k∧g=.int .u32 (accS d k).1∧s=.int .i64 (accS d k).2∧Below w3.heap.size w3 wr) (fun _ _ i _=>2 - (intOf i).toNat)
   case atStart=>exact ⟨0,Nat.zero_le _,rfl,rfl,rfl,Below.refl _ _⟩
   case round=>
    obtain ⟨k,hk,rfl,rfl,rfl,hbr⟩:=hrel;have hBr:Below w.heap.size w wr:=hB3.trans (hbr.mono hB3.size);obtain ⟨r,er⟩:∃r,r=accS d k:=⟨_,rfl⟩;rw [←er];have HR:=hide er;clear er
    by_cases hlt:k<2
    ·have hlt':(k:Int)<2:=by omega
     have hdr:=qac _ _ _ _ hd3 hbr;obtain ⟨l0,l1,l2, -⟩:=cells3 hdr
     have hlen:d.1.length=128*mny d:=by
      have:=((qb3 d).1 HOK.out).1
      unfold mny;omega
     have hlen1:n1=128*mny d:=by rw [←E1.out];exact hlen
     have hmm:=HM.out;obtain ⟨b9,o9,rfl, -,hnc,hrd⟩:=qia (H1.out.carry hBr) (k*128) ((k+1)*128) (by omega) (by omega)
     have eb:(d.1.drop (k*128)).take ((k+1)*128 - k*128)=blk d.1 k:=by
      unfold blk;rw [show (k+1)*128 - k*128=128 by omega,Nat.mul_comm]
     rw [eb] at hrd
     have hx:k*128+128 - k*128=128:=by omega
     rw [show (k+1)*128 - k*128=128 by omega] at hrd;have HRD:=hide hrd
     have hh3:k*128+128≤c1:=by omega
     have hh2:¬k*128=c1:=by omega
     obtain ⟨hw1, -, -⟩:=qaj9 k (by omega)
     have hw2:wrap64 (((k*128:Nat):Int)+128)=((k*128+128:Nat):Int):=by unfold wrap64;omega
     obtain ⟨o,eo⟩:∃o,o=ofS (blk d.1 k):=⟨_,rfl⟩;have HEO:=hide eo
     have ho1:o.1<4294967296:=by rw [eo];exact (qwm _).1
     have HO0:=hide (show o.2.2≠0→o.1=0∧o.2.1=0 by rw [eo];exact qabh);clear eo hrd eb hlen hlen1 hmm
     go_wp2_with fail
     refine (qal0 (blk d.1 k) _ _ HRD.out).mono ?_
     rw [←HEO.out];rintro e w4 ⟨rfl,hb4⟩;have hb4':Below w3.heap.size w3 w4:=hbr.trans (hb4.mono hbr.size);clear hb4 l0 l1 l2 hdr hw1 hw2 hh2 hh3 hx hnc
     go_wp2_with fail
     refine (qov o.1 _ ho1).mono ?_
     rintro e w5 ⟨rfl,rfl⟩
     by_cases hoz:o.2.2=0
     ·by_cases hp:o.1 % 2=k
      ·have hp':((o.1 % 2:Nat):Int)=k:=by omega
       have hls:qcw d k=(o.1,o.2.1):=by unfold qcw;rw [←HEO.out,if_pos hp]
       by_cases hgt:r.1<o.1
       ·have hgt':(r.1:Int)<o.1:=by omega
        have HA:=hide (show accS d (k+1)=(o.1,o.2.1) by show qda (accS d k) (qcw d k)=_;rw [←HR.out,hls];unfold qda;rw [if_pos hgt]);rw [hoz];clear hls hp;go_wp2;go_roundw
        case rel=>exact ⟨k+1,by omega,by go_num,by rw [HA.out],by rw [HA.out],hb4'⟩
        case measure=>simp [intOf]<;>omega
       ·have hgt':decide ((r.1:Int)<o.1)=false:=by simpa using (by omega:¬(r.1:Int)<o.1)
        have HA:=hide (show accS d (k+1)=r by show qda (accS d k) (qcw d k)=r;rw [←HR.out,hls];unfold qda;rw [if_neg hgt]);rw [hoz];clear hls hp;go_wp2;go_roundw
        case rel=>exact ⟨k+1,by omega,by go_num,by rw [HA.out],by rw [HA.out],hb4'⟩
        case measure=>simp [intOf]<;>omega
      ·have hp':¬((o.1 % 2:Nat):Int)=k:=by omega
       have HA:=hide (show accS d (k+1)=r by show qda (accS d k) (qcw d k)=r;rw [←HR.out];unfold qcw;rw [←HEO.out,if_neg hp];unfold qda;rw [if_neg (by simp)]);rw [hoz];clear hp;go_wp2;go_roundw
       case rel=>exact ⟨k+1,by omega,by go_num,by rw [HA.out],by rw [HA.out],hb4'⟩
       case measure=>simp [intOf]<;>omega
     ·obtain ⟨z1,z2⟩:=HO0.out hoz
      have HA:=hide (show accS d (k+1)=r by
       show qda (accS d k) (qcw d k)=r
       rw [←HR.out];unfold qcw;rw [←HEO.out,z1,z2]
       unfold qda
       split<;>(rw [if_neg (by simp)]))
      clear z1 z2;go_wp2;go_roundw
      case rel=>exact ⟨k+1,by omega,by go_num,by rw [HA.out],by rw [HA.out],hb4'⟩
      case measure=>simp [intOf]<;>omega
    ·have hlt':decide ((k:Int)<2)=false:=by simpa using (by omega:¬(k:Int)<2)
     obtain rfl:k=2:=by omega
     rw [←HR.out] at HE
     by_cases hz:r.1=0
     ·have HE':=hide (HE.out.trans (if_pos hz))
      have hz':(r.1:Int)=0:=by omega
      go_wp2;go_ret3;rw [HE'.out];exact ⟨rfl,hBr⟩
     ·have HE':=hide (HE.out.trans (if_neg hz))
      have hz':¬(r.1:Int)=0:=by omega
      clear hz;go_wp2;go_ret3;rw [HE'.out];exact ⟨rfl,hBr⟩
 ·rw [hck]
  have HE:=hide (show qas d=(0,0,20) by unfold qas;rw [if_pos (by rw [hck];decide),hck]);clear hck hok;go_wp2;go_ret3;rw [HE.out];exact ⟨rfl,hB2⟩
end Go.Proofs.YtmeaiocohalphaaGreatDoor

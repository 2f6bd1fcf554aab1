/-
  What wal's behind, next and Room do.
-/
import Derived.Test.YtnmbbpdhjkaidaaGreatWal4
set_option maxHeartbeats 4000000
set_option maxRecDepth 100000
namespace Go.Proofs.YtnmbbpdhjkaidaaGreat
open Go.RowKit
set_option linter.all false
theorem qr9 {f:Fsd} {W:Wl} (h:¬qbk f W.1=0):behE f W=qbk f W.1∧behN f W=0:=by
 have e:behE f W=qbk f W.1:=by unfold behE;rw [if_pos h]
 exact ⟨e,by unfold behN;rw [if_pos (by rw [e];exact h)]⟩
theorem qls {f:Fsd} {W:Wl} (h:qbk f W.1=0) (h2:¬qai f W.1=W):behE f W=8∧behN f W=0:=by
 have e:behE f W=8:=by unfold behE;rw [if_neg (fun e=>e h),if_pos h2]
 exact ⟨e,by unfold behN;rw [if_pos (by rw [e];decide)]⟩
theorem qadf {f:Fsd} {W:Wl} (h:qbk f W.1=0) (h2:qai f W.1=W):behE f W=0∧behN f W=((qae f W.1).length:Int) - 1 - W.2.2.2.2.2∧qaz f W.1=0∧W.2.2.2.2.2≤(qae f W.1).length - 1∧2≤(qae f W.1).length:=by
 have e:behE f W=0:=by unfold behE;rw [if_neg (fun e=>e h),if_neg (fun e=>e h2)]
 obtain ⟨a1,a2,_,a3,_⟩:=qc9 h;refine ⟨e,by unfold behN;rw [if_neg (fun h=>h e)],a1, ?_,a2⟩
 have:=(qr6 W.1 (qae f W.1) (qck _ _)).2.2.2.2
 rw [←a3,h2] at this;exact this
theorem qzd (m b:Nat) (hb:b≤m - 1) (h1:2≤m) (hm:m≤4096):wrap64 ((m:Int) - 1)=((m - 1:Nat):Int)∧wrap64 (((m - 1:Nat):Int) - (b:Int))=(m:Int) - 1 - b:=by
 refine ⟨?_, ?_⟩<;>(unfold wrap64;omega)
theorem qafy {v0 u0:List UInt8} {v1 v2 v3 v4 v5 u1 u2 u3 u4 u5:Nat} (h:¬((v0,v1,v2,v3,v4,v5):Wl)=(u0,u1,u2,u3,u4,u5)):v0≠u0∨(v0=u0∧(v1≠u1∨(v1=u1∧(v2≠u2∨(v2=u2∧(v3≠u3∨(v3=u3∧(v4≠u4∨(v4=u4∧v5≠u5))))))))):=by
 by_cases h0:v0=u0
 ·refine .inr ⟨h0, ?_⟩
  subst h0
  have h:¬(v1=u1∧v2=u2∧v3=u3∧v4=u4∧v5=u5):=fun e=>h (by obtain ⟨rfl,rfl,rfl,rfl,rfl⟩:=e;rfl)
  omega
 ·exact .inl h0
theorem qm9 (x:FsV) (f:Fsd) (W:Wl) (w:World) (h:RdX w x f) (hw:WfX f):
  Calls Tryz.prog 29 #[x.val,wlV W] w fun e w'=>e=.returned (.tuple #[.int .i64 (behN f W),.int .i64 (behE f W)])∧Below w.heap.size w w':=by
 have HW:=hide hw;clear hw;obtain ⟨w1,ew⟩:∃w1,(w.alloc (.cells x.cs 33)).alloc (.cells #[.string (bs W.1),.int .u32 W.2.1,.int .i64 W.2.2.1,.int .u32 W.2.2.2.1,.int .u32 W.2.2.2.2.1,.int .i64 W.2.2.2.2.2] 35)=w1:=⟨_,rfl⟩;have q0:Below w.heap.size w (w.alloc (.cells x.cs 33)):=(Below.refl _ _).alloc (Nat.le_refl _) _
 have hsz:(w.alloc (.cells x.cs 33)).heap.size=w.heap.size+1:=by simp
 have q1:Below (w.alloc (.cells x.cs 33)).heap.size (w.alloc (.cells x.cs 33)) w1:=by rw [←ew];exact (Below.refl _ _).alloc (Nat.le_refl _) _
 have qbo:=hide (show FsAt w1 w.heap.size x from (Bq.new w 33 x.cs).carry q1);have qqj:=hide (show WlAt w1 (w.heap.size+1) W by rw [←ew,←hsz];exact Bq.new _ _ _);have qaf:=hide (show Below w.heap.size w w1 from q0.trans (q1.mono (by omega)));obtain ⟨k0,k1,k2,k3,k4,k5⟩:=qab qbo.out;obtain ⟨j0,j1,j2,j3,j4,j5⟩:=qac qqj.out;have HX:=hide h;clear h q0 q1 hsz;unfold FsV.val;unfold FsV.cs at ew
 go_enter Tryz.func29,Tryz.ntmps29
 go_wp2_with fail
 refine (qih x f W.1 w1 (HX.out.carry qaf.out) HW.out).mono ?_
 rintro e w2 ⟨rv,rfl,ho2,hb2⟩;have qf0:=hide (qbo.out.carry hb2);have qfq:=hide (qqj.out.carry hb2);have qan:=bT qaf hb2;obtain ⟨V,hV⟩:∃V,V=qai f W.1:=⟨_,rfl⟩;have HV:=hide hV;rw [←hV];obtain ⟨w3,e3⟩:∃w3,w2.alloc (.cells #[.string (bs V.1),.int .u32 V.2.1,.int .i64 V.2.2.1,.int .u32 V.2.2.2.1,.int .u32 V.2.2.2.2.1,.int .i64 V.2.2.2.2.2] 35)=w3:=⟨_,rfl⟩
 have hb3:Below w2.heap.size w2 w3:=by rw [←e3];exact (Below.refl _ _).alloc (Nat.le_refl _) _
 have HV_w3:=hide (show WlAt w3 w2.heap.size V by rw [←e3];exact Bq.new _ _ _);have qn8:=hide (qf0.out.carry hb3);have qi0:=hide (qfq.out.carry hb3);have qa0:=bT qan hb3;clear k0 k1 k2 k3 k4 k5 j0 j1 j2 j3 j4 j5 ew hb2 ho2 hb3 hV
 by_cases g1:¬qbk f W.1=0
 ·have HE:=hide (qr9 g1)
  obtain ⟨e,he⟩:∃e,e=qbk f W.1:=⟨_,rfl⟩;have HEE:=hide he;rw [←he] at g1 ⊢
  have ge:(e==0)=false:=by simpa using g1
  clear he g1;go_wp2;go_ret2;refine ⟨?_,qa0.out⟩
  rw [HE.out.1,HE.out.2,←HEE.out];rfl
 rw [Decidable.not_not] at g1;rw [g1];have HG:=hide g1;clear g1
 by_cases g2:¬V=W
 ·have HE:=hide (qls HG.out (by rw [←HV.out];exact g2))
  clear HV;obtain ⟨v0,v1,v2,v3,v4,v5⟩:=V;obtain ⟨u0,u1,u2,u3,u4,u5⟩:=W;obtain ⟨l0,l1,l2,l3,l4,l5⟩:=qac HV_w3.out;obtain ⟨j0,j1,j2,j3,j4,j5⟩:=qac qi0.out;unfold wlV wlC;dsimp only at l0 l1 l2 l3 l4 l5 j0 j1 j2 j3 j4 j5 e3 ⊢;have hd:v0≠u0∨(v0=u0∧(v1≠u1∨(v1=u1∧(v2≠u2∨(v2=u2∧(v3≠u3∨(v3=u3∧(v4≠u4∨(v4=u4∧v5≠u5))))))))):=qafy g2;clear g2
  rcases hd with hq | ⟨rfl,hq | ⟨rfl,hq | ⟨rfl,hq | ⟨rfl,hq | ⟨rfl,hq⟩⟩⟩⟩⟩
  ·have hq':((bs v0).toList==(bs u0).toList)=false:=by rw [bs_dec];exact decide_eq_false hq
   clear hq;go_wp2;go_ret2;refine ⟨?_,qa0.out⟩
   rw [HE.out.1,HE.out.2];rfl
  ·have hq':((v1:Int)==(u1:Int))=false:=by rw [qlr];exact decide_eq_false hq
   clear hq;go_wp2;go_ret2;refine ⟨?_,qa0.out⟩
   rw [HE.out.1,HE.out.2];rfl
  ·have hq':((v2:Int)==(u2:Int))=false:=by rw [qlr];exact decide_eq_false hq
   clear hq;go_wp2;go_ret2;refine ⟨?_,qa0.out⟩
   rw [HE.out.1,HE.out.2];rfl
  ·have hq':((v3:Int)==(u3:Int))=false:=by rw [qlr];exact decide_eq_false hq
   clear hq;go_wp2;go_ret2;refine ⟨?_,qa0.out⟩
   rw [HE.out.1,HE.out.2];rfl
  ·have hq':((v4:Int)==(u4:Int))=false:=by rw [qlr];exact decide_eq_false hq
   clear hq;go_wp2;go_ret2;refine ⟨?_,qa0.out⟩
   rw [HE.out.1,HE.out.2];rfl
  ·have hq':((v5:Int)==(u5:Int))=false:=by rw [qlr];exact decide_eq_false hq
   clear hq;go_wp2;go_ret2;refine ⟨?_,qa0.out⟩
   rw [HE.out.1,HE.out.2];rfl
 rw [Decidable.not_not] at g2;have HE:=hide (qadf HG.out (HV.out.symm.trans g2));subst g2;clear HV;obtain ⟨l0,l1,l2,l3,l4,l5⟩:=qac HV_w3.out;obtain ⟨j0,j1,j2,j3,j4,j5⟩:=qac qi0.out;obtain ⟨k0,k1,k2,k3,k4,k5⟩:=qab qn8.out
 go_wp2_with fail
 refine (qxx x f V.1 w3 (HX.out.carry qa0.out) HW.out).mono ?_
 rintro e w4 ⟨rfl,hb4⟩;have qafx:=hide (qi0.out.carry hb4);have qcn:=bT qa0 hb4;obtain ⟨m,hm⟩:∃m,m=(qae f V.1).length:=⟨_,rfl⟩;rw [HE.out.2.2.1,qid HE.out.2.2.1,←hm];obtain ⟨a1,a2⟩:=qzd m V.2.2.2.2.2 (by rw [hm];exact HE.out.2.2.2.1) (by rw [hm];exact HE.out.2.2.2.2) (by rw [hm];exact qck _ _);have HM:=hide hm;clear k0 k1 k2 k3 k4 k5 l0 l1 l2 l3 l4 l5 j0 j1 j2 j3 j4 j5 hb4 hm;obtain ⟨j0,j1,j2,j3,j4,j5⟩:=qac qafx.out;go_wp2;go_ret2;refine ⟨?_,qcn.out⟩
 rw [HE.out.1,HE.out.2.1,←HM.out,←a2];rfl
theorem qvu (N:Nat) (hN:N≤1000000):wrap64 ((N:Int)+1)=((N+1:Nat):Int)∧IntKind.u32.wrap ((N+1:Nat):Int)=((N+1:Nat):Int):=by
 refine ⟨by unfold wrap64;omega,by rw [IntKind.wrap_u32'];omega⟩
theorem qafz (a b:Nat):max (a:Int) (b:Int)=((max a b:Nat):Int):=by omega
theorem qacq (W:Wl) (a:Option Addr) (n c:Nat) (r:List UInt8) (w:World) (h:Rd w (.slice a n c) r) (hn:n=r.length) (h1:W.2.1<4294967296) (h2:W.2.2.1≤1000000) (h3:W.2.2.2.1<4294967296) (h4:W.2.2.2.2.1<4294967296):
  Calls Tryz.prog 31 #[wlV W,.slice a n c] w fun e w'=>∃v,e=.returned (.tuple #[v,.int .i64 (qb2 W r)])∧OwBB w' w.heap.size v (qbx W r)∧Below w.heap.size w w':=by
 obtain ⟨w1,ew⟩:∃w1,w.alloc (.cells #[.string (bs W.1),.int .u32 W.2.1,.int .i64 W.2.2.1,.int .u32 W.2.2.2.1,.int .u32 W.2.2.2.2.1,.int .i64 W.2.2.2.2.2] 35)=w1:=⟨_,rfl⟩
 have hb1:Below w.heap.size w w1:=by rw [←ew];exact (Below.refl _ _).alloc (Nat.le_refl _) _
 have qqj:=hide (show WlAt w1 w.heap.size W by rw [←ew];exact Bq.new _ _ _);have qaf:=hide hb1;have HR:=hide (h.carry hb1);have HN:=hide hn
 have hnm:n≤maxLen:=by rw [hn];exact h.len_le
 obtain ⟨j0,j1,j2,j3,j4,j5⟩:=qac qqj.out;obtain ⟨a1,a2⟩:=qvu W.2.2.1 h2;have HH:=hide (And.intro h1 (And.intro h2 (And.intro h3 h4)));obtain ⟨M,hM⟩:∃M,M=max W.2.2.2.1 W.2.2.2.2.1:=⟨_,rfl⟩
 have hmx:max (W.2.2.2.1:Int) (W.2.2.2.2.1:Int)=(M:Int):=by rw [hM];exact qafz _ _
 have HM:=hide hM
 have hMl:M<4294967296:=by rw [hM];omega
 clear h hb1 hn h1 h2 h3 h4 hM
 go_enter Tryz.func31,Tryz.ntmps31
 by_cases g1:16384<n
 ·have g1':(16384:Int)<n:=by omega
  have HE:=hide (show qb2 W r=3∧qbx W r=[] by
   have e:qb2 W r=3:=by unfold qb2;rw [if_pos (by rw [←HN.out];exact g1)]
   exact ⟨e,by unfold qbx;rw [if_pos (by rw [e];decide)]⟩)
  clear g1;go_wp2;go_ret2;exact ⟨_,by rw [HE.out.1];rfl,by rw [HE.out.2];exact OwBB.nil _ _,qaf.out⟩
 have g1':decide ((16384:Int)<n)=false:=by simpa using (by omega:¬(16384:Int)<n)
 have HG1:=hide g1;clear g1
 by_cases g2:M=4294967295
 ·have g2':((M:Int)==4294967295)=true:=by simpa using (by omega:(M:Int)=4294967295)
  have HE:=hide (show qb2 W r=9∧qbx W r=[] by
   have e:qb2 W r=9:=by unfold qb2;rw [if_neg (by rw [←HN.out];exact HG1.out),if_pos (by rw [←HM.out];exact g2)]
   exact ⟨e,by unfold qbx;rw [if_pos (by rw [e];decide)]⟩)
  clear g2;go_wp2
  all_goals
   go_ret2;exact ⟨_,by rw [HE.out.1];rfl,by rw [HE.out.2];exact OwBB.nil _ _,qaf.out⟩
 have g2':((M:Int)==4294967295)=false:=by simpa using (by omega:¬(M:Int)=4294967295)
 have a3:IntKind.u32.wrap ((M:Int)+1)=((M+1:Nat):Int):=by rw [IntKind.wrap_u32'];omega
 have HE:=hide (show qb2 W r=frmE (hdW W) r∧qbx W r=frmL (hdW W) r by
  have e:qb2 W r=frmE (hdW W) r:=by unfold qb2;rw [if_neg (by rw [←HN.out];exact HG1.out),if_neg (by rw [←HM.out];exact g2)]
  refine ⟨e, ?_⟩;unfold qbx frmL;rw [e]
  by_cases h0:frmE (hdW W) r=0
  ·rw [if_neg (fun e=>e h0),if_pos h0]
  ·rw [if_pos h0,if_neg h0])
 have hcon:=qqd (hdW W) a n c r w1 ⟨HH.out.1,by show W.2.2.1+1<_;have:=HH.out.2.1;omega,by show max W.2.2.2.1 W.2.2.2.2.1+1<_;rw [←HM.out];omega,HH.out.2.2.1⟩ HN.out HR.out;rw [←HE.out.1,←HE.out.2] at hcon;unfold hdW at hcon;dsimp only at hcon;rw [←HM.out] at hcon;have HCON:=hide hcon;have HG2:=hide g2;clear g2 hcon
 go_wp2_with fail
 all_goals
  have hM:=HM.out;have hH:=HH.out;have hG2:=HG2.out
  have e1:((W.2.2.1:Int)+1) % 4294967296=((W.2.2.1+1:Nat):Int):=by omega
  first
   | rw [e1,show ((W.2.2.2.1:Int)+1) % 4294967296=((M+1:Nat):Int) by omega]
   | rw [e1,show ((W.2.2.2.2.1:Int)+1) % 4294967296=((M+1:Nat):Int) by omega]
  clear hM hH hG2 e1
  refine HCON.out.mono ?_
  rintro e w2 ⟨v2,rfl,ho2,hb2⟩;have qan:=bT qaf hb2;have HO2:=hide (ho2.mono qaf.out.size);clear hb2 ho2;go_wp2;go_ret2;exact ⟨_,rfl,HO2.out,qan.out⟩
theorem qtx (x:FsV) (f:Fsd) (W:Wl) (w:World) (h:RdX w x f) (hw:WfX f):
  Calls Tryz.prog 9 #[x.val,wlV W] w fun e w'=>e=.returned (.tuple #[.int .i64 (qfx f W),.int .i64 (qlp f W)])∧Below w.heap.size w w':=by
 have HW:=hide hw;clear hw;obtain ⟨w1,ew⟩:∃w1,(w.alloc (.cells x.cs 33)).alloc (.cells #[.string (bs W.1),.int .u32 W.2.1,.int .i64 W.2.2.1,.int .u32 W.2.2.2.1,.int .u32 W.2.2.2.2.1,.int .i64 W.2.2.2.2.2] 35)=w1:=⟨_,rfl⟩;have q0:Below w.heap.size w (w.alloc (.cells x.cs 33)):=(Below.refl _ _).alloc (Nat.le_refl _) _
 have hsz:(w.alloc (.cells x.cs 33)).heap.size=w.heap.size+1:=by simp
 have q1:Below (w.alloc (.cells x.cs 33)).heap.size (w.alloc (.cells x.cs 33)) w1:=by rw [←ew];exact (Below.refl _ _).alloc (Nat.le_refl _) _
 have qbo:=hide (show FsAt w1 w.heap.size x from (Bq.new w 33 x.cs).carry q1);have qqj:=hide (show WlAt w1 (w.heap.size+1) W by rw [←ew,←hsz];exact Bq.new _ _ _);have qaf:=hide (show Below w.heap.size w w1 from q0.trans (q1.mono (by omega)));obtain ⟨k0,k1,k2,k3,k4,k5⟩:=qab qbo.out;obtain ⟨j0,j1,j2,j3,j4,j5⟩:=qac qqj.out;have HX:=hide h;clear h q0 q1 hsz;unfold FsV.val;unfold FsV.cs at ew
 go_enter Tryz.func9,Tryz.ntmps9
 go_wp2_with fail
 refine (qm9 x f W w1 (HX.out.carry qaf.out) HW.out).mono ?_
 rintro e w2 ⟨rfl,hb2⟩;have qan:=bT qaf hb2;clear k0 k1 k2 k3 k4 k5 j0 j1 j2 j3 j4 j5 ew hb2
 by_cases g1:¬behE f W=0
 ·have HE:=hide (show qlp f W=behE f W∧qfx f W=0 from ⟨rfl,by unfold qfx;rw [if_pos g1]⟩)
  obtain ⟨e,he⟩:∃e,e=behE f W:=⟨_,rfl⟩;have HEE:=hide he;rw [←he] at g1 ⊢
  have ge:(e==0)=false:=by simpa using g1
  clear he g1;go_wp2;go_ret2;refine ⟨?_,qan.out⟩
  rw [HE.out.1,HE.out.2,←HEE.out];rfl
 rw [Decidable.not_not] at g1;rw [g1];have HG:=hide g1
 obtain ⟨m,hm⟩:∃m:Nat,behN f W=m∧m≤4096:=by
  have h0:qbk f W.1=0:=by
   by_cases h9:qbk f W.1=0
   ·exact h9
   ·rw [(qr9 h9).1] at g1;exact absurd g1 h9
  have h2:qai f W.1=W:=Classical.byContradiction fun h9=>by rw [(qls h0 h9).1] at g1;cases g1
  obtain ⟨_,b1,_,b2,b3⟩:=qadf h0 h2
  have:=qck f W.1
  exact ⟨(qae f W.1).length - 1 - W.2.2.2.2.2,by rw [b1];omega,by omega⟩
 rw [hm.1];have HM:=hide hm.1;have hm4:=hm.2;clear g1 hm
 by_cases g2:m=0
 ·have g2':((m:Int)==0)=true:=by simpa using g2
  have HE:=hide (show qlp f W=0∧qfx f W=-1 from ⟨HG.out,by unfold qfx;rw [if_neg (fun e=>e HG.out),HM.out,if_pos (by omega)]⟩);clear g2;go_wp2;go_ret2;refine ⟨?_,qan.out⟩
  rw [HE.out.1,HE.out.2];rfl
 have g2':((m:Int)==0)=false:=by simpa using g2
 have HE:=hide (show qlp f W=0∧qfx f W=min ((m:Int)*107) 16384 from ⟨HG.out,by unfold qfx;rw [if_neg (fun e=>e HG.out),HM.out,if_neg (by omega)]⟩)
 have a1:wrap64 ((m:Int)*107)=((m*107:Nat):Int):=by unfold wrap64;omega
 have HA:=hide (show (m:Int)*107=((m*107:Nat):Int) by omega);clear g2;go_wp2
 all_goals
  go_ret2;refine ⟨?_,qan.out⟩;rw [HE.out.1,HE.out.2,HA.out]
  first
   | (rw [show min ((m*107:Nat):Int) 16384=16384 by omega];rfl)
   | (rw [show min ((m*107:Nat):Int) 16384=(m:Int)*107 by omega];rfl)
   | (rw [show min ((m*107:Nat):Int) 16384=((m*107:Nat):Int) by omega];rfl)
end Go.Proofs.YtnmbbpdhjkaidaaGreat

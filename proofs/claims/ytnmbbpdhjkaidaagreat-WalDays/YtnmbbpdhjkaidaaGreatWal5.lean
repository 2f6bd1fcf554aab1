/-
  What wal's behind, next and Room do.
-/
import Derived.Test.YtnmbbpdhjkaidaaGreatWal3
import Derived.Test.YtnmbbpdhjkaidaaGreatFsEnd
set_option maxHeartbeats 4000000
set_option maxRecDepth 100000
namespace Go.Proofs.YtnmbbpdhjkaidaaGreat
open Go.RowKit
set_option linter.all false
abbrev WlAt (w:World) (p:Nat) (W:Wl):Prop:=Bq w p 35 (wlC W)
theorem qag {w:World} {p:Nat} {W:Wl} (h:WlAt w p W):w.cell? ⟨p,0,none⟩=some (.string (bs W.1))∧w.cell? ⟨p,1,none⟩=some (.int .u32 W.2.1)∧w.cell? ⟨p,2,none⟩=some (.int .i64 W.2.2.1)∧w.cell? ⟨p,3,none⟩=some (.int .u32 W.2.2.2.1)∧w.cell? ⟨p,4,none⟩=some (.int .u32 W.2.2.2.2.1)∧w.cell? ⟨p,5,none⟩=some (.int .i64 W.2.2.2.2.2):=
 ⟨h.cell 0,h.cell 1,h.cell 2,h.cell 3,h.cell 4,h.cell 5⟩
def qa3 (w:World) (r:Nat) (u0 u1 u2 u3 u4 u5:Value):World:=(((((w.setCell ⟨r,0,none⟩ u0).setCell ⟨r,1,none⟩ u1).setCell ⟨r,2,none⟩ u2).setCell ⟨r,3,none⟩ u3).setCell ⟨r,4,none⟩ u4).setCell ⟨r,5,none⟩ u5
theorem put6 {w:World} {r:Nat} {t:TypeId} {v0 v1 v2 v3 v4 v5:Value} (h:Bq w r t #[v0,v1,v2,v3,v4,v5]) (u0 u1 u2 u3 u4 u5:Value):Bq (qa3 w r u0 u1 u2 u3 u4 u5) r t #[u0,u1,u2,u3,u4,u5]∧w.grownBy (qa3 w r u0 u1 u2 u3 u4 u5) (some r):=by
 refine ⟨Bq.put (Bq.put (Bq.put (Bq.put (Bq.put (Bq.put h 0 _) 1 _) 2 _) 3 _) 4 _) 5 _, ?_⟩;exact qbe (qbe (qbe (qbe (qbe (qbe (World.grownBy.refl _ _) 0 _) 1 _) 2 _) 3 _) 4 _) 5 _
theorem qaq {w:World} {r:Nat} {t:TypeId} {v0 v1 v2 v3 v4 v5:Value} (h:Bq w r t #[v0,v1,v2,v3,v4,v5]):w.cell? ⟨r,0,none⟩=some v0∧w.cell? ⟨r,1,none⟩=some v1∧w.cell? ⟨r,2,none⟩=some v2∧w.cell? ⟨r,3,none⟩=some v3∧w.cell? ⟨r,4,none⟩=some v4∧w.cell? ⟨r,5,none⟩=some v5:=
 ⟨h.cell 0,h.cell 1,h.cell 2,h.cell 3,h.cell 4,h.cell 5⟩
theorem qaa8 {f:Fsd} {s:List UInt8} (h:¬qay f s=0):qbw f s=qay f s∧qan f s=wz∧qdf f s=[]:=by
 have e:qbw f s=qay f s:=by unfold qbw;rw [if_pos h]
 have h':qbw f s≠0:=by rw [e];exact h
 exact ⟨e,by unfold qan;rw [if_pos h'],by unfold qdf;rw [if_pos h']⟩
theorem qvf {f:Fsd} {s:List UInt8} (h:qay f s=0) (h2:(qaf f s).length<2∨¬qh6 ((qaf f s).headD [])):qbw f s=8∧qan f s=wz∧qdf f s=[]:=by
 have e:qbw f s=8:=by unfold qbw;rw [if_neg (fun e=>e h),if_pos h2]
 have h':qbw f s≠0:=by rw [e];decide
 exact ⟨e,by unfold qan;rw [if_pos h'],by unfold qdf;rw [if_pos h']⟩
theorem qaez {w:World} {a:Option Addr} {n c:Nat} {l:List (List UInt8)} (h:RdL w (.slice a n c) l) (hl:2≤l.length):∃b off,a=some ⟨b,off,none⟩∧¬c=1∧1≤c∧1≤n∧n≤c∧RdL w (.slice (some ⟨b,off+1,none⟩) (n - 1) (c - 1)) l.tail:=by
 obtain ⟨hn,hnc,_⟩:=h.le;obtain ⟨_,hcut⟩:=h.cut 1 (by omega);rw [←List.drop_one]
 rcases hcut with ⟨h1,h2,_⟩ | ⟨b,off,e,hq,hR⟩ | ⟨ad,_,h1,_⟩
 ·omega
 ·exact ⟨b,off,e,hq,by omega,by omega,hnc,hR⟩
 ·omega
theorem qaa9 {l:List (List UInt8)} (h:0<l.length):l.headD []=l[0]:=by
 cases l with
 | nil=>simp at h
 | cons a t=>rfl
theorem rd_log {g:Nat} {l:List (List UInt8)} (h0:g≠0) (hl:chkL l=0):rdE g l=0∧rdG g l=((logO g l).map (·.1),sumO (logO g l),endO 0 (logO g l),qb7 g (l.drop (sumO (logO g l)))):=by
 have e:rdE g l=0:=by unfold rdE;rw [if_neg h0,hl]
 exact ⟨e,by unfold rdG;rw [if_neg (fun h=>h e)]⟩
theorem qlo (x:FsV) (f:Fsd) (s:List UInt8) (w:World) (h:RdX w x f) (hw:WfX f):
  Calls Tryz.prog 8 #[x.val,.string (bs s)] w fun e w'=>∃rv,e=.returned (.tuple #[wlV (qan f s),rv,.int .i64 (qbw f s)])∧OwBB w' w.heap.size rv (qdf f s)∧Below w.heap.size w w':=by
 have HW:=hide hw;clear hw;obtain ⟨w1,ew⟩:∃w1,(w.alloc (.cells x.cs 33)).alloc (.cells #[.string ⟨#[]⟩,.int .u32 0,.int .i64 0,.int .u32 0,.int .u32 0,.int .i64 0] 35)=w1:=⟨_,rfl⟩;have q0:Below w.heap.size w (w.alloc (.cells x.cs 33)):=(Below.refl _ _).alloc (Nat.le_refl _) _
 have hsz:(w.alloc (.cells x.cs 33)).heap.size=w.heap.size+1:=by simp
 have q1:Below (w.alloc (.cells x.cs 33)).heap.size (w.alloc (.cells x.cs 33)) w1:=by rw [←ew];exact (Below.refl _ _).alloc (Nat.le_refl _) _
 have qbt:=hide (show FsAt w1 w.heap.size x from (Bq.new w 33 x.cs).carry q1);have qxa:=hide (show Bq w1 (w.heap.size+1) 35 #[.string ⟨#[]⟩,.int .u32 0,.int .i64 0,.int .u32 0,.int .u32 0,.int .i64 0] by rw [←ew,←hsz];exact Bq.new _ _ _);have qad:=hide (show Below w.heap.size w w1 from q0.trans (q1.mono (by omega)));obtain ⟨k0,k1,k2,k3,k4,k5⟩:=qab qbt.out;have HX:=hide h;clear h q0 q1 hsz;unfold FsV.val;unfold FsV.cs at ew
 go_enter Tryz.func8,Tryz.ntmps8
 go_wp2_with fail
 refine (qk1 x f s w1 (HX.out.carry qad.out) HW.out).mono ?_
 rintro e w2 ⟨v2,rfl,ho2,hb2⟩;have qg2:=hide (qxa.out.carry hb2);have qah:=bT qad hb2;have HSZ:=hide (show w.heap.size+2≤w2.heap.size by have h9:=hb2.size;have h8:w1.heap.size=w.heap.size+2:=(by rw [←ew];simp);omega);clear k0 k1 k2 k3 k4 k5 ew hb2
 by_cases g1:¬qay f s=0
 ·have HE:=hide (qaa8 g1)
  obtain ⟨e,he⟩:∃e,e=qay f s:=⟨_,rfl⟩;have HEE:=hide he;rw [←he] at g1 ⊢
  have ge:(e==0)=false:=by simpa using g1
  clear he g1 ho2;obtain ⟨c0,c1,c2,c3,c4,c5⟩:=qaq qg2.out;have f0:=qg2.out.fz 0;have f1:=qg2.out.fz 1;have f2:=qg2.out.fz 2;have f3:=qg2.out.fz 3;have f4:=qg2.out.fz 4;have f5:=qg2.out.fz 5;obtain ⟨hat,hgr⟩:=put6 qg2.out (.string ⟨#[]⟩) (.int .u32 0) (.int .i64 0) (.int .u32 0) (.int .u32 0) (.int .i64 0);obtain ⟨ws,ews⟩:∃ws,ws=qa3 w2 (w.heap.size+1) (.string ⟨#[]⟩) (.int .u32 0) (.int .i64 0) (.int .u32 0) (.int .u32 0) (.int .i64 0):=⟨_,rfl⟩;rw [←ews] at hat hgr;have HAT:=hide hat;have HBS:=hide (show Below w.heap.size w ws from qah.out.grown hgr qah.out.size (by intro k hk;cases hk;omega));unfold qa3 at ews;have EWS:=hide ews;clear hat hgr ews;go_wp2;rw [←EWS.out];obtain ⟨p0,p1,p2,p3,p4,p5⟩:=qaq HAT.out
  refine bodyPost_ret (v:=.tuple #[.agg #[.string ⟨#[]⟩,.int .u32 0,.int .i64 0,.int .u32 0,.int .u32 0,.int .i64 0],.slice none 0 0,.int .i64 e]) ?_ rfl ⟨.slice none 0 0, ?_, ?_,HBS.out⟩
  ·simp [results,Tryz.results8,go_sem,p0,p1,p2,p3,p4,p5]
  ·rw [HE.out.1,HE.out.2.1,←HEE.out];rfl
  ·rw [HE.out.2.2];exact OwBB.nil _ _
 rw [Decidable.not_not] at g1;have HG1:=hide g1;rw [g1];obtain ⟨a2,c2,rfl⟩:=ho2.form;obtain ⟨n2,hn2⟩:∃n2,n2=(qaf f s).length:=⟨_,rfl⟩;rw [←hn2] at ho2 ⊢;have HN2:=hide hn2
 have hn4:n2≤4096:=by rw [hn2];exact qcq f s
 have HR2:=hide ho2.rdL;clear g1 ho2 hn2
 by_cases g2:n2<2
 ·have g2':(n2:Int)<2:=by omega
  have HE:=hide (qvf HG1.out (.inl (by rw [←HN2.out];exact g2)));clear g2;obtain ⟨c0,c1,c2,c3,c4,c5⟩:=qaq qg2.out;have f0:=qg2.out.fz 0;have f1:=qg2.out.fz 1;have f2:=qg2.out.fz 2;have f3:=qg2.out.fz 3;have f4:=qg2.out.fz 4;have f5:=qg2.out.fz 5;obtain ⟨hat,hgr⟩:=put6 qg2.out (.string ⟨#[]⟩) (.int .u32 0) (.int .i64 0) (.int .u32 0) (.int .u32 0) (.int .i64 0);obtain ⟨ws,ews⟩:∃ws,ws=qa3 w2 (w.heap.size+1) (.string ⟨#[]⟩) (.int .u32 0) (.int .i64 0) (.int .u32 0) (.int .u32 0) (.int .i64 0):=⟨_,rfl⟩;rw [←ews] at hat hgr;have HAT:=hide hat;have HBS:=hide (show Below w.heap.size w ws from qah.out.grown hgr qah.out.size (by intro k hk;cases hk;omega));unfold qa3 at ews;have EWS:=hide ews;clear hat hgr ews;go_wp2;rw [←EWS.out];obtain ⟨p0,p1,p2,p3,p4,p5⟩:=qaq HAT.out
  refine bodyPost_ret (v:=.tuple #[.agg #[.string ⟨#[]⟩,.int .u32 0,.int .i64 0,.int .u32 0,.int .u32 0,.int .i64 0],.slice none 0 0,.int .i64 8]) ?_ rfl ⟨.slice none 0 0, ?_, ?_,HBS.out⟩
  ·simp [results,Tryz.results8,go_sem,p0,p1,p2,p3,p4,p5]
  ·rw [HE.out.1,HE.out.2.1];rfl
  ·rw [HE.out.2.2];exact OwBB.nil _ _
 have g2':decide ((n2:Int)<2)=false:=by simpa using (by omega:¬(n2:Int)<2)
 have HL2:=hide (show 2≤(qaf f s).length by rw [←HN2.out];omega);obtain ⟨b2,o2,rfl,gc1,gc2,gn1,gn2,hR1⟩:=qaez HR2.out HL2.out;have HR1:=hide hR1;obtain ⟨b2',o2',y0,z0,e9,hc0,hr0⟩:=HR2.out.at 0 (by have:=HL2.out;omega);cases e9;have HB0:=hide (qaa9 (l:=qaf f s) (by have:=HL2.out;omega));obtain ⟨B0,hB0⟩:∃B0,B0=(qaf f s)[0]'(by have:=HL2.out;omega):=⟨_,rfl⟩
 have hB1:B0.length=128:=by rw [hB0];exact qj1 _ (List.getElem_mem _)
 rw [←hB0] at hc0 hr0 HB0;rw [hB1] at hc0 hr0;rw [Nat.add_zero] at hc0;have HR0:=hide hr0;have HBL:=hide hB1;clear g2 hR1 hr0 hB0 hB1
 go_wp2_with fail
 refine (qaey y0 128 z0 B0 w2 HR0.out HBL.out.symm HBL.out).mono ?_
 rintro e w3 ⟨rfl,hb3⟩;have qkq:=hide (qg2.out.carry hb3);have qam:=bT qah hb3;have HRT:=hide (HR1.out.carry hb3);have HS3:=hide (show w.heap.size+2≤w3.heap.size by have:=hb3.size;have:=HSZ.out;omega);clear hb3 hc0
 by_cases g3:¬qh6 B0
 ·have HE:=hide (qvf HG1.out (.inr (by rw [HB0.out];exact g3)))
  have e1:qw8 B0=8:=if_neg g3;rw [e1];clear g3 e1;obtain ⟨c0,c1,c2,c3,c4,c5⟩:=qaq qkq.out;have f0:=qkq.out.fz 0;have f1:=qkq.out.fz 1;have f2:=qkq.out.fz 2;have f3:=qkq.out.fz 3;have f4:=qkq.out.fz 4;have f5:=qkq.out.fz 5;obtain ⟨hat,hgr⟩:=put6 qkq.out (.string ⟨#[]⟩) (.int .u32 0) (.int .i64 0) (.int .u32 0) (.int .u32 0) (.int .i64 0);obtain ⟨ws,ews⟩:∃ws,ws=qa3 w3 (w.heap.size+1) (.string ⟨#[]⟩) (.int .u32 0) (.int .i64 0) (.int .u32 0) (.int .u32 0) (.int .i64 0):=⟨_,rfl⟩;rw [←ews] at hat hgr;have HAT:=hide hat;have HBS:=hide (show Below w.heap.size w ws from qam.out.grown hgr qam.out.size (by intro k hk;cases hk;omega));unfold qa3 at ews;have EWS:=hide ews;clear hat hgr ews;go_wp2;rw [←EWS.out];obtain ⟨p0,p1,p2,p3,p4,p5⟩:=qaq HAT.out
  refine bodyPost_ret (v:=.tuple #[.agg #[.string ⟨#[]⟩,.int .u32 0,.int .i64 0,.int .u32 0,.int .u32 0,.int .i64 0],.slice none 0 0,.int .i64 8]) ?_ rfl ⟨.slice none 0 0, ?_, ?_,HBS.out⟩
  ·simp [results,Tryz.results8,go_sem,p0,p1,p2,p3,p4,p5]
  ·rw [HE.out.1,HE.out.2.1];rfl
  ·rw [HE.out.2.2];exact OwBB.nil _ _
 rw [Decidable.not_not] at g3;have e1:qw8 B0=0:=if_pos g3;have e2:qaa6 B0=genF B0:=if_pos g3;rw [e1,e2];obtain ⟨g,hg⟩:∃g,g=genF B0:=⟨_,rfl⟩
 have hgl:g<4294967296:=by rw [hg];exact qm3 _
 have HGZ:=hide (show g≠0 by rw [hg];exact g3.1);have HE0:=hide (qln HG1.out HL2.out (by rw [HB0.out];exact g3));rw [←hg];have HGE:=hide (show g=genF ((qaf f s).headD []) by rw [HB0.out];exact hg)
 have hi1:(1:Int)≤n2:=by omega
 clear e1 e2 hg g3
 go_wp2_with fail
 refine (qaiq g (some ⟨b2,o2+1,none⟩) (n2 - 1) (c2 - 1) (qaf f s).tail w3 hgl HRT.out).mono ?_
 rintro e w4 ⟨rv,rfl,ho4,hb4⟩;obtain ⟨rE,rG⟩:=rd_log HGZ.out (qaaw f s);obtain ⟨R,hR⟩:∃R:Lg,R=rdG g (qaf f s).tail:=⟨_,rfl⟩;rw [rE,←hR];rw [←hR] at ho4;obtain ⟨R0,R1,R2,R3⟩:=R;have HRR:=hide (hR.trans rG);have qais:=hide (qkq.out.carry hb4);have qbo:=bT qam hb4;obtain ⟨ra,rc,rfl⟩:=ho4.form;obtain ⟨rn,hrn⟩:∃rn,rn=R0.length:=⟨_,rfl⟩;have HRN:=hide hrn;dsimp only at ho4 hrn ⊢;rw [←hrn] at ho4 ⊢;have HO4:=hide ho4;have HS4:=hide (show w3.heap.size≤w4.heap.size from hb4.size);clear rE rG hR hb4 ho4 hrn
 have HWL:=hide (show qan f s=(s,g,rn,R2,R3,R1)∧qdf f s=R0 by
  have h9:=HRR.out
  simp only [Prod.mk.injEq] at h9
  obtain ⟨a1,a2,a3,a4⟩:=h9;obtain ⟨_,_,_,b1,b2⟩:=qc0 HE0.out;rw [b1,b2];unfold logW recL;rw [←HGE.out,←a4,←a1,←a2,←a3,HRN.out,a1,List.length_map]
  exact ⟨rfl,rfl⟩)
 obtain ⟨w5,e5⟩:∃w5,w4.alloc (.cells #[.slice ra rn rc,.int .i64 R1,.int .u32 R2,.int .u32 R3] 76)=w5:=⟨_,rfl⟩
 have hb5:Below w4.heap.size w4 w5:=by rw [←e5];exact (Below.refl _ _).alloc (Nat.le_refl _) _
 have qaba:=hide (show Bq w5 w4.heap.size 76 #[.slice ra rn rc,.int .i64 R1,.int .u32 R2,.int .u32 R3] by rw [←e5];exact Bq.new _ _ _);obtain ⟨w6,e6⟩:∃w6,w5.alloc (.cells #[.string (bs s),.int .u32 g,.int .i64 rn,.int .u32 R2,.int .u32 R3,.int .i64 R1] 35)=w6:=⟨_,rfl⟩
 have hb6:Below w5.heap.size w5 w6:=by rw [←e6];exact (Below.refl _ _).alloc (Nat.le_refl _) _
 have hz5:w5.heap.size=w4.heap.size+1:=by rw [←e5];simp
 have qait:=hide (show Bq w6 (w4.heap.size+1) 35 #[.string (bs s),.int .u32 g,.int .i64 rn,.int .u32 R2,.int .u32 R3,.int .i64 R1] by rw [←e6,←hz5];exact Bq.new _ _ _);have HG_w6:=hide (qaba.out.carry hb6);have HL_w6:=hide ((qais.out.carry hb5).carry hb6);have qb9:=hide (show Below w.heap.size w w6 from (qbo.out.trans (hb5.mono qbo.out.size)).trans (hb6.mono (Nat.le_trans qbo.out.size hb5.size)));have HO6:=hide ((HO4.out.carry hb5).carry hb6);obtain ⟨l0,l1,l2,l3⟩:w5.cell? ⟨w4.heap.size,0,none⟩=some (.slice ra rn rc)∧w5.cell? ⟨w4.heap.size,1,none⟩=some (.int .i64 R1)∧w5.cell? ⟨w4.heap.size,2,none⟩=some (.int .u32 R2)∧w5.cell? ⟨w4.heap.size,3,none⟩=some (.int .u32 R3):=⟨qaba.out.cell 0,qaba.out.cell 1,qaba.out.cell 2,qaba.out.cell 3⟩;clear hb5 hb6;go_wp2
 have hK:Keeps (fun wx=>(∃v0 v1 v2 v3 v4 v5,Bq wx (w.heap.size+1) 35 #[v0,v1,v2,v3,v4,v5])∧Bq wx w4.heap.size 76 #[.slice ra rn rc,.int .i64 R1,.int .u32 R2,.int .u32 R3]∧Bq wx (w4.heap.size+1) 35 #[.string (bs s),.int .u32 g,.int .i64 rn,.int .u32 R2,.int .u32 R3,.int .i64 R1]∧Below w.heap.size w wx∧OwBB wx w3.heap.size (.slice ra rn rc) R0):=fun _ _ h hb=>⟨by obtain ⟨⟨v0,v1,v2,v3,v4,v5,h1⟩, -⟩:=h;exact ⟨_,_,_,_,_,_,h1.carry hb⟩,h.2.1.carry hb,h.2.2.1.carry hb,h.2.2.2.1.trans (hb.mono h.2.2.2.1.size),h.2.2.2.2.carry hb⟩
 have hS0:(fun wx=>(∃v0 v1 v2 v3 v4 v5,Bq wx (w.heap.size+1) 35 #[v0,v1,v2,v3,v4,v5])∧Bq wx w4.heap.size 76 #[.slice ra rn rc,.int .i64 R1,.int .u32 R2,.int .u32 R3]∧Bq wx (w4.heap.size+1) 35 #[.string (bs s),.int .u32 g,.int .i64 rn,.int .u32 R2,.int .u32 R3,.int .i64 R1]∧Below w.heap.size w wx∧OwBB wx w3.heap.size (.slice ra rn rc) R0) w6:=⟨⟨_,_,_,_,_,_,HL_w6.out⟩,HG_w6.out,qait.out,qb9.out,HO6.out⟩
 refine qao hK (by kernel_rfl) hS0 ?_
 clear l0 l1 l2 l3 hz5 e5 e6 hS0;intro hS;generalize w6.drew=wd at *
 refine qac [0,1,2] (fuel:=3) (a':=?zp1a) (by kernel_rfl) (by kernel_rfl) (by kernel_rfl) ?zp1p hS ?zp1n
 case zp1p=>
  iterate 3 (apply Yl.cons rfl (by kernel_rfl);focus (rintro wx ⟨x1,x2,x3,x4,x5⟩;obtain ⟨k0,k1,k2,k3,k4,k5⟩:=qaq x3;(have k6:wx.cell? ⟨w4.heap.size,0,none⟩=some (.slice ra rn rc):=x2.cell 0);go_simp;all_goals (with_reducible rfl));try simp only [Act.put,sA,sB,sC])
  exact Yl.nil
 obtain ⟨⟨v0,v1,v2,v3,v4,v5,s1⟩,s2,s3,s4,s5⟩:=hS;obtain ⟨c0,c1,c2,c3,c4,c5⟩:=qaq s1;have f0:=s1.fz 0;have f1:=s1.fz 1;have f2:=s1.fz 2;have f3:=s1.fz 3;have f4:=s1.fz 4;have f5:=s1.fz 5;obtain ⟨hat,hgr⟩:=put6 s1 (.string (bs s)) (.int .u32 g) (.int .i64 rn) (.int .u32 R2) (.int .u32 R3) (.int .i64 R1);obtain ⟨ws,ews⟩:∃ws,qa3 wd (w.heap.size+1) (.string (bs s)) (.int .u32 g) (.int .i64 rn) (.int .u32 R2) (.int .u32 R3) (.int .i64 R1)=ws:=⟨_,rfl⟩;rw [ews] at hat hgr;have HAT:=hide hat;have hBS:Below w.heap.size w ws:=s4.grown hgr s4.size (by intro k hk;cases hk;omega);have hOS:=s5.grown hgr (by have:=HS3.out;omega);have hS9:(fun wx=>(∃v0 v1 v2 v3 v4 v5,Bq wx (w.heap.size+1) 35 #[v0,v1,v2,v3,v4,v5])∧Bq wx w4.heap.size 76 #[.slice ra rn rc,.int .i64 R1,.int .u32 R2,.int .u32 R3]∧Bq wx (w4.heap.size+1) 35 #[.string (bs s),.int .u32 g,.int .i64 rn,.int .u32 R2,.int .u32 R3,.int .i64 R1]∧Below w.heap.size w wx∧OwBB wx w3.heap.size (.slice ra rn rc) R0) ws:=⟨⟨_,_,_,_,_,_,hat⟩,s2.grown hgr (by have:=HS3.out;have:=HS4.out;omega),s3.grown hgr (by have:=HS3.out;have:=HS4.out;omega),hBS,hOS⟩;unfold qa3 at ews;clear hat hgr s1 s2 s3 s4 s5 hBS hOS
 refine qaz (i:=3) (w':=ws) rfl (by kernel_rfl) (by rfl) (by rw [←ews];go_simp) hS9 ?_
 clear ews c0 c1 c2 c3 c4 c5 f0 f1 f2 f3 f4 f5;have hS:=hS9;clear hS9
 try simp only [Act.put,sA,sB,sC]
 refine qac [4,5] (fuel:=0) (a':=?zp2a) (by kernel_rfl) (by kernel_rfl) (by kernel_rfl) ?zp2p hS ?zp2n
 case zp2p=>
  iterate 2 (apply Yl.cons rfl (by kernel_rfl);focus (rintro wx ⟨x1,x2,x3,x4,x5⟩;obtain ⟨k0,k1,k2,k3,k4,k5⟩:=qaq x3;(have k6:wx.cell? ⟨w4.heap.size,0,none⟩=some (.slice ra rn rc):=x2.cell 0);go_simp;all_goals (with_reducible rfl));try simp only [Act.put,sA,sB,sC])
  exact Yl.nil
 refine wpAnyH_done (by kernel_rfl) ?_ _
 refine NoPanic.normal ?_
 try simp only [Act.put,sA,sB,sC]
 obtain ⟨p0,p1,p2,p3,p4,p5⟩:=qaq HAT.out;have HHS:=hide hS;clear hS;go_wp2
 refine bodyPost_ret (v:=.tuple #[.agg #[.string (bs s),.int .u32 g,.int .i64 rn,.int .u32 R2,.int .u32 R3,.int .i64 R1],.slice ra rn rc,.int .i64 0]) ?_ rfl ⟨.slice ra rn rc, ?_, ?_,HHS.out.2.2.2.1⟩
 ·simp [results,Tryz.results8,go_sem,p0,p1,p2,p3,p4,p5]
 ·rw [HE0.out,HWL.out.1]
 ·rw [HWL.out.2];exact HHS.out.2.2.2.2.mono (by have:=HS3.out;omega)
theorem qabb {f:Fsd} {W:Wl} (h:¬qbw f W.1=0):behE f W=qbw f W.1∧behN f W=0:=by
 have e:behE f W=qbw f W.1:=by unfold behE;rw [if_pos h]
 exact ⟨e,by unfold behN;rw [if_pos (by rw [e];exact h)]⟩
theorem qr5 {f:Fsd} {W:Wl} (h:qbw f W.1=0) (h2:¬qan f W.1=W):behE f W=8∧behN f W=0:=by
 have e:behE f W=8:=by unfold behE;rw [if_neg (fun e=>e h),if_pos h2]
 exact ⟨e,by unfold behN;rw [if_pos (by rw [e];decide)]⟩
theorem beh_is {f:Fsd} {W:Wl} (h:qbw f W.1=0) (h2:qan f W.1=W):behE f W=0∧behN f W=((qaf f W.1).length:Int) - 1 - W.2.2.2.2.2∧qay f W.1=0∧W.2.2.2.2.2≤(qaf f W.1).length - 1∧2≤(qaf f W.1).length:=by
 have e:behE f W=0:=by unfold behE;rw [if_neg (fun e=>e h),if_neg (fun e=>e h2)]
 obtain ⟨a1,a2,_,a3,_⟩:=qc0 h;refine ⟨e,by unfold behN;rw [if_neg (fun h=>h e)],a1, ?_,a2⟩
 have:=(qp0 W.1 (qaf f W.1) (qcq _ _)).2.2.2.2
 rw [←a3,h2] at this;exact this
theorem qabc (m b:Nat) (hb:b≤m - 1) (h1:2≤m) (hm:m≤4096):wrap64 ((m:Int) - 1)=((m - 1:Nat):Int)∧wrap64 (((m - 1:Nat):Int) - (b:Int))=(m:Int) - 1 - b:=by
 refine ⟨?_, ?_⟩<;>(unfold wrap64;omega)
theorem qaiu {v0 u0:List UInt8} {v1 v2 v3 v4 v5 u1 u2 u3 u4 u5:Nat} (h:¬((v0,v1,v2,v3,v4,v5):Wl)=(u0,u1,u2,u3,u4,u5)):v0≠u0∨(v0=u0∧(v1≠u1∨(v1=u1∧(v2≠u2∨(v2=u2∧(v3≠u3∨(v3=u3∧(v4≠u4∨(v4=u4∧v5≠u5))))))))):=by
 by_cases h0:v0=u0
 ·refine .inr ⟨h0, ?_⟩
  subst h0
  have h:¬(v1=u1∧v2=u2∧v3=u3∧v4=u4∧v5=u5):=fun e=>h (by obtain ⟨rfl,rfl,rfl,rfl,rfl⟩:=e;rfl)
  omega
 ·exact .inl h0
theorem qxb (x:FsV) (f:Fsd) (W:Wl) (w:World) (h:RdX w x f) (hw:WfX f):
  Calls Tryz.prog 29 #[x.val,wlV W] w fun e w'=>e=.returned (.tuple #[.int .i64 (behN f W),.int .i64 (behE f W)])∧Below w.heap.size w w':=by
 have HW:=hide hw;clear hw;obtain ⟨w1,ew⟩:∃w1,(w.alloc (.cells x.cs 33)).alloc (.cells #[.string (bs W.1),.int .u32 W.2.1,.int .i64 W.2.2.1,.int .u32 W.2.2.2.1,.int .u32 W.2.2.2.2.1,.int .i64 W.2.2.2.2.2] 35)=w1:=⟨_,rfl⟩;have q0:Below w.heap.size w (w.alloc (.cells x.cs 33)):=(Below.refl _ _).alloc (Nat.le_refl _) _
 have hsz:(w.alloc (.cells x.cs 33)).heap.size=w.heap.size+1:=by simp
 have q1:Below (w.alloc (.cells x.cs 33)).heap.size (w.alloc (.cells x.cs 33)) w1:=by rw [←ew];exact (Below.refl _ _).alloc (Nat.le_refl _) _
 have qbt:=hide (show FsAt w1 w.heap.size x from (Bq.new w 33 x.cs).carry q1);have qxa:=hide (show WlAt w1 (w.heap.size+1) W by rw [←ew,←hsz];exact Bq.new _ _ _);have qad:=hide (show Below w.heap.size w w1 from q0.trans (q1.mono (by omega)));obtain ⟨k0,k1,k2,k3,k4,k5⟩:=qab qbt.out;obtain ⟨j0,j1,j2,j3,j4,j5⟩:=qag qxa.out;have HX:=hide h;clear h q0 q1 hsz;unfold FsV.val;unfold FsV.cs at ew
 go_enter Tryz.func29,Tryz.ntmps29
 go_wp2_with fail
 refine (qlo x f W.1 w1 (HX.out.carry qad.out) HW.out).mono ?_
 rintro e w2 ⟨rv,rfl,ho2,hb2⟩;have qhe:=hide (qbt.out.carry hb2);have qg2:=hide (qxa.out.carry hb2);have qah:=bT qad hb2;obtain ⟨V,hV⟩:∃V,V=qan f W.1:=⟨_,rfl⟩;have HV:=hide hV;rw [←hV];obtain ⟨w3,e3⟩:∃w3,w2.alloc (.cells #[.string (bs V.1),.int .u32 V.2.1,.int .i64 V.2.2.1,.int .u32 V.2.2.2.1,.int .u32 V.2.2.2.2.1,.int .i64 V.2.2.2.2.2] 35)=w3:=⟨_,rfl⟩
 have hb3:Below w2.heap.size w2 w3:=by rw [←e3];exact (Below.refl _ _).alloc (Nat.le_refl _) _
 have HV_w3:=hide (show WlAt w3 w2.heap.size V by rw [←e3];exact Bq.new _ _ _);have qpm:=hide (qhe.out.carry hb3);have qkq:=hide (qg2.out.carry hb3);have qam:=bT qah hb3;clear k0 k1 k2 k3 k4 k5 j0 j1 j2 j3 j4 j5 ew hb2 ho2 hb3 hV
 by_cases g1:¬qbw f W.1=0
 ·have HE:=hide (qabb g1)
  obtain ⟨e,he⟩:∃e,e=qbw f W.1:=⟨_,rfl⟩;have HEE:=hide he;rw [←he] at g1 ⊢
  have ge:(e==0)=false:=by simpa using g1
  clear he g1;go_wp2;go_ret2;refine ⟨?_,qam.out⟩
  rw [HE.out.1,HE.out.2,←HEE.out];rfl
 rw [Decidable.not_not] at g1;rw [g1];have HG:=hide g1;clear g1
 by_cases g2:¬V=W
 ·have HE:=hide (qr5 HG.out (by rw [←HV.out];exact g2))
  clear HV;obtain ⟨v0,v1,v2,v3,v4,v5⟩:=V;obtain ⟨u0,u1,u2,u3,u4,u5⟩:=W;obtain ⟨l0,l1,l2,l3,l4,l5⟩:=qag HV_w3.out;obtain ⟨j0,j1,j2,j3,j4,j5⟩:=qag qkq.out;unfold wlV wlC;dsimp only at l0 l1 l2 l3 l4 l5 j0 j1 j2 j3 j4 j5 e3 ⊢;have hd:v0≠u0∨(v0=u0∧(v1≠u1∨(v1=u1∧(v2≠u2∨(v2=u2∧(v3≠u3∨(v3=u3∧(v4≠u4∨(v4=u4∧v5≠u5))))))))):=qaiu g2;clear g2
  rcases hd with hq | ⟨rfl,hq | ⟨rfl,hq | ⟨rfl,hq | ⟨rfl,hq | ⟨rfl,hq⟩⟩⟩⟩⟩
  ·have hq':((bs v0).toList==(bs u0).toList)=false:=by rw [bs_dec];exact decide_eq_false hq
   clear hq;go_wp2;go_ret2;refine ⟨?_,qam.out⟩
   rw [HE.out.1,HE.out.2];rfl
  ·have hq':((v1:Int)==(u1:Int))=false:=by rw [qm9];exact decide_eq_false hq
   clear hq;go_wp2;go_ret2;refine ⟨?_,qam.out⟩
   rw [HE.out.1,HE.out.2];rfl
  ·have hq':((v2:Int)==(u2:Int))=false:=by rw [qm9];exact decide_eq_false hq
   clear hq;go_wp2;go_ret2;refine ⟨?_,qam.out⟩
   rw [HE.out.1,HE.out.2];rfl
  ·have hq':((v3:Int)==(u3:Int))=false:=by rw [qm9];exact decide_eq_false hq
   clear hq;go_wp2;go_ret2;refine ⟨?_,qam.out⟩
   rw [HE.out.1,HE.out.2];rfl
  ·have hq':((v4:Int)==(u4:Int))=false:=by rw [qm9];exact decide_eq_false hq
   clear hq;go_wp2;go_ret2;refine ⟨?_,qam.out⟩
   rw [HE.out.1,HE.out.2];rfl
  ·have hq':((v5:Int)==(u5:Int))=false:=by rw [qm9];exact decide_eq_false hq
   clear hq;go_wp2;go_ret2;refine ⟨?_,qam.out⟩
   rw [HE.out.1,HE.out.2];rfl
 rw [Decidable.not_not] at g2;have HE:=hide (beh_is HG.out (HV.out.symm.trans g2));subst g2;clear HV;obtain ⟨l0,l1,l2,l3,l4,l5⟩:=qag HV_w3.out;obtain ⟨j0,j1,j2,j3,j4,j5⟩:=qag qkq.out;obtain ⟨k0,k1,k2,k3,k4,k5⟩:=qab qpm.out
 go_wp2_with fail
 refine (qzo x f V.1 w3 (HX.out.carry qam.out) HW.out).mono ?_
 rintro e w4 ⟨rfl,hb4⟩;have qais:=hide (qkq.out.carry hb4);have qbo:=bT qam hb4;obtain ⟨m,hm⟩:∃m,m=(qaf f V.1).length:=⟨_,rfl⟩;rw [HE.out.2.2.1,qj2 HE.out.2.2.1,←hm];obtain ⟨a1,a2⟩:=qabc m V.2.2.2.2.2 (by rw [hm];exact HE.out.2.2.2.1) (by rw [hm];exact HE.out.2.2.2.2) (by rw [hm];exact qcq _ _);have HM:=hide hm;clear k0 k1 k2 k3 k4 k5 l0 l1 l2 l3 l4 l5 j0 j1 j2 j3 j4 j5 hb4 hm;obtain ⟨j0,j1,j2,j3,j4,j5⟩:=qag qais.out;go_wp2;go_ret2;refine ⟨?_,qbo.out⟩
 rw [HE.out.1,HE.out.2.1,←HM.out,←a2];rfl
theorem qxc (N:Nat) (hN:N≤1000000):wrap64 ((N:Int)+1)=((N+1:Nat):Int)∧IntKind.u32.wrap ((N+1:Nat):Int)=((N+1:Nat):Int):=by
 refine ⟨by unfold wrap64;omega,by rw [IntKind.wrap_u32'];omega⟩
theorem qaiv (a b:Nat):max (a:Int) (b:Int)=((max a b:Nat):Int):=by omega
theorem qae0 (W:Wl) (a:Option Addr) (n c:Nat) (r:List UInt8) (w:World) (h:Rd w (.slice a n c) r) (hn:n=r.length) (h1:W.2.1<4294967296) (h2:W.2.2.1≤1000000) (h3:W.2.2.2.1<4294967296) (h4:W.2.2.2.2.1<4294967296):
  Calls Tryz.prog 31 #[wlV W,.slice a n c] w fun e w'=>∃v,e=.returned (.tuple #[v,.int .i64 (qcm W r)])∧OwBB w' w.heap.size v (qb6 W r)∧Below w.heap.size w w':=by
 obtain ⟨w1,ew⟩:∃w1,w.alloc (.cells #[.string (bs W.1),.int .u32 W.2.1,.int .i64 W.2.2.1,.int .u32 W.2.2.2.1,.int .u32 W.2.2.2.2.1,.int .i64 W.2.2.2.2.2] 35)=w1:=⟨_,rfl⟩
 have hb1:Below w.heap.size w w1:=by rw [←ew];exact (Below.refl _ _).alloc (Nat.le_refl _) _
 have qxa:=hide (show WlAt w1 w.heap.size W by rw [←ew];exact Bq.new _ _ _);have qad:=hide hb1;have HR:=hide (h.carry hb1);have HN:=hide hn
 have hnm:n≤maxLen:=by rw [hn];exact h.len_le
 obtain ⟨j0,j1,j2,j3,j4,j5⟩:=qag qxa.out;obtain ⟨a1,a2⟩:=qxc W.2.2.1 h2;have HH:=hide (And.intro h1 (And.intro h2 (And.intro h3 h4)));obtain ⟨M,hM⟩:∃M,M=max W.2.2.2.1 W.2.2.2.2.1:=⟨_,rfl⟩
 have hmx:max (W.2.2.2.1:Int) (W.2.2.2.2.1:Int)=(M:Int):=by rw [hM];exact qaiv _ _
 have HM:=hide hM
 have hMl:M<4294967296:=by rw [hM];omega
 clear h hb1 hn h1 h2 h3 h4 hM
 go_enter Tryz.func31,Tryz.ntmps31
 by_cases g1:16384<n
 ·have g1':(16384:Int)<n:=by omega
  have HE:=hide (show qcm W r=3∧qb6 W r=[] by
   have e:qcm W r=3:=by unfold qcm;rw [if_pos (by rw [←HN.out];exact g1)]
   exact ⟨e,by unfold qb6;rw [if_pos (by rw [e];decide)]⟩)
  clear g1;go_wp2;go_ret2;exact ⟨_,by rw [HE.out.1];rfl,by rw [HE.out.2];exact OwBB.nil _ _,qad.out⟩
 have g1':decide ((16384:Int)<n)=false:=by simpa using (by omega:¬(16384:Int)<n)
 have HG1:=hide g1;clear g1
 by_cases g2:M=4294967295
 ·have g2':((M:Int)==4294967295)=true:=by simpa using (by omega:(M:Int)=4294967295)
  have HE:=hide (show qcm W r=9∧qb6 W r=[] by
   have e:qcm W r=9:=by unfold qcm;rw [if_neg (by rw [←HN.out];exact HG1.out),if_pos (by rw [←HM.out];exact g2)]
   exact ⟨e,by unfold qb6;rw [if_pos (by rw [e];decide)]⟩)
  clear g2;go_wp2
  all_goals
   go_ret2;exact ⟨_,by rw [HE.out.1];rfl,by rw [HE.out.2];exact OwBB.nil _ _,qad.out⟩
 have g2':((M:Int)==4294967295)=false:=by simpa using (by omega:¬(M:Int)=4294967295)
 have a3:IntKind.u32.wrap ((M:Int)+1)=((M+1:Nat):Int):=by rw [IntKind.wrap_u32'];omega
 have HE:=hide (show qcm W r=frmE (hdW W) r∧qb6 W r=frmL (hdW W) r by
  have e:qcm W r=frmE (hdW W) r:=by unfold qcm;rw [if_neg (by rw [←HN.out];exact HG1.out),if_neg (by rw [←HM.out];exact g2)]
  refine ⟨e, ?_⟩;unfold qb6 frmL;rw [e]
  by_cases h0:frmE (hdW W) r=0
  ·rw [if_neg (fun e=>e h0),if_pos h0]
  ·rw [if_pos h0,if_neg h0])
 have hcon:=qrz (hdW W) a n c r w1 ⟨HH.out.1,by show W.2.2.1+1<_;have:=HH.out.2.1;omega,by show max W.2.2.2.1 W.2.2.2.2.1+1<_;rw [←HM.out];omega,HH.out.2.2.1⟩ HN.out HR.out;rw [←HE.out.1,←HE.out.2] at hcon;unfold hdW at hcon;dsimp only at hcon;rw [←HM.out] at hcon;have HCON:=hide hcon;have HG2:=hide g2;clear g2 hcon
 go_wp2_with fail
 all_goals
  have hM:=HM.out;have hH:=HH.out;have hG2:=HG2.out
  have e1:((W.2.2.1:Int)+1) % 4294967296=((W.2.2.1+1:Nat):Int):=by omega
  first
   | rw [e1,show ((W.2.2.2.1:Int)+1) % 4294967296=((M+1:Nat):Int) by omega]
   | rw [e1,show ((W.2.2.2.2.1:Int)+1) % 4294967296=((M+1:Nat):Int) by omega]
  clear hM hH hG2 e1
  refine HCON.out.mono ?_
  rintro e w2 ⟨v2,rfl,ho2,hb2⟩;have qah:=bT qad hb2;have HO2:=hide (ho2.mono qad.out.size);clear hb2 ho2;go_wp2;go_ret2;exact ⟨_,rfl,HO2.out,qah.out⟩
end Go.Proofs.YtnmbbpdhjkaidaaGreat

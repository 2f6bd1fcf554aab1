/-
  The steps on the way.
-/
import Derived.Test.YtmeaiocohalphaaGreatDoorFiApart
import Derived.Test.YtmeaiocohalphaaGreatDoorRmTakesLaw
import Derived.Test.YtmeaiocohalphaaGreatDoorSLat
set_option maxHeartbeats 4000000
set_option maxRecDepth 100000
namespace Go.Proofs.YtmeaiocohalphaaGreatDoor
open Go.RowKit
set_option linter.all false
theorem mk_fs (x:FsV) (f:Fsd) (s:List UInt8) (n:Int) (w:World) (h:RdX w x f) (hw:WfX f):
  Calls Tryz.prog 98 #[x.val,.string (bs s),.int .i64 n] w fun e w'=>∃v,e=.returned (.tuple #[.agg #[v],.int .i64 (mkE f s n)])∧OwF w' w.heap.size v (mkL f s n)∧Below w.heap.size w w':=by
 have HW:=hide hw;clear hw;obtain ⟨w1,ew⟩:∃w1,(w.alloc (.cells x.cs 33)).alloc (.cells #[.slice none 0 0] 31)=w1:=⟨_,rfl⟩;have hb0:Below w.heap.size w (w.alloc (.cells x.cs 33)):=(Below.refl _ _).alloc (Nat.le_refl _) _
 have hb1:Below w.heap.size w w1:=by rw [←ew];exact hb0.alloc (by simp) _
 have qbe:=hide (show FsAt w1 w.heap.size x by rw [←ew];exact (Bq.new w 33 x.cs).carry ((Below.refl _ _).alloc (Nat.le_refl _) _))
 have qdl:=hide (show BlkD w1 (w.heap.size+1) by
  have:=BlkD.new (w.alloc (.cells x.cs 33)) (.slice none 0 0)
  rw [←ew];simpa using this)
 obtain ⟨k0,k1,k2,k3,k4,k5⟩:=qab qbe.out;have HX:=hide h;have qad:=hide hb1;clear h hb1 hb0;unfold FsV.val;unfold FsV.cs at ew
 go_enter Tryz.func98,Tryz.ntmps98
 go_wp2_with fail
 refine (qw3 _ _ _ f.2.2.1 s w1 (HX.out.fl.carry qad.out) HX.out.n4 HW.out.fl).mono ?_
 rintro e w2 ⟨v2,rfl,ho2,hb2⟩;have qb9:=hide (qbe.out.carry hb2);have qd3:=hide (qdl.out.carry hb2);have qae:=bT qad hb2;clear k0 k1 k2 k3 k4 k5 ew hb2;obtain ⟨m2,hm2⟩:∃m2,m2=(qdq f.2.2.1 s).2.length:=⟨_,rfl⟩
 obtain ⟨y2,z2,e2⟩:∃a c,v2=.slice a m2 c:=by rw [hm2];exact ho2.form
 subst e2;clear ho2 hm2;obtain ⟨n9,hn9⟩:∃n9,n9=(qdq f.2.2.1 s).1:=⟨_,rfl⟩;rw [←hn9];clear hn9;obtain ⟨w3,ew3⟩:∃w3,w2.alloc (.cells #[.string (bs n9),.slice y2 m2 z2] 98)=w3:=⟨_,rfl⟩
 have hb3:Below w2.heap.size w2 w3:=by rw [←ew3];exact (Below.refl _ _).alloc (Nat.le_refl _) _
 have qht:=hide (qb9.out.carry hb3);have qhc:=hide (qd3.out.carry hb3);have qak:=bT qae hb3;clear hb3;obtain ⟨te,hte⟩:∃te,te=qaw f.2.2.1 s:=⟨_,rfl⟩;rw [←hte]
 by_cases g1:te=0
 ·have HE:=hide (show mkE f s n=51 by unfold mkE;rw [if_pos (by rw [←hte];exact g1)])
  have HL:=hide (show mkL f s n=[] by unfold mkL;rw [if_neg (by rw [HE.out];decide)]);subst g1;clear hte;have hc:=qhc.out.cell;have hf:=qhc.out.fz;obtain ⟨z0,hg, -⟩:=qhc.out.put (.slice none 0 0);obtain ⟨y,hy⟩:=qhc.out;have HOR:=hide (show OwF (w3.setCell ⟨w.heap.size+1,0,none⟩ (.slice none 0 0)) w.heap.size (.slice none 0 0) _ from OwF.nil _ _);have HBR:=hide (qak.out.grown hg qak.out.size (by intro k hk;cases hk;omega));clear hy hg;go_wp2;obtain ⟨w9,hw9⟩:∃w9,w9=w3.setCell ⟨w.heap.size+1,0,none⟩ (.slice none 0 0):=⟨_,rfl⟩;rw [←hw9] at z0 HOR HBR ⊢
  try simp only [Exit.inBlock,Exit.then]
  refine bodyPost_ret (v:=.tuple #[.agg #[.slice none 0 0],.int .i64 51]) ?_ rfl ⟨.slice none 0 0,by rw [HE.out],by rw [HL.out];exact HOR.out,HBR.out⟩
  clear hw9 hc hf
  simp [results,Tryz.results98,go_sem, *]
 by_cases g2:¬te=6
 ·have HE:=hide (show mkE f s n=te by unfold mkE;rw [if_neg (by rw [←hte];exact g1),if_pos (by rw [←hte];exact g2),←hte])
  have HL:=hide (show mkL f s n=[] by unfold mkL;rw [if_neg (by rw [HE.out];exact g1)]);clear hte;have hc:=qhc.out.cell;have hf:=qhc.out.fz;obtain ⟨z0,hg, -⟩:=qhc.out.put (.slice none 0 0);obtain ⟨y,hy⟩:=qhc.out;have HOR:=hide (show OwF (w3.setCell ⟨w.heap.size+1,0,none⟩ (.slice none 0 0)) w.heap.size (.slice none 0 0) _ from OwF.nil _ _);have HBR:=hide (qak.out.grown hg qak.out.size (by intro k hk;cases hk;omega));clear hy hg;go_wp2;obtain ⟨w9,hw9⟩:∃w9,w9=w3.setCell ⟨w.heap.size+1,0,none⟩ (.slice none 0 0):=⟨_,rfl⟩;rw [←hw9] at z0 HOR HBR ⊢
  try simp only [Exit.inBlock,Exit.then]
  refine bodyPost_ret (v:=.tuple #[.agg #[.slice none 0 0],.int .i64 te]) ?_ rfl ⟨.slice none 0 0,by rw [HE.out],by rw [HL.out];exact HOR.out,HBR.out⟩
  clear hw9 hc hf
  simp [results,Tryz.results98,go_sem, *]
 rw [Decidable.not_not] at g2
 have HE:=hide (show mkE f s n=(if qco 34 (qbg f) (qaq f) n≠0 then qco 34 (qbg f) (qaq f) n else qao f.2.2.1 s (qcb 34 (qbg f) (qaq f) n) (qbg f)) by
  unfold mkE;rw [if_neg (by rw [←hte];exact g1),if_neg (by rw [←hte];simpa using g2)])
 subst g2;clear hte g1
 have hK:Keeps (fun wx=>FsAt wx w.heap.size x∧Below w.heap.size w wx):=fun w1 w2 h hb=>⟨h.1.carry hb,h.2.trans (hb.mono h.2.size)⟩
 have hKD:Keeps (fun wx=>BlkD wx (w.heap.size+1)):=fun w1 w2 h hb=>h.carry hb
 have hK:=Keeps.and hK hKD
 go_wp2_with fail
 try rw [ew3]
 clear ew3
 refine qaj hK (by kernel_rfl) ⟨⟨qht.out,qak.out⟩,qhc.out⟩ ?_
 intro hS
 refine rP [0,2,4] 8 ?qaa1 ?qap1 hS ?qan1
 case qap1=>
  iterate 3 (apply Yl.cons rfl rfl;focus (rintro wx ⟨⟨x1,x2⟩,x9⟩;obtain ⟨k0,k1,k2,k3,k4,k5⟩:=qab x1;go_simp;all_goals (with_reducible rfl));try simp only [Act.put,sA,sB,sC])
  exact Yl.nil
 refine rV hK 1 (.int .i64 (qbg f)) rfl hS (quy x f _ (HX.out.carry hS.1.2)) ?_
 clear hS;intro w27 hS
 try simp only [Act.put,sA,sB,sC]
 refine rA hK 3 (fun v wx=>OwE wx w.heap.size v (qaq f)) rfl hS ((qako x f _ (HX.out.carry hS.1.2) HW.out).mono fun e wy ⟨v,h1,h2,h3⟩=>⟨v,h1,h2.mono hS.1.2.size,h3⟩) (fun v w1 w2 h hb=>h.carry hb) ?_
 intro v29 w29 hKn hRn hSn;clear hK hS;have hK:=hKn;have hS:=hSn;clear hKn hSn;obtain ⟨mU,hmU⟩:∃m,m=(qaq f).length:=⟨_,rfl⟩
 obtain ⟨yU,zU,emU⟩:∃a c,v29=.slice a mU c:=by rw [hmU];exact hRn.form
 subst emU;have HmU:=hide hmU;clear hmU;clear hRn
 try simp only [Act.put,sA,sB,sC]
 refine rA hK 5 (fun v wx=>∃u,v=.tuple #[u,.int .i64 (qco 34 (qbg f) (qaq f) n)]∧OwE wx w.heap.size u (qcb 34 (qbg f) (qaq f) n)) rfl hS ((qaf0 34 (qbg f) n yU mU zU (qaq f) _ hS.2.rd HmU.out (qsk f)).mono fun e wy ⟨v,h1,h2,h3⟩=>⟨_,h1,⟨v,rfl,h2.mono hS.1.1.2.size⟩,h3⟩) (fun v w1 w2 ⟨u,h1,h2⟩ hb=>⟨u,h1,h2.carry hb⟩) ?_
 intro v31 w31 hKn hRn hSn;clear hK hS;have hK:=hKn;have hS:=hSn;clear hKn hSn;obtain ⟨u31,rfl,hu31⟩:=hRn
 try simp only [Act.put,sA,sB,sC]
 refine rP [6,7,8,9,10] 0 ?qaa2 ?qap2 hS ?qan2
 case qap2=>
  iterate 5 (apply Yl.cons rfl rfl;focus (rintro wx ⟨⟨⟨⟨x1,x2⟩,x9⟩,_⟩,_⟩;obtain ⟨k0,k1,k2,k3,k4,k5⟩:=qab x1;go_simp;all_goals (with_reducible rfl));try simp only [Act.put,sA,sB,sC])
  exact Yl.nil
 refine rD ?_
 try simp only [Act.put,sA,sB,sC]
 have qacj:=hide hS.1.1.1.2;have HF_w31:=hide hS.1.1.1.1;have qsw:=hide hS.1.1.2;clear hS hK hKD;obtain ⟨tk,htk⟩:∃tk,tk=qco 34 (qbg f) (qaq f) n:=⟨_,rfl⟩;rw [←htk] at HE ⊢
 by_cases g3:¬tk=0
 ·rw [if_pos g3] at HE
  have HL:=hide (show mkL f s n=[] by unfold mkL;rw [if_neg (by rw [HE.out];exact g3)]);clear htk hu31;have hc:=qsw.out.cell;have hf:=qsw.out.fz;obtain ⟨z0,hg, -⟩:=qsw.out.put (.slice none 0 0);obtain ⟨y,hy⟩:=qsw.out;have HOR:=hide (show OwF (w31.setCell ⟨w.heap.size+1,0,none⟩ (.slice none 0 0)) w.heap.size (.slice none 0 0) _ from OwF.nil _ _);have HBR:=hide (qacj.out.grown hg qacj.out.size (by intro k hk;cases hk;omega));clear hy hg;go_wp2;obtain ⟨w9,hw9⟩:∃w9,w9=w31.setCell ⟨w.heap.size+1,0,none⟩ (.slice none 0 0):=⟨_,rfl⟩;rw [←hw9] at z0 HOR HBR ⊢
  try simp only [Exit.inBlock,Exit.then]
  refine bodyPost_ret (v:=.tuple #[.agg #[.slice none 0 0],.int .i64 tk]) ?_ rfl ⟨.slice none 0 0,by rw [HE.out],by rw [HL.out];exact HOR.out,HBR.out⟩
  clear hw9 hc hf
  simp [results,Tryz.results98,go_sem, *]
 rw [if_neg g3] at HE;rw [Decidable.not_not] at g3;subst g3;have HTW0:=hide (show (qcb 34 (qbg f) (qaq f) n).length≤4096∧∀x∈qcb 34 (qbg f) (qaq f) n,wfX x from ⟨qsv _ _ _ _,qqh (by decide) htk.symm⟩);clear htk;obtain ⟨T,hT⟩:∃T,T=qcb 34 (qbg f) (qaq f) n:=⟨_,rfl⟩;have HTW:=hide (by rw [hT];exact HTW0.out:T.length≤4096∧∀x∈T,wfX x);clear HTW0
 have HL:=hide (show mkL f s n=qbd f.2.2.1 s T (qbg f) by
  unfold mkL qbd;rw [HE.out,←hT]
  split<;>rfl)
 rw [←hT] at HE hu31;clear hT;obtain ⟨mT,hmT⟩:∃m,m=T.length:=⟨_,rfl⟩
 obtain ⟨yT,zT,eT⟩:∃a c,u31=.slice a mT c:=by rw [hmT];exact hu31.form
 subst eT;have HmT:=hide hmT;have HU:=hide hu31;clear hmT hu31
 have hK:Keeps (fun wx=>FsAt wx w.heap.size x∧Below w.heap.size w wx):=fun w1 w2 h hb=>⟨h.1.carry hb,h.2.trans (hb.mono h.2.size)⟩
 have hKD:Keeps (fun wx=>BlkD wx (w.heap.size+1)∧OwE wx w.heap.size (.slice yT mT zT) T):=fun w1 w2 h hb=>⟨h.1.carry hb,h.2.carry hb⟩
 have hK:=Keeps.and hK hKD
 go_wp2_with fail
 refine qaj hK (by kernel_rfl) ⟨⟨HF_w31.out,qacj.out⟩,qsw.out,HU.out⟩ ?_
 intro hS
 refine rP [0,1,2,3,4] 6 ?qba1 ?qbp1 hS ?qbn1
 case qbp1=>
  iterate 5 (apply Yl.cons rfl rfl;focus (rintro wx ⟨⟨x1,x2⟩,x9⟩;obtain ⟨k0,k1,k2,k3,k4,k5⟩:=qab x1;go_simp;all_goals (with_reducible rfl));try simp only [Act.put,sA,sB,sC])
  exact Yl.nil
 refine rV hK 5 (.int .i64 (qbg f)) rfl hS (quy x f _ (HX.out.carry hS.1.2)) ?_
 clear hS;intro w43 hS
 try simp only [Act.put,sA,sB,sC]
 refine rA hK 6 (fun v wx=>∃u,v=.tuple #[.agg #[u],.int .i64 (qao f.2.2.1 s T (qbg f))]∧OwF wx w.heap.size u (qbd f.2.2.1 s T (qbg f))) rfl hS ((qy8 _ _ _ f.2.2.1 s yT mT zT T (qbg f) _ (HX.out.fl.carry hS.1.2) HX.out.n4 HW.out.fl hS.2.2.rd HmT.out (by have:=HTW.out.1;omega) HTW.out.2).mono fun e wy ⟨v,h1,h2,h3⟩=>⟨_,h1,⟨v,rfl,h2.mono hS.1.2.size⟩,h3⟩) (fun v w1 w2 ⟨u,h1,h2⟩ hb=>⟨u,h1,h2.carry hb⟩) ?_
 intro v44 w44 hKn hRn hSn;clear hK hS;have hK:=hKn;have hS:=hSn;clear hKn hSn;obtain ⟨u44,rfl,hu44⟩:=hRn;obtain ⟨mV,hmV⟩:∃m,m=(qbd f.2.2.1 s T (qbg f)).length:=⟨_,rfl⟩
 obtain ⟨yV,zV,eV⟩:∃a c,u44=.slice a mV c:=by rw [hmV];exact hu44.form
 subst eV;clear hmV
 try simp only [Act.put,sA,sB,sC]
 refine rP [7,8] 2 ?qba2 ?qbp2 hS ?qbn2
 case qbp2=>
  iterate 2 (apply Yl.cons rfl rfl;focus (rintro wx ⟨⟨⟨x1,x2⟩,x9⟩,_⟩;obtain ⟨k0,k1,k2,k3,k4,k5⟩:=qab x1;go_simp;all_goals (with_reducible rfl));try simp only [Act.put,sA,sB,sC])
  exact Yl.nil
 have hc:=hS.1.2.1.cell;have hf:=hS.1.2.1.fz;obtain ⟨z0,hg,hBD⟩:=hS.1.2.1.put (.slice yV mV zV);obtain ⟨y,hy⟩:=hS.1.2.1;have HOR:=hide (hu44.keptS hg hy (by decide) (by decide));have HBR:=hide (hS.1.1.2.grown hg hS.1.1.2.size (by intro k hk;cases hk;omega));obtain ⟨w9,hw9⟩:∃w9,w9=w44.setCell ⟨w.heap.size+1,0,none⟩ (.slice yV mV zV):=⟨_,rfl⟩;rw [←hw9] at z0 HOR HBR hBD;have hS9:((FsAt w9 w.heap.size x∧Below w.heap.size w w9)∧BlkD w9 (w.heap.size+1)∧OwE w9 w.heap.size (.slice yT mT zT) T)∧∃u,(Value.tuple #[.agg #[.slice yV mV zV],.int .i64 (qao f.2.2.1 s T (qbg f))])=.tuple #[.agg #[u],.int .i64 (qao f.2.2.1 s T (qbg f))]∧OwF w9 w.heap.size u (qbd f.2.2.1 s T (qbg f)):=⟨⟨⟨hS.1.1.1.grown (hw9 ▸ hg) (by omega),HBR.out⟩,hBD,qb8 hS.1.2.2 (hw9 ▸ hg) hy (by decide)⟩,_,rfl,HOR.out⟩
 refine rN 9 w9 rfl (by rw [hw9];go_simp) hS9 ?_
 clear hS;have hS:=hS9
 try simp only [Act.put,sA,sB,sC]
 refine rP [10] 0 ?qba3 ?qbp3 hS ?qbn3
 case qbp3=>
  iterate 1 (apply Yl.cons rfl rfl;focus (rintro wx ⟨⟨⟨x1,x2⟩,x9⟩,_⟩;obtain ⟨k0,k1,k2,k3,k4,k5⟩:=qab x1;go_simp;all_goals (with_reducible rfl));try simp only [Act.put,sA,sB,sC])
  exact Yl.nil
 refine rD ?_
 try simp only [Act.put,sA,sB,sC]
 clear hS hS9 hc hf hg hy hBD hu44 hw9 hK hKD;go_wp2
 refine bodyPost_ret (v:=.tuple #[.agg #[.slice yV mV zV],.int .i64 (qao f.2.2.1 s T (qbg f))]) ?_ rfl ⟨_,by rw [HE.out],by rw [HL.out];exact HOR.out,HBR.out⟩
 simp [results,Tryz.results98,go_sem, *]
theorem qack {w:World} {base:Nat} {v:Value} {fs:List Fl} (h:OwF w base v fs) (hb:base≤w.heap.size) (hl:fs.length≤1000000) (s:List UInt8) (x:Value) (l:List Ex) (hx:OwE w base x l):
  ∃g c w',(Builtin.append_ #[29,29] 29 #[v,.slice (some ⟨w.heap.size,0,none⟩) 1 1]).run Tryz.prog (w.alloc (.cells #[.string (bs s),x] 98))=.ok (.slice (some ⟨g,0,none⟩) (fs.length+1) c) w'∧
   OwF w' base (.slice (some ⟨g,0,none⟩) (fs.length+1) c) (fs++[(s,l)])∧Below base w w'∧(w.alloc (.cells #[.string (bs s),x] 98)).grownBy w' v.ownBlock:=by
 obtain ⟨g,c,w',hrun,h1,h2⟩:=qdc h hb hl s x l hx;refine ⟨g,c,w',hrun,h1,h2, ?_⟩;obtain ⟨ps,e,h⟩:=h
 have hpl:ps.length=fs.length:=by rw [←e];simp
 obtain ⟨i0,hi,hz0,hz1,hz2⟩:=info_parts Tryz.infoFl;have hb8:Below w.heap.size w (w.alloc (.cells #[.string (bs s),x] 98)):=(Below.refl _ _).alloc (Nat.le_refl _) _
 obtain ⟨v9,w9,hrun9,hown9,hg9,_⟩:=run_append_own (P:=Tryz.prog) _ base 29 29 98 i0 _ 2 40 Tryz.underlying29 hi hz0 hz1 hz2 rfl (by decide) _ _ _ (qa7 h.1 hb8) ⟨w.heap.size,0,none⟩ 1 1 [.string (bs s),x] rfl (qe7 w #[.string (bs s),x] 98) (by
  intro u hu
  simp at hu
  rcases hu with rfl | rfl
  ·rfl
  ·exact hx.ownForm) (by unfold maxLen;omega) (by omega) (Nat.le_trans hb hb8.size)
 rw [hrun] at hrun9
 injection hrun9 with _ e9
 rw [e9];exact hg9
theorem OwF.own_lt {w:World} {base:Nat} {v:Value} {fs:List Fl} (h:OwF w base v fs):∀k,v.ownBlock=some k→k<w.heap.size:=by
 obtain ⟨ps,_,h⟩:=h;intro k hk;exact (h.1.lt k hk).2
def qge (fs:List Fl):Prop:=fs.length≤1000∧∀f∈fs,f.2.length≤1000000
theorem qsx {fs:List Fl} {B:Int} (h:chkF fs B=0):qge fs:=by
 have h1:=(qcl h).2;exact ⟨by have:=h1.1;omega,ql2 h1⟩
theorem qmd (a:Option Addr) (n c:Nat) (fs:List Fl) (w:World) (hrd:RdF w (.slice a n c) fs) (hn:n=fs.length) (hsm:qge fs):
  Calls Tryz.prog 94 #[.agg #[.slice a n c]] w fun e w'=>∃v,e=.returned (.agg #[v])∧OwF w' w.heap.size v fs∧Below w.heap.size w w':=by
 have hm:n≤1000:=by have:=hsm.1;omega
 have HR:=hide hrd;have HN:=hide hn;have HL:=hide hsm.2;clear hrd hn hsm;obtain ⟨w1,ew⟩:∃w1,(w.alloc (.cells #[.slice a n c] 31)).alloc (.cells #[.slice none 0 0] 31)=w1:=⟨_,rfl⟩;have hb0:Below w.heap.size w (w.alloc (.cells #[.slice a n c] 31)):=(Below.refl _ _).alloc (Nat.le_refl _) _
 have hb1:Below w.heap.size w w1:=by rw [←ew];exact hb0.alloc (by simp) _
 have qbn:=hide (show Bq w1 w.heap.size 31 #[.slice a n c] by rw [←ew];exact (Bq.new w _ _).carry ((Below.refl _ _).alloc (Nat.le_refl _) _))
 have qdl:=hide (show BlkD w1 (w.heap.size+1) by
  have:=BlkD.new (w.alloc (.cells #[.slice a n c] 31)) (.slice none 0 0)
  rw [←ew];simpa using this)
 have k0:w1.cell? ⟨w.heap.size,0,none⟩=some (.slice a n c):=qbn.out.cell 0;have qad:=hide hb1;clear hb0 hb1
 go_enter Tryz.func94,Tryz.ntmps94
 go_wp2
 go_loopw [9,3] (fun i v wr=>∃k:Nat,k≤n∧i=.int .i64 k∧Hid (OwF wr w1.heap.size v (fs.take k))∧Below w1.heap.size w1 wr) (fun i _ _=>n - (intOf i).toNat)
 case atStart=>exact ⟨0,Nat.zero_le _,rfl,hide (by simpa using OwF.nil _ _),Below.refl _ _⟩
 case round=>
  obtain ⟨k,hk,rfl,hown,hbel⟩:=hrel
  by_cases hlt:k<n
  ·have hlt':(k:Int)<n:=by omega
   have hkl:k<fs.length:=by have:=HN.out;omega
   have HT:=hide (qay fs k hkl);have HTL:=hide (show (fs.take k).length=k by rw [List.length_take];omega);obtain ⟨av,cv,e9⟩:=hown.out.form;rw [HTL.out] at e9;subst e9;have HBr:=hide hbel;have HB9w:=bT qad hbel;clear hbel;obtain ⟨b,off,a2,c2,rfl,q0,q1,q2⟩:=HR.out.atB HB9w.out k hkl;have HQ:=hide q2;have HLk:=hide (HL.out _ (List.getElem_mem hkl));clear q2;obtain ⟨f,hf⟩:∃f,f=fs[k]:=⟨_,rfl⟩;rw [←hf] at q0 q1 HQ HT HLk;clear hf;obtain ⟨s,l⟩:=f
   simp only at q0 q1
   obtain ⟨m,hm2⟩:∃m,m=l.length:=⟨_,rfl⟩;have HQ2:=hide (show RdE w (.slice a2 m c2) l by rw [hm2];exact HQ.out);rw [←hm2] at q1;have HM2:=hide hm2;clear hm2 HQ;obtain ⟨wq,ewq⟩:∃wq,wr.alloc (.cells #[.string (bs s),.slice a2 m c2] 98)=wq:=⟨_,rfl⟩
   have hbq:Below wr.heap.size wr wq:=by rw [←ewq];exact (Below.refl _ _).alloc (Nat.le_refl _) _
   have HBq:=hide (show Bq wq wr.heap.size 98 #[.string (bs s),.slice a2 m c2] by rw [←ewq];exact Bq.new _ _ _);have hbq':Below w.heap.size w wq:=HB9w.out.trans (hbq.mono HB9w.out.size)
   go_wp2_with fail
   try rw [ewq]
   have hK:Keeps (fun wx=>Bq wx wr.heap.size 98 #[.string (bs s),.slice a2 m c2]∧Below w1.heap.size w1 wx):=fun w1 w2 h hb=>⟨h.1.carry hb,h.2.trans (hb.mono h.2.size)⟩
   have hS0:(fun wx=>Bq wx wr.heap.size 98 #[.string (bs s),.slice a2 m c2]∧Below w1.heap.size w1 wx) wq:=⟨HBq.out,HBr.out.trans (hbq.mono HBr.out.size)⟩
   have HCL:=hide (show Calls Tryz.prog 170 #[.slice a2 m c2] wq.drew fun e w'=>∃v,e=.returned v∧∃av cv,v=.slice av m cv∧OwE w' wq.heap.size (.slice av m cv) l∧Below wq.heap.size wq w' from (qse a2 m c2 l wq.drew ((HQ2.out.carry hbq').carry (Below.refl _ _).drew) HM2.out HLk.out).mono fun e wy ⟨v,h1,h2,h3⟩=>by
    obtain ⟨a3,c3,e3⟩:=OwE.form h2;rw [←HM2.out] at e3;subst e3
    exact ⟨_,h1,a3,c3,rfl,h2,(Below.refl _ _).drew.trans h3⟩)
   clear q0 q1 ewq hbq'
   refine qaj hK (by kernel_rfl) hS0 ?_
   intro hS
   refine rP [0,1,2,3,4] 5 ?qaa1 ?qap1 hS ?qan1
   case qap1=>
    iterate 5 (apply Yl.cons rfl rfl;focus (rintro wx ⟨x1,x2⟩;(have e0:=x1.cell 0);(have e1:=x1.cell 1);simp only [List.getElem?_toArray,List.getElem?_cons_zero,List.getElem?_cons_succ] at e0 e1;go_simp;all_goals (with_reducible rfl));try simp only [Act.put,sA,sB,sC])
    exact Yl.nil
   refine rC 5 (fun v wx=>∃av cv,v=.slice av m cv∧OwE wx wq.heap.size (.slice av m cv) l∧Below wq.heap.size wq wx) rfl HCL.out ?_
   rintro v7 w7 ⟨a7,c7,rfl,ho7,hb7⟩;have hS7:=hK _ _ hS0 hb7;refine ⟨hS7, ?_⟩;obtain ⟨g9,c9,w9,hrun,ho9,hb9,hg9⟩:=qack (hown.out.carry (hbq.trans (hb7.mono hbq.size))) (Nat.le_trans HBr.out.size (Nat.le_trans hbq.size hb7.size)) (by have:=HTL.out;omega) s (.slice a7 m c7) l (ho7.mono (Nat.le_trans HBr.out.size hbq.size));rw [HTL.out] at hrun ho9;have HO9:=hide ho9;have HB9:=hide (show Below w1.heap.size w1 w9 from (HBr.out.trans ((hbq.trans (hb7.mono hbq.size)).mono HBr.out.size)).trans hb9);have hSa:=hK _ (w7.alloc (.cells #[.string (bs s),.slice a7 m c7] 98)) hS7 ((Below.refl _ _).alloc (Nat.le_refl _) _);have hS9:(fun wx=>Bq wx wr.heap.size 98 #[.string (bs s),.slice a2 m c2]∧Below w1.heap.size w1 wx) w9:=⟨(hg9.block _ hSa.1.lt (fun e=>Nat.lt_irrefl _ (hown.out.own_lt _ e.symm))).trans hSa.1,HB9.out⟩;clear hS ho9 hb9 hg9;have hS:=hS7
   try simp only [Act.put,sA,sB,sC]
   refine rP [6] 3 ?qaa2 ?qap2 hS ?qan2
   case qap2=>
    iterate 1 (apply Yl.cons rfl rfl;focus (rintro wx ⟨x1,x2⟩;(have e0:=x1.cell 0);(have e1:=x1.cell 1);simp only [List.getElem?_toArray,List.getElem?_cons_zero,List.getElem?_cons_succ] at e0 e1;go_simp;all_goals (with_reducible rfl));try simp only [Act.put,sA,sB,sC])
    exact Yl.nil
   refine rR 7 (.slice (some ⟨w7.heap.size,0,none⟩) 1 1) (w7.alloc (.cells #[.string (bs s),.slice a7 m c7] 98)) rfl (by go_simp) hSa ?_
   clear hS;have hS:=hSa
   try simp only [Act.put,sA,sB,sC]
   refine rR 8 (.slice (some ⟨g9,0,none⟩) (k+1) c9) w9 rfl (qd2 (v:=.slice av k cv) (y:=.slice (some ⟨w7.heap.size,0,none⟩) 1 1) rfl rfl rfl hrun) hS9 ?_
   clear hS;have hS:=hS9
   try simp only [Act.put,sA,sB,sC]
   refine rP [9] 0 ?qaa3 ?qap3 hS ?qan3
   case qap3=>
    iterate 1 (apply Yl.cons rfl rfl;focus (rintro wx ⟨x1,x2⟩;(have e0:=x1.cell 0);(have e1:=x1.cell 1);simp only [List.getElem?_toArray,List.getElem?_cons_zero,List.getElem?_cons_succ] at e0 e1;go_simp;all_goals (with_reducible rfl));try simp only [Act.put,sA,sB,sC])
    exact Yl.nil
   refine rD ?_
   try simp only [Act.put,sA,sB,sC]
   clear hS hS9 hSa hS7 hS0 hK hrun ho7 hb7 hbq hown;go_wp2;go_roundw
   case rel=>exact ⟨k+1,by omega,rfl,hide (by rw [HT.out];exact HO9.out),HB9.out⟩
   case measure=>simp only [intOf];omega
  ·have hd:decide ((k:Int)<n)=false:=by simpa using (by omega:¬(k:Int)<n)
   have e:k=fs.length:=by have:=HN.out;omega
   rw [e,List.take_length] at hown;clear e;obtain ⟨av,cv,e9⟩:=hown.out.form;rw [←HN.out] at e9;subst e9;have HDr:=hide (qdl.out.carry hbel);have hc:=HDr.out.cell;have hf:=HDr.out.fz;obtain ⟨z0,hg, -⟩:=HDr.out.put (.slice av n cv);obtain ⟨y,hy⟩:=HDr.out;have HOR:=hide ((hown.out.keptS hg hy (by decide) (by decide)).mono qad.out.size);have HBR:=hide (show Below w.heap.size w _ from (qad.out.trans (hbel.mono qad.out.size)).grown hg (Nat.le_trans qad.out.size hbel.size) (by intro k hk;cases hk;omega));clear hy hg;go_wp2;obtain ⟨w9,hw9⟩:∃w9,w9=wr.setCell ⟨w.heap.size+1,0,none⟩ (.slice av n cv):=⟨_,rfl⟩;rw [←hw9] at z0 HOR HBR ⊢
   try simp only [Exit.inBlock,Exit.then]
   refine bodyPost_ret (v:=.agg #[.slice av n cv]) ?_ rfl ⟨_,rfl,HOR.out,HBR.out⟩
   clear hw9 hc hf
   simp [results,Tryz.results94,go_sem, *]
theorem qacl (w:World):∃w2,(Instr.makeSlice 23 (.int .i64 128) (.int .i64 128)).run Tryz.prog w=.ok (.slice (some ⟨w.heap.size,0,none⟩) 128 128) w2∧OwB w2 w.heap.size (.slice (some ⟨w.heap.size,0,none⟩) 128 128) (List.replicate 128 0)∧Below w.heap.size w w2:=by
 obtain ⟨i0,hi,hz0,hz1,hz2⟩:=info_parts Tryz.infoB;obtain ⟨w2,hmake,hown2,hg2⟩:=run_make_full (P:=Tryz.prog) w w.heap.size 23 5 i0 _ 1 Tryz.underlying23 hi hz0 hz1 .i64 .i64 128 (by rw [hz2];decide) (by unfold maxLen;decide) (Nat.le_refl _);refine ⟨w2,hmake, ?_,(Below.refl _ _).grown hg2 (Nat.le_refl _) (fun k hk=>by cases hk)⟩
 show w2.ownsRow _ _ _ _ _ _
 rw [List.length_replicate]
 have e:(madeCells (Value.int IntKind.u8 0).cells (128*1)).toList=u8v (List.replicate 128 0):=by
  show (madeCells #[Value.int .u8 0] (128*1)).toList=_
  rw [toList_madeCells_one]
  simp [u8v]
 rw [←e];exact hown2
theorem Tryz.infoSl8:(Tryz.prog.info? 23).map (fun i=>(i.zero,i.size,i.bytes))=some (some (.slice none 0 0),1,24):=by kernel_rfl
theorem qacm {w w':World} {b1 b2:Nat} {e1 e2:TypeId} {s1 s2:Nat} {v1 v2:Value} {n1 n2:Nat} {x1 x2:List Value} (h:w.ownsRow b1 e1 s1 v1 n1 x1) (hr:w.ownsRow b2 e2 s2 v2 n2 x2) (hne:e1≠e2) (hg:w.grownBy w' v2.ownBlock):w'.ownsRow b1 e1 s1 v1 n1 x1:=by
 refine World.ownsRow.kept h hg ?_
 rcases h.2 with ⟨rfl,_⟩ | ⟨g1,c1,cur1,rfl,_,hg1,_⟩
 ·exact .inl rfl
 ·right
  rcases hr.2 with ⟨rfl,_⟩ | ⟨g2,c2,cur2,rfl,_,hg2,_⟩
  ·intro e;cases e
  ·intro e
   have e':g1=g2:=by injection e
   subst e';rw [hg1] at hg2
   injection hg2 with e2
   injection e2 with _ e3
   exact hne e3
def OwBB (w:World) (base:Nat) (v:Value) (ls:List (List UInt8)):Prop:=∃ps:List (List UInt8 × Value),ps.map (·.1)=ls∧w.ownsRow base 23 1 v ls.length (ps.map (·.2))∧∀p∈ps,OwB w base p.2 p.1
theorem OwBB.nil (w:World) (base:Nat):OwBB w base (.slice none 0 0) []:=⟨[],rfl,World.ownsRow_nil _ _ _ _,by simp⟩
theorem OwBB.carry {w w':World} {base:Nat} {v:Value} {ls:List (List UInt8)} (h:OwBB w base v ls) (hb:Below w.heap.size w w'):OwBB w' base v ls:=by
 obtain ⟨ps,e,h1,h2⟩:=h;exact ⟨ps,e,qa7 h1 hb,fun p hp=>(h2 p hp).carry hb⟩
theorem OwBB.grown {w w':World} {base g:Nat} {v:Value} {ls:List (List UInt8)} (h:OwBB w base v ls) (hg:w.grownBy w' (some g)) (hb:g<base):OwBB w' base v ls:=by
 obtain ⟨ps,e,h1,h2⟩:=h;exact ⟨ps,e,qln h1 hg hb,fun p hp=>(h2 p hp).grown hg hb⟩
theorem OwBB.form {w:World} {base:Nat} {v:Value} {ls:List (List UInt8)} (h:OwBB w base v ls):∃a c,v=.slice a ls.length c:=by
 obtain ⟨ps,e,h1,h2⟩:=h
 rcases h1.2 with ⟨rfl,hn⟩ | ⟨g,cap,cur,rfl,_⟩
 ·rw [hn];exact ⟨_,_,rfl⟩
 ·exact ⟨_,_,rfl⟩
theorem OwBB.at {w:World} {base:Nat} {a:Option Addr} {n c:Nat} {ls:List (List UInt8)} (h:OwBB w base (.slice a n c) ls) (j:Nat) (hj:j<ls.length):
  ∃g y z,a=some ⟨g,0,none⟩∧w.cell? ⟨g,j,none⟩=some (.slice y (ls[j]).length z)∧OwB w base (.slice y (ls[j]).length z) ls[j]:=by
 obtain ⟨ps,rfl,h1,h2⟩:=h
 have hjp:j<ps.length:=by simpa using hj
 rcases h1.2 with ⟨e,hn⟩ | ⟨g,cap,cur,e,_⟩
 ·simp at hn;subst hn;simp at hj
 ·cases e
  have c1:=h1.cells (g:=g) rfl j ((ps[j]).2) (by simp [List.getElem?_eq_getElem hjp]);have ho:=h2 ps[j] (List.getElem_mem hjp);obtain ⟨y,z,hv⟩:=ho.form
  simp only [List.getElem_map]
  rw [hv] at c1 ho;exact ⟨g,y,z,rfl,by simpa [Addr.add_lit] using c1,ho⟩
theorem qakt {w:World} {base:Nat} {v:Value} {ls:List (List UInt8)} (h:OwBB w base v ls) (hb:base≤w.heap.size) (hl:ls.length≤1000000) (y:Option Addr) (n z:Nat) (l:List UInt8) (hx:OwB w base (.slice y n z) l):
  ∃g c w',(Builtin.append_ #[89,89] 89 #[v,.slice (some ⟨w.heap.size,0,none⟩) 1 1]).run Tryz.prog (w.alloc (.cells #[.slice y n z] 23))=.ok (.slice (some ⟨g,0,none⟩) (ls.length+1) c) w'∧
   OwBB w' base (.slice (some ⟨g,0,none⟩) (ls.length+1) c) (ls++[l])∧Below base w w':=by
 obtain ⟨ps,e,h1,h2⟩:=h;obtain ⟨w8,ew8⟩:∃w8,w8=w.alloc (.cells #[.slice y n z] 23):=⟨_,rfl⟩;have hn8:=qe7 w #[.slice y n z] 23;rw [←ew8] at hn8 ⊢
 have hb8:Below w.heap.size w w8:=by rw [ew8];exact (Below.refl _ _).alloc (Nat.le_refl _) _
 obtain ⟨i0,hi,hz0,hz1,hz2⟩:=info_parts Tryz.infoSl8;have q2:w8.ownsRow base 23 1 v ls.length (ps.map (·.2)):=qa7 h1 hb8
 obtain ⟨v9,w9,hrun9,hown9,hg9,_⟩:=run_append_own (P:=Tryz.prog) w8 base 89 89 23 i0 _ 1 24 Tryz.underlying89 hi hz0 hz1 hz2 rfl (by decide) _ _ _ q2 ⟨w.heap.size,0,none⟩ 1 1 [.slice y n z] rfl hn8 (by
  intro u hu
  simp at hu
  subst hu
  rfl) (by unfold maxLen;omega) (by omega) (Nat.le_trans hb hb8.size)
 have hb9:Below base w w9:=(hb8.mono hb).grown hg9 (Nat.le_trans hb hb8.size) fun k hk=>(q2.lt k hk).1
 have hin:∀p∈ps++[(l,.slice y n z)],OwB w9 base p.2 p.1:=by
  intro p hp
  have h0:OwB w8 base p.2 p.1:=by
   rcases List.mem_append.1 hp with hp | hp
   ·exact (h2 p hp).carry hb8
   ·obtain rfl:p=(l,.slice y n z):=by simpa using hp
    exact hx.carry hb8
  exact qacm h0 q2 (by decide) hg9
 rcases hown9.2 with ⟨_,h0⟩ | ⟨g,cap,cur,h0,_⟩
 ·exact absurd h0 (by omega)
 ·subst h0
  refine ⟨g,cap,w9,hrun9,⟨ps++[(l,.slice y n z)],by simp [e], ?_,hin⟩,hb9⟩;rw [List.map_append]
  simpa using hown9
theorem qzb (l:List UInt8):splice (List.replicate 128 0) 0 (l.take 128)=padB l:=by
 unfold splice padB;rw [List.take_zero,List.nil_append,List.drop_replicate,List.length_take]
 congr 2
 omega
abbrev qu2 (w:World) (p:Nat) (x:FsV) (e:Int) (ab:Option Addr) (nb cb:Nat):Prop:=Bq w p 83 #[.slice x.a1 x.n1 x.c1,.slice x.a2 x.n2 x.c2,.slice x.a3 x.n3 x.c3,.int .u32 x.g,.slice x.a4 x.n4 x.c4,.slice x.a5 x.n5 x.c5,.int .i64 e,.slice ab nb cb]
theorem qbo {w:World} {p:Nat} {x:FsV} {e:Int} {ab:Option Addr} {nb cb:Nat} (h:qu2 w p x e ab nb cb):w.cell? ⟨p,0,none⟩=some (.slice x.a1 x.n1 x.c1)∧w.cell? ⟨p,1,none⟩=some (.slice x.a2 x.n2 x.c2)∧w.cell? ⟨p,2,none⟩=some (.slice x.a3 x.n3 x.c3)∧w.cell? ⟨p,3,none⟩=some (.int .u32 x.g)∧w.cell? ⟨p,4,none⟩=some (.slice x.a4 x.n4 x.c4)∧w.cell? ⟨p,5,none⟩=some (.slice x.a5 x.n5 x.c5)∧w.cell? ⟨p,6,none⟩=some (.int .i64 e)∧w.cell? ⟨p,7,none⟩=some (.slice ab nb cb):=
 ⟨h.cell 0,h.cell 1,h.cell 2,h.cell 3,h.cell 4,h.cell 5,h.cell 6,h.cell 7⟩
def WayR (w:World) (p base:Nat) (o:Bool) (y:Wy) (x:FsV) (ab:Option Addr) (nb cb:Nat):Prop:=
 ∀w',w.grownBy w' (some p)→RdX w' x y.1∧Rd w' (.slice ab nb cb) y.2.2∧(o=true→y.2.1=0→OwD w' base x.dv y.1.1)
theorem WayR.later {w w1:World} {p base:Nat} {o:Bool} {y:Wy} {x:FsV} {ab:Option Addr} {nb cb:Nat} (h:WayR w p base o y x ab nb cb) (hg:w.grownBy w1 (some p)):WayR w1 p base o y x ab nb cb:=fun w' h'=>h w' (hg.trans h')
def WayS (w:World) (p base:Nat) (o:Bool) (y:Wy):Prop:=∃(x:FsV) (ab:Option Addr) (nb cb:Nat),qu2 w p x y.2.1 ab nb cb∧nb=y.2.2.length∧WfX y.1∧WayR w p base o y x ab nb cb
theorem qb7 {w w':World} (p:Nat) (hb:Below w.heap.size w w'):w.grownBy w' (some p):=⟨hb.os,hb.tape,hb.output,hb.size,fun k hk _=>hb.block k hk⟩
theorem qch {w w':World} {p:Nat} (h:w.grownBy w' (some p)) (j:Nat) (v:Value):w.grownBy (w'.setCell ⟨p,j,none⟩ v) (some p):=h.trans (qai w' ⟨p,j,none⟩ v)
theorem WayS.carry {w w':World} {p base:Nat} {o:Bool} {y:Wy} (h:WayS w p base o y) (hb:Below w.heap.size w w'):WayS w' p base o y:=by
 obtain ⟨x,ab,nb,cb,h1,h2,h3,h4⟩:=h;exact ⟨x,ab,nb,cb,h1.carry hb,h2,h3,h4.later (qb7 p hb)⟩
theorem WayS.lt {w:World} {p base:Nat} {o:Bool} {y:Wy} (h:WayS w p base o y):p<w.heap.size:=by
 obtain ⟨x,ab,nb,cb,h1,_⟩:=h;exact h1.lt
theorem WayS.err {w:World} {p base:Nat} {o:Bool} {y:Wy} (o':Bool) (h:WayS w p base o y) (he:y.2.1≠0):WayS w p base o' y:=by
 obtain ⟨x,ab,nb,cb,h1,h2,h3,h4⟩:=h;exact ⟨x,ab,nb,cb,h1,h2,h3,fun w' hg=>⟨(h4 w' hg).1,(h4 w' hg).2.1,fun _ h0=>absurd h0 he⟩⟩
theorem WayS.any {w:World} {p base:Nat} {o:Bool} {y:Wy} (h:WayS w p base o y):WayS w p base false y:=by
 obtain ⟨x,ab,nb,cb,h1,h2,h3,h4⟩:=h;exact ⟨x,ab,nb,cb,h1,h2,h3,fun w' hg=>⟨(h4 w' hg).1,(h4 w' hg).2.1,fun h0=>by cases h0⟩⟩
theorem WayS.setErr {w:World} {p base:Nat} {o:Bool} {y:Wy} (r:Int) (h:WayS w p base o y) (he:y.2.1=0):WayS (w.setCell ⟨p,6,none⟩ (.int .i64 r)) p base o (y.1,r,y.2.2)∧w.grownBy (w.setCell ⟨p,6,none⟩ (.int .i64 r)) (some p):=by
 obtain ⟨x,ab,nb,cb,h1,h2,h3,h4⟩:=h;have hg:=qai w ⟨p,6,none⟩ (.int .i64 r);refine ⟨⟨x,ab,nb,cb,h1.put 6 _,h2,h3,fun w' hw=>?_⟩,hg⟩;obtain ⟨a,b,c⟩:=h4 w' (hg.trans hw);exact ⟨a,b,fun h0 _=>c h0 he⟩
theorem WayS.setDisk {w w1:World} {p base b1:Nat} {o:Bool} {y:Wy} {d:Dk} {a1:Option Addr} {n1 c1:Nat} {a2:Option Addr} {n2 c2:Nat} {a3:Option Addr} {n3 c3:Nat} (h:WayS w p base o y) (hb:Below w.heap.size w w1) (hb1:base≤b1) (hp:p<b1) (ho:OwD w1 b1 (.agg #[.slice a1 n1 c1,.slice a2 n2 c2,.slice a3 n3 c3]) d):
  WayS (((w1.setCell ⟨p,0,none⟩ (.slice a1 n1 c1)).setCell ⟨p,1,none⟩ (.slice a2 n2 c2)).setCell ⟨p,2,none⟩ (.slice a3 n3 c3)) p base true (qafw y d)∧w.grownBy (((w1.setCell ⟨p,0,none⟩ (.slice a1 n1 c1)).setCell ⟨p,1,none⟩ (.slice a2 n2 c2)).setCell ⟨p,2,none⟩ (.slice a3 n3 c3)) (some p):=by
 obtain ⟨x,ab,nb,cb,h1,h2,h3,h4⟩:=h;have g1:w1.grownBy (((w1.setCell ⟨p,0,none⟩ (.slice a1 n1 c1)).setCell ⟨p,1,none⟩ (.slice a2 n2 c2)).setCell ⟨p,2,none⟩ (.slice a3 n3 c3)) (some p):=qch (qch (qch (World.grownBy.refl _ _) 0 _) 1 _) 2 _;have g0:=(qb7 p hb).trans g1;refine ⟨⟨⟨a1,n1,c1,a2,n2,c2,a3,n3,c3,x.g,x.a4,x.n4,x.c4,x.a5,x.n5,x.c5⟩,ab,nb,cb,(((h1.carry hb).put 0 _).put 1 _).put 2 _,h2,⟨h3.g,h3.fl,h3.kl⟩,fun w' hw=>?_⟩,g0⟩;obtain ⟨a,b,c⟩:=h4 w' (g0.trans hw);have ho':=ho.grown (g1.trans hw) hp;have hl:=RdD.mk3 ho'.rd;exact ⟨⟨ho'.rd,hl.1,hl.2,a.g,a.fl,a.n4,a.kl,a.n5⟩,b,fun _ _=>ho'.mono hb1⟩
theorem WayS.setDir {w w1:World} {p base b1:Nat} {o:Bool} {y:Wy} {l:List Fl} {ab:Option Addr} {nb cb:Nat} (h:WayS w p base o y) (hb:Below w.heap.size w w1) (hn:nb=l.length) (hw:wfFs l) (ho:OwF w1 b1 (.slice ab nb cb) l):
  WayS (w1.setCell ⟨p,4,none⟩ (.slice ab nb cb)) p base o ((y.1.1,y.1.2.1,l,y.1.2.2.2),y.2)∧w.grownBy (w1.setCell ⟨p,4,none⟩ (.slice ab nb cb)) (some p):=by
 obtain ⟨x,ab',nb',cb',h1,h2,h3,h4⟩:=h;have g1:=qai w1 ⟨p,4,none⟩ (.slice ab nb cb);have g0:=(qb7 p hb).trans g1;refine ⟨⟨⟨x.a1,x.n1,x.c1,x.a2,x.n2,x.c2,x.a3,x.n3,x.c3,x.g,ab,nb,cb,x.a5,x.n5,x.c5⟩,ab',nb',cb',(h1.carry hb).put 4 _,h2,⟨h3.g,hw,h3.kl⟩,fun w' hw=>?_⟩,g0⟩;obtain ⟨a,b,c⟩:=h4 w' (g0.trans hw);exact ⟨⟨a.d,a.n1,a.n2,a.g,(ho.keptS (g1.trans hw) (h1.carry hb) (by decide) (by decide)).rd,hn,a.kl,a.n5⟩,b,c⟩
theorem qago (p base:Nat) (o:Bool) (y:Wy) (w:World) (h:WayS w p base o y) (hp:base≤p):
  Calls Tryz.prog 175 #[.pointer (some ⟨p,0,none⟩)] w fun e w'=>e=.returned (.int .i64 (quk y).2)∧WayS w' p base true (quk y).1∧w.grownBy w' (some p):=by
 have HS:=hide h;obtain ⟨x,ab,nb,cb,h1,h2,h3,h4⟩:=h;obtain ⟨k0,k1,k2,k3,k4,k5,k6,k7⟩:=qbo h1;have HR:=hide (h4 w (World.grownBy.refl _ _)).1;have HW1:=hide h1;have HWF:=hide h3;clear h1 h2 h3 h4
 go_enter Tryz.func175,Tryz.ntmps175
 go_wp2_with fail
 refine (qaiu (d:=y.1.1) [] none 0 0 0 w HR.out.d (.inl ⟨rfl,.inl rfl⟩) rfl).mono ?_
 rintro e w1 ⟨dv,rfl,ho,hb⟩;obtain ⟨d,hd⟩:∃d,d=(doD y.1.1 [] 0).1:=⟨_,rfl⟩;rw [←hd] at ho;obtain ⟨a1,c1,a2,c2,a3,c3,e1⟩:=ho.form;obtain ⟨n1,hn1⟩:∃n,n=d.1.length:=⟨_,rfl⟩;obtain ⟨n2,hn2⟩:∃n,n=d.2.1.length:=⟨_,rfl⟩;obtain ⟨n3,hn3⟩:∃n,n=d.2.2.length:=⟨_,rfl⟩;rw [←hn1,←hn2,←hn3] at e1;subst e1;have hst:=HS.out.setDisk hb (Nat.le_trans hp (Nat.le_of_lt HS.out.lt)) HS.out.lt ho;have HST:=hide hst;rw [hd] at HST;have HW2:=hide (HW1.out.carry hb);clear k0 k1 k2 k3 k4 k5 k6 k7;obtain ⟨k0,k1,k2,k3,k4,k5,k6,k7⟩:=qbo HW2.out;have f0:=HW2.out.fz 0;have f1:=HW2.out.fz 1;have f2:=HW2.out.fz 2;clear hst ho hb hd hn1 hn2 hn3;go_wp2;go_ret;exact ⟨rfl,HST.out.1,HST.out.2⟩
theorem qacn (N:Int) (ax:Option Addr) (nx cx:Nat) (l:List UInt8) (p base:Nat) (o:Bool) (y:Wy) (w:World) (h:WayS w p base o y) (hp:base≤p) (hx:Rd w (.slice ax nx cx) l):
  Calls Tryz.prog 168 #[.pointer (some ⟨p,0,none⟩),.int .i64 N,.slice ax nx cx] w fun e w'=>e=.returned (.int .i64 (qr5 N l y).2)∧WayS w' p base true (qr5 N l y).1∧w.grownBy w' (some p):=by
 have HS:=hide h;obtain ⟨x,ab,nb,cb,h1,h2,h3,h4⟩:=h;obtain ⟨k0,k1,k2,k3,k4,k5,k6,k7⟩:=qbo h1;have HR:=hide (h4 w (World.grownBy.refl _ _)).1;have HW1:=hide h1;have HWF:=hide h3;clear h1 h2 h3 h4;have HRX:=hide hx;clear hx
 go_enter Tryz.func168,Tryz.ntmps168
 go_wp2_with fail
 refine (qabc (d:=y.1.1) N ax nx cx l w HR.out.d HRX.out).mono ?_
 rintro e w1 ⟨dv,rfl,ho,hb⟩;obtain ⟨d,hd⟩:∃d,d=(doD y.1.1 [(false,N,l)] 1).1:=⟨_,rfl⟩;rw [←hd] at ho;obtain ⟨a1,c1,a2,c2,a3,c3,e1⟩:=ho.form;obtain ⟨n1,hn1⟩:∃n,n=d.1.length:=⟨_,rfl⟩;obtain ⟨n2,hn2⟩:∃n,n=d.2.1.length:=⟨_,rfl⟩;obtain ⟨n3,hn3⟩:∃n,n=d.2.2.length:=⟨_,rfl⟩;rw [←hn1,←hn2,←hn3] at e1;subst e1;have hst:=HS.out.setDisk hb (Nat.le_trans hp (Nat.le_of_lt HS.out.lt)) HS.out.lt ho;have HST:=hide hst;rw [hd] at HST;have HW2:=hide (HW1.out.carry hb);clear k0 k1 k2 k3 k4 k5 k6 k7;obtain ⟨k0,k1,k2,k3,k4,k5,k6,k7⟩:=qbo HW2.out;have f0:=HW2.out.fz 0;have f1:=HW2.out.fz 1;have f2:=HW2.out.fz 2;clear hst ho hb hd hn1 hn2 hn3;go_wp2;go_ret;exact ⟨rfl,HST.out.1,HST.out.2⟩
end Go.Proofs.YtmeaiocohalphaaGreatDoor

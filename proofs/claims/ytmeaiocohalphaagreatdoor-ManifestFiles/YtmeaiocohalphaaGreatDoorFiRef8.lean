/-
  Of the document's side of layer 5: Rename.
-/
import Derived.Test.YtmeaiocohalphaaGreatDoorDMay
import Derived.Test.YtmeaiocohalphaaGreatDoorFiRef7
set_option maxHeartbeats 8000000
set_option maxRecDepth 100000
namespace Go.Proofs.YtmeaiocohalphaaGreatDoor
open Go.RowKit
set_option linter.all false
section
variable {P:Program} {md:Region.Mode} {ops:Array Oper} {Q:Exit→Act→World→Prop}
theorem qgc {S:World→Prop} {i j:Nat} {fuel:Nat} {listed:Array Bool} {a:Act} {w:World} (hr:Region.ready md ops listed=[i,j])
  (h1:wpOp P ops (NoPanic Q) i (fun a' w'=>S w'∧wpAnyH P md ops (NoPanic Q) S fuel (listed.setIfInBounds i true) a' w') a w)
  (h2:wpOp P ops (NoPanic Q) j (fun a' w'=>S w'∧wpAnyH P md ops (NoPanic Q) S fuel (listed.setIfInBounds j true) a' w') a w):wpAnyH P md ops (NoPanic Q) S (fuel+1) listed a w:=by
 refine wpAnyH_all (rs:=[i,j]) hr (by simp) ?_
 intro k hk
 rcases List.mem_cons.1 hk with rfl | hk
 ·exact h1
 ·obtain rfl:=List.mem_singleton.1 hk
  exact h2
theorem qgd {K:Act→World→Prop} {i:Nat} {dst:Option Tmp} {op:Op} {ty:TypeId} {pos:String} {aft:Array Edge} {gd:Option (Nat × Bool)} {a:Act} {w w':World} {v:Value} (hi:ops[i]? =some {dst:=dst,op:=op,type:=ty,pos:=pos,after:=aft,guard:=gd}) (hw:Region.wanted {dst:=dst,op:=op,type:=ty,pos:=pos,after:=aft,guard:=gd} (yielded ops a.tmps)=true)
  (hrun:(execOp a.eval {dst:=dst,op:=op,type:=ty,pos:=pos,after:=aft,guard:=gd}).run P w=.ok (.value v) w') (h:K (a.put dst v) w'):wpOp P ops Q i K a w:=by
 unfold wpOp
 simp only [hi,hw,if_true]
 refine .inl ?_
 unfold Oper.wp;rw [hrun];exact h
theorem qds {K:Act→World→Prop} {i:Nat} {dst:Option Tmp} {op:Op} {ty:TypeId} {pos:String} {aft:Array Edge} {gd:Option (Nat × Bool)} {a:Act} {w:World} {f:FuncId} {args:Array Value} {R:Value→World→Prop} (hi:ops[i]? =some {dst:=dst,op:=op,type:=ty,pos:=pos,after:=aft,guard:=gd}) (hw:Region.wanted {dst:=dst,op:=op,type:=ty,pos:=pos,after:=aft,guard:=gd} (yielded ops a.tmps)=true)
  (hrun:(execOp a.eval {dst:=dst,op:=op,type:=ty,pos:=pos,after:=aft,guard:=gd}).run P w=.ok (.enter f args) w) (hc:Calls P f args w fun e w'=>∃v,e=.returned v∧R v w') (h:∀v w',R v w'→K (a.put dst v) w'):wpOp P ops (NoPanic Q) i K a w:=by
 unfold wpOp
 simp only [hi,hw,if_true]
 refine .inl ?_
 unfold Oper.wp;rw [hrun]
 exact hc.mono fun e w' ⟨v,he,hv⟩=>by subst he;exact h v w' hv
end
theorem qg4 {P:Program} {id:Nat} {ops:Array Oper} {Q:Exit→Act→World→Prop} {a:Act} {w:World} {α:Type} (F:α→Act→Act) (R:α→World→Prop) (h:(Code.region id ops true).wp P (fun e a' w'=>e=.normal∧∃x,a'=F x a∧R x w') a w) (k:∀x w',R x w'→Q .normal (F x a) w'):(Code.region id ops true).wp P Q a w:=
 Code.wp_mono (fun e a' w' ⟨h1,x,h2,h3⟩=>by subst h1 h2;exact k x w' h3) h
theorem qakq {fs:List Fl} {s t:List UInt8} (h:askE fs s 4096≠0):qa0 fs s t=askE fs s 4096:=by
 unfold qa0 askE at *
 by_cases h1:chkF fs 4096=0
 ·by_cases h2:qbm s=false
  ·simp [h1,h2]
  ·simp [h1,h2] at h
 ·simp [h1]
theorem qagk {fs:List Fl} {s t:List UInt8} (h:askE fs s 4096=0) (h2:qbm t=false):qa0 fs s t=50:=by
 unfold qa0;simp [(qdk h).1,h2]
theorem qagl {fs:List Fl} {s t:List UInt8} (h:askE fs s 4096=0) (h2:qbm t=true) (h3:isF fs s=false):qa0 fs s t=6:=by
 unfold qa0;simp [(qdk h).1,(qdk h).2,h2,h3]
theorem qakr {fs:List Fl} {s t:List UInt8} (h:askE fs s 4096=0) (h2:qbm t=true) (h3:isF fs s=true):qa0 fs s t=fitE (renF fs s t):=by
 unfold qa0;simp [(qdk h).1,(qdk h).2,h2,h3]
theorem qqf {fs:List Fl} {s t:List UInt8} (h:qa0 fs s t≠0):qbs fs s t=[]:=by unfold qbs;rw [if_neg h]
theorem qaks {fs:List Fl} (h:qcg fs) (s t:List UInt8) (l:List Ex):wthF (delF (delF fs s) t) (t,l)=insF (delF (delF fs s) t) (t,l):=qqd (qex (qex h s) t) (qaak _ _)
structure BxF where
 (g:Nat) (a1:Option Addr) (c1:Nat) (a2:Option Addr) (c2:Nat) (a3:Option Addr) (c3:Nat)
theorem qu1 (a:Option Addr) (n c:Nat) (fs:List Fl) (s:List UInt8) (t:List UInt8) (w:World) (hrd:RdF w (.slice a n c) fs) (hn:n=fs.length) (hwf:wfFs fs):
  Calls Tryz.prog 134 #[.agg #[.slice a n c],.string (bs s),.string (bs t)] w fun e w'=>∃v,e=.returned (.tuple #[.agg #[v],.int .i64 (qa0 fs s t)])∧OwF w' w.heap.size v (qbs fs s t)∧Below w.heap.size w w':=by
 obtain ⟨W0,hW0⟩:∃W0,W0=(w.alloc (.cells #[.slice a n c] 31)).alloc (.cells #[.slice none 0 0] 31):=⟨_,rfl⟩
 have hb0:Below w.heap.size w W0:=by rw [hW0];exact ((Below.refl _ _).alloc (Nat.le_refl _) _).alloc (by simp) _
 have HD_W0:=hide (show DirAt W0 w.heap.size (.slice a n c) by rw [hW0];exact (DirAt.new w _).carry ((Below.refl _ _).alloc (Nat.le_refl _) _));have HA_W0:=hide (show BlkD W0 (w.heap.size+1) by rw [hW0];have:=BlkD.new (w.alloc (.cells #[.slice a n c] 31)) (.slice none 0 0);simpa using this);have HB_W0:=hide hb0;have HR:=hide hrd;have HN:=hide hn;have HW:=hide hwf;have hask:=qjk a n c fs s 4096 W0 (hrd.carry hb0) hn hwf;clear hrd hn hwf hb0
 by_cases g1:askE fs s 4096=0
 case neg=>
  have HE:=hide (qakq (t:=t) g1);have HL:=hide (qqf (fs:=fs) (s:=s) (t:=t) (by rw [HE.out];exact g1));obtain ⟨z,hz⟩:∃z,z=askE fs s 4096:=⟨_,rfl⟩;rw [←hz] at hask g1 HE
  have g1':(z==0)=false:=by simpa using g1
  clear hz
  go_enter Tryz.func134,Tryz.ntmps134
  go_wp2_with fail
  rw [←hW0];clear hW0
  refine (hask).mono ?_
  rintro e w1 ⟨rfl,hb1⟩;have qdl:=hide (HD_W0.out.carry hb1);have qbn:=hide (HA_W0.out.carry hb1);have qad:=bT HB_W0 hb1;clear HD_W0 HA_W0 HB_W0 hb1;clear hask;have hc:=qbn.out.cell;have hf:=qbn.out.fz;obtain ⟨z0,hg, -⟩:=qbn.out.put (.slice none 0 0);obtain ⟨y,hy⟩:=qbn.out;have HOR:=hide (show OwF (w1.setCell ⟨w.heap.size+1,0,none⟩ (.slice none 0 0)) w.heap.size (.slice none 0 0) _ from OwF.nil _ _);have HBR:=hide (qad.out.grown hg qad.out.size (by intro k hk;cases hk;omega));clear hy hg;go_wp2;obtain ⟨w9,hw9⟩:∃w9,w9=w1.setCell ⟨w.heap.size+1,0,none⟩ (.slice none 0 0):=⟨_,rfl⟩;rw [←hw9] at z0 HOR HBR ⊢
  try simp only [Exit.inBlock,Exit.then]
  refine bodyPost_ret (v:=.tuple #[.agg #[.slice none 0 0],.int .i64 z]) ?_ rfl ⟨.slice none 0 0,by rw [HE.out],by rw [HL.out];exact HOR.out,HBR.out⟩
  clear hw9 hc hf
  simp [results,Tryz.results134,go_sem, *]
 rw [g1] at hask;have HK:=hide (qeq (qdk g1).1).2;have HG:=hide g1;clear g1
 go_enter Tryz.func134,Tryz.ntmps134
 go_wp2_with fail
 rw [←hW0];clear hW0
 refine (hask).mono ?_
 rintro e w1 ⟨rfl,hb1⟩;have qdl:=hide (HD_W0.out.carry hb1);have qbn:=hide (HA_W0.out.carry hb1);have qad:=bT HB_W0 hb1;clear HD_W0 HA_W0 HB_W0 hb1;clear hask;have hnm:=qsm t w1
 cases hq:qbm t with
 | false=>
  rw [hq] at hnm;have HE:=hide (qagk HG.out hq);have HL:=hide (qqf (fs:=fs) (s:=s) (t:=t) (by rw [HE.out];omega));clear hq
  go_wp2_with fail
  refine (hnm).mono ?_
  rintro e w2 ⟨rfl,hb2⟩;have qd3:=hide (qdl.out.carry hb2);have qct:=hide (qbn.out.carry hb2);have qae:=bT qad hb2;clear qdl qbn qad hb2;clear hnm;have hc:=qct.out.cell;have hf:=qct.out.fz;obtain ⟨z0,hg, -⟩:=qct.out.put (.slice none 0 0);obtain ⟨y,hy⟩:=qct.out;have HOR:=hide (show OwF (w2.setCell ⟨w.heap.size+1,0,none⟩ (.slice none 0 0)) w.heap.size (.slice none 0 0) _ from OwF.nil _ _);have HBR:=hide (qae.out.grown hg qae.out.size (by intro k hk;cases hk;omega));clear hy hg;go_wp2;obtain ⟨w9,hw9⟩:∃w9,w9=w2.setCell ⟨w.heap.size+1,0,none⟩ (.slice none 0 0):=⟨_,rfl⟩;rw [←hw9] at z0 HOR HBR ⊢
  try simp only [Exit.inBlock,Exit.then]
  refine bodyPost_ret (v:=.tuple #[.agg #[.slice none 0 0],.int .i64 50]) ?_ rfl ⟨.slice none 0 0,by rw [HE.out],by rw [HL.out];exact HOR.out,HBR.out⟩
  clear hw9 hc hf
  simp [results,Tryz.results134,go_sem, *]
 | true=>
 rw [hq] at hnm;have HQ:=hide hq;clear hq
 go_wp2_with fail
 refine (hnm).mono ?_
 rintro e w2 ⟨rfl,hb2⟩;have qd3:=hide (qdl.out.carry hb2);have qct:=hide (qbn.out.carry hb2);have qae:=bT qad hb2;clear qdl qbn qad hb2;clear hnm;have r0:=qd3.out.cell;have hfd:=ql6 a n c fs s w2 (HR.out.carry qae.out) HN.out (by have:=HK.out.1;have:=HN.out;omega)
 go_wp2_with fail
 refine (hfd).mono ?_
 rintro e w3 ⟨hor,hb3⟩;clear r0;have qhc:=hide (qd3.out.carry hb3);have qhb:=hide (qct.out.carry hb3);have qak:=bT qae hb3;clear qd3 qct qae hb3;clear hfd
 rcases hor with ⟨rfl,hno⟩ | ⟨i,ht,rfl,hts,hyes⟩
 ·have HE:=hide (qagl HG.out HQ.out hno)
  have HL:=hide (qqf (fs:=fs) (s:=s) (t:=t) (by rw [HE.out];omega));clear hno;have hc:=qhb.out.cell;have hf:=qhb.out.fz;obtain ⟨z0,hg, -⟩:=qhb.out.put (.slice none 0 0);obtain ⟨y,hy⟩:=qhb.out;have HOR:=hide (show OwF (w3.setCell ⟨w.heap.size+1,0,none⟩ (.slice none 0 0)) w.heap.size (.slice none 0 0) _ from OwF.nil _ _);have HBR:=hide (qak.out.grown hg qak.out.size (by intro k hk;cases hk;omega));clear hy hg;go_wp2;obtain ⟨w9,hw9⟩:∃w9,w9=w3.setCell ⟨w.heap.size+1,0,none⟩ (.slice none 0 0):=⟨_,rfl⟩;rw [←hw9] at z0 HOR HBR ⊢
  try simp only [Exit.inBlock,Exit.then]
  refine bodyPost_ret (v:=.tuple #[.agg #[.slice none 0 0],.int .i64 6]) ?_ rfl ⟨.slice none 0 0,by rw [HE.out],by rw [HL.out];exact HOR.out,HBR.out⟩
  clear hw9 hc hf
  simp [results,Tryz.results134,go_sem, *]
 have HE0:=hide (qakr HG.out HQ.out hyes);have HYES:=hide hyes;have HLt:=hide (qim HK.out _ (List.getElem_mem ht));have HGX:=hide (qo5 HK.out.2.1.2 ht hts)
 have htn:(i:Int)<n:=by have:=HN.out;omega
 have ht0:decide ((i:Int)<0)=false:=decide_eq_false (by omega)
 have htn2:i<n:=by omega
 obtain ⟨b,off,a2,c2,rfl,q0,q1,q2⟩:=HR.out.atB qak.out i ht;rw [hts] at q0;have HX:=hide q2;obtain ⟨l,hl⟩:∃l,l=(fs[i]).2:=⟨_,rfl⟩;rw [←hl] at q1 HX HGX HLt;obtain ⟨m,hm⟩:∃m,m=l.length:=⟨_,rfl⟩;rw [←hm] at q1 HX;have HM:=hide hm;clear hm hl q2 hts hyes;have r0:=qhc.out.cell;have HSZ:=hide qak.out.size
 go_wp2_with fail
 refine (qgb s a2 m c2 l w3 (HX.out.carry qak.out) HM.out HLt.out).mono ?_
 rintro e w4 ⟨a4,c4,rfl,ho4,hb4⟩;clear r0;have HD_w4:=hide (qhc.out.carry hb4);have HA_w4:=hide (qhb.out.carry hb4);have qbh:=bT qak hb4;clear qhc qhb qak hb4;have qai0:=hide (show OwE w4 w.heap.size (.slice a4 m c4) l from ho4.mono HSZ.out);clear ho4 q0 q1;have hn:Below w4.heap.size w4 (w4.alloc (.cells #[.string (bs t),.slice a4 m c4] 98)):=(Below.refl _ _).alloc (Nat.le_refl _) _;obtain ⟨x4,hx4⟩:∃x,x=w4.alloc (.cells #[.string (bs t),.slice a4 m c4] 98):=⟨_,rfl⟩;have HF_x4:=hide (FileAt.new w4 (bs t) (.slice a4 m c4));rw [←hx4] at hn HF_x4;have HD_x4:=hide (HD_w4.out.carry hn);have HA_x4:=hide (HA_w4.out.carry hn);have HOx_x4:=hide (qai0.out.carry hn);have HB_x4:=bT qbh hn;clear HD_w4 HA_w4 qai0 qbh hn;obtain ⟨Fb,hFb⟩:∃F,F=w4.heap.size:=⟨_,rfl⟩;rw [←hFb] at HF_x4;go_wp2;rw [←hx4];rw [←hFb];clear hFb hx4;obtain ⟨y1,hy1⟩:∃y,y=x4:=⟨_,rfl⟩;rw [←hy1] at HF_x4 HD_x4 HA_x4 HOx_x4 HB_x4 ⊢;clear hy1;have HF_y1:=HF_x4;have HD_y1:=HD_x4;have HA_y1:=HA_x4;have HOx_y1:=HOx_x4;have HB_y1:=HB_x4;clear HF_x4 HD_x4 HA_x4 HOx_x4 HB_x4;obtain ⟨D1,hD1⟩:∃D,D=delF fs s:=⟨_,rfl⟩;obtain ⟨D2,hD2⟩:∃D,D=delF D1 t:=⟨_,rfl⟩;obtain ⟨D3,hD3⟩:∃D,D=insF D2 (t,l):=⟨_,rfl⟩;have HD3:=hide (show renF fs s t=D3 by rw [hD3,hD2,hD1];unfold renF;rw [HGX.out]);have HWT:=hide (show wthF D2 (t,l)=D3 by rw [hD3,hD2,hD1];exact qaks HK.out.2.1.2 s t l);have HL1:=hide (show D1.length≤40∧∀f∈D1,f.2.length≤1000000 by rw [hD1];exact ⟨Nat.le_trans (qdm fs s).length_le HK.out.1,fun f hf=>qim HK.out f ((qdm fs s).subset hf)⟩);have HL2:=hide (show D2.length≤40∧∀f∈D2,f.2.length≤1000000 by rw [hD2];exact ⟨Nat.le_trans (qdm D1 t).length_le HL1.out.1,fun f hf=>HL1.out.2 f ((qdm D1 t).subset hf)⟩);have HC1:=hide (fun wx (hx:Below w.heap.size w wx)=>qj4 (some ⟨b,off,none⟩) n c fs s wx (HR.out.carry hx) HN.out (by have:=HK.out.1;have:=HN.out;omega) (qim HK.out));rw [←hD1] at HC1
 have HC2:=hide (fun a1 n1 c1 wx (hx:RdF wx (.slice a1 n1 c1) D1) (hn:n1=D1.length)=>qj4 a1 n1 c1 D1 t wx hx hn (by have:=HL1.out.1;omega) HL1.out.2);rw [←hD2] at HC2;have HC3:=hide (fun a2 n2 c2 wx (hx:RdF wx (.slice a2 n2 c2) D2) (hn:n2=D2.length) (hf:RdE wx (.slice a4 m c4) l)=>qso a2 n2 c2 D2 t a4 m c4 l wx hx hn (by have:=HL2.out.1;omega) HL2.out.2 hf HM.out HLt.out);rw [HWT.out] at HC3
 have HOK:=hide (show okB D3 by
  rw [←HD3.out];refine quu (qp8 (qp8 (qga HK.out.1 HK.out.2.1 HK.out.2.2.1))) (by have:=HK.out.1;have:=(qdm fs s).length_le;have:=(qdm (delF fs s) t).length_le;omega) ⟨by have:=ql4 HQ.out;show t.length≤1000;omega, ?_, ?_⟩
  ·have h1:=qdg (HK.out.2.1.1 _ (qo9 HK.out.2.1.2 HYES.out))
   show (getF fs s).length≤1000
   simp only at h1
   omega
  ·exact ((qga HK.out.1 HK.out.2.1 HK.out.2.2.1).2 _ (qo9 HK.out.2.1.2 HYES.out)).2.2)
 obtain ⟨n1,hn1⟩:∃n,n=D1.length:=⟨_,rfl⟩;obtain ⟨n2,hn2⟩:∃n,n=D2.length:=⟨_,rfl⟩;obtain ⟨n3,hn3⟩:∃n,n=D3.length:=⟨_,rfl⟩;have HN1:=hide hn1;have HN2:=hide hn2;have HN3:=hide hn3;have HS1:=hide (show w.heap.size<y1.heap.size from (Array.getElem?_eq_some_iff.1 HD_y1.out).1);have HS2:=hide (show Fb<y1.heap.size from (Array.getElem?_eq_some_iff.1 HF_y1.out).1);clear hD1 hD2 hD3 hn1 hn2 hn3 HWT HL1 HL2
 refine qg4 (α:=BxF) (F:=fun x a=>(((((((((a.put (some 40) (.agg #[.slice (some ⟨b,off,none⟩) n c])).put (some 41) (.string (bs s))).put (some 42) (.agg #[.slice x.a1 n1 x.c1])).put (some 43) (.string (bs t))).put (some 44) (.agg #[.slice x.a2 n2 x.c2])).put (some 45) (.agg #[.string (bs t),.slice a4 m c4])).put (some 46) (.agg #[.slice x.a3 n3 x.c3])).put (some 11) (.pointer (some ⟨x.g,0,none⟩))).put none undef)) (R:=fun x wz=>DirAt wz x.g (.slice x.a3 n3 x.c3)∧y1.heap.size≤x.g∧OwF wz y1.heap.size (.slice x.a3 n3 x.c3) D3∧Below y1.heap.size y1 wz) ?reg ?imp
 case reg=>
  have hK:Keeps (fun wx:World=>DirAt wx w.heap.size (.slice (some ⟨b,off,none⟩) n c)∧FileAt wx Fb (bs t) (.slice a4 m c4)):=fun _ _ h hb=>⟨h.1.carry hb,h.2.carry hb⟩
  have hS0:(fun wx:World=>DirAt wx w.heap.size (.slice (some ⟨b,off,none⟩) n c)∧FileAt wx Fb (bs t) (.slice a4 m c4)) y1:=⟨HD_y1.out,HF_y1.out⟩;have HSB:=hide (show ∀wz g u,Below y1.heap.size y1 wz→y1.heap.size≤g→(fun wx:World=>DirAt wx w.heap.size (.slice (some ⟨b,off,none⟩) n c)∧FileAt wx Fb (bs t) (.slice a4 m c4)) (wz.setCell ⟨g,0,none⟩ u) from fun wz g u hz hg=>⟨(heap_setCell_other wz ⟨g,0,none⟩ _ u (by have:=HS1.out;simp only;omega)).trans ((hz.block _ HS1.out).trans HD_y1.out),(heap_setCell_other wz ⟨g,0,none⟩ _ u (by have:=HS2.out;simp only;omega)).trans ((hz.block _ HS2.out).trans HF_y1.out)⟩);have hd0:Below y1.heap.size y1 y1.drew:=(Below.refl _ _).drew
  refine qaj hK (by kernel_rfl) hS0 ?_
  intro hS
  refine rP [0,1,3,5] 5 ?qa1 ?qp1 hS ?qn1
  case qp1=>
   iterate 4 (apply Yl.cons rfl (by kernel_rfl);focus (rintro wx ⟨y1,y2⟩;(have x1:=y1.cell);(have x2:=y2.cell0);(have x3:=y2.cell1);clear y1 y2;go_simp;all_goals (with_reducible rfl));try simp only [Act.put,sA,sB,sC])
   exact Yl.nil
  refine qgc (i:=2) (j:=7) (by kernel_rfl) ?_ ?_
  ·refine qds (R:=fun v wy=>∃a c,v=.agg #[.slice a n1 c]∧OwF wy y1.drew.heap.size (.slice a n1 c) D1∧Below y1.drew.heap.size y1.drew wy) rfl (by rfl) (by go_simp) ((HC1.out y1.drew (HB_y1.out.trans (hd0.mono HB_y1.out.size))).mono fun e wy ⟨v,h1,h2,h3⟩=>by
    obtain ⟨ax,cx,hx⟩:∃a c,v=.slice a n1 c:=by rw [HN1.out];exact h2.form
    subst hx
    exact ⟨_,h1,ax,cx,rfl,h2,h3⟩) ?_
   rintro vv u1 ⟨a1,c1,rfl,ho,hbu⟩;have hbu1:Below y1.heap.size y1 u1:=hd0.trans (hbu.mono hd0.size);have HO1u1:=hide (ho.mono hd0.size);have hSu1:=hK _ _ hS0 hbu1;refine ⟨hSu1, ?_⟩;clear hS ho hbu;have hS:=hSu1
   try simp only [Act.put,sA,sB,sC]
   refine qgc (i:=4) (j:=7) (by kernel_rfl) ?_ ?_
   ·refine qds (R:=fun v wy=>∃a c,v=.agg #[.slice a n2 c]∧OwF wy u1.heap.size (.slice a n2 c) D2∧Below u1.heap.size u1 wy) rfl (by rfl) (by go_simp) ((HC2.out a1 n1 c1 u1 HO1u1.out.rd HN1.out).mono fun e wy ⟨v,h1,h2,h3⟩=>by
     obtain ⟨ax,cx,hx⟩:∃a c,v=.slice a n2 c:=by rw [HN2.out];exact h2.form
     subst hx
     exact ⟨_,h1,ax,cx,rfl,h2,h3⟩) ?_
    rintro vv u2 ⟨a2,c2,rfl,ho,hbu⟩;have hbu2:Below y1.heap.size y1 u2:=hbu1.trans (hbu.mono hbu1.size);have HO2u2:=hide (ho.mono hbu1.size);have hSu2:=hK _ _ hS0 hbu2;refine ⟨hSu2, ?_⟩;clear hS ho hbu;have hS:=hSu2
    try simp only [Act.put,sA,sB,sC]
    refine qgc (i:=6) (j:=7) (by kernel_rfl) ?_ ?_
    ·refine qds (R:=fun v wy=>∃a c,v=.agg #[.slice a n3 c]∧OwF wy u2.heap.size (.slice a n3 c) D3∧Below u2.heap.size u2 wy) rfl (by rfl) (by go_simp) ((HC3.out a2 n2 c2 u2 HO2u2.out.rd HN2.out (HOx_y1.out.rd.carry hbu2)).mono fun e wy ⟨v,h1,h2,h3⟩=>by
      obtain ⟨ax,cx,hx⟩:∃a c,v=.slice a n3 c:=by rw [HN3.out];exact h2.form
      subst hx
      exact ⟨_,h1,ax,cx,rfl,h2,h3⟩) ?_
     rintro vv u3 ⟨a3,c3,rfl,ho,hbu⟩;have hbu3:Below y1.heap.size y1 u3:=hbu2.trans (hbu.mono hbu2.size);have HO3u3:=hide (ho.mono hbu2.size);have hSu3:=hK _ _ hS0 hbu3;refine ⟨hSu3, ?_⟩;clear hS ho hbu;have hS:=hSu3
     try simp only [Act.put,sA,sB,sC]
     obtain ⟨u4,ewu4⟩:∃u,u3.alloc (.cells #[.slice none 0 0] 31)=u:=⟨_,rfl⟩
     have hba:Below u3.heap.size u3 u4:=by rw [←ewu4];exact (Below.refl _ _).alloc (Nat.le_refl _) _
     have hbu4:Below y1.heap.size y1 u4:=hbu3.trans (hba.mono hbu3.size)
     have hgu4:BlkD u4 u3.heap.size:=by rw [←ewu4];exact BlkD.new _ _
     have hyu4:y1.heap.size≤u3.heap.size:=hbu3.size;have HO3u4:=hide (HO3u3.out.carry hba);have hSu4:=hK _ _ hS0 hbu4
     refine rR 7 (.pointer (some ⟨u3.heap.size,0,none⟩)) u4 rfl (by rw [←ewu4];go_simp) hSu4 ?_
     clear hS;have hS:=hSu4
     try simp only [Act.put,sA,sB,sC]
     obtain ⟨z0,hgr, -⟩:=hgu4.put (.slice a3 n3 c3);have hc:=hgu4.cell;have hf:=hgu4.fz;obtain ⟨yy,hyy⟩:=hgu4;have hSZ:=HSB.out u4 u3.heap.size (.slice a3 n3 c3) hbu4 hyu4
     refine rN 8 (u4.setCell ⟨u3.heap.size,0,none⟩ (.slice a3 n3 c3)) rfl (by go_simp) hSZ ?_
     try simp only [Act.put,sA,sB,sC]
     refine rD ?_
     refine ⟨rfl,⟨u3.heap.size,a1,c1,a2,c2,a3,c3⟩,by simp only [Act.put,sA,sB,sC], ?_,hyu4,HO3u4.out.keptS hgr hyy (by decide) (by decide),hbu4.grown hgr hbu4.size (by intro k hk;cases hk;exact hyu4)⟩;unfold DirAt
     have:=heap_setCell_same u4 u3.heap.size 0 _ 31 (.slice a3 n3 c3) hyy
     rw [this];rfl
    ·obtain ⟨u6,ewu6⟩:∃u,u2.alloc (.cells #[.slice none 0 0] 31)=u:=⟨_,rfl⟩
     have hba:Below u2.heap.size u2 u6:=by rw [←ewu6];exact (Below.refl _ _).alloc (Nat.le_refl _) _
     have hbu6:Below y1.heap.size y1 u6:=hbu2.trans (hba.mono hbu2.size)
     have hgu6:BlkD u6 u2.heap.size:=by rw [←ewu6];exact BlkD.new _ _
     have hyu6:y1.heap.size≤u2.heap.size:=hbu2.size;have HO2u6:=hide (HO2u2.out.carry hba);have hSu6:=hK _ _ hS0 hbu6;refine qgd (v:=.pointer (some ⟨u2.heap.size,0,none⟩)) (w':=u6) rfl (by rfl) (by rw [←ewu6];go_simp) ⟨hSu6, ?_⟩;clear hS;have hS:=hSu6
     try simp only [Act.put,sA,sB,sC]
     refine qa9 (i:=6) (R:=fun v wy=>∃a c,v=.agg #[.slice a n3 c]∧OwF wy u6.heap.size (.slice a n3 c) D3∧Below u6.heap.size u6 wy) rfl (by kernel_rfl) (by rfl) (by go_simp) ((HC3.out a2 n2 c2 u6 HO2u6.out.rd HN2.out (HOx_y1.out.rd.carry hbu6)).mono fun e wy ⟨v,h1,h2,h3⟩=>by
      obtain ⟨ax,cx,hx⟩:∃a c,v=.slice a n3 c:=by rw [HN3.out];exact h2.form
      subst hx
      exact ⟨_,h1,ax,cx,rfl,h2,h3⟩) ?_
     rintro vv u7 ⟨a3,c3,rfl,ho,hbu⟩;have hbu7:Below y1.heap.size y1 u7:=hbu6.trans (hbu.mono hbu6.size);have HO3u7:=hide (ho.mono hbu6.size);have hSu7:=hK _ _ hS0 hbu7;have hgu7:=hgu6.carry hbu;refine ⟨hSu7, ?_⟩;clear hS ho hbu;have hS:=hSu7
     try simp only [Act.put,sA,sB,sC]
     have hyu7:=hyu6;obtain ⟨z0,hgr, -⟩:=hgu7.put (.slice a3 n3 c3);have hc:=hgu7.cell;have hf:=hgu7.fz;obtain ⟨yy,hyy⟩:=hgu7;have hSZ:=HSB.out u7 u2.heap.size (.slice a3 n3 c3) hbu7 hyu7
     refine rN 8 (u7.setCell ⟨u2.heap.size,0,none⟩ (.slice a3 n3 c3)) rfl (by go_simp) hSZ ?_
     try simp only [Act.put,sA,sB,sC]
     refine rD ?_
     refine ⟨rfl,⟨u2.heap.size,a1,c1,a2,c2,a3,c3⟩,by simp only [Act.put,sA,sB,sC], ?_,hyu7,HO3u7.out.keptS hgr hyy (by decide) (by decide),hbu7.grown hgr hbu7.size (by intro k hk;cases hk;exact hyu7)⟩;unfold DirAt
     have:=heap_setCell_same u7 u2.heap.size 0 _ 31 (.slice a3 n3 c3) hyy
     rw [this];rfl
   ·obtain ⟨u9,ewu9⟩:∃u,u1.alloc (.cells #[.slice none 0 0] 31)=u:=⟨_,rfl⟩
    have hba:Below u1.heap.size u1 u9:=by rw [←ewu9];exact (Below.refl _ _).alloc (Nat.le_refl _) _
    have hbu9:Below y1.heap.size y1 u9:=hbu1.trans (hba.mono hbu1.size)
    have hgu9:BlkD u9 u1.heap.size:=by rw [←ewu9];exact BlkD.new _ _
    have hyu9:y1.heap.size≤u1.heap.size:=hbu1.size;have HO1u9:=hide (HO1u1.out.carry hba);have hSu9:=hK _ _ hS0 hbu9;refine qgd (v:=.pointer (some ⟨u1.heap.size,0,none⟩)) (w':=u9) rfl (by rfl) (by rw [←ewu9];go_simp) ⟨hSu9, ?_⟩;clear hS;have hS:=hSu9
    try simp only [Act.put,sA,sB,sC]
    refine qa9 (i:=4) (R:=fun v wy=>∃a c,v=.agg #[.slice a n2 c]∧OwF wy u9.heap.size (.slice a n2 c) D2∧Below u9.heap.size u9 wy) rfl (by kernel_rfl) (by rfl) (by go_simp) ((HC2.out a1 n1 c1 u9 HO1u9.out.rd HN1.out).mono fun e wy ⟨v,h1,h2,h3⟩=>by
     obtain ⟨ax,cx,hx⟩:∃a c,v=.slice a n2 c:=by rw [HN2.out];exact h2.form
     subst hx
     exact ⟨_,h1,ax,cx,rfl,h2,h3⟩) ?_
    rintro vv u10 ⟨a2,c2,rfl,ho,hbu⟩;have hbu10:Below y1.heap.size y1 u10:=hbu9.trans (hbu.mono hbu9.size);have HO2u10:=hide (ho.mono hbu9.size);have hSu10:=hK _ _ hS0 hbu10;have hgu10:=hgu9.carry hbu;refine ⟨hSu10, ?_⟩;clear hS ho hbu;have hS:=hSu10
    try simp only [Act.put,sA,sB,sC]
    have hyu10:=hyu9
    refine qa9 (i:=6) (R:=fun v wy=>∃a c,v=.agg #[.slice a n3 c]∧OwF wy u10.heap.size (.slice a n3 c) D3∧Below u10.heap.size u10 wy) rfl (by kernel_rfl) (by rfl) (by go_simp) ((HC3.out a2 n2 c2 u10 HO2u10.out.rd HN2.out (HOx_y1.out.rd.carry hbu10)).mono fun e wy ⟨v,h1,h2,h3⟩=>by
     obtain ⟨ax,cx,hx⟩:∃a c,v=.slice a n3 c:=by rw [HN3.out];exact h2.form
     subst hx
     exact ⟨_,h1,ax,cx,rfl,h2,h3⟩) ?_
    rintro vv u11 ⟨a3,c3,rfl,ho,hbu⟩;have hbu11:Below y1.heap.size y1 u11:=hbu10.trans (hbu.mono hbu10.size);have HO3u11:=hide (ho.mono hbu10.size);have hSu11:=hK _ _ hS0 hbu11;have hgu11:=hgu10.carry hbu;refine ⟨hSu11, ?_⟩;clear hS ho hbu;have hS:=hSu11
    try simp only [Act.put,sA,sB,sC]
    have hyu11:=hyu10;obtain ⟨z0,hgr, -⟩:=hgu11.put (.slice a3 n3 c3);have hc:=hgu11.cell;have hf:=hgu11.fz;obtain ⟨yy,hyy⟩:=hgu11;have hSZ:=HSB.out u11 u1.heap.size (.slice a3 n3 c3) hbu11 hyu11
    refine rN 8 (u11.setCell ⟨u1.heap.size,0,none⟩ (.slice a3 n3 c3)) rfl (by go_simp) hSZ ?_
    try simp only [Act.put,sA,sB,sC]
    refine rD ?_
    refine ⟨rfl,⟨u1.heap.size,a1,c1,a2,c2,a3,c3⟩,by simp only [Act.put,sA,sB,sC], ?_,hyu11,HO3u11.out.keptS hgr hyy (by decide) (by decide),hbu11.grown hgr hbu11.size (by intro k hk;cases hk;exact hyu11)⟩;unfold DirAt
    have:=heap_setCell_same u11 u1.heap.size 0 _ 31 (.slice a3 n3 c3) hyy
    rw [this];rfl
  ·obtain ⟨u13,ewu13⟩:∃u,y1.drew.alloc (.cells #[.slice none 0 0] 31)=u:=⟨_,rfl⟩
   have hba:Below y1.drew.heap.size y1.drew u13:=by rw [←ewu13];exact (Below.refl _ _).alloc (Nat.le_refl _) _
   have hbu13:Below y1.heap.size y1 u13:=hd0.trans (hba.mono hd0.size)
   have hgu13:BlkD u13 y1.heap.size:=by rw [←ewu13];exact BlkD.new _ _
   have hyu13:y1.heap.size≤y1.heap.size:=hd0.size;have hSu13:=hK _ _ hS0 hbu13;refine qgd (v:=.pointer (some ⟨y1.heap.size,0,none⟩)) (w':=u13) rfl (by rfl) (by rw [←ewu13];go_simp) ⟨hSu13, ?_⟩;clear hS;have hS:=hSu13
   try simp only [Act.put,sA,sB,sC]
   refine qa9 (i:=2) (R:=fun v wy=>∃a c,v=.agg #[.slice a n1 c]∧OwF wy u13.heap.size (.slice a n1 c) D1∧Below u13.heap.size u13 wy) rfl (by kernel_rfl) (by rfl) (by go_simp) ((HC1.out u13 (HB_y1.out.trans (hbu13.mono HB_y1.out.size))).mono fun e wy ⟨v,h1,h2,h3⟩=>by
    obtain ⟨ax,cx,hx⟩:∃a c,v=.slice a n1 c:=by rw [HN1.out];exact h2.form
    subst hx
    exact ⟨_,h1,ax,cx,rfl,h2,h3⟩) ?_
   rintro vv u14 ⟨a1,c1,rfl,ho,hbu⟩;have hbu14:Below y1.heap.size y1 u14:=hbu13.trans (hbu.mono hbu13.size);have HO1u14:=hide (ho.mono hbu13.size);have hSu14:=hK _ _ hS0 hbu14;have hgu14:=hgu13.carry hbu;refine ⟨hSu14, ?_⟩;clear hS ho hbu;have hS:=hSu14
   try simp only [Act.put,sA,sB,sC]
   have hyu14:=hyu13
   refine qa9 (i:=4) (R:=fun v wy=>∃a c,v=.agg #[.slice a n2 c]∧OwF wy u14.heap.size (.slice a n2 c) D2∧Below u14.heap.size u14 wy) rfl (by kernel_rfl) (by rfl) (by go_simp) ((HC2.out a1 n1 c1 u14 HO1u14.out.rd HN1.out).mono fun e wy ⟨v,h1,h2,h3⟩=>by
    obtain ⟨ax,cx,hx⟩:∃a c,v=.slice a n2 c:=by rw [HN2.out];exact h2.form
    subst hx
    exact ⟨_,h1,ax,cx,rfl,h2,h3⟩) ?_
   rintro vv u15 ⟨a2,c2,rfl,ho,hbu⟩;have hbu15:Below y1.heap.size y1 u15:=hbu14.trans (hbu.mono hbu14.size);have HO2u15:=hide (ho.mono hbu14.size);have hSu15:=hK _ _ hS0 hbu15;have hgu15:=hgu14.carry hbu;refine ⟨hSu15, ?_⟩;clear hS ho hbu;have hS:=hSu15
   try simp only [Act.put,sA,sB,sC]
   have hyu15:=hyu14
   refine qa9 (i:=6) (R:=fun v wy=>∃a c,v=.agg #[.slice a n3 c]∧OwF wy u15.heap.size (.slice a n3 c) D3∧Below u15.heap.size u15 wy) rfl (by kernel_rfl) (by rfl) (by go_simp) ((HC3.out a2 n2 c2 u15 HO2u15.out.rd HN2.out (HOx_y1.out.rd.carry hbu15)).mono fun e wy ⟨v,h1,h2,h3⟩=>by
    obtain ⟨ax,cx,hx⟩:∃a c,v=.slice a n3 c:=by rw [HN3.out];exact h2.form
    subst hx
    exact ⟨_,h1,ax,cx,rfl,h2,h3⟩) ?_
   rintro vv u16 ⟨a3,c3,rfl,ho,hbu⟩;have hbu16:Below y1.heap.size y1 u16:=hbu15.trans (hbu.mono hbu15.size);have HO3u16:=hide (ho.mono hbu15.size);have hSu16:=hK _ _ hS0 hbu16;have hgu16:=hgu15.carry hbu;refine ⟨hSu16, ?_⟩;clear hS ho hbu;have hS:=hSu16
   try simp only [Act.put,sA,sB,sC]
   have hyu16:=hyu15;obtain ⟨z0,hgr, -⟩:=hgu16.put (.slice a3 n3 c3);have hc:=hgu16.cell;have hf:=hgu16.fz;obtain ⟨yy,hyy⟩:=hgu16;have hSZ:=HSB.out u16 y1.heap.size (.slice a3 n3 c3) hbu16 hyu16
   refine rN 8 (u16.setCell ⟨y1.heap.size,0,none⟩ (.slice a3 n3 c3)) rfl (by go_simp) hSZ ?_
   try simp only [Act.put,sA,sB,sC]
   refine rD ?_
   refine ⟨rfl,⟨y1.heap.size,a1,c1,a2,c2,a3,c3⟩,by simp only [Act.put,sA,sB,sC], ?_,hyu16,HO3u16.out.keptS hgr hyy (by decide) (by decide),hbu16.grown hgr hbu16.size (by intro k hk;cases hk;exact hyu16)⟩;unfold DirAt
   have:=heap_setCell_same u16 y1.heap.size 0 _ 31 (.slice a3 n3 c3) hyy
   rw [this];rfl
 case imp=>
  rintro ⟨gX,a1,c1,a2,c2,a3,c3⟩ z1 ⟨hD,hgX,hO,hb⟩
  simp only at hD hgX hO hb
  have HX_z1:=hide hD;have HO_z1:=hide (hO.mono HB_y1.out.size);have HA_z1:=hide (HA_y1.out.carry hb);have HB_z1:=hide (HB_y1.out.trans (hb.mono HB_y1.out.size));clear hD hO hb HA_y1 HB_y1 HD_y1 HF_y1 HOx_y1 HC1 HC2 HC3
  try simp only [Act.put,sA,sB,sC]
  have hby:=qg3 a3 n3 c3 D3 z1 HO_z1.out.rd HN3.out HOK.out;have r0:=HX_z1.out.cell
  go_wp2_with fail
  refine (hby).mono ?_
  rintro e w21 ⟨v21,rfl,ho21,hb21⟩;clear r0;have HX_w21:=hide (HX_z1.out.carry hb21);have HO_w21:=hide (HO_z1.out.carry hb21);have qj6:=hide (HA_z1.out.carry hb21);have qhh:=bT HB_z1 hb21;clear HX_z1 HO_z1 HA_z1 HB_z1 hb21;clear hby;obtain ⟨y5,hy5⟩:∃p,p=(bytF D3).length:=⟨_,rfl⟩
  obtain ⟨ay,cy,hyf⟩:∃a c,v21=.slice a y5 c:=by rw [hy5];exact qqe ho21
  subst hyf;have HY:=hide hy5;clear hy5 ho21;rw [HD3.out] at HE0
  by_cases g6:2048<y5
  ·have g6':(2048:Int)<y5:=by omega
   have HE:=hide (show qa0 fs s t=40 by rw [HE0.out];unfold fitE;rw [if_neg (by have:=HY.out;omega)]);have HL:=hide (qqf (fs:=fs) (s:=s) (t:=t) (by rw [HE.out];omega));have hc:=qj6.out.cell;have hf:=qj6.out.fz;obtain ⟨z0,hg, -⟩:=qj6.out.put (.slice none 0 0);obtain ⟨y,hy⟩:=qj6.out;have HOR:=hide (show OwF (w21.setCell ⟨w.heap.size+1,0,none⟩ (.slice none 0 0)) w.heap.size (.slice none 0 0) _ from OwF.nil _ _);have HBR:=hide (qhh.out.grown hg qhh.out.size (by intro k hk;cases hk;omega));clear hy hg;go_wp2;obtain ⟨w9,hw9⟩:∃w9,w9=w21.setCell ⟨w.heap.size+1,0,none⟩ (.slice none 0 0):=⟨_,rfl⟩;rw [←hw9] at z0 HOR HBR ⊢
   try simp only [Exit.inBlock,Exit.then]
   refine bodyPost_ret (v:=.tuple #[.agg #[.slice none 0 0],.int .i64 40]) ?_ rfl ⟨.slice none 0 0,by rw [HE.out],by rw [HL.out];exact HOR.out,HBR.out⟩
   clear hw9 hc hf
   simp [results,Tryz.results134,go_sem, *]
  have g6':decide ((2048:Int)<y5)=false:=by simpa using (by omega:¬(2048:Int)<y5)
  have HE:=hide (show qa0 fs s t=0 by rw [HE0.out];unfold fitE;rw [if_pos (by have:=HY.out;omega)]);have HL:=hide (show qbs fs s t=D3 by unfold qbs;rw [if_pos HE.out,HD3.out]);have d9:=HX_w21.out.cell;have hc:=qj6.out.cell;have hf:=qj6.out.fz;obtain ⟨z0,hg, -⟩:=qj6.out.put (.slice a3 n3 c3);obtain ⟨y,hy⟩:=qj6.out;have HOR:=hide (show OwF (w21.setCell ⟨w.heap.size+1,0,none⟩ (.slice a3 n3 c3)) w.heap.size (.slice a3 n3 c3) _ from (HO_w21.out).keptS hg hy (by decide) (by decide));have HBR:=hide (qhh.out.grown hg qhh.out.size (by intro k hk;cases hk;omega));clear hy hg;go_wp2;obtain ⟨w9,hw9⟩:∃w9,w9=w21.setCell ⟨w.heap.size+1,0,none⟩ (.slice a3 n3 c3):=⟨_,rfl⟩;rw [←hw9] at z0 HOR HBR ⊢
  try simp only [Exit.inBlock,Exit.then]
  refine bodyPost_ret (v:=.tuple #[.agg #[.slice a3 n3 c3],.int .i64 0]) ?_ rfl ⟨.slice a3 n3 c3,by rw [HE.out],by rw [HL.out];exact HOR.out,HBR.out⟩
  clear hw9 hc hf
  simp [results,Tryz.results134,go_sem, *]
end Go.Proofs.YtmeaiocohalphaaGreatDoor

/-
  Bytes as whole blocks.
-/
import Derived.Test.YtmeaiocohalphaaGreatDoorFsFn4
import Derived.Test.YtmeaiocohalphaaGreatDoorRmTop
set_option maxHeartbeats 2000000
set_option maxRecDepth 100000
namespace Go.Proofs.YtmeaiocohalphaaGreatDoor
open Go.RowKit
set_option linter.unusedVariables false
set_option linter.unusedSimpArgs false
theorem qacl {w:World} {base:Nat} {v:Value} {fs:List Fl} (h:OwF w base v fs) (hb:base≤w.heap.size) (hl:fs.length≤1000000) (s:List UInt8) (x:Value) (l:List Ex) (hx:OwE w base x l):
  ∃g c w',(Builtin.append_ #[29,29] 29 #[v,.slice (some ⟨w.heap.size,0,none⟩) 1 1]).run Tryz.prog (w.alloc (.cells #[.string (bs s),x] 98))=.ok (.slice (some ⟨g,0,none⟩) (fs.length+1) c) w'∧
   OwF w' base (.slice (some ⟨g,0,none⟩) (fs.length+1) c) (fs++[(s,l)])∧Below base w w'∧(w.alloc (.cells #[.string (bs s),x] 98)).grownBy w' v.ownBlock:=by
 obtain ⟨g,c,w',hrun,h1,h2⟩:=qr0 h hb hl s x l hx;refine ⟨g,c,w',hrun,h1,h2, ?_⟩;obtain ⟨ps,e,h⟩:=h
 have hpl:ps.length=fs.length:=by rw [←e];simp
 obtain ⟨i0,hi,hz0,hz1,hz2⟩:=info_parts Tryz.infoFl;have hb8:Below w.heap.size w (w.alloc (.cells #[.string (bs s),x] 98)):=(Below.refl _ _).alloc (Nat.le_refl _) _
 obtain ⟨v9,w9,hrun9,hown9,hg9,_⟩:=run_append_own (P:=Tryz.prog) _ base 29 29 98 i0 _ 2 40 Tryz.underlying29 hi hz0 hz1 hz2 rfl (by decide) _ _ _ (qa4 h.1 hb8) ⟨w.heap.size,0,none⟩ 1 1 [.string (bs s),x] rfl (qes w #[.string (bs s),x] 98) (by
  intro u hu
  simp at hu
  rcases hu with rfl | rfl
  ·rfl
  ·exact hx.ownForm) (by unfold maxLen;omega) (by omega) (Nat.le_trans hb hb8.size)
 rw [hrun] at hrun9
 injection hrun9 with _ e9
 rw [e9];exact hg9
theorem OwF.own_lt {w:World} {base:Nat} {v:Value} {fs:List Fl} (h:OwF w base v fs):∀k,v.ownBlock=some k→k<w.heap.size:=by
 obtain ⟨ps,_,h⟩:=h;intro k hk;exact (h.1.lt k hk).2
def qdo (fs:List Fl):Prop:=fs.length≤1000∧∀f∈fs,f.2.length≤1000000
theorem qlw {fs:List Fl} {B:Int} (h:chkF fs B=0):qdo fs:=by
 have h1:=(qbi h).2;exact ⟨by have:=h1.1;omega,qlp h1⟩
theorem qlx (a:Option Addr) (n c:Nat) (fs:List Fl) (w:World) (hrd:RdF w (.slice a n c) fs) (hn:n=fs.length) (hsm:qdo fs):
  Calls Tryz.prog 94 #[.agg #[.slice a n c]] w fun e w'=>∃v,e=.returned (.agg #[v])∧OwF w' w.heap.size v fs∧Below w.heap.size w w':=by
 have hm:n≤1000:=by have:=hsm.1;omega
 have HR:=hide hrd;have HN:=hide hn;have HL:=hide hsm.2;clear hrd hn hsm;obtain ⟨w1,ew⟩:∃w1,(w.alloc (.cells #[.slice a n c] 31)).alloc (.cells #[.slice none 0 0] 31)=w1:=⟨_,rfl⟩;have hb0:Below w.heap.size w (w.alloc (.cells #[.slice a n c] 31)):=(Below.refl _ _).alloc (Nat.le_refl _) _
 have hb1:Below w.heap.size w w1:=by rw [←ew];exact hb0.alloc (by simp) _
 have qh8:=hide (show Bq w1 w.heap.size 31 #[.slice a n c] by rw [←ew];exact (Bq.new w _ _).carry ((Below.refl _ _).alloc (Nat.le_refl _) _))
 have qt6:=hide (show BlkD w1 (w.heap.size+1) by
  have:=BlkD.new (w.alloc (.cells #[.slice a n c] 31)) (.slice none 0 0)
  rw [←ew];simpa using this)
 have k0:w1.cell? ⟨w.heap.size,0,none⟩=some (.slice a n c):=qh8.out.cell 0;have qad:=hide hb1;have HSZ:=hide (show w1.heap.size=w.heap.size+2 by rw [←ew];simp);clear hb0 hb1
 go_enter Tryz.func94,Tryz.ntmps94
 go_wp2
 go_loopw [9,3] (fun i v wr=>∃k:Nat,k≤n∧i=.int .i64 k∧Hid (OwF wr w1.heap.size v (fs.take k))∧Below w1.heap.size w1 wr) (fun i _ _=>n - (intOf i).toNat)
 case atStart=>exact ⟨0,Nat.zero_le _,rfl,hide (by simpa using OwF.nil _ _),Below.refl _ _⟩
 case round=>
  obtain ⟨k,hk,rfl,hown,hbel⟩:=hrel
  by_cases hlt:k<n
  ·have hlt':(k:Int)<n:=by omega
   have hkl:k<fs.length:=by have:=HN.out;omega
   have HT:=hide (qbd fs k hkl);have HTL:=hide (show (fs.take k).length=k by rw [List.length_take];omega);obtain ⟨av,cv,e9⟩:=hown.out.form;rw [HTL.out] at e9;subst e9;have HBr:=hide hbel;have HB9w:=hide (show Below w.heap.size w wr from qad.out.trans (hbel.mono qad.out.size));clear hbel;obtain ⟨b,off,a2,c2,rfl,q0,q1,q2⟩:=HR.out.atB HB9w.out k hkl;have HQ:=hide q2;have HLk:=hide (HL.out _ (List.getElem_mem hkl));clear q2;obtain ⟨f,hf⟩:∃f,f=fs[k]:=⟨_,rfl⟩;rw [←hf] at q0 q1 HQ HT HLk;clear hf;obtain ⟨s,l⟩:=f
   simp only at q0 q1
   obtain ⟨m,hm2⟩:∃m,m=l.length:=⟨_,rfl⟩;have HQ2:=hide (show RdE w (.slice a2 m c2) l by rw [hm2];exact HQ.out);rw [←hm2] at q1;have HM2:=hide hm2;clear hm2 HQ;obtain ⟨wq,ewq⟩:∃wq,wr.alloc (.cells #[.string (bs s),.slice a2 m c2] 98)=wq:=⟨_,rfl⟩
   have hbq:Below wr.heap.size wr wq:=by rw [←ewq];exact (Below.refl _ _).alloc (Nat.le_refl _) _
   have HBq:=hide (show Bq wq wr.heap.size 98 #[.string (bs s),.slice a2 m c2] by rw [←ewq];exact Bq.new _ _ _);have hbq':Below w.heap.size w wq:=HB9w.out.trans (hbq.mono HB9w.out.size)
   go_wp2_with fail
   try rw [ewq]
   have hK:Keeps (fun wx=>Bq wx wr.heap.size 98 #[.string (bs s),.slice a2 m c2]∧Below w1.heap.size w1 wx):=fun w1 w2 h hb=>⟨h.1.carry hb,h.2.trans (hb.mono h.2.size)⟩
   have hS0:(fun wx=>Bq wx wr.heap.size 98 #[.string (bs s),.slice a2 m c2]∧Below w1.heap.size w1 wx) wq:=⟨HBq.out,HBr.out.trans (hbq.mono HBr.out.size)⟩
   have HCL:=hide (show Calls Tryz.prog 170 #[.slice a2 m c2] wq.drew fun e w'=>∃v,e=.returned v∧∃av cv,v=.slice av m cv∧OwE w' wq.heap.size (.slice av m cv) l∧Below wq.heap.size wq w' from (qrz a2 m c2 l wq.drew ((HQ2.out.carry hbq').carry (Below.refl _ _).drew) HM2.out HLk.out).mono fun e wy ⟨v,h1,h2,h3⟩=>by
    obtain ⟨a3,c3,e3⟩:=OwE.form h2;rw [←HM2.out] at e3;subst e3
    exact ⟨_,h1,a3,c3,rfl,h2,(Below.refl _ _).drew.trans h3⟩)
   clear q0 q1 ewq hbq'
   refine qas hK (by kernel_rfl) hS0 ?_
   intro hS
   refine qae [0,1,2,3,4] (fuel:=5) (a':=?qaa1) (by kernel_rfl) (by kernel_rfl) (by kernel_rfl) ?qap1 hS ?qan1
   case qap1=>
    iterate 5 (apply Yl.cons rfl rfl;focus (rintro wx ⟨x1,x2⟩;(have e0:=x1.cell 0);(have e1:=x1.cell 1);simp only [List.getElem?_toArray,List.getElem?_cons_zero,List.getElem?_cons_succ] at e0 e1;go_simp;all_goals (with_reducible rfl));try simp only [Act.put,List.setIfInBounds_toArray,List.set_cons_zero,List.set_cons_succ])
    exact Yl.nil
   refine qbo (i:=5) (R:=fun v wx=>∃av cv,v=.slice av m cv∧OwE wx wq.heap.size (.slice av m cv) l∧Below wq.heap.size wq wx) rfl (by kernel_rfl) (by rfl) (by go_simp) HCL.out ?_
   rintro v7 w7 ⟨a7,c7,rfl,ho7,hb7⟩;have hS7:=hK _ _ hS0 hb7;refine ⟨hS7, ?_⟩;obtain ⟨g9,c9,w9,hrun,ho9,hb9,hg9⟩:=qacl (hown.out.carry (hbq.trans (hb7.mono hbq.size))) (Nat.le_trans HBr.out.size (Nat.le_trans hbq.size hb7.size)) (by have:=HTL.out;omega) s (.slice a7 m c7) l (ho7.mono (Nat.le_trans HBr.out.size hbq.size));rw [HTL.out] at hrun ho9;have HO9:=hide ho9;have HB9:=hide (show Below w1.heap.size w1 w9 from (HBr.out.trans ((hbq.trans (hb7.mono hbq.size)).mono HBr.out.size)).trans hb9);have hSa:=hK _ (w7.alloc (.cells #[.string (bs s),.slice a7 m c7] 98)) hS7 ((Below.refl _ _).alloc (Nat.le_refl _) _);have hS9:(fun wx=>Bq wx wr.heap.size 98 #[.string (bs s),.slice a2 m c2]∧Below w1.heap.size w1 wx) w9:=⟨(hg9.block _ hSa.1.lt (fun e=>Nat.lt_irrefl _ (hown.out.own_lt _ e.symm))).trans hSa.1,HB9.out⟩;clear hS ho9 hb9 hg9;have hS:=hS7
   try simp only [Act.put,List.setIfInBounds_toArray,List.set_cons_zero,List.set_cons_succ]
   refine qae [6] (fuel:=3) (a':=?qaa2) (by kernel_rfl) (by kernel_rfl) (by kernel_rfl) ?qap2 hS ?qan2
   case qap2=>
    iterate 1 (apply Yl.cons rfl rfl;focus (rintro wx ⟨x1,x2⟩;(have e0:=x1.cell 0);(have e1:=x1.cell 1);simp only [List.getElem?_toArray,List.getElem?_cons_zero,List.getElem?_cons_succ] at e0 e1;go_simp;all_goals (with_reducible rfl));try simp only [Act.put,List.setIfInBounds_toArray,List.set_cons_zero,List.set_cons_succ])
    exact Yl.nil
   refine qg4 (i:=7) (v:=.slice (some ⟨w7.heap.size,0,none⟩) 1 1) (w':=w7.alloc (.cells #[.string (bs s),.slice a7 m c7] 98)) rfl (by kernel_rfl) (by rfl) (by go_simp) hSa ?_
   clear hS;have hS:=hSa
   try simp only [Act.put,List.setIfInBounds_toArray,List.set_cons_zero,List.set_cons_succ]
   refine qg4 (i:=8) (v:=.slice (some ⟨g9,0,none⟩) (k+1) c9) (w':=w9) rfl (by kernel_rfl) (by rfl) (qaf4 (v:=.slice av k cv) (y:=.slice (some ⟨w7.heap.size,0,none⟩) 1 1) rfl rfl rfl hrun) hS9 ?_
   clear hS;have hS:=hS9
   try simp only [Act.put,List.setIfInBounds_toArray,List.set_cons_zero,List.set_cons_succ]
   refine qae [9] (fuel:=0) (a':=?qaa3) (by kernel_rfl) (by kernel_rfl) (by kernel_rfl) ?qap3 hS ?qan3
   case qap3=>
    iterate 1 (apply Yl.cons rfl rfl;focus (rintro wx ⟨x1,x2⟩;(have e0:=x1.cell 0);(have e1:=x1.cell 1);simp only [List.getElem?_toArray,List.getElem?_cons_zero,List.getElem?_cons_succ] at e0 e1;go_simp;all_goals (with_reducible rfl));try simp only [Act.put,List.setIfInBounds_toArray,List.set_cons_zero,List.set_cons_succ])
    exact Yl.nil
   refine wpAnyH_done (by kernel_rfl) ?_ _
   refine NoPanic.normal ?_
   try simp only [Act.put,List.setIfInBounds_toArray,List.set_cons_zero,List.set_cons_succ]
   clear hS hS9 hSa hS7 hS0 hK hrun ho7 hb7 hbq hown;go_wp2;go_roundw
   case rel=>exact ⟨k+1,by omega,rfl,hide (by rw [HT.out];exact HO9.out),HB9.out⟩
   case measure=>simp only [intOf];omega
  ·have hd:decide ((k:Int)<n)=false:=by simpa using (by omega:¬(k:Int)<n)
   have e:k=fs.length:=by have:=HN.out;omega
   rw [e,List.take_length] at hown;clear e;obtain ⟨av,cv,e9⟩:=hown.out.form;rw [←HN.out] at e9;subst e9;have HDr:=hide (qt6.out.carry hbel);have hc:=HDr.out.cell;have hf:=HDr.out.fz;obtain ⟨z0,hg, -⟩:=HDr.out.put (.slice av n cv);obtain ⟨y,hy⟩:=HDr.out;have HOR:=hide ((hown.out.keptS hg hy (by decide) (by decide)).mono qad.out.size);have HBR:=hide (show Below w.heap.size w _ from (qad.out.trans (hbel.mono qad.out.size)).grown hg (Nat.le_trans qad.out.size hbel.size) (by intro k hk;cases hk;omega));clear hy hg;go_wp2;obtain ⟨w9,hw9⟩:∃w9,w9=wr.setCell ⟨w.heap.size+1,0,none⟩ (.slice av n cv):=⟨_,rfl⟩;rw [←hw9] at z0 HOR HBR ⊢
   try simp only [Exit.inBlock,Exit.then]
   refine bodyPost_ret (v:=.agg #[.slice av n cv]) ?_ rfl ⟨_,rfl,HOR.out,HBR.out⟩
   clear hw9 hc hf
   simp [results,Tryz.results94,go_sem, *]
theorem qacm (w:World):∃w2,(Instr.makeSlice 23 (.int .i64 128) (.int .i64 128)).run Tryz.prog w=.ok (.slice (some ⟨w.heap.size,0,none⟩) 128 128) w2∧OwB w2 w.heap.size (.slice (some ⟨w.heap.size,0,none⟩) 128 128) (List.replicate 128 0)∧Below w.heap.size w w2:=by
 obtain ⟨i0,hi,hz0,hz1,hz2⟩:=info_parts Tryz.infoB;obtain ⟨w2,hmake,hown2,hg2⟩:=run_make_full (P:=Tryz.prog) w w.heap.size 23 5 i0 _ 1 Tryz.underlying23 hi hz0 hz1 .i64 .i64 128 (by rw [hz2];decide) (by unfold maxLen;decide) (Nat.le_refl _);refine ⟨w2,hmake, ?_,(Below.refl _ _).grown hg2 (Nat.le_refl _) (fun k hk=>by cases hk)⟩
 show w2.ownsRow _ _ _ _ _ _
 rw [List.length_replicate]
 have e:(madeCells (Value.int IntKind.u8 0).cells (128*1)).toList=u8v (List.replicate 128 0):=by
  show (madeCells #[Value.int .u8 0] (128*1)).toList=_
  rw [toList_madeCells_one]
  simp [u8v]
 rw [←e];exact hown2
theorem Tryz.infoSl8:(Tryz.prog.info? 23).map (fun i=>(i.zero,i.size,i.bytes))=some (some (.slice none 0 0),1,24):=by kernel_rfl
theorem qacn {w w':World} {b1 b2:Nat} {e1 e2:TypeId} {s1 s2:Nat} {v1 v2:Value} {n1 n2:Nat} {x1 x2:List Value} (h:w.ownsRow b1 e1 s1 v1 n1 x1) (hr:w.ownsRow b2 e2 s2 v2 n2 x2) (hne:e1≠e2) (hg:w.grownBy w' v2.ownBlock):w'.ownsRow b1 e1 s1 v1 n1 x1:=by
 refine World.ownsRow.kept h hg ?_
 rcases h.2 with ⟨rfl,_⟩ | ⟨g1,c1,cur1,rfl,_,hg1,_⟩
 ·exact .inl rfl
 ·right
  rcases hr.2 with ⟨rfl,_⟩ | ⟨g2,c2,cur2,rfl,_,hg2,_⟩
  ·intro e;cases e
  ·intro e
   have e':g1=g2:=by injection e
   subst e';rw [hg1] at hg2
   injection hg2 with e2
   injection e2 with _ e3
   exact hne e3
def OwBB (w:World) (base:Nat) (v:Value) (ls:List (List UInt8)):Prop:=∃ps:List (List UInt8 × Value),ps.map (·.1)=ls∧w.ownsRow base 23 1 v ls.length (ps.map (·.2))∧∀p∈ps,OwB w base p.2 p.1
theorem OwBB.nil (w:World) (base:Nat):OwBB w base (.slice none 0 0) []:=⟨[],rfl,World.ownsRow_nil _ _ _ _,by simp⟩
theorem OwBB.carry {w w':World} {base:Nat} {v:Value} {ls:List (List UInt8)} (h:OwBB w base v ls) (hb:Below w.heap.size w w'):OwBB w' base v ls:=by
 obtain ⟨ps,e,h1,h2⟩:=h;exact ⟨ps,e,qa4 h1 hb,fun p hp=>(h2 p hp).carry hb⟩
theorem OwBB.grown {w w':World} {base g:Nat} {v:Value} {ls:List (List UInt8)} (h:OwBB w base v ls) (hg:w.grownBy w' (some g)) (hb:g<base):OwBB w' base v ls:=by
 obtain ⟨ps,e,h1,h2⟩:=h;exact ⟨ps,e,qk6 h1 hg hb,fun p hp=>(h2 p hp).grown hg hb⟩
theorem OwBB.form {w:World} {base:Nat} {v:Value} {ls:List (List UInt8)} (h:OwBB w base v ls):∃a c,v=.slice a ls.length c:=by
 obtain ⟨ps,e,h1,h2⟩:=h
 rcases h1.2 with ⟨rfl,hn⟩ | ⟨g,cap,cur,rfl,_⟩
 ·rw [hn];exact ⟨_,_,rfl⟩
 ·exact ⟨_,_,rfl⟩
theorem OwBB.at {w:World} {base:Nat} {a:Option Addr} {n c:Nat} {ls:List (List UInt8)} (h:OwBB w base (.slice a n c) ls) (j:Nat) (hj:j<ls.length):
  ∃g y z,a=some ⟨g,0,none⟩∧w.cell? ⟨g,j,none⟩=some (.slice y (ls[j]).length z)∧OwB w base (.slice y (ls[j]).length z) ls[j]:=by
 obtain ⟨ps,rfl,h1,h2⟩:=h
 have hjp:j<ps.length:=by simpa using hj
 rcases h1.2 with ⟨e,hn⟩ | ⟨g,cap,cur,e,_⟩
 ·simp at hn;subst hn;simp at hj
 ·cases e
  have c1:=h1.cells (g:=g) rfl j ((ps[j]).2) (by simp [List.getElem?_eq_getElem hjp]);have ho:=h2 ps[j] (List.getElem_mem hjp);obtain ⟨y,z,hv⟩:=ho.form
  simp only [List.getElem_map]
  rw [hv] at c1 ho;exact ⟨g,y,z,rfl,by simpa [Addr.add_lit] using c1,ho⟩
theorem qaco {w:World} {base:Nat} {v:Value} {ls:List (List UInt8)} (h:OwBB w base v ls) (hb:base≤w.heap.size) (hl:ls.length≤1000000) (y:Option Addr) (n z:Nat) (l:List UInt8) (hx:OwB w base (.slice y n z) l):
  ∃g c w',(Builtin.append_ #[89,89] 89 #[v,.slice (some ⟨w.heap.size,0,none⟩) 1 1]).run Tryz.prog (w.alloc (.cells #[.slice y n z] 23))=.ok (.slice (some ⟨g,0,none⟩) (ls.length+1) c) w'∧
   OwBB w' base (.slice (some ⟨g,0,none⟩) (ls.length+1) c) (ls++[l])∧Below base w w':=by
 obtain ⟨ps,e,h1,h2⟩:=h;obtain ⟨w8,ew8⟩:∃w8,w8=w.alloc (.cells #[.slice y n z] 23):=⟨_,rfl⟩;have hn8:=qes w #[.slice y n z] 23;rw [←ew8] at hn8 ⊢
 have hb8:Below w.heap.size w w8:=by rw [ew8];exact (Below.refl _ _).alloc (Nat.le_refl _) _
 obtain ⟨i0,hi,hz0,hz1,hz2⟩:=info_parts Tryz.infoSl8;have q2:w8.ownsRow base 23 1 v ls.length (ps.map (·.2)):=qa4 h1 hb8
 obtain ⟨v9,w9,hrun9,hown9,hg9,_⟩:=run_append_own (P:=Tryz.prog) w8 base 89 89 23 i0 _ 1 24 Tryz.underlying89 hi hz0 hz1 hz2 rfl (by decide) _ _ _ q2 ⟨w.heap.size,0,none⟩ 1 1 [.slice y n z] rfl hn8 (by
  intro u hu
  simp at hu
  subst hu
  rfl) (by unfold maxLen;omega) (by omega) (Nat.le_trans hb hb8.size)
 have hb9:Below base w w9:=(hb8.mono hb).grown hg9 (Nat.le_trans hb hb8.size) fun k hk=>(q2.lt k hk).1
 have hin:∀p∈ps++[(l,.slice y n z)],OwB w9 base p.2 p.1:=by
  intro p hp
  have h0:OwB w8 base p.2 p.1:=by
   rcases List.mem_append.1 hp with hp | hp
   ·exact (h2 p hp).carry hb8
   ·obtain rfl:p=(l,.slice y n z):=by simpa using hp
    exact hx.carry hb8
  exact qacn h0 q2 (by decide) hg9
 rcases hown9.2 with ⟨_,h0⟩ | ⟨g,cap,cur,h0,_⟩
 ·exact absurd h0 (by omega)
 ·subst h0
  refine ⟨g,cap,w9,hrun9,⟨ps++[(l,.slice y n z)],by simp [e], ?_,hin⟩,hb9⟩;rw [List.map_append]
  simpa using hown9
theorem qsb {P:Program} (w:World) {ops:Array Oper} {rest:List Oper} {o:Oper} {a:Act} {Q:Exit→Act→World→Prop} (hgd:o.guard=none) (d s:Operand) (dT:TypeId)
  (ho:o.op=.call {callee:=.builtin .copy,args:=#[d,s],argTypes:=#[dT,dT]}) (hu:P.underlying dT=some (.slice 5)) (hsz:(P.info? 5).map (·.size)=some 1)
  (base g dLen dCap:Nat) (hd:a.eval d=.slice (some ⟨g,0,none⟩) dLen dCap) (v:Value) (l:List UInt8) (hs:a.eval s=v) (hrd:Rd w v l) (hpos:l≠[])
  (data:List UInt8) (hown:OwB w base (.slice (some ⟨g,0,none⟩) dLen dCap) data) (hdl:data.length=dLen)
  (h:∀w',w.grownBy w' (some g)→OwB w' base (.slice (some ⟨g,0,none⟩) dLen dCap) (splice data 0 (l.take dLen))→wpList P ops Q rest (a.put o.dst (goInt (l.take dLen).length)) w'):
  wpList P ops Q (o::rest) a w:=by
 rcases hrd with ⟨e,_⟩ | ⟨b,of,c,rfl,hc,hm,hcell⟩
 ·exact absurd e hpos
 ·have hlt:(l.take dLen).length=min dLen l.length:=List.length_take
  have hlen:(u8v (l.take dLen)).length=min dLen l.length:=by simp [u8v]
  obtain ⟨hx,h' | ⟨g',cap',cur,e,h1,h2,h3,h4,h5,h6⟩⟩:=hown
  ·cases h'.1
  ·cases e
   have htk:cur.toList.take data.length=u8v data:=by rw [←h6,Nat.mul_one]
   have hcs:data.length≤cur.size:=by rw [h5];omega
   refine wpList_copy_own hgd d s dT dT ho 5 hu hsz g 0 _ dCap ⟨b,of,none⟩ l.length c hd hs cur _ h2 (u8v (l.take data.length)) (by rw [hlen];exact Nat.min_comm _ _) ?_ (by rw [hlen];omega) (qc8 _) ?_
   ·intro j u hj
    obtain ⟨hj',rfl⟩:=qcs (l.take data.length) j u hj;rw [Addr.add_lit];rw [List.length_take] at hj';rw [List.getElem_take];exact hcell j (by omega)
   ·rw [hlen,←hlt]
    refine h _ ⟨rfl,rfl,rfl,by simp [World.setRow],fun k _ hk=>setRow_other w g k _ (fun e=>hk (by rw [e]))⟩ ?_
    have hl2:(splice data 0 (l.take data.length)).length=data.length:=length_splice _ _ _ (by rw [hlt];omega);refine ⟨by simp [u8v],.inr ⟨g,dCap,_,by rw [hl2],h1,setRow_heap w g _ _ _ _ h2,by rw [hl2];exact h3,h4, ?_, ?_⟩⟩
    ·have hz:cur.toList.length=dCap*1:=by rw [Array.length_toList,h5]
     simp [hlen];omega
    ·rw [hl2,qgf,hlen,Nat.mul_one]
     show ((cur.toList.take 0++(u8v (l.take data.length)++cur.toList.drop (0+(l.take data.length).length))).take data.length)=_
     simp only [List.take_zero,List.nil_append,Nat.zero_add]
     rw [List.take_append,hlen,List.take_of_length_le (by rw [hlen];omega),←htk,List.drop_take,hlt]
theorem qon (l:List UInt8):splice (List.replicate 128 0) 0 (l.take 128)=padB l:=by
 unfold splice padB;rw [List.take_zero,List.nil_append,List.drop_replicate,List.length_take]
 congr 2
 omega
theorem qagn (l:List UInt8):(padB l).length=128:=by unfold padB;rw [List.length_append,List.length_take,List.length_replicate];omega
theorem qca (l:List UInt8):(qa5 l).length=(l.length+127) / 128:=by simp [qa5]
theorem qoo (l:List UInt8) (k:Nat) (h:k<(qa5 l).length):(qa5 l)[k]=padB (l.drop (128*k)):=by simp [qa5]
theorem qakh (k:Nat) (h:k≤1000000):wrap64 (((128*k:Nat):Int)+128)=((128*(k+1):Nat):Int):=by unfold wrap64;omega
theorem qzh (a:Option Addr) (n c:Nat) (l:List UInt8) (w:World) (hrd:Rd w (.slice a n c) l) (hn:n=l.length) (hl:l.length≤1000000):
  Calls Tryz.prog 167 #[.slice a n c] w fun e w'=>∃v,e=.returned v∧OwBB w' w.heap.size v (qa5 l)∧Below w.heap.size w w':=by
 have hm:n≤1000000:=by omega
 have HR:=hide hrd;have HN:=hide hn;clear hrd hn hl
 go_enter Tryz.func167,Tryz.ntmps167
 go_wp2
 go_loopw [4,3] (fun i v wr=>∃k:Nat,128*k<n+128∧i=.int .i64 ((128*k:Nat):Int)∧Hid (OwBB wr w.heap.size v ((qa5 l).take k))∧Below w.heap.size w wr) (fun i _ _=>n+128 - (intOf i).toNat)
 case atStart=>exact ⟨0,by omega,rfl,hide (by simpa using OwBB.nil _ _),Below.refl _ _⟩
 case round=>
  obtain ⟨k,hk,rfl,hown,hbel⟩:=hrel
  by_cases hlt:128*k<n
  ·obtain ⟨at9,hat⟩:∃at9,at9=128*k:=⟨_,rfl⟩
   rw [←hat] at hlt ⊢
   have hlt':(at9:Int)<n:=by omega
   have HTL:=hide (show ((qa5 l).take k).length=k by rw [List.length_take,qca];have:=HN.out;omega)
   have HT:=hide (show (qa5 l).take (k+1)=(qa5 l).take k++[padB (l.drop at9)] by
    have hkl:k<(qa5 l).length:=by rw [qca];have:=HN.out;omega
    rw [List.take_succ_eq_append_getElem hkl,qoo,hat])
   obtain ⟨b9,o9,rfl,hnc⟩:=qxl HR.out (by intro e;have:=HN.out;rw [e] at this;simp at this;omega);obtain ⟨av,cv,e9⟩:=hown.out.form;rw [HTL.out] at e9;subst e9;have hrs:=rd_at (HR.out) at9 (n - at9) (by have:=HN.out;omega) (by intro e;have:=HN.out;rw [e] at this;simp at this;omega);rw [List.take_of_length_le (by rw [List.length_drop];have:=HN.out;omega)] at hrs;have HRS:=hide hrs;have HW:=hide (show wrap64 ((at9:Int)+128)=((128*(k+1):Nat):Int) by rw [hat];exact qakh k (by omega));have HPOS:=hide (show l.drop at9≠[] by intro e;have:=congrArg List.length e;rw [List.length_drop] at this;have:=HN.out;simp at *;omega)
   have y1:at9≤n:=by omega
   have y2:¬at9=c:=by omega
   have y3:at9≤c:=by omega
   have HMS:=hide (show n+128 - 128*(k+1)<n+128 - at9∧128*(k+1)<n+128 by omega);have HAT:=hide (show at9=128*k∧k≤1000000 from ⟨hat,by omega⟩);clear hat hrs hk;obtain ⟨w2,hmk,hO2,hb2⟩:=qacm wr;have HB2:=hide (show Below w.heap.size w w2 from hbel.trans (hb2.mono hbel.size));have HO2:=hide hO2;have HOW2:=hide (hown.out.carry hb2);have HRS2:=hide (HRS.out.carry HB2.out);have hbsz:=hbel.size;have HBR:=hide hbel;have HBs:=hide hb2
   have HAPP:=hide (fun (w3:World) (hg3:w2.grownBy w3 (some wr.heap.size)) (hO3:OwB w3 wr.heap.size (.slice (some ⟨wr.heap.size,0,none⟩) 128 128) (splice (List.replicate 128 0) 0 ((l.drop at9).take 128)))=>by
    have hb3:Below wr.heap.size wr w3:=HBs.out.grown hg3 HBs.out.size (by intro k hk;cases hk;omega);obtain ⟨g9,c9,w9,hrun,ho9,hb9⟩:=qaco (hown.out.carry hb3) (Nat.le_trans hbsz hb3.size) (by rw [HTL.out];have:=HAT.out.2;omega) (some ⟨wr.heap.size,0,none⟩) 128 128 _ (hO3.mono hbsz);rw [qon] at ho9;rw [HTL.out] at hrun ho9
    exact (⟨g9,c9,w9,hrun,ho9,(HBR.out.trans (hb3.mono HBR.out.size)).trans hb9⟩:∃g9 c9 w9,(Builtin.append_ #[89,89] 89 #[.slice av k cv,.slice (some ⟨w3.heap.size,0,none⟩) 1 1]).run Tryz.prog (w3.alloc (.cells #[.slice (some ⟨wr.heap.size,0,none⟩) 128 128] 23))=.ok (.slice (some ⟨g9,0,none⟩) (k+1) c9) w9∧OwBB w9 w.heap.size (.slice (some ⟨g9,0,none⟩) (k+1) c9) ((qa5 l).take k++[padB (l.drop at9)])∧Below w.heap.size w w9))
   clear hO2 hown hbel hb2
   go_wp2_with (first | (refine qsb w2 rfl (.tmp 13) (.tmp 16) 23 rfl Tryz.underlying23 Tryz.sizeB wr.heap.size wr.heap.size 128 128 rfl _ (l.drop at9) rfl HRS2.out HPOS.out _ HO2.out (by simp) ?_;intro w3 hg3 hO3;obtain ⟨g9,c9,w9,hrun,ho9,hb9⟩:=HAPP.out w3 hg3 hO3;clear hg3 hO3) | (at_builtin;refine qah rfl (.tmp 18) (.tmp 20) 89 rfl rfl rfl rfl hrun ?_))
   go_roundw
   case rel=>exact ⟨k+1,HMS.out.2,congrArg (Value.int .i64) (by have:=HAT.out.1;omega),hide (by rw [HT.out];exact ho9),hb9⟩
   case measure=>simp only [intOf];have:=HAT.out.1;omega
  ·have hd:decide (((128*k:Nat):Int)<n)=false:=by simpa using (by omega:¬((128*k:Nat):Int)<n)
   have HO:=hide (show OwBB wr w.heap.size _ (qa5 l) by
    have:=hown.out
    rwa [List.take_of_length_le (by rw [qca];have:=HN.out;omega)] at this)
   clear hown;go_wp2;go_ret;exact ⟨_,rfl,HO.out,hbel⟩
end Go.Proofs.YtmeaiocohalphaaGreatDoor

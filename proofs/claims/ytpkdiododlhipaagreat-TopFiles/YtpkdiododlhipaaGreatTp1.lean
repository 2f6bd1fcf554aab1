/-
  What the statement's told and theirs answer: all files of a directory with their blocks, as one text; whether a file's first extent is a committed one's.
-/
import Derived.Test.YtpkdiododlhipaaGreatMathMt
import Derived.Test.YtpkdiododlhipaaGreatMt2
import Derived.Test.YtpkdiododlhipaaGreatMathFs6
import Derived.Test.YtpkdiododlhipaaGreatMathTp2
import Derived.Test.YtpkdiododlhipaaGreatMathFs3
import Derived.Test.YtpkdiododlhipaaGreatBase
set_option maxHeartbeats 4000000
set_option maxRecDepth 100000
set_option linter.unusedVariables false
namespace Go.Proofs.YtpkdiododlhipaaGreat
def ab7:List Fl:=[([97],[(34,1)])]
section
variable {x:List UInt8}
end
end Go.Proofs.YtpkdiododlhipaaGreat
namespace Go.Proofs.YtpkdiododlhipaaGreat
open Go.RowKit
set_option linter.all false
def CellAt (w:World) (b o:Nat) (v:Value):Prop:=w.cell? ⟨b,o,none⟩=some v
theorem CellAt.carry {w w':World} {b o:Nat} {v:Value} (h:CellAt w b o v) (hb:Below w.heap.size w w'):CellAt w' b o v:=qaa _ _ _ _ h hb
theorem qji {f:Fsd} (h:okFs f):WfX f:=by
 have h4:=((qbj f.1).1 (qam h).1).2.2.1;have hk:=(qa3 (qe7 h)).2;refine ⟨(qhm h).2, ?_, ?_⟩
 ·intro g hg x hx
  have:=qdo (qcv h).2.2.1 x ((qej hg).subset hx)
  unfold wfX;omega
 ·intro g hg x hx
  have:=qdo hk.2.2.1 x ((qej hg).subset hx)
  unfold wfX;omega
def BelT (w0 w:World):Prop:=Below w0.heap.size w0 w
theorem BelT.refl (w:World):BelT w w:=Below.refl _ _
theorem BelT.next {w0 w w':World} (h:BelT w0 w) (hb:Below w.heap.size w w'):BelT w0 w':=Below.trans h (Below.mono hb (Below.size h))
theorem qx9 {f:Fsd} (h:okFs f) {g:Fl} (hg:g∈f.2.2.1):1≤g.1.length∧g.1.length≤16:=by
 have:=(qcv h).2.1.1 g hg
 unfold oneF qbx at this
 simp only [Bool.and_eq_true,decide_eq_true_iff] at this
 omega
theorem Tryz.fieldsX9:(Tryz.prog.fieldsOf 93).toList.map (fun f=>(f.type,f.offset,f.name== "_"))=[(3,0,false),(3,1,false)]:=by kernel_rfl
theorem qqa {D:List Fl} {g:Nat→List UInt8} {k:Nat} (h:k<D.length):qb2 (D.take (k+1)) g=qb2 (D.take k) g++((D[k]).1++[0]++(qbd (D[k]).2).flatMap fun n=>g n.toNat):=by
 unfold qb2;rw [List.take_succ_eq_append_getElem h,List.flatMap_append]
 simp [qadl]
theorem qtj {f:Fsd} (h:okFs f):∀k,k≤f.2.2.1.length→(qb2 (f.2.2.1.take k) (nowD f.1)).length≤3000000000*k
 | 0,_=>by simp [qb2]
 | k+1,hk=>by
  have ih:=qtj h k (by omega);rw [qqa (by omega),List.length_append];have hm:=List.getElem_mem (show k<f.2.2.1.length by omega);have hf:=qcl h hm;have h1:=qs5 hf.2.2.2.2;have hc:chkX (f.2.2.1[k]).2=0:=qin (qcv h).2.2.1 (qej hm)
  have h2:qbd (f.2.2.1[k]).2=bloL f (f.2.2.1[k]).1:=by unfold qbd;rw [if_pos hc,hf.2.2.2.1]
  have h3:=qjs (qam h).1 _ (qcw hf.2.2.2.2);have h4:=qx9 h hm
  simp only [List.length_append,List.length_cons,List.length_nil,h2,h3]
  omega
theorem qh4 (w:World) (a b c d:Int):(Op.equalIn 10000 93 (.agg #[.int .i64 a,.int .i64 b]) (.agg #[.int .i64 c,.int .i64 d])).run Tryz.prog w=.ok (decide ((a,b)=(c,d))) w:=by
 rw [run_equalIn_struct w 9999 93 _ _ (by kernel_rfl) (by kernel_rfl)];have hf:=Tryz.fieldsX9;generalize (Tryz.prog.fieldsOf 93).toList=fs at hf
 rcases fs with _ | ⟨f0,_ | ⟨f1,_ | ⟨f2,fs⟩⟩⟩
 ·simp at hf
 ·simp at hf
 ·simp only [List.map_cons,List.map_nil,List.cons.injEq,Prod.mk.injEq,and_true] at hf
  obtain ⟨⟨t0,o0,n0⟩,⟨t1,o1,n1⟩⟩:=hf
  have n0':f0.name≠ "_":=by simpa using n0
  have n1':f1.name≠ "_":=by simpa using n1
  simp only [Op.eqFields,n0',n1',ne_eq,not_false_eq_true,if_true,t0,t1,o0,o1]
  simp [go_sem]
  by_cases h1:a=c
  ·by_cases h2:b=d
   ·simp [h1,h2]
   ·simp [h1,h2]
  ·simp [h1]
 ·simp at hf
theorem qk9 (x:FsV) (f:Fsd) (w:World) (h:RdX w x f) (hok:okFs f):
  Calls Tryz.prog 6 #[x.val] w fun e w'=>e=.returned (.tuple #[.string (bs (qb2 f.2.2.1 (nowD f.1))),.bool true])∧Below w.heap.size w w':=by
 have HX:=hide h;have HW:=hide (qji hok);have HOK:=hide hok;have HNL:=hide (show qi3 f=f.2.2.1.map (·.1) by unfold qi3;rw [if_neg (by rw [qdl hok];decide)]);have HFE:=hide (qdl hok);obtain ⟨w1,ew⟩:∃w1,w.alloc (.cells x.cs 33)=w1:=⟨_,rfl⟩
 have hb1:Below w.heap.size w w1:=by rw [←ew];exact (Below.refl _ _).alloc (Nat.le_refl _) _
 have HF1:=hide (show FsAt w1 w.heap.size x by rw [←ew];exact Bq.new _ _ _);have HB1:=hide hb1;have hcon:=qaam x f w1 (h.carry hb1) (qji hok);rw [HNL.out,HFE.out] at hcon;have HCON:=hide hcon;clear h hb1 hok hcon;obtain ⟨k0,k1,k2,k3,k4,k5⟩:=qab HF1.out;unfold FsV.val;unfold FsV.cs at ew
 go_enter Tryz.func6,Tryz.ntmps6
 go_wp2_with fail
 try rw [ew]
 refine HCON.out.mono ?_
 rintro e w2 ⟨v2,rfl,ho2,hb2⟩;obtain ⟨n,hn⟩:∃n,n=f.2.2.1.length:=⟨_,rfl⟩
 obtain ⟨a2,c2,ev⟩:∃a c,v2=.slice a n c:=by
  obtain ⟨a,c,e⟩:=ho2.form;exact ⟨a,c,by rw [e,List.length_map,hn]⟩
 subst ev;have HN:=hide hn;have HO2:=hide ho2;have HF2_:=hide (HF1.out.carry hb2);have HB2:=bT HB1 hb2
 have hn40:n≤40:=by rw [hn];exact (qcv HOK.out).1
 clear k0 k1 k2 k3 k4 k5 ew hb2 ho2 hn HF1 HB1 HCON;go_wp2
 go_loopw [7,4] (fun i v wr=>∃k:Nat,k≤n∧i=.int .i64 k∧v=.string (bs (qb2 (f.2.2.1.take k) (nowD f.1)))∧Hid (Below w2.heap.size w2 wr)) (fun i _ _=>n - (intOf i).toNat)
 case atStart=>exact ⟨0,Nat.zero_le _,rfl,by simp [qb2,bs],hide (Below.refl _ _)⟩
 case round=>
  obtain ⟨k,hk,rfl,rfl,HBR⟩:=hrel
  by_cases hlt:k<n
  ·have hlt':(k:Int)<n:=by omega
   have hkl:k<f.2.2.1.length:=by rw [←HN.out];exact hlt
   obtain ⟨wi,hwq⟩:∃x,x=wr:=⟨_,rfl⟩;subst hwq;obtain ⟨gb,ea,hc1⟩:=(HO2.out.carry HBR.out).at k (by rw [List.length_map];exact hkl);subst ea;rw [List.getElem_map] at hc1;obtain ⟨nm,hnm⟩:∃nm,nm=(f.2.2.1[k]).1:=⟨_,rfl⟩;rw [←hnm] at hc1;have HC:=hide (show CellAt wi gb k (.string (bs nm)) from hc1);have HF:=hide (HF2_.out.carry HBR.out);have hmem:=List.getElem_mem hkl;have hfi:=qcl HOK.out hmem;rw [←hnm] at hfi;have HSE:=hide hfi.2.2.2.2;obtain ⟨K,hK'⟩:∃K,K=(bloL f nm).length:=⟨_,rfl⟩;have HKL:=hide hK'
   have hK6:K≤20000000:=by rw [hK'];exact qs5 HSE.out
   have HSZ:=hide (show ∀wx:World,BelT wi wx→Calls Tryz.prog 22 #[x.val,.string (bs nm)] wx fun e w'=>e=.returned (.tuple #[.int .i64 K,.int .i64 0])∧Below wx.heap.size wx w' by
    intro wx hx
    have:=qac0 x f nm wx (((HX.out.carry HB2.out).carry HBR.out).carry hx) HW.out
    rw [HSE.out,(qnu HSE.out).2.2,←hK'] at this
    exact this)
   have HBK:=hide (show qbd (f.2.2.1[k]).2=bloL f nm by
    unfold qbd
    rw [if_pos (qin (qcv HOK.out).2.2.1 (qej hmem)),hfi.2.2.2.1])
   have HTK:=hide (qqa (g:=nowD f.1) hkl);rw [←hnm,HBK.out] at HTK;have HNM:=hide (show nm.length≤16 by rw [hnm];exact (qx9 HOK.out hmem).2);have HPL:=hide (qtj HOK.out k (by omega));obtain ⟨P,hP⟩:∃P,P=qb2 (f.2.2.1.take k) (nowD f.1):=⟨_,rfl⟩;rw [←hP] at HTK HPL ⊢;have HP:=hide hP;obtain ⟨k0,k1,k2,k3,k4,k5⟩:=qab HF.out;clear hnm hmem hfi hK' hkl hP HBK;go_wp2;clear k0 k1 k2 k3 k4 k5 hc1
   have hK:Keeps (BelT wi):=fun w1 w2 h hb=>h.next hb
   have hS0:BelT wi wi:=BelT.refl wi
   refine qar hK (by kernel_rfl) hS0 ?_
   clear hS0;intro hS;generalize wi.drew=wd at *
   refine qad [0,1,2,3,4] (fuel:=6) (a':=?qaa1) (by kernel_rfl) (by kernel_rfl) (by kernel_rfl) ?qap1 hS ?qan1
   case qap1=>
    iterate 5 (apply Yl.cons rfl (by kernel_rfl);focus (rintro wx hx;(obtain ⟨k0,k1,k2,k3,k4,k5⟩:=qab (HF.out.carry hx));(have c1:wx.cell? ⟨gb,k,none⟩=some (.string (bs nm)):=CellAt.carry HC.out hx);clear hx;go_simp;all_goals (with_reducible rfl));try simp only [Act.put,sA,sB,sC])
    exact Yl.nil
   refine qdu hK (i:=5) (v:=.tuple #[.int .i64 K,.int .i64 0]) rfl (by kernel_rfl) (by kernel_rfl) (by go_simp) hS ((HSZ.out wd hS).mono fun e w1 ⟨h1,h2⟩=>⟨h1,h2⟩) ?_
   clear hS;intro w34 hS
   try simp only [Act.put,sA,sB,sC]
   refine qad [6,7,8,9,10] (fuel:=0) (a':=?qaa2) (by kernel_rfl) (by kernel_rfl) (by kernel_rfl) ?qap2 hS ?qan2
   case qap2=>
    iterate 5 (apply Yl.cons rfl (by kernel_rfl);focus (rintro wx hx;(obtain ⟨k0,k1,k2,k3,k4,k5⟩:=qab (HF.out.carry hx));(have c1:wx.cell? ⟨gb,k,none⟩=some (.string (bs nm)):=CellAt.carry HC.out hx);clear hx;go_simp;all_goals (with_reducible rfl));try simp only [Act.put,sA,sB,sC])
    exact Yl.nil
   refine wpAnyH_done (by kernel_rfl) ?_ _
   refine NoPanic.normal ?_
   try simp only [Act.put,sA,sB,sC]
   have HF2:=hide (HF.out.carry hS);have HC2:=hide (CellAt.carry HC.out hS);have HB3:=hide (show Below w2.heap.size w2 w34 from HBR.out.trans (Below.mono hS HBR.out.size));clear hS hK HSZ;have c1:w34.cell? ⟨gb,k,none⟩=some (.string (bs nm)):=HC2.out
   have hz1:¬9223372036854775807<(bs P).size+(bs nm).size:=by
    have:=HNM.out;have:=HPL.out;rw [qev,qev];omega
   have hz2:¬9223372036854775807<(bs P).size+(bs nm).size+1:=by
    have:=HNM.out;have:=HPL.out;rw [qev,qev];omega
   have hz3:¬9223372036854775807<(bs P++bs nm).size+({data:=#[0]}:ByteArray).size:=by
    have:=HNM.out;have:=HPL.out;rw [qs6,qev,List.length_append,show ({data:=#[0]}:ByteArray).size=1 from rfl];omega
   go_wp2;clear c1 hz1 hz2 hz3;rw [show (bs P++bs nm++({data:=#[0]}:ByteArray))=bs (P++nm++[0]) by rw [show ({data:=#[0]}:ByteArray)=bs [0] from rfl,qs6,qs6]];obtain ⟨Q,hQ⟩:∃Q,Q=P++nm++[0]:=⟨_,rfl⟩;have HQ:=hide hQ;have HQL:=hide (show Q.length≤3000000000*40+17 by have:=HNM.out;have:=HPL.out;rw [hQ];simp only [List.length_append,List.length_cons,List.length_nil];omega);rw [←hQ];clear hQ
   go_loopw [10,4] (fun i v wr=>∃j:Nat,j≤K∧i=.int .i64 j∧v=.string (bs (Q++((bloL f nm).take j).flatMap (fun n=>nowD f.1 n.toNat)))∧Hid (Below w34.heap.size w34 wr)) (fun i _ _=>K - (intOf i).toNat)
   case atStart=>exact ⟨0,Nat.zero_le _,rfl,by simp,hide (Below.refl _ _)⟩
   case round=>
    obtain ⟨j,hj,rfl,rfl,HBI⟩:=hrel
    by_cases hjt:j<K
    ·have hjt':(j:Int)<K:=by omega
     obtain ⟨wj,hwq⟩:∃x,x=wr:=⟨_,rfl⟩;subst hwq
     have hkj:j<(bloL f nm).length:=by rw [←HKL.out];exact hjt
     have HT2:=hide (qxs HSE.out j hkj);have HLN:=hide (qaaq HSE.out j hkj);obtain ⟨G,hG⟩:∃G,G=getL f nm j:=⟨_,rfl⟩;rw [←hG] at HT2 HLN
     have HGE:=hide (show ∀wx:World,BelT wj wx→Calls Tryz.prog 23 #[x.val,.string (bs nm),.int .i64 j] wx fun e w'=>∃v,e=.returned v∧(∃ag ng cg,v=.tuple #[.slice ag ng cg,.int .i64 0]∧ng=G.length∧Rd w' (.slice ag ng cg) G)∧Below wx.heap.size wx w' by
      intro wx hx
      have:=get_fs x f nm j wx (((((HX.out.carry HB2.out).carry HB3.out)).carry HBI.out).carry hx) HW.out
      rw [(qml HSE.out hkj).2.2.1,←hG] at this
      refine this.mono fun e w' ⟨v,h1,h2,h3⟩=>?_
      obtain ⟨a,c,e2⟩:=h2.form;subst e2
      exact ⟨_,h1,⟨a,_,c,rfl,rfl,h2.rd⟩,h3⟩)
     obtain ⟨R,hR⟩:∃R,R=Q++((bloL f nm).take j).flatMap (fun n=>nowD f.1 n.toNat):=⟨_,rfl⟩;have HR:=hide hR;have HRL:=hide (show R.length≤3000000000*40+17+128*20000000 by have:=HQL.out;have:=HLN.out.1;rw [hR,List.length_append];omega);rw [←hR];clear hG hkj hR;have HF2':=hide (HF2.out.carry HBI.out);have HC2':=hide (CellAt.carry HC2.out HBI.out);clear HF2 HC2;have HF2:=HF2';have HC2:=HC2';clear HF2' HC2';obtain ⟨k0,k1,k2,k3,k4,k5⟩:=qab HF2.out;have c1:wj.cell? ⟨gb,k,none⟩=some (.string (bs nm)):=HC2.out;go_wp2;clear k0 k1 k2 k3 k4 k5 c1
     have hK:Keeps (BelT wj):=fun w1 w2 h hb=>h.next hb
     have hS0:BelT wj wj:=BelT.refl wj
     refine qar hK (by kernel_rfl) hS0 ?_
     clear hS0;intro hS;generalize wj.drew=wd at *
     refine qad [0,1,2,3,4,5] (fuel:=6) (a':=?qba1) (by kernel_rfl) (by kernel_rfl) (by kernel_rfl) ?qbp1 hS ?qbn1
     case qbp1=>
      iterate 6 (apply Yl.cons rfl (by kernel_rfl);focus (rintro wx hx;(obtain ⟨k0,k1,k2,k3,k4,k5⟩:=qab (HF2.out.carry hx));(have c1:wx.cell? ⟨gb,k,none⟩=some (.string (bs nm)):=CellAt.carry HC2.out hx);clear hx;go_simp;all_goals (with_reducible rfl));try simp only [Act.put,sA,sB,sC])
      exact Yl.nil
     refine qcb hK (i:=6) (R:=fun v wy=>∃ag ng cg,v=.tuple #[.slice ag ng cg,.int .i64 0]∧ng=G.length∧Rd wy (.slice ag ng cg) G) rfl (by kernel_rfl) (by kernel_rfl) (by go_simp) hS (HGE.out wd hS) (fun v _ _ ⟨ag,ng,cg,h,h1,h2⟩ hb=>⟨ag,ng,cg,h,h1,h2.carry hb⟩) ?_
     intro v60 w60 hKn hRn hSn;clear hK hS;have hK:=hKn;have hS:=hSn;clear hKn hSn;obtain ⟨ag,ng,cg,rfl,hng,hrg⟩:=hRn;clear hng
     try simp only [Act.put,sA,sB,sC]
     refine qad [7,8,9,10,11] (fuel:=0) (a':=?qba2) (by kernel_rfl) (by kernel_rfl) (by kernel_rfl) ?qbp2 hS ?qbn2
     case qbp2=>
      iterate 5 (apply Yl.cons rfl (by kernel_rfl);focus (rintro wx ⟨hx,_⟩;(obtain ⟨k0,k1,k2,k3,k4,k5⟩:=qab (HF2.out.carry hx));(have c1:wx.cell? ⟨gb,k,none⟩=some (.string (bs nm)):=CellAt.carry HC2.out hx);clear hx;go_simp;all_goals (with_reducible rfl));try simp only [Act.put,sA,sB,sC])
      exact Yl.nil
     refine wpAnyH_done (by kernel_rfl) ?_ _
     refine NoPanic.normal ?_
     try simp only [Act.put,sA,sB,sC]
     have HB4:=hide (show Below w34.heap.size w34 w60 from HBI.out.trans (Below.mono hS.1 HBI.out.size));have hcv:=qh7 (P:=Tryz.prog) 23 5 9 Tryz.underlying23 Tryz.underlying5 Tryz.underlying9 hrg
     have hsz:¬9223372036854775807<(bs R).size+(bs G).size:=by
      have:=HRL.out;have:=HLN.out.2;rw [qev,qev];omega
     clear hS hK HGE hrg;go_wp2;go_roundw
     case rel=>exact ⟨j+1,by omega,rfl,by rw [HT2.out,←List.append_assoc,←HR.out,←qs6],HB4⟩
     case measure=>simp only [intOf];omega
    ·have hd:decide ((j:Int)<K)=false:=decide_eq_false (by omega)
     have HE2:=hide (show Q++((bloL f nm).take j).flatMap (fun n=>nowD f.1 n.toNat)=qb2 (f.2.2.1.take (k+1)) (nowD f.1) by
      rw [HTK.out,List.take_of_length_le (by rw [←HKL.out];omega),HQ.out];simp)
     have HB5:=hide (show Below w2.heap.size w2 wr from HB3.out.trans (HBI.out.mono HB3.out.size));rw [HE2.out];go_wp2;go_roundw
     case rel=>exact ⟨k+1,by omega,rfl,rfl,HB5⟩
     case measure=>simp only [intOf];omega
  ·have hd:decide ((k:Int)<n)=false:=decide_eq_false (by omega)
   have HE:=hide (show qb2 (f.2.2.1.take k) (nowD f.1)=qb2 f.2.2.1 (nowD f.1) by rw [List.take_of_length_le (by rw [←HN.out];omega)]);rw [HE.out];have HB6:=hide (show Below w.heap.size w wr from HB2.out.trans (HBR.out.mono HB2.out.size));go_wp2;go_ret2;exact ⟨rfl,HB6.out⟩
end Go.Proofs.YtpkdiododlhipaaGreat

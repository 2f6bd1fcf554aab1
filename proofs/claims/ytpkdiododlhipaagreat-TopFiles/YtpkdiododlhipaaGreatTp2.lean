/-
  What the statement's theirs answers: whether a file's first extent is a committed one's.
-/
import Derived.Test.YtpkdiododlhipaaGreatTp1
set_option maxHeartbeats 4000000
set_option maxRecDepth 100000
namespace Go.Proofs.YtpkdiododlhipaaGreat
open Go.RowKit
set_option linter.all false
theorem qio (a b:List UInt8):((bs a).toList==(bs b).toList)=decide (a=b):=by
 have e:∀x:List UInt8,(bs x).toList=x:=fun x=>by rw [ByteArray.toList_eq];simp [bs]
 rw [e,e]
 by_cases h:a=b<;>simp [h]
theorem qip {w:World} {r:Nat} {t:TypeId} {v0 v1 v2 v3 v4 v5:Value} (h:Bq w r t #[v0,v1,v2,v3,v4,v5]):w.cell? ⟨r,0,none⟩=some v0∧w.cell? ⟨r,1,none⟩=some v1∧w.cell? ⟨r,2,none⟩=some v2∧w.cell? ⟨r,3,none⟩=some v3∧w.cell? ⟨r,4,none⟩=some v4∧w.cell? ⟨r,5,none⟩=some v5:=
 ⟨h.cell 0,h.cell 1,h.cell 2,h.cell 3,h.cell 4,h.cell 5⟩
def thrK (K:List Fl) (a:Fl):Bool:=K.any fun b=>!b.2.isEmpty && decide (b.2.head? =a.2.head?)
theorem qtk {D K:List Fl} {s:List UInt8}:thrB D K s=D.any fun a=>decide (a.1=s) && (!a.2.isEmpty && thrK K a):=rfl
theorem qaa5 {D K:List Fl} {s:List UInt8} {i:Nat} (h:i<D.length) (h0:thrB (D.take i) K s=false) (h1:(D[i]).1=s→(D[i]).2≠[]→thrK K (D[i])=false):thrB (D.take (i+1)) K s=false:=by
 rw [qtk] at h0 ⊢;rw [List.take_succ_eq_append_getElem h,List.any_append,h0,Bool.false_or,List.any_cons,List.any_nil,Bool.or_false]
 by_cases a:(D[i]).1=s
 ·by_cases b:(D[i]).2=[]
  ·simp [b]
  ·rw [h1 a b];simp
 ·simp [a]
theorem qaa6 {D K:List Fl} {s:List UInt8} {i:Nat} (h:i<D.length) (h1:(D[i]).1=s) (h2:(D[i]).2≠[]) (h3:thrK K (D[i])=true):thrB D K s=true:=by
 rw [qtk,List.any_eq_true];exact ⟨_,List.getElem_mem h,by rw [h3];simp [h1,h2]⟩
theorem qya {K:List Fl} {a:Fl} {j:Nat} (h:j<K.length) (h0:thrK (K.take j) a=false) (h1:(K[j]).2=[]∨¬(K[j]).2.head? =a.2.head?):thrK (K.take (j+1)) a=false:=by
 unfold thrK at h0 ⊢;rw [List.take_succ_eq_append_getElem h,List.any_append,h0,Bool.false_or,List.any_cons,List.any_nil,Bool.or_false]
 rcases h1 with h1 | h1
 ·simp [h1]
 ·simp [h1]
theorem qyb {K:List Fl} {a:Fl} {j:Nat} (h:j<K.length) (h1:(K[j]).2≠[]) (h2:(K[j]).2.head? =a.2.head?):thrK K a=true:=by
 unfold thrK;rw [List.any_eq_true];exact ⟨_,List.getElem_mem h,by simp [h1,h2]⟩
theorem qyc {l:List Ex} (h:0<l.length):l.head? =some (l[0]):=by
 cases l with
 | nil=>cases h
 | cons x l=>rfl
theorem qmn (x:FsV) (f:Fsd) (s:List UInt8) (w:World) (h:RdX w x f):
  Calls Tryz.prog 18 #[x.val,.string (bs s)] w fun e w'=>e=.returned (.bool (thrB f.2.2.1 f.2.2.2 s))∧Below w.heap.size w w':=by
 have HX:=hide h;obtain ⟨w1,ew⟩:∃w1,w.alloc (.cells x.cs 33)=w1:=⟨_,rfl⟩
 have hb1:Below w.heap.size w w1:=by rw [←ew];exact (Below.refl _ _).alloc (Nat.le_refl _) _
 have HF1:=hide (show FsAt w1 w.heap.size x by rw [←ew];exact Bq.new _ _ _);have HB1:=hide hb1;have HKN:=hide (show x.n5=f.2.2.2.length∧x.n4=f.2.2.1.length from ⟨h.n5,h.n4⟩)
 have hn5:x.n5≤maxLen:=by rw [h.n5];exact h.kl.len_le
 have hn4:x.n4≤maxLen:=by rw [h.n4];exact h.fl.len_le
 unfold maxLen at hn4 hn5;clear h hb1;unfold FsV.val;unfold FsV.cs at ew
 go_enter Tryz.func18,Tryz.ntmps18
 go_wp2
 try rw [ew]
 clear ew
 go_loopw [5] (fun i wr=>∃j:Nat,j≤x.n4∧i=.int .i64 j∧Hid (thrB (f.2.2.1.take j) f.2.2.2 s=false)∧Hid (FsAt wr w.heap.size x)∧Hid (Below w.heap.size w wr)) (fun i _=>x.n4 - (intOf i).toNat)
 case atStart=>exact ⟨0,Nat.zero_le _,rfl,hide rfl,HF1,HB1⟩
 case round=>
  obtain ⟨i,hi,rfl,HTB,HFo,HBo⟩:=hrel;obtain ⟨k0,k1,k2,k3,k4,k5⟩:=qab HFo.out
  by_cases hlt:i<x.n4
  ·have hlt':(i:Int)<x.n4:=by omega
   obtain ⟨wo,hwq⟩:∃x,x=wr:=⟨_,rfl⟩;subst hwq
   have hil:i<f.2.2.1.length:=by rw [←HKN.out.2];exact hlt
   obtain ⟨db,do9,ia,ic,ed,q1,q2,q3⟩:=HX.out.fl.at i hil;have HNX:=hide (qaa5 (D:=f.2.2.1) (K:=f.2.2.2) (s:=s) hil HTB.out);have HTR:=hide (qaa6 (D:=f.2.2.1) (K:=f.2.2.2) (s:=s) hil);obtain ⟨A,hA⟩:∃A:Fl,A=f.2.2.1[i]:=⟨_,rfl⟩;rw [←hA] at HNX HTR q1 q2 q3;clear hA;obtain ⟨il,hilen⟩:∃il,il=A.2.length:=⟨_,rfl⟩;rw [←hilen] at q2 q3;have HIL:=hide hilen;have HC1w:=hide (show CellAt w db (do9+i*2) (.string (bs A.1)) from q1);have HC2w:=hide (show CellAt w db (do9+i*2+1) (.slice ia il ic) from q2);have HE1:=hide q3;obtain ⟨ni,hni⟩:∃ni,ni=A.1:=⟨_,rfl⟩;rw [←hni] at HC1w HNX HTR
   have hlm:il≤maxLen:=by rw [hilen];exact q3.len_le
   unfold maxLen at hlm;clear q1 q2 q3 hilen hni;have c1:wo.cell? ⟨db,do9+i*2,none⟩=some (.string (bs ni)):=CellAt.carry HC1w.out HBo.out;have c2:wo.cell? ⟨db,do9+i*2+1,none⟩=some (.slice ia il ic):=CellAt.carry HC2w.out HBo.out;rw [ed] at k4
   by_cases hns:ni=s
   ·have hns':((bs ni).toList==(bs s).toList)=true:=by rw [qio];exact decide_eq_true hns
    by_cases hz:il=0
    ·subst hz
     have HNN:=hide (HNX.out (fun _ h2=>absurd (List.eq_nil_of_length_eq_zero HIL.out.symm) h2));rw [ed];go_wp2;go_roundw
     case rel=>exact ⟨i+1,by omega,rfl,HNN,HFo,HBo⟩
     case measure=>simp only [intOf];omega
    ·have hz':decide ((il:Int)=0)=false:=decide_eq_false (by omega)
     have hz2:¬(il:Int)=0:=by omega
     have hz3:0<il:=by omega
     have HNE:=hide (show A.2≠[] from fun e=>by rw [e] at HIL;exact hz HIL.out)
     have h0l:0<A.2.length:=by have:=HIL.out;omega
     obtain ⟨eb,eo,ee,r1,r2⟩:=HE1.out.at 0 h0l;subst ee;have HHD:=hide (qyc h0l);obtain ⟨p,hp⟩:∃p:Ex,p=A.2[0]:=⟨_,rfl⟩;rw [←hp] at r1 r2 HHD;have HP1:=hide (show CellAt w eb (eo+0*2) (.int .i64 p.1) from r1);have HP2:=hide (show CellAt w eb (eo+0*2+1) (.int .i64 p.2) from r2);clear r1 r2 hp h0l;have HNS:=hide hns;clear hns;have HDB:=hide ed;go_wp2
     go_loopw [6] (fun k wr=>∃j:Nat,j≤x.n5∧k=.int .i64 j∧Hid (thrK (f.2.2.2.take j) A=false)∧Hid (FsAt wr w.heap.size x)∧Hid (Below w.heap.size w wr)) (fun k _=>x.n5 - (intOf k).toNat)
     case atStart=>exact ⟨0,Nat.zero_le _,rfl,hide rfl,HFo,HBo⟩
     case round=>
      clear k0 k1 k2 k3 k4 k5 c1 c2;obtain ⟨k,hk,rfl,HKB,HF,HB⟩:=hrel;obtain ⟨wi,hwq⟩:∃x,x=wr:=⟨_,rfl⟩;subst hwq;obtain ⟨k0,k1,k2,k3,k4,k5⟩:=qab HF.out
      by_cases hlk:k<x.n5
      ·have hlk':(k:Int)<x.n5:=by omega
       have hkl:k<f.2.2.2.length:=by rw [←HKN.out.1];exact hlk
       obtain ⟨kb,ko,ja,jc,ek,q1,q2,q3⟩:=HX.out.kl.at k hkl;have HKX:=hide (qya (K:=f.2.2.2) (a:=A) hkl HKB.out);have HKT:=hide (qyb (K:=f.2.2.2) (a:=A) hkl);obtain ⟨C,hC⟩:∃C:Fl,C=f.2.2.2[k]:=⟨_,rfl⟩;rw [←hC] at HKX HKT q1 q2 q3;clear hC;obtain ⟨jl,hjlen⟩:∃jl,jl=C.2.length:=⟨_,rfl⟩;rw [←hjlen] at q2 q3;have HJL:=hide hjlen
       have hjm:jl≤maxLen:=by rw [hjlen];exact q3.len_le
       unfold maxLen at hjm;have c2:wi.cell? ⟨db,do9+i*2+1,none⟩=some (.slice (some ⟨eb,eo,none⟩) il ic):=CellAt.carry HC2w.out HB.out;have c4:wi.cell? ⟨kb,ko+k*2+1,none⟩=some (.slice ja jl jc):=CellAt.carry (show CellAt w kb (ko+k*2+1) (.slice ja jl jc) from q2) HB.out;have HE2:=hide q3;have HF':=hide (show Bq wi w.heap.size 33 #[.slice x.a1 x.n1 x.c1,.slice x.a2 x.n2 x.c2,.slice x.a3 x.n3 x.c3,.int .u32 x.g,.slice (some ⟨db,do9,none⟩) x.n4 x.c4,.slice (some ⟨kb,ko,none⟩) x.n5 x.c5] by have:=HF.out;unfold FsAt FsV.cs at this;rw [ek,ed] at this;exact this);have HC2:=hide (show CellAt wi db (do9+i*2+1) (.slice (some ⟨eb,eo,none⟩) il ic) from c2);rw [ed] at k4;rw [ek] at k5;clear q1 q2 q3 hjlen
       by_cases hj:jl=0
       ·subst hj
        have HNN:=hide (HKX.out (.inl (List.eq_nil_of_length_eq_zero HJL.out.symm)));have HC4:=hide (show CellAt wi kb (ko+k*2+1) (.slice ja 0 jc) from c4);go_wp2;clear k0 k1 k2 k3 k4 k5 c2 c4
        have hK:Keeps (BelT wi):=fun w1 w2 h hb=>h.next hb
        have hS0:BelT wi wi:=BelT.refl wi
        refine qar hK (by kernel_rfl) hS0 ?_
        clear hS0;intro hS;generalize wi.drew=wd at *
        refine qad [0,1,2,3,4,5,6,7,8,9,10,11,12,13,14,15,16,17,18,19,20,21,22,23,24,25,26,27,28,29] (fuel:=0) (a':=?qaa1) (by kernel_rfl) (by kernel_rfl) (by kernel_rfl) ?qap1 hS ?qan1
        case qap1=>
         iterate 10 (apply Yl.cons rfl (by kernel_rfl);focus (rintro wx hx;(obtain ⟨k0,k1,k2,k3,k4,k5⟩:=qip (HF'.out.carry hx));(have c2:wx.cell? ⟨db,do9+i*2+1,none⟩=some (.slice (some ⟨eb,eo,none⟩) il ic):=CellAt.carry HC2.out hx);(have c4:wx.cell? ⟨kb,ko+k*2+1,none⟩=some (.slice ja 0 jc):=CellAt.carry HC4.out hx);clear hx;go_simp;all_goals (with_reducible rfl));try simp only [Act.put,sA,sB,sC])
         iterate 19 (apply Yl.skip rfl (by kernel_rfl);try simp only [Act.put,sA,sB,sC])
         iterate 1 (apply Yl.cons rfl (by kernel_rfl);focus (rintro wx hx;(obtain ⟨k0,k1,k2,k3,k4,k5⟩:=qip (HF'.out.carry hx));(have c2:wx.cell? ⟨db,do9+i*2+1,none⟩=some (.slice (some ⟨eb,eo,none⟩) il ic):=CellAt.carry HC2.out hx);(have c4:wx.cell? ⟨kb,ko+k*2+1,none⟩=some (.slice ja 0 jc):=CellAt.carry HC4.out hx);clear hx;go_simp;all_goals (with_reducible rfl));try simp only [Act.put,sA,sB,sC])
         exact Yl.nil
        refine wpAnyH_done (by kernel_rfl) ?_ _
        refine NoPanic.normal ?_
        try simp only [Act.put,sA,sB,sC]
        have HFN:=hide (HF.out.carry hS);have HBN:=hide (show Below w.heap.size w wd from HB.out.trans (Below.mono hS HB.out.size));clear hS hK;go_wp2;go_roundw
        case rel=>exact ⟨k+1,by omega,rfl,HNN,HFN,HBN⟩
        case measure=>simp only [intOf];omega
       ·have hj':decide (0<(jl:Int))=true:=decide_eq_true (by omega)
        have hj2:(0:Int)<jl:=by omega
        have hj3:0<jl:=by omega
        have h0:0<C.2.length:=by have:=HJL.out;omega
        obtain ⟨gb,go9,eg,r1,r2⟩:=(HE2.out.carry HB.out).at 0 h0;subst eg;have HHC:=hide (qyc h0);obtain ⟨q,hq⟩:∃q:Ex,q=C.2[0]:=⟨_,rfl⟩;rw [←hq] at r1 r2 HHC;have HCN:=hide (show C.2≠[] from fun e=>by rw [e] at HJL;exact hj HJL.out);have p1:wi.cell? ⟨eb,eo+0*2,none⟩=some (.int .i64 p.1):=CellAt.carry HP1.out HB.out;have p2:wi.cell? ⟨eb,eo+0*2+1,none⟩=some (.int .i64 p.2):=CellAt.carry HP2.out HB.out
        simp only [Nat.zero_mul,Nat.add_zero] at r1 r2 p1 p2
        have HP1':=hide (show CellAt wi eb eo (.int .i64 p.1) from p1);have HP2':=hide (show CellAt wi eb (eo+1) (.int .i64 p.2) from p2);have HR1:=hide (show CellAt wi gb go9 (.int .i64 q.1) from r1);have HR2:=hide (show CellAt wi gb (go9+1) (.int .i64 q.2) from r2);have HC4:=hide (show CellAt wi kb (ko+k*2+1) (.slice (some ⟨gb,go9,none⟩) jl jc) from c4);clear HP1 HP2;have HP1:=HP1';have HP2:=HP2';clear HP1' HP2' r1 r2 p1 p2;clear hq h0
        have heg:∀op x y xs ys wx,(eqGuard op 93 x y (.agg xs) (.agg ys)).run Tryz.prog wx=.ok () wx:=fun op x y xs ys wx=>run_eqGuard_agg wx op 93 x y xs ys (by kernel_rfl)
        by_cases hpq:q=p
        ·have heq:∀wx,(binOp .eql 93 (.agg #[.int .i64 q.1,.int .i64 q.2]) (.agg #[.int .i64 p.1,.int .i64 p.2])).run Tryz.prog wx=.ok (.bool true) wx:=fun wx=>by
          rw [run_eql_struct,qh4 wx q.1 q.2 p.1 p.2,show decide ((q.1,q.2)=(p.1,p.2))=true from decide_eq_true hpq];rfl
         have HAN:=hide (show thrB f.2.2.1 f.2.2.2 s=true from HTR.out HNS.out HNE.out (HKT.out HCN.out (by rw [HHC.out,HHD.out,hpq])));clear hpq;go_wp2;clear k0 k1 k2 k3 k4 k5 c2 c4
         have hK:Keeps (BelT wi):=fun w1 w2 h hb=>h.next hb
         have hS0:BelT wi wi:=BelT.refl wi
         refine qar hK (by kernel_rfl) hS0 ?_
         clear hS0;intro hS;generalize wi.drew=wd at *
         refine qad [0,1,2,3,4,5,6,7,8,9,10,11,12,13,14,15,16,17,18,19,20,21,22,23,24,25,26,27] (fuel:=2) (a':=?qba1) (by kernel_rfl) (by kernel_rfl) (by kernel_rfl) ?qbp1 hS ?qbn1
         case qbp1=>
          iterate 28 (apply Yl.cons rfl (by kernel_rfl);focus (rintro wx hx;(obtain ⟨k0,k1,k2,k3,k4,k5⟩:=qip (HF'.out.carry hx));(have c2:wx.cell? ⟨db,do9+i*2+1,none⟩=some (.slice (some ⟨eb,eo,none⟩) il ic):=CellAt.carry HC2.out hx);(have c4:wx.cell? ⟨kb,ko+k*2+1,none⟩=some (.slice (some ⟨gb,go9,none⟩) jl jc):=CellAt.carry HC4.out hx);(have p1:wx.cell? ⟨eb,eo,none⟩=some (.int .i64 p.1):=CellAt.carry HP1.out hx);(have p2:wx.cell? ⟨eb,eo+1,none⟩=some (.int .i64 p.2):=CellAt.carry HP2.out hx);(have r1:wx.cell? ⟨gb,go9,none⟩=some (.int .i64 q.1):=CellAt.carry HR1.out hx);(have r2:wx.cell? ⟨gb,go9+1,none⟩=some (.int .i64 q.2):=CellAt.carry HR2.out hx);clear hx;go_simp;all_goals (with_reducible rfl));try simp only [Act.put,sA,sB,sC])
          exact Yl.nil
         refine qd6 (i:=28) (v:=.bool true) rfl (by kernel_rfl) (by kernel_rfl) (by kernel_rfl) (by kernel_rfl) (fun wx _=>by go_simp;first | done | (simp only [heg];rw [heq wx];rfl) | (rw [heq wx];rfl)) hS ?_
         try simp only [Act.put,sA,sB,sC]
         refine qad [29] (fuel:=0) (a':=?qba2) (by kernel_rfl) (by kernel_rfl) (by kernel_rfl) ?qbp2 hS ?qbn2
         case qbp2=>
          iterate 1 (apply Yl.cons rfl (by kernel_rfl);focus (rintro wx hx;(obtain ⟨k0,k1,k2,k3,k4,k5⟩:=qip (HF'.out.carry hx));(have c2:wx.cell? ⟨db,do9+i*2+1,none⟩=some (.slice (some ⟨eb,eo,none⟩) il ic):=CellAt.carry HC2.out hx);(have c4:wx.cell? ⟨kb,ko+k*2+1,none⟩=some (.slice (some ⟨gb,go9,none⟩) jl jc):=CellAt.carry HC4.out hx);(have p1:wx.cell? ⟨eb,eo,none⟩=some (.int .i64 p.1):=CellAt.carry HP1.out hx);(have p2:wx.cell? ⟨eb,eo+1,none⟩=some (.int .i64 p.2):=CellAt.carry HP2.out hx);(have r1:wx.cell? ⟨gb,go9,none⟩=some (.int .i64 q.1):=CellAt.carry HR1.out hx);(have r2:wx.cell? ⟨gb,go9+1,none⟩=some (.int .i64 q.2):=CellAt.carry HR2.out hx);clear hx;go_simp;all_goals (with_reducible rfl));try simp only [Act.put,sA,sB,sC])
          exact Yl.nil
         refine wpAnyH_done (by kernel_rfl) ?_ _
         refine NoPanic.normal ?_
         try simp only [Act.put,sA,sB,sC]
         have HFN:=hide (HF.out.carry hS);have HBN:=hide (show Below w.heap.size w wd from HB.out.trans (Below.mono hS HB.out.size));clear hS hK;go_wp2;go_ret
         rw [HAN.out];exact ⟨rfl,HBN.out⟩
        ·have heq:∀wx,(binOp .eql 93 (.agg #[.int .i64 q.1,.int .i64 q.2]) (.agg #[.int .i64 p.1,.int .i64 p.2])).run Tryz.prog wx=.ok (.bool false) wx:=fun wx=>by
          rw [run_eql_struct,qh4 wx q.1 q.2 p.1 p.2,show decide ((q.1,q.2)=(p.1,p.2))=false from decide_eq_false hpq];rfl
         have HNN:=hide (HKX.out (.inr (by rw [HHC.out,HHD.out];intro e;exact hpq (Option.some.inj e))));clear hpq;go_wp2;clear k0 k1 k2 k3 k4 k5 c2 c4
         have hK:Keeps (BelT wi):=fun w1 w2 h hb=>h.next hb
         have hS0:BelT wi wi:=BelT.refl wi
         refine qar hK (by kernel_rfl) hS0 ?_
         clear hS0;intro hS;generalize wi.drew=wd at *
         refine qad [0,1,2,3,4,5,6,7,8,9,10,11,12,13,14,15,16,17,18,19,20,21,22,23,24,25,26,27] (fuel:=2) (a':=?qca1) (by kernel_rfl) (by kernel_rfl) (by kernel_rfl) ?qcp1 hS ?qcn1
         case qcp1=>
          iterate 28 (apply Yl.cons rfl (by kernel_rfl);focus (rintro wx hx;(obtain ⟨k0,k1,k2,k3,k4,k5⟩:=qip (HF'.out.carry hx));(have c2:wx.cell? ⟨db,do9+i*2+1,none⟩=some (.slice (some ⟨eb,eo,none⟩) il ic):=CellAt.carry HC2.out hx);(have c4:wx.cell? ⟨kb,ko+k*2+1,none⟩=some (.slice (some ⟨gb,go9,none⟩) jl jc):=CellAt.carry HC4.out hx);(have p1:wx.cell? ⟨eb,eo,none⟩=some (.int .i64 p.1):=CellAt.carry HP1.out hx);(have p2:wx.cell? ⟨eb,eo+1,none⟩=some (.int .i64 p.2):=CellAt.carry HP2.out hx);(have r1:wx.cell? ⟨gb,go9,none⟩=some (.int .i64 q.1):=CellAt.carry HR1.out hx);(have r2:wx.cell? ⟨gb,go9+1,none⟩=some (.int .i64 q.2):=CellAt.carry HR2.out hx);clear hx;go_simp;all_goals (with_reducible rfl));try simp only [Act.put,sA,sB,sC])
          exact Yl.nil
         refine qd6 (i:=28) (v:=.bool false) rfl (by kernel_rfl) (by kernel_rfl) (by kernel_rfl) (by kernel_rfl) (fun wx _=>by go_simp;first | done | (simp only [heg];rw [heq wx];rfl) | (rw [heq wx];rfl)) hS ?_
         try simp only [Act.put,sA,sB,sC]
         refine qad [29] (fuel:=0) (a':=?qca2) (by kernel_rfl) (by kernel_rfl) (by kernel_rfl) ?qcp2 hS ?qcn2
         case qcp2=>
          iterate 1 (apply Yl.cons rfl (by kernel_rfl);focus (rintro wx hx;(obtain ⟨k0,k1,k2,k3,k4,k5⟩:=qip (HF'.out.carry hx));(have c2:wx.cell? ⟨db,do9+i*2+1,none⟩=some (.slice (some ⟨eb,eo,none⟩) il ic):=CellAt.carry HC2.out hx);(have c4:wx.cell? ⟨kb,ko+k*2+1,none⟩=some (.slice (some ⟨gb,go9,none⟩) jl jc):=CellAt.carry HC4.out hx);(have p1:wx.cell? ⟨eb,eo,none⟩=some (.int .i64 p.1):=CellAt.carry HP1.out hx);(have p2:wx.cell? ⟨eb,eo+1,none⟩=some (.int .i64 p.2):=CellAt.carry HP2.out hx);(have r1:wx.cell? ⟨gb,go9,none⟩=some (.int .i64 q.1):=CellAt.carry HR1.out hx);(have r2:wx.cell? ⟨gb,go9+1,none⟩=some (.int .i64 q.2):=CellAt.carry HR2.out hx);clear hx;go_simp;all_goals (with_reducible rfl));try simp only [Act.put,sA,sB,sC])
          exact Yl.nil
         refine wpAnyH_done (by kernel_rfl) ?_ _
         refine NoPanic.normal ?_
         try simp only [Act.put,sA,sB,sC]
         have HFN:=hide (HF.out.carry hS);have HBN:=hide (show Below w.heap.size w wd from HB.out.trans (Below.mono hS HB.out.size));clear hS hK;go_wp2;go_roundw
         case rel=>exact ⟨k+1,by omega,rfl,HNN,HFN,HBN⟩
         case measure=>simp only [intOf];omega
      ·have hd:decide ((k:Int)<x.n5)=false:=decide_eq_false (by omega)
       have HNN:=hide (HNX.out (fun _ _=>by have:=HKB.out;rwa [List.take_of_length_le (by rw [←HKN.out.1];omega)] at this));go_wp2;go_roundw
       case rel=>exact ⟨i+1,by omega,rfl,HNN,HF,HB⟩
       case measure=>simp only [intOf];omega
   ·have hns':((bs ni).toList==(bs s).toList)=false:=by rw [qio];exact decide_eq_false hns
    have HNN:=hide (HNX.out (fun h1 _=>absurd h1 hns));clear hns;rw [ed];go_wp2;go_roundw
    case rel=>exact ⟨i+1,by omega,rfl,HNN,HFo,HBo⟩
    case measure=>simp only [intOf];omega
  ·have hd:decide ((i:Int)<x.n4)=false:=decide_eq_false (by omega)
   have HAN:=hide (show thrB f.2.2.1 f.2.2.2 s=false by have:=HTB.out;rwa [List.take_of_length_le (by rw [←HKN.out.2];omega)] at this);go_wp2;go_ret
   rw [HAN.out];exact ⟨rfl,HBo.out⟩
end Go.Proofs.YtpkdiododlhipaaGreat

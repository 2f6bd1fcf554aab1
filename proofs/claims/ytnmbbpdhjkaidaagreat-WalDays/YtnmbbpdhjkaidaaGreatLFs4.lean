/-
  Files held against others, as the statements do.
-/
import Derived.Test.YtnmbbpdhjkaidaaGreatFsTop5
namespace Go.Proofs.YtnmbbpdhjkaidaaGreat
open Go.RowKit
set_option linter.all false
theorem qcw {d:Dk} {n:Nat} (h:okD d=true) (hn:n<mny d):qg5 d n=nowD d n:=qe1 h hn
theorem qgx {d:Dk} (h:okD d=true):d.1.length=128*mny d:=(Fine.of_ok h).1.1
theorem qkz:∀(bl:List (List UInt8)) (n:Nat) (d x:Dk),okD d=true→(∀a∈qet (n:Int) bl,actE (mny d) a=0)→qa7 d (qet (n:Int) bl)=some x→∀k,k<mny d→qg5 x k=if n≤k∧k<n+bl.length then bl.getD (k - n) [] else qg5 d k
 | [],n,d,x,h,ha,he,k,hk=>by
  cases he;rw [if_neg (by simp only [List.length_nil];omega)]
 | b::bl,n,d,x,h,ha,he,k,hk=>by
  have h1:=ha (false,(n:Int),b) (List.mem_cons_self ..);have he:(match oneD d (false,(n:Int),b) with | none=>none | some y=>qa7 y (qet ((n:Int)+1) bl))=some x:=he
  cases ho:oneD d (false,(n:Int),b) with
  | none=>rw [ho] at he;cases he
  | some y=>
   rw [ho] at he
   simp only at he
   obtain ⟨h2,h3,_⟩:=qdp h h1 ho;have hb:=qgo h h1 ho hk;have ih:=qkz bl (n+1) y x h2 (fun a ha'=>by rw [h3];exact ha a (List.mem_cons_of_mem _ (by simpa using ha'))) (by simpa using he) k (by rw [h3];exact hk);rw [ih,hb]
   simp only [List.length_cons]
   by_cases hkn:k=n
   ·subst hkn
    rw [if_neg (by omega),if_pos rfl,if_pos (by omega),Nat.sub_self];rfl
   ·rw [if_neg (show ¬(k:Int)=(n:Int) by omega)]
    by_cases hr:n+1≤k∧k<n+1+bl.length
    ·rw [if_pos hr,if_pos (by omega),show k - n=(k - (n+1))+1 by omega]
     rfl
    ·rw [if_neg hr,if_neg (by omega)]
theorem qkl {d x:Dk} {g:Nat} {l:List UInt8} (hok:okD d=true) (hm:34<mny d) (hg:g≠0) (hl:l.length≤2048) (h:qa7 d (qf5 g l)=some x):
  okD x=true∧mny x=mny d∧x.2.1=[]∧∀k,k<mny d→blk x.1 k=if k=g % 2 then (qau g (l.length:Nat)).1 else if 2+g % 2*16≤k∧k<2+g % 2*16+(qbh l).length then (qbh l).getD (k - (2+g % 2*16)) [] else qg5 d k:=by
 obtain ⟨o1,o2⟩:=qms hok (qad3 hm hg hl) h;have e:qf5 g l=[(true,0,[])]++(qet ((2+g % 2*16:Nat):Int) (qbh l)++([(true,0,[])]++([(false,((g % 2:Nat):Int),(qau g (l.length:Nat)).1)]++[(true,0,[])]))):=rfl;rw [e,qb5,qeh] at h;obtain ⟨x1,a1,h⟩:=Option.bind_eq_some_iff.1 h;rw [qb5] at h;obtain ⟨x2,a2,h⟩:=Option.bind_eq_some_iff.1 h;rw [qb5,qeh] at h;obtain ⟨x3,a3,h⟩:=Option.bind_eq_some_iff.1 h;rw [qb5,qeh] at h;obtain ⟨x4,a4,a5⟩:=Option.bind_eq_some_iff.1 h;rw [qeh] at a5;obtain ⟨k1,m1,_⟩:=qdp hok (qby _) a1
 have hda:∀a∈qet ((2+g % 2*16:Nat):Int) (qbh l),actE (mny x1) a=0:=by rw [m1];exact qlj hm hl
 obtain ⟨k2,m2⟩:=qms k1 hda a2;obtain ⟨k3,m3,_⟩:=qdp k2 (qby _) a3;have hsa:actE (mny x3) (false,((g % 2:Nat):Int),(qau g (l.length:Nat)).1)=0:=qjt (by omega) hg hl;obtain ⟨k4,m4,_⟩:=qdp k3 hsa a4;refine ⟨o1,o2, ?_,fun k hk=>?_⟩
 ·have:=qf9 (n:=0) k4 (qby _) rfl a5 (by omega)
  exact this.2
 ·have b5:=qf9 (n:=k) k4 (qby _) rfl a5 (by omega)
  have b4:=qgo (n:=k) k3 hsa a4 (by omega);have b3:=(qf9 (n:=k) k2 (qby _) rfl a3 (by omega)).1;have b2:=qkz (qbh l) (2+g % 2*16) x1 x2 k1 hda a2 k (by omega);have b1:=(qf9 (n:=k) hok (qby _) rfl a1 hk).1
  have e5:qg5 x k=blk x.1 k:=by rw [qe1 o1 (by omega),b5.2];rfl
  rw [←e5,b5.1,b4,b3,b2,b1]
  by_cases hk2:k=g % 2
  ·rw [if_pos (by omega),if_pos hk2]
  ·rw [if_neg (by omega),if_neg hk2]
theorem qmu {data:List UInt8} {n j:Nat} (h:128*n+j<data.length) (hj:j<128):(blk data n)[j]? =data[128*n+j]?:=by
 unfold blk;rw [List.getElem?_take];rw [if_pos hj,List.getElem?_drop]
theorem qwu {x:Dk} {g:Nat} {l:List UInt8} (hlen:x.1.length=128*mny x) (hm:34<mny x) (hl:l.length≤2048) (h:∀j,j<(qbh l).length→blk x.1 (2+g % 2*16+j)=(qbh l).getD j []):genB x g l.length=l:=by
 unfold genB;apply List.ext_getElem?;intro i;rw [List.getElem?_take]
 by_cases hi:i<l.length
 ·rw [if_pos hi,List.getElem?_drop]
  have hj:i / 128<(qbh l).length:=by rw [qcv];omega
  have hb:=h (i / 128) hj
  have e1:128*(2+g % 2*16)+i=128*(2+g % 2*16+i / 128)+i % 128:=by omega
  rw [e1,←qmu (by omega) (by omega),hb];rw [List.getD,List.getElem?_eq_getElem hj,Option.getD_some,qof];unfold padB;rw [List.getElem?_append_left (by rw [List.length_take,List.length_drop];omega),List.getElem?_take,if_pos (by omega),List.getElem?_drop]
  congr 1
  omega
 ·rw [if_neg hi,List.getElem?_eq_none (by omega)]
theorem qz3 {x d:Dk} {g sz:Nat} (hx:x.1.length=d.1.length) (hlen:d.1.length=128*mny d) (hm:34<mny d) (hs:sz≤2048) (h:∀k,k<34→blk x.1 k=blk d.1 k):genB x g sz=genB d g sz:=by
 unfold genB;apply List.ext_getElem?;intro i;rw [List.getElem?_take,List.getElem?_take]
 by_cases hi:i<sz
 ·rw [if_pos hi,if_pos hi,List.getElem?_drop,List.getElem?_drop]
  have e1:128*(2+g % 2*16)+i=128*(2+g % 2*16+i / 128)+i % 128:=by omega
  rw [e1,←qmu (by omega) (by omega),←qmu (by omega) (by omega),h _ (by omega)]
 ·rw [if_neg hi,if_neg hi]
theorem qgh {x d:Dk} {n:Nat} (h:blk x.1 n=blk d.1 n):qcg x n=qcg d n:=by unfold qcg;rw [h]
theorem qad8 {d:Dk} {gen size:Nat} (h1:(qcg d (gen % 2)).1≤gen) (h2:qcg d ((gen+1) % 2)=(gen+1,size)):qi5 d=(gen+1,size):=by
 unfold qi5 qg6
 rcases (by omega:gen % 2=0∧(gen+1) % 2=1∨gen % 2=1∧(gen+1) % 2=0) with ⟨e1,e2⟩ | ⟨e1,e2⟩
 ·rw [e1] at h1
  rw [e2] at h2;rw [h2]
  by_cases hg:0<(qcg d 0).1
  ·rw [if_pos (show ((0,0):Nat × Nat).1<(qcg d 0).1 from hg),if_pos (show (qcg d 0).1<gen+1 by omega)]
  ·rw [if_neg (show ¬((0,0):Nat × Nat).1<(qcg d 0).1 from hg),if_pos (show 0<gen+1 by omega)]
 ·rw [e1] at h1
  rw [e2] at h2;rw [h2,if_pos (show ((0,0):Nat × Nat).1<gen+1 by show 0<gen+1;omega),if_neg (show ¬gen+1<(qcg d 1).1 by omega)]
theorem qz4 {l:List Pu} (h:∀p∈l,34≤p.1) {k:Nat} (hk:k<34):qb0 (k:Int) l=none:=by
 induction l with
 | nil=>rfl
 | cons p l ih=>
  unfold qb0;rw [ih (fun q hq=>h q (List.mem_cons_of_mem _ hq))]
  have:=h p (List.mem_cons_self ..)
  simp only
  rw [if_neg (by omega)]
theorem qrp {d:Dk} (hok:okD d=true) (hm:34<mny d) (hw:∀p∈d.2.1,34≤p.1) {k:Nat} (hk:k<34):qg5 d k=blk d.1 k:=by
 rw [qe1 hok (by omega),qz4 hw hk];rfl
theorem qrq {d x:Dk} {g:Nat} {D:List Fl} (hok:okD d=true) (hm:34<mny d) (hw:∀p∈d.2.1,34≤p.1) (hc:chkF D (mny d)=0) (hg:g+1<4294967296) (hl:(qcg d (g % 2)).1≤g) (h:qa7 d (qf5 (g+1) (bytF D))=some x):okFs (x,g+1,D,D):=by
 have hb:(bytF D).length≤2048:=(qb4 hc).2.2.2.2;obtain ⟨o1,o2,o3,o4⟩:=qkl hok hm (by omega) hb h
 have hS:(qau (g+1) ((bytF D).length:Nat)).2=0:=by rw [qjf (by omega) (by omega) (by omega)]
 have q1:qcg x (g % 2)=qcg d (g % 2):=by
  apply qgh;rw [o4 _ (by omega),if_neg (by omega),if_neg (by omega),qrp hok hm hw (by omega)]
 have q2:qcg x ((g+1) % 2)=(g+1,(bytF D).length):=by
  unfold qcg;rw [o4 _ (by omega),if_pos rfl,qx7 hg hS];rw [if_pos rfl,Int.toNat_natCast]
 have hL:qaj x=(g+1,(bytF D).length,0):=qvt o1 (by omega) (by omega) (qad8 (by rw [q1];exact hl) q2)
 have hG:genB x (g+1) (bytF D).length=bytF D:=qwu (qgx o1) (by omega) hb (fun j hj=>by
  have hj':j≤15:=by rw [qcv] at hj;omega
  rw [o4 _ (by omega),if_neg (by omega),if_pos (by omega),show 2+(g+1) % 2*16+j - (2+(g+1) % 2*16)=j by omega])
 have hR:=qy1 hc;refine ⟨by rw [hL],by rw [hL],(fun p hp=>by have hp:p∈x.2.1:=hp;rw [o3] at hp;cases hp), ?_, ?_, ?_⟩
 ·show qdi (genB x (g+1) (qaj x).2.1) (mny x)=0
  rw [hL,hG,o2];exact hR.1
 ·show qf2 (genB x (g+1) (qaj x).2.1) (mny x)=D
  rw [hL,hG,o2];exact hR.2
 ·show chkF D (mny x)=0
  rw [o2];exact hc
theorem qmv {f:Fsd} {d:Dk} {D:List Fl} (h:okFs f) (hok:okD d=true) (hlen:d.1.length=f.1.1.length) (hb:∀k,k<34→blk d.1 k=blk f.1.1 k) (hw:∀p∈d.2.1,34≤p.1) (hD:chkF D (mny f.1)=0):okFs (d,f.2.1,D,f.2.2.2):=by
 obtain ⟨h1,h2,h3,h4⟩:=qap h;obtain ⟨s1,s2⟩:=qjn h
 have hm:mny d=mny f.1:=by unfold mny;rw [hlen]
 have hL:qaj d=qaj f.1:=by
  have e1:qi5 d=qi5 f.1:=by unfold qi5;rw [qgh (hb 0 (by omega)),qgh (hb 1 (by omega))]
  unfold qaj;rw [e1,hm,qfr hok,qfr h1]
 have hG:genB d f.2.1 (qaj f.1).2.1=genB f.1 f.2.1 (qaj f.1).2.1:=qz3 hlen (qgx h1) h2 s1 hb;obtain ⟨c1,c2,c3,c4,c5,c6⟩:=h;refine ⟨by show (qaj d).2.2=0;rw [hL];exact c1,by show (qaj d).1=_;rw [hL];exact c2,hw, ?_, ?_, ?_⟩
 ·show qdi (genB d f.2.1 (qaj d).2.1) (mny d)=0
  rw [hL,hG,hm];exact c4
 ·show qf2 (genB d f.2.1 (qaj d).2.1) (mny d)=f.2.2.2
  rw [hL,hG,hm];exact c5
 ·show chkF D (mny d)=0
  rw [hm];exact hD
theorem qpr {f:Fsd} (h:okFs f):chkF f.2.2.2 (mny f.1)=0:=by
 rw [←h.2.2.2.2.1];exact (qqx h.2.2.2.1).1
theorem qad9:ofS (List.replicate 128 0)=(0,0,8):=by kernel_rfl
theorem qkm {s:Stp} {f:Fsd}:endW (qai s (qas f))=if fsE f≠0 then (fz,fsE f) else if (s (qas f)).2≠0 then (fz,(s (qas f)).2) else ((s (qas f)).1.1,0):=by
 by_cases h:fsE f=0
 ·rw [qjw (show (qas f).2.1=0 from h),if_neg (by rw [h];decide)]
  rfl
 ·rw [qcl (show (qas f).2.1≠0 from h),if_pos h]
  unfold endW;rw [if_pos (show (qas f).2.1≠0 from h)];rfl
theorem qafr (f:Fsd) (s:List UInt8) (i:Int) (b:List UInt8):qcs f s i b=if fsE f≠0 then (fz,fsE f) else if atE f s i≠0 then (fz,atE f s i) else if (doD f.1 [(false,atN f s i,b)] 1).2≠0 then (fz,(doD f.1 [(false,atN f s i,b)] 1).2) else (((doD f.1 [(false,atN f s i,b)] 1).1,f.2),0):=by
 unfold qcs;rw [qkm]
 by_cases h:fsE f≠0
 ·rw [if_pos h,if_pos h]
 ·rw [if_neg h,if_neg h]
  by_cases h1:atE f s i≠0
  ·have e:putW s i b (qas f)=(qas f,atE f s i):=by unfold putW;rw [if_pos (show atE (qas f).1 s i≠0 from h1)];rfl
   rw [e,if_pos h1,if_pos h1]
  ·have e:putW s i b (qas f)=qdw (atN f s i) b (qas f):=by unfold putW;rw [if_neg (show ¬atE (qas f).1 s i≠0 from h1)];rfl
   rw [e,if_neg h1];rfl
theorem qz5 (f:Fsd):qbl f=if fsE f≠0 then (fz,fsE f) else if (doD f.1 [(true,0,[])] 1).2≠0 then (fz,(doD f.1 [(true,0,[])] 1).2) else (((doD f.1 [(true,0,[])] 1).1,f.2),0):=by
 unfold qbl;rw [qkm];rfl
theorem qaea (f:Fsd):qf3 f=if fsE f≠0 then (fz,fsE f) else ((((f.1.1,f.1.2.1,[]):Dk),f.2),0):=by
 unfold qf3;rw [qkm]
 by_cases h:fsE f≠0
 ·rw [if_pos h,if_pos h]
 ·rw [if_neg h,if_neg h]
  have h0:=qma (Decidable.not_not.1 h)
  have e:qfu (qas f)=(ql9 (qas f) (f.1.1,f.1.2.1,[]),0):=by
   unfold qfu qfp
   have:chk (qas f).1.1=0:=qfr (qap h0).1
   rw [this];rfl
  rw [e];rfl
theorem qah3 {f:Fsd} {l:List Fl} {e:Int} (h:(qhu f l e).2=0):fsE f=0∧e=0∧qhu f l e=((f.1,f.2.1,l,f.2.2.2),0):=by
 unfold qhu at *
 split at h
 ·rename_i h0;exact absurd h h0
 ·rename_i h0
  split at h
  ·rename_i h1;exact absurd h h1
  ·rename_i h1
   rw [if_neg h0,if_neg h1];exact ⟨Decidable.not_not.1 h0,Decidable.not_not.1 h1,rfl⟩
theorem qah4 {f:Fsd} {l:List Fl} (h:fsE f=0):qhu f l 0=((f.1,f.2.1,l,f.2.2.2),0):=by
 unfold qhu;rw [if_neg (by rw [h];decide),if_neg (by decide)]
theorem qz6 {f:Fsd} {l:List Fl} (h:okFs f) (hl:chkF l (mny f.1)=0):okFs (f.1,f.2.1,l,f.2.2.2):=
 qmv h (qap h).1 rfl (fun _ _=>rfl) h.2.2.1 hl
/-! ### the example -/
section
variable {x:List UInt8}
end
def qi9 (f:Fsd) (s:List UInt8):List UInt8:=if qay f s≠0 then [] else (bloL f s).flatMap fun n=>nowD f.1 n.toNat
theorem qgy {f:Fsd} (h:okFs f):mayF f.2.2.1 (mny f.1):=(qb4 h.2.2.2.2.2).2
theorem qz7 {l m:List Ex} {b:Int} (h:extP m b) (hs:l.Sublist m):chkX l=0:=(qac5 hs h).1
theorem qmw {fs:List Fl} {g:Fl} (h:g∈fs):g.2.Sublist (qa0 fs):=by
 have h1:[g].Sublist fs:=List.singleton_sublist.2 h
 have:=qac6 h1
 simpa [qa0] using this
theorem qdj {f:Fsd} (h:okFs f) {g:Fl} (hg:g∈f.2.2.1):qbg f.2.2.1 g.1=0∧getF f.2.2.1 g.1=g.2∧bloE f g.1=0∧bloL f g.1=qax g.2∧qay f g.1=0:=by
 have hm:=qgy h;have h1:isF f.2.2.1 g.1=true:=(qpa _ _).2 ⟨g.2,hg⟩
 have h2:qed g.1=true:=by
  have:=hm.2.1.1 g hg
  unfold oneF at this
  simp only [Bool.and_eq_true] at this
  exact this.1.1
 have h3:=(qqu h.2.2.2.2.2 h2 h1).1;have h4:getF f.2.2.1 g.1=g.2:=qt4 hm.2.1.2 hg;have h5:chkX g.2=0:=qz7 hm.2.2.1 (qmw hg)
 have h6:bloE f g.1=0:=by unfold bloE;rw [if_neg (by rw [h3];decide),h4,h5]
 have h7:bloL f g.1=qax g.2:=by unfold bloL qgq;rw [if_neg (by rw [h3];decide),h4,if_pos h5]
 refine ⟨h3,h4,h6,h7, ?_⟩;unfold qay;rw [if_neg (by rw [qdx h];decide),h6]
theorem qaeb {f:Fsd} (h:okFs f) {g:Fl} (hg:g∈f.2.2.1):g.1≠[]:=by
 have:=(qgy h).2.1.1 g hg
 unfold oneF qed at this
 simp only [Bool.and_eq_true,decide_eq_true_eq] at this
 intro e;rw [e] at this
 simp at this
theorem qcx {f:Fsd} {s:List UInt8} (h:qay f s=0):okFs f∧∃l,(s,l)∈f.2.2.1:=by
 unfold qay at h
 by_cases h0:fsE f=0
 ·rw [if_neg (by rw [h0];decide)] at h
  have hok:=qma h0;unfold bloE at h
  by_cases h1:qbg f.2.2.1 s=0
  ·exact ⟨hok,(qpa _ _).1 (qv9 h1).2.2⟩
  ·rw [if_pos h1] at h;exact absurd h h1
 ·rw [if_pos h0] at h;exact absurd h h0
theorem qtc {l:List Ex} {n:Int} (h:n∈qax l):∃x∈l,x.1≤n∧n<x.1+x.2:=by
 obtain ⟨x,hx,hn⟩:=List.mem_flatMap.1 h;refine ⟨x,hx, ?_⟩;unfold blkX at hn;obtain ⟨i,hi,rfl⟩:=List.mem_map.1 hn
 have:=List.mem_range.1 hi
 omega
theorem qah5 {f:Fsd} (h:okFs f) {g:Fl} (hg:g∈f.2.2.1):∀n∈qax g.2,34≤n∧n<mny f.1:=by
 intro n hn;obtain ⟨x,hx,h1,h2⟩:=qtc hn
 have:=qes (qgy h).2.2.1 x ((qmw hg).subset hx)
 omega
theorem qcy {f:Fsd} {s:List UInt8} (h:qay f s=0):∀n∈bloL f s,34≤n∧n<mny f.1:=by
 obtain ⟨h0,l,hl⟩:=qcx h;rw [(qdj h0 hl).2.2.2.1];exact qah5 h0 hl
theorem qmx {f:Fsd} {s:List UInt8} (h:qay f s=0):okFs f∧bloE f s=0∧qk5 f s=(bloL f s).length:=by
 obtain ⟨h0,l,hl⟩:=qcx h;refine ⟨h0,(qdj h0 hl).2.2.1, ?_⟩;unfold qk5;rw [if_neg (by rw [qdx h0];decide)]
theorem qrr {f:Fsd} {s:List UInt8} (h:qay f s=0) {i:Nat} (hi:i<(bloL f s).length):atE f s i=0∧atN f s i=(bloL f s)[i]∧getE f s i=0∧getL f s i=nowD f.1 ((bloL f s)[i]).toNat:=by
 obtain ⟨h0,h1,_⟩:=qmx h;have hr:=qcy h _ (List.getElem_mem hi)
 have a1:atE f s i=0:=by unfold atE;rw [if_neg (by rw [h1];decide),if_neg (by omega)]
 have a2:atN f s i=(bloL f s)[i]:=by unfold atN;rw [if_neg (by rw [a1];decide)];simp [List.getD,List.getElem?_eq_getElem hi]
 have a3:qhc f.1 ((bloL f s)[i])=(nowD f.1 ((bloL f s)[i]).toNat,0):=by
  unfold qhc;rw [if_neg (by rw [qfr (qap h0).1];decide),if_neg (by omega)]
 refine ⟨a1,a2, ?_, ?_⟩
 ·unfold getE;rw [if_neg (by rw [qdx h0];decide),if_neg (by rw [a1];decide),a2,a3]
 ·unfold getL;rw [if_neg (by rw [qdx h0];decide),if_neg (by rw [a1];decide),a2,a3]
theorem qtd {d:Dk} {n:Nat} (h:okD d=true) (hn:n<mny d):(nowD d n).length=128:=by
 unfold nowD;have h1:=(qcb d).1 h
 cases e:qb0 (n:Int) d.2.1 with
 | some b=>
  have:∀(l:List Pu),(∀p∈l,putE (mny d) p=0)→∀b,qb0 (n:Int) l=some b→b.length=128:=by
   intro l
   induction l with
   | nil=>intro _ b hb;cases hb
   | cons p l ih=>
    intro hp b hb;unfold qb0 at hb
    cases e2:qb0 (n:Int) l with
    | some b'=>rw [e2] at hb;cases hb;exact ih (fun q hq=>hp q (List.mem_cons_of_mem _ hq)) _ e2
    | none=>
     rw [e2] at hb
     simp only at hb
     split at hb
     ·cases hb;exact (qdh (hp p (List.mem_cons_self ..))).2.2
     ·cases hb
  exact this _ h1.2.2.2.2.2.1 b e
 | none=>
  show (blk d.1 n).length=128
  unfold blk;rw [List.length_take,List.length_drop,qgx h];omega
theorem qmy {f g:Fsd} {s:List UInt8} (h1:qay f s=0) (h2:qay g s=0) (hl:bloL g s=bloL f s) (hb:∀n∈bloL f s,nowD g.1 n.toNat=nowD f.1 n.toNat):qi9 f s=qi9 g s:=by
 unfold qi9;rw [if_neg (by rw [h1];decide),if_neg (by rw [h2];decide),hl]
 have:∀(l:List Int),(∀n∈l,nowD g.1 n.toNat=nowD f.1 n.toNat)→(l.flatMap fun n=>nowD f.1 n.toNat)=l.flatMap fun n=>nowD g.1 n.toNat:=by
  intro l
  induction l with
  | nil=>intro _;rfl
  | cons a l ih=>intro h;rw [List.flatMap_cons,List.flatMap_cons,h a (List.mem_cons_self ..),ih (fun n hn=>h n (List.mem_cons_of_mem _ hn))]
 exact this _ hb
theorem qh1 {f g:Fsd} (h:g.2.2.1=f.2.2.1) (s:List UInt8):bloL g s=bloL f s∧bloE g s=bloE f s:=by
 unfold bloL bloE;rw [h];exact ⟨rfl,rfl⟩
theorem qio {f g:Fsd} (h:g.2.2.1=f.2.2.1) (hf:okFs f) (hg:okFs g) (s:List UInt8):qay g s=qay f s:=by
 unfold qay;rw [qdx hf,qdx hg,(qh1 h s).2]
theorem OwFs.bx {w:World} {base:Nat} {v:Value} {f:Fsd} (h:OwFs w base v f):∃x:FsV,v=x.val∧RdX w x f∧OwFs w base x.val f:=by
 obtain ⟨x,e,hx⟩:=h.form;exact ⟨x,e,hx,e ▸ h⟩
theorem FsV.ext_val {x y:FsV} (h:x.val=y.val):x=y:=by
 obtain ⟨a1,n1,c1,a2,n2,c2,a3,n3,c3,g,a4,n4,c4,a5,n5,c5⟩:=x;obtain ⟨b1,m1,d1,b2,m2,d2,b3,m3,d3,g',b4,m4,d4,b5,m5,d5⟩:=y
 injection h with h
 have e0:=congrArg (fun z:Array Value=>z[0]!) h;have e1:=congrArg (fun z:Array Value=>z[1]!) h;have e2:=congrArg (fun z:Array Value=>z[2]!) h;have e3:=congrArg (fun z:Array Value=>z[3]!) h;have e4:=congrArg (fun z:Array Value=>z[4]!) h;have e5:=congrArg (fun z:Array Value=>z[5]!) h
 simp at e0 e1 e2 e3 e4 e5
 obtain ⟨rfl,rfl,rfl⟩:=e0;obtain ⟨rfl,rfl,rfl⟩:=e1;obtain ⟨rfl,rfl,rfl⟩:=e2
 have e3:g=g':=by omega
 subst e3;obtain ⟨rfl,rfl,rfl⟩:=e4;obtain ⟨rfl,rfl,rfl⟩:=e5;rfl
theorem FsB.of {w:World} {q:Nat} {x:FsV} (h:FsAt w q x):FsB w q:=⟨_,_,_,_,_,_,h⟩
theorem OwFs.assign {w w0:World} {base q:Nat} {y:FsV} {f:Fsd} (h:OwFs w base y.val f) (hq:FsB w q) (hb:Below w0.heap.size w0 w) (hq0:w0.heap.size≤q):
  OwFs (set6 w q y) base y.val f∧Below w0.heap.size w0 (set6 w q y)∧FsAt (set6 w q y) q y∧RdX (set6 w q y) y f∧w.grownBy (set6 w q y) (some q):=by
 obtain ⟨h1,h2,h3⟩:=h.stored hq hb hq0;refine ⟨h1,h2,h3, ?_,(hq.put y).2⟩;obtain ⟨x',ex',hx'⟩:=h1.form;have e:x'=y:=FsV.ext_val ex'.symm;subst e;exact hx'
theorem quw {d:Dk} (h:okD d=true):∀l:List Int,(∀n∈l,34≤n∧n<mny d)→(l.flatMap fun n=>nowD d n.toNat).length=128*l.length
 | [],_=>rfl
 | n::l,hl=>by
  have h1:=hl n (List.mem_cons_self ..);rw [List.flatMap_cons,List.length_append,quw h l (fun m hm=>hl m (List.mem_cons_of_mem _ hm)),qtd h (by omega),List.length_cons];omega
def Like (f g:Fsd) (but:List UInt8):Prop:=∀x∈f.2.2.1,x.1≠but→qay f x.1=0∧qay g x.1=0∧qi9 f x.1=qi9 g x.1
end Go.Proofs.YtnmbbpdhjkaidaaGreat

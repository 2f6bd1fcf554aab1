/-
  Plain mathematics of files on a disk: blocks of files are apart; what a write changes.
-/
import Derived.Test.YtmeaiocohalphaaGreatDoorMathFs3
namespace Go.Proofs.YtmeaiocohalphaaGreatDoor
open Go.RowKit
set_option linter.unusedVariables false
set_option linter.unusedSimpArgs false
theorem qzm {s:Stp} {f:Fsd}:endW (qag s (qax f))=if fsE f≠0 then (fz,fsE f) else if (s (qax f)).2≠0 then (fz,(s (qax f)).2) else ((s (qax f)).1.1,0):=by
 by_cases h:fsE f=0
 ·rw [qid (show (qax f).2.1=0 from h),if_neg (by rw [h];decide)]
  rfl
 ·rw [qbx (show (qax f).2.1≠0 from h),if_pos h]
  unfold endW;rw [if_pos (show (qax f).2.1≠0 from h)];rfl
theorem qac1 (f:Fsd) (s:List UInt8) (i:Int) (b:List UInt8):qcz f s i b=if fsE f≠0 then (fz,fsE f) else if atE f s i≠0 then (fz,atE f s i) else if (doD f.1 [(false,atN f s i,b)] 1).2≠0 then (fz,(doD f.1 [(false,atN f s i,b)] 1).2) else (((doD f.1 [(false,atN f s i,b)] 1).1,f.2),0):=by
 unfold qcz;rw [qzm]
 by_cases h:fsE f≠0
 ·rw [if_pos h,if_pos h]
 ·rw [if_neg h,if_neg h]
  by_cases h1:atE f s i≠0
  ·have e:putW s i b (qax f)=(qax f,atE f s i):=by unfold putW;rw [if_pos (show atE (qax f).1 s i≠0 from h1)];rfl
   rw [e,if_pos h1,if_pos h1]
  ·have e:putW s i b (qax f)=qc0 (atN f s i) b (qax f):=by unfold putW;rw [if_neg (show ¬atE (qax f).1 s i≠0 from h1)];rfl
   rw [e,if_neg h1];rfl
theorem que {f:Fsd} {l:List Fl} {e:Int} (h:(qdk f l e).2=0):fsE f=0∧e=0∧qdk f l e=((f.1,f.2.1,l,f.2.2.2),0):=by
 unfold qdk at *
 split at h
 ·rename_i h0;exact absurd h h0
 ·rename_i h0
  split at h
  ·rename_i h1;exact absurd h h1
  ·rename_i h1
   rw [if_neg h0,if_neg h1];exact ⟨Decidable.not_not.1 h0,Decidable.not_not.1 h1,rfl⟩
theorem qac2 {f:Fsd} {l:List Fl} (h:fsE f=0):qdk f l 0=((f.1,f.2.1,l,f.2.2.2),0):=by
 unfold qdk;rw [if_neg (by rw [h];decide),if_neg (by decide)]
theorem qsn {f:Fsd} {l:List Fl} (h:okFs f) (hl:chkF l (mny f.1)=0):okFs (f.1,f.2.1,l,f.2.2.2):=
 qud h (qay h).1 rfl (fun _ _=>rfl) h.2.2.1 hl
/-! ### the example -/
section
variable {x:List UInt8}
end
def qev (f:Fsd) (s:List UInt8):List UInt8:=if qar f s≠0 then [] else (bloL f s).flatMap fun n=>nowD f.1 n.toNat
theorem qec {f:Fsd} (h:okFs f):mayF f.2.2.1 (mny f.1):=(qbi h.2.2.2.2.2).2
theorem qac3 {l m:List Ex} {b:Int} (h:extP m b) (hs:l.Sublist m):chkX l=0:=(qwh hs h).1
theorem ql3 {fs:List Fl} {g:Fl} (h:g∈fs):g.2.Sublist (qao fs):=by
 have h1:[g].Sublist fs:=List.singleton_sublist.2 h
 have:=qwi h1
 simpa [qao] using this
theorem qde {f:Fsd} (h:okFs f) {g:Fl} (hg:g∈f.2.2.1):qa0 f.2.2.1 g.1=0∧getF f.2.2.1 g.1=g.2∧bloE f g.1=0∧bloL f g.1=qal g.2∧qar f g.1=0:=by
 have hm:=qec h;have h1:isF f.2.2.1 g.1=true:=(qg1 _ _).2 ⟨g.2,hg⟩
 have h2:qb2 g.1=true:=by
  have:=hm.2.1.1 g hg
  unfold oneF at this
  simp only [Bool.and_eq_true] at this
  exact this.1.1
 have h3:=(qhp h.2.2.2.2.2 h2 h1).1;have h4:getF f.2.2.1 g.1=g.2:=qga hm.2.1.2 hg;have h5:chkX g.2=0:=qac3 hm.2.2.1 (ql3 hg)
 have h6:bloE f g.1=0:=by unfold bloE;rw [if_neg (by rw [h3];decide),h4,h5]
 have h7:bloL f g.1=qal g.2:=by unfold bloL qe3;rw [if_neg (by rw [h3];decide),h4,if_pos h5]
 refine ⟨h3,h4,h6,h7, ?_⟩;unfold qar;rw [if_neg (by rw [qdn h];decide),h6]
theorem qag1 {f:Fsd} (h:okFs f) {g:Fl} (hg:g∈f.2.2.1):g.1≠[]:=by
 have:=(qec h).2.1.1 g hg
 unfold oneF qb2 at this
 simp only [Bool.and_eq_true,decide_eq_true_eq] at this
 intro e;rw [e] at this
 simp at this
theorem qdz {f:Fsd} {s:List UInt8} (h:qar f s=0):okFs f∧∃l,(s,l)∈f.2.2.1:=by
 unfold qar at h
 by_cases h0:fsE f=0
 ·rw [if_neg (by rw [h0];decide)] at h
  have hok:=qlc h0;unfold bloE at h
  by_cases h1:qa0 f.2.2.1 s=0
  ·exact ⟨hok,(qg1 _ _).1 (qnq h1).2.2⟩
  ·rw [if_pos h1] at h;exact absurd h h1
 ·rw [if_pos h0] at h;exact absurd h h0
theorem quf {l:List Ex} {n:Int} (h:n∈qal l):∃x∈l,x.1≤n∧n<x.1+x.2:=by
 obtain ⟨x,hx,hn⟩:=List.mem_flatMap.1 h;refine ⟨x,hx, ?_⟩;unfold blkX at hn;obtain ⟨i,hi,rfl⟩:=List.mem_map.1 hn
 have:=List.mem_range.1 hi
 omega
theorem qaks {f:Fsd} (h:okFs f) {g:Fl} (hg:g∈f.2.2.1):∀n∈qal g.2,34≤n∧n<mny f.1:=by
 intro n hn;obtain ⟨x,hx,h1,h2⟩:=quf hn
 have:=qdq (qec h).2.2.1 x ((ql3 hg).subset hx)
 omega
theorem qdf {f:Fsd} {s:List UInt8} (h:qar f s=0):∀n∈bloL f s,34≤n∧n<mny f.1:=by
 obtain ⟨h0,l,hl⟩:=qdz h;rw [(qde h0 hl).2.2.2.1];exact qaks h0 hl
theorem qqc {f:Fsd} {s:List UInt8} (h:qar f s=0):okFs f∧bloE f s=0∧qh0 f s=(bloL f s).length:=by
 obtain ⟨h0,l,hl⟩:=qdz h;refine ⟨h0,(qde h0 hl).2.2.1, ?_⟩;unfold qh0;rw [if_neg (by rw [qdn h0];decide)]
theorem qso {f:Fsd} {s:List UInt8} (h:qar f s=0) {i:Nat} (hi:i<(bloL f s).length):atE f s i=0∧atN f s i=(bloL f s)[i]∧getE f s i=0∧getL f s i=nowD f.1 ((bloL f s)[i]).toNat:=by
 obtain ⟨h0,h1,_⟩:=qqc h;have hr:=qdf h _ (List.getElem_mem hi)
 have a1:atE f s i=0:=by unfold atE;rw [if_neg (by rw [h1];decide),if_neg (by omega)]
 have a2:atN f s i=(bloL f s)[i]:=by unfold atN;rw [if_neg (by rw [a1];decide)];simp [List.getD,List.getElem?_eq_getElem hi]
 have a3:qfe f.1 ((bloL f s)[i])=(nowD f.1 ((bloL f s)[i]).toNat,0):=by
  unfold qfe;rw [if_neg (by rw [qn7 (qay h0).1];decide),if_neg (by omega)]
 refine ⟨a1,a2, ?_, ?_⟩
 ·unfold getE;rw [if_neg (by rw [qdn h0];decide),if_neg (by rw [a1];decide),a2,a3]
 ·unfold getL;rw [if_neg (by rw [qdn h0];decide),if_neg (by rw [a1];decide),a2,a3]
theorem qug {d:Dk} {n:Nat} (h:okD d=true) (hn:n<mny d):(nowD d n).length=128:=by
 unfold nowD;have h1:=(qb3 d).1 h
 cases e:qcn (n:Int) d.2.1 with
 | some b=>
  have:∀(l:List Pu),(∀p∈l,putE (mny d) p=0)→∀b,qcn (n:Int) l=some b→b.length=128:=by
   intro l
   induction l with
   | nil=>intro _ b hb;cases hb
   | cons p l ih=>
    intro hp b hb;unfold qcn at hb
    cases e2:qcn (n:Int) l with
    | some b'=>rw [e2] at hb;cases hb;exact ih (fun q hq=>hp q (List.mem_cons_of_mem _ hq)) _ e2
    | none=>
     rw [e2] at hb
     simp only at hb
     split at hb
     ·cases hb;exact (qd3 (hp p (List.mem_cons_self ..))).2.2
     ·cases hb
  exact this _ h1.2.2.2.2.2.1 b e
 | none=>
  show (blk d.1 n).length=128
  unfold blk;rw [List.length_take,List.length_drop,qub h];omega
theorem ql4 {f g:Fsd} {s:List UInt8} (h1:qar f s=0) (h2:qar g s=0) (hl:bloL g s=bloL f s) (hb:∀n∈bloL f s,nowD g.1 n.toNat=nowD f.1 n.toNat):qev f s=qev g s:=by
 unfold qev;rw [if_neg (by rw [h1];decide),if_neg (by rw [h2];decide),hl]
 have:∀(l:List Int),(∀n∈l,nowD g.1 n.toNat=nowD f.1 n.toNat)→(l.flatMap fun n=>nowD f.1 n.toNat)=l.flatMap fun n=>nowD g.1 n.toNat:=by
  intro l
  induction l with
  | nil=>intro _;rfl
  | cons a l ih=>intro h;rw [List.flatMap_cons,List.flatMap_cons,h a (List.mem_cons_self ..),ih (fun n hn=>h n (List.mem_cons_of_mem _ hn))]
 exact this _ hb
theorem qiz {f g:Fsd} (h:g.2.2.1=f.2.2.1) (s:List UInt8):bloL g s=bloL f s∧bloE g s=bloE f s:=by
 unfold bloL bloE;rw [h];exact ⟨rfl,rfl⟩
theorem qkd {f g:Fsd} (h:g.2.2.1=f.2.2.1) (hf:okFs f) (hg:okFs g) (s:List UInt8):qar g s=qar f s:=by
 unfold qar;rw [qdn hf,qdn hg,(qiz h s).2]
theorem OwFs.bx {w:World} {base:Nat} {v:Value} {f:Fsd} (h:OwFs w base v f):∃x:FsV,v=x.val∧RdX w x f∧OwFs w base x.val f:=by
 obtain ⟨x,e,hx⟩:=h.form;exact ⟨x,e,hx,e ▸ h⟩
theorem FsV.ext_val {x y:FsV} (h:x.val=y.val):x=y:=by
 obtain ⟨a1,n1,c1,a2,n2,c2,a3,n3,c3,g,a4,n4,c4,a5,n5,c5⟩:=x;obtain ⟨b1,m1,d1,b2,m2,d2,b3,m3,d3,g',b4,m4,d4,b5,m5,d5⟩:=y
 injection h with h
 have e0:=congrArg (fun z:Array Value=>z[0]!) h;have e1:=congrArg (fun z:Array Value=>z[1]!) h;have e2:=congrArg (fun z:Array Value=>z[2]!) h;have e3:=congrArg (fun z:Array Value=>z[3]!) h;have e4:=congrArg (fun z:Array Value=>z[4]!) h;have e5:=congrArg (fun z:Array Value=>z[5]!) h
 simp at e0 e1 e2 e3 e4 e5
 obtain ⟨rfl,rfl,rfl⟩:=e0;obtain ⟨rfl,rfl,rfl⟩:=e1;obtain ⟨rfl,rfl,rfl⟩:=e2
 have e3:g=g':=by omega
 subst e3;obtain ⟨rfl,rfl,rfl⟩:=e4;obtain ⟨rfl,rfl,rfl⟩:=e5;rfl
theorem FsB.of {w:World} {q:Nat} {x:FsV} (h:FsAt w q x):FsB w q:=⟨_,_,_,_,_,_,h⟩
theorem OwFs.assign {w w0:World} {base q:Nat} {y:FsV} {f:Fsd} (h:OwFs w base y.val f) (hq:FsB w q) (hb:Below w0.heap.size w0 w) (hq0:w0.heap.size≤q):
  OwFs (set6 w q y) base y.val f∧Below w0.heap.size w0 (set6 w q y)∧FsAt (set6 w q y) q y∧RdX (set6 w q y) y f∧w.grownBy (set6 w q y) (some q):=by
 obtain ⟨h1,h2,h3⟩:=h.stored hq hb hq0;refine ⟨h1,h2,h3, ?_,(hq.put y).2⟩;obtain ⟨x',ex',hx'⟩:=h1.form;have e:x'=y:=FsV.ext_val ex'.symm;subst e;exact hx'
theorem qxu {d:Dk} (h:okD d=true):∀l:List Int,(∀n∈l,34≤n∧n<mny d)→(l.flatMap fun n=>nowD d n.toNat).length=128*l.length
 | [],_=>rfl
 | n::l,hl=>by
  have h1:=hl n (List.mem_cons_self ..);rw [List.flatMap_cons,List.length_append,qxu h l (fun m hm=>hl m (List.mem_cons_of_mem _ hm)),qug h (by omega),List.length_cons];omega
def Like (f g:Fsd) (but:List UInt8):Prop:=∀x∈f.2.2.1,x.1≠but→qar f x.1=0∧qar g x.1=0∧qev f x.1=qev g x.1
theorem qzn (x:Ex) (k:Nat):(blkX x k).Nodup:=by
 unfold blkX;rw [List.nodup_iff_pairwise_ne,List.pairwise_map];exact List.Pairwise.imp (fun h=>by omega) List.nodup_range
theorem qqd {l:List Ex} (h:apX l=true) (hp:∀x∈l,1≤x.2):(qal l).Nodup:=by
 have h:=(qaaq l).1 h;unfold qal;rw [List.nodup_iff_pairwise_ne,List.pairwise_flatMap];refine ⟨fun x _=>qzn x _, ?_⟩
 refine List.Pairwise.imp ?_ h
 intro x y hm a ha b hb;unfold blkX at ha hb;obtain ⟨i,hi,rfl⟩:=List.mem_map.1 ha;obtain ⟨j,hj,rfl⟩:=List.mem_map.1 hb
 have:=List.mem_range.1 hi
 have:=List.mem_range.1 hj
 unfold qjt at hm
 simp only [Bool.and_eq_false_iff,decide_eq_false_iff_not] at hm
 omega
theorem quh (fs:List Fl):qal (qao fs)=fs.flatMap fun g=>qal g.2:=by
 unfold qal qao;rw [List.flatMap_assoc]
theorem qsp {f:Fsd} (h:okFs f):(f.2.2.1.flatMap fun g=>qal g.2).Nodup:=by
 rw [←quh];have hm:=qec h
 have:=extP_parts.1 hm.2.2.1
 exact qqd this.1 (fun x hx=>(qdq hm.2.2.1 x hx).2.1)
theorem qoq {f:Fsd} (h:okFs f) {g:Fl} (hg:g∈f.2.2.1):(qal g.2).Nodup:=by
 have:=qsp h
 rw [List.nodup_iff_pairwise_ne,List.pairwise_flatMap] at this;exact this.1 g hg
theorem qui {f:Fsd} (h:okFs f) {g k:Fl} (hg:g∈f.2.2.1) (hk:k∈f.2.2.1) (hne:g.1≠k.1) {n:Int} (h1:n∈qal g.2):n∉qal k.2:=by
 have hp:=qsp h;rw [List.nodup_iff_pairwise_ne,List.pairwise_flatMap] at hp;intro h2
 have hs:∀a∈f.2.2.1,∀b∈f.2.2.1,a.1≠b.1→∀x∈qal a.2,∀y∈qal b.2,x≠y:=by
  have:=hp.2
  intro a ha b hb hab;obtain ⟨i,hi,rfl⟩:=List.mem_iff_getElem.1 ha;obtain ⟨j,hj,rfl⟩:=List.mem_iff_getElem.1 hb;have hpw:=List.pairwise_iff_getElem.1 this
  rcases Nat.lt_trichotomy i j with hij | hij | hij
  ·exact hpw i j hi hj hij
  ·subst hij;exact absurd rfl hab
  ·intro x hx y hy e
   exact hpw j i hj hi hij y hy x hx e.symm
 exact hs g hg k hk hne n h1 n h2 rfl
theorem qac4 {f:Fsd} {s:List UInt8} {i:Int} {b:List UInt8} (h:(qcz f s i b).2=0):
  okFs f∧∃d',qcz f s i b=((d',f.2),0)∧atE f s i=0∧oneD f.1 (false,atN f s i,b)=some d'∧actE (mny f.1) (false,atN f s i,b)=0:=by
 rw [qac1] at h ⊢
 by_cases h0:fsE f=0
 ·have hok:=qlc h0
  rw [if_neg (by rw [h0];decide)] at h ⊢
  by_cases h1:atE f s i=0
  ·rw [if_neg (by rw [h1];decide)] at h ⊢
   by_cases h2:(doD f.1 [(false,atN f s i,b)] 1).2=0
   ·obtain ⟨a1,a2,a3,a4,x,a5,a6⟩:=doD_ok h2
    have a7:=a2 (false,atN f s i,b) (by simp);refine ⟨hok,x, ?_,h1, ?_,a7⟩
    ·rw [if_neg (by rw [h2];decide),a6]
    ·have:qa8 f.1 [(false,atN f s i,b)]=some x:=a5
     rw [qeu] at this;exact this
   ·rw [if_pos h2] at h;exact absurd h h2
  ·rw [if_pos h1] at h;exact absurd h h1
 ·rw [if_pos h0] at h;exact absurd h h0
theorem qac5 {f:Fsd} {s:List UInt8} {i:Int} (h:okFs f) (ha:atE f s i=0):qar f s=0∧∃j:Nat,i=j∧∃hj:j<(bloL f s).length,atN f s i=(bloL f s)[j]:=by
 have ha2:=ha;unfold atE at ha
 by_cases h1:bloE f s=0
 ·have hs:qar f s=0:=by unfold qar;rw [if_neg (by rw [qdn h];decide),h1]
  rw [if_neg (by rw [h1];decide)] at ha
  by_cases h2:i<0∨((bloL f s).length:Int)≤i
  ·rw [if_pos h2] at ha;cases ha
  ·refine ⟨hs,i.toNat,by omega,by omega, ?_⟩
   have e:i=(i.toNat:Int):=by omega
   have:=(qso hs (show i.toNat<(bloL f s).length by omega)).2.1
   rw [←e] at this;exact this
 ·rw [if_pos h1] at ha;exact absurd ha h1
theorem qakt {f:Fsd} {s:List UInt8} {i:Int} {b:List UInt8} (h:(qcz f s i b).2≠0):(qcz f s i b).1=fz:=by
 rw [qac1] at h ⊢
 by_cases h0:fsE f≠0
 ·rw [if_pos h0]
 ·rw [if_neg h0] at h ⊢
  by_cases h1:atE f s i≠0
  ·rw [if_pos h1]
  ·rw [if_neg h1] at h ⊢
   by_cases h2:(doD f.1 [(false,atN f s i,b)] 1).2≠0
   ·rw [if_pos h2]
   ·rw [if_neg h2] at h;exact absurd rfl h
theorem qxv (F G:Int→List UInt8) (b:List UInt8):∀(l:List Int) (j:Nat) (hj:j<l.length),l.Nodup→(∀n∈l,(F n).length=128)→(∀n,G n=if n=l[j] then b else F n)→
  l.flatMap G=(l.flatMap F).take (128*j)++(b++(l.flatMap F).drop (128*j+128))
 | n::l,0,hj,hn,hF,hG=>by
  have h1:G n=b:=by rw [hG];simp
  have h2:l.flatMap G=l.flatMap F:=by
   have hx:∀m∈l,G m=F m:=by
    intro m hm;rw [hG,if_neg];intro e;have e:m=n:=e;subst e;exact (List.nodup_cons.1 hn).1 hm
   clear hG hF hn hj h1
   induction l with
   | nil=>rfl
   | cons a l ih=>rw [List.flatMap_cons,List.flatMap_cons,hx a (List.mem_cons_self ..),ih (fun m hm=>hx m (List.mem_cons_of_mem _ hm))]
  rw [List.flatMap_cons,h1,h2,List.flatMap_cons];have hl:=hF n (List.mem_cons_self ..);rw [Nat.mul_zero,List.take_zero,Nat.zero_add,List.nil_append,←hl,List.drop_left]
 | n::l,j+1,hj,hn,hF,hG=>by
  have hj':j<l.length:=by simpa using hj
  have ih:=qxv F G b l j hj' (List.nodup_cons.1 hn).2 (fun m hm=>hF m (List.mem_cons_of_mem _ hm)) (fun m=>by rw [hG];rfl)
  have h1:G n=F n:=by
   rw [hG,if_neg];intro e;have e:n=l[j]:=e;exact (List.nodup_cons.1 hn).1 (e ▸ List.getElem_mem hj')
  have hl:=hF n (List.mem_cons_self ..);rw [List.flatMap_cons,h1,ih,List.flatMap_cons]
  have e1:128*(j+1)=(F n).length+128*j:=by omega
  have e2:128*(j+1)+128=(F n).length+(128*j+128):=by omega
  rw [e2,e1,List.take_length_add_append,List.drop_length_add_append,List.append_assoc]
theorem qqe {f:Fsd} {s:List UInt8} {i:Int} {b:List UInt8} (h:(qcz f s i b).2=0):
  okFs (qcz f s i b).1∧(qcz f s i b).1.2=f.2∧b.length=128∧qar f s=0∧qar (qcz f s i b).1 s=0∧(∃j:Nat,i=j∧128*j+128≤(qev f s).length∧qev (qcz f s i b).1 s=(qev f s).take (128*j)++(b++(qev f s).drop (128*j+128)))∧getE (qcz f s i b).1 s i=0∧getL (qcz f s i b).1 s i=b∧Like f (qcz f s i b).1 s:=by
 obtain ⟨hok,d',e,ha,ho,hact⟩:=qac4 h;rw [e];obtain ⟨hs,j,rfl,hj,hN⟩:=qac5 hok ha;obtain ⟨hd,hm34,_,_⟩:=qay hok;obtain ⟨o1,o2,_⟩:=qdc hd hact ho;have hr:=qdf hs _ (List.getElem_mem hj)
 have hb:b.length=128:=by
  have:putE (mny f.1) (atN f s j,b)=0:=by unfold actE at hact;simpa using hact
  exact (qd3 this).2.2
 have hd1:d'.1=f.1.1∧d'.2.1=f.1.2.1++[(atN f s j,b)]:=by
  unfold oneD at ho
  split at ho
  ·cases ho
  ·simp only [Bool.false_eq_true,if_false] at ho;cases ho;exact ⟨rfl,rfl⟩
 have hokF:okFs (d',f.2.1,f.2.2.1,f.2.2.2):=qud hok o1 (by rw [hd1.1]) (fun k _=>by rw [hd1.1]) (by
  intro p hp;rw [hd1.2] at hp
  rcases List.mem_append.1 hp with hp | hp
  ·exact hok.2.2.1 p hp
  ·rw [List.mem_singleton.1 hp];show 34≤atN f s j;rw [hN];exact hr.1) hok.2.2.2.2.2
 have hokF:okFs (d',f.2):=hokF
 have hsF:qar (d',f.2) s=0:=by rw [qkd (f:=f) (g:=(d',f.2)) rfl hok hokF];exact hs
 have hbl:bloL (d',f.2) s=bloL f s:=(qiz (f:=f) (g:=(d',f.2)) rfl s).1
 have hnow:∀k:Nat,k<mny f.1→nowD d' k=if (k:Int)=atN f s j then b else nowD f.1 k:=by
  intro k hk
  have:=qe1 hd hact ho hk
  rw [qdy o1 (by omega),qdy hd hk] at this;exact this
 obtain ⟨h0,l,hl⟩:=qdz hs;have hfi:=(qde hok hl).2.2.2.1
 have hnd:(bloL f s).Nodup:=by rw [hfi];exact qoq hok hl
 refine ⟨hokF,rfl,hb,hs,hsF,⟨j,rfl, ?_, ?_⟩, ?_, ?_, ?_⟩
 ·unfold qev
  rw [if_neg (by rw [hs];decide),qxu hd _ (qdf hs)];omega
 ·unfold qev
  rw [if_neg (by rw [hsF];decide),if_neg (by rw [hs];decide),hbl]
  have hG:∀n∈bloL f s,nowD d' n.toNat=if n=(bloL f s)[j] then b else nowD f.1 n.toNat:=by
   intro n hn
   have:=qdf hs n hn
   rw [hnow _ (by omega),hN]
   have e:((n.toNat:Nat):Int)=n:=by omega
   rw [e]
  have hc:(bloL f s).flatMap (fun n=>nowD d' n.toNat)=(bloL f s).flatMap (fun n=>if n=(bloL f s)[j] then b else nowD f.1 n.toNat):=by
   have:∀(l:List Int),(∀n∈l,n∈bloL f s)→l.flatMap (fun n=>nowD d' n.toNat)=l.flatMap (fun n=>if n=(bloL f s)[j] then b else nowD f.1 n.toNat):=by
    intro l
    induction l with
    | nil=>intro _;rfl
    | cons a l ih=>intro hx;rw [List.flatMap_cons,List.flatMap_cons,hG a (hx a (List.mem_cons_self ..)),ih (fun m hm=>hx m (List.mem_cons_of_mem _ hm))]
   exact this _ (fun n hn=>hn)
  show (bloL f s).flatMap (fun n=>nowD d' n.toNat)=_
  rw [hc];exact qxv (fun n=>nowD f.1 n.toNat) (fun n=>if n=(bloL f s)[j] then b else nowD f.1 n.toNat) b (bloL f s) j hj hnd (fun n hn=>by have:=qdf hs n hn;exact qug hd (by omega)) (fun n=>rfl)
 ·exact (qso hsF (i:=j) (by rw [hbl];exact hj)).2.2.1
 ·rw [(qso hsF (i:=j) (by rw [hbl];exact hj)).2.2.2]
  have e:(bloL (d',f.2) s)[j]'(by rw [hbl];exact hj)=(bloL f s)[j]:=by simp only [hbl]
  rw [e]
  show nowD d' _=b
  rw [hnow _ (by omega),if_pos (by rw [hN];omega)]
 ·intro g hg hne
  have hsg:=(qde hok hg).2.2.2.2
  have hsg':qar (d',f.2) g.1=0:=by rw [qkd (f:=f) (g:=(d',f.2)) rfl hok hokF];exact hsg
  refine ⟨hsg,hsg',ql4 hsg hsg' (qiz (f:=f) (g:=(d',f.2)) rfl g.1).1 ?_⟩;intro n hn;have hrn:=qdf hsg n hn
  show nowD d' n.toNat=_
  rw [hnow _ (by omega),if_neg];intro e;rw [hN] at e
  have e:n=(bloL f s)[j]:=by omega
  rw [(qde hok hg).2.2.2.1] at hn
  have hin:n∈qal l:=by
   have h9:n∈bloL f s:=e ▸ List.getElem_mem hj;have hfi':bloL f s=qal l:=hfi;rw [hfi'] at h9;exact h9
  exact qui hok hg hl hne hn hin
end Go.Proofs.YtmeaiocohalphaaGreatDoor

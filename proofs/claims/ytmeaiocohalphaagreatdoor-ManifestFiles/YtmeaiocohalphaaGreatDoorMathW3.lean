/-
  Plain mathematics of a log's file: a new log; a log that is committed, and opened again.
-/
import Derived.Test.YtmeaiocohalphaaGreatDoorFsTop4
import Derived.Test.YtmeaiocohalphaaGreatDoorRmKit
import Derived.Test.YtmeaiocohalphaaGreatDoorFsTop2
namespace Go.Proofs.YtmeaiocohalphaaGreatDoor
open Go.RowKit
set_option linter.unusedVariables false
set_option linter.unusedSimpArgs false
theorem blockD_now {d : Dk} {n : Nat} (h : okD d = true) (hn : n < mny d) : blockD d n = nowD d n := blockD_ok h hn
theorem okD_len {d : Dk} (h : okD d = true) : d.1.length = 128 * mny d := (Fine.of_ok h).1.1
theorem blk_get {data : List UInt8} {n j : Nat} (h : 128 * n + j < data.length) (hj : j < 128) : (blk data n)[j]? = data[128 * n + j]? := by
 unfold blk
 rw [List.getElem?_take]
 rw [if_pos hj, List.getElem?_drop]
theorem genB_same {x d : Dk} {g sz : Nat} (hx : x.1.length = d.1.length) (hlen : d.1.length = 128 * mny d) (hm : 34 < mny d) (hs : sz ≤ 2048) (h : ∀ k, k < 34 → blk x.1 k = blk d.1 k) : genB x g sz = genB d g sz := by
 unfold genB
 apply List.ext_getElem?
 intro i
 rw [List.getElem?_take, List.getElem?_take]
 by_cases hi : i < sz
 ·rw [if_pos hi, if_pos hi, List.getElem?_drop, List.getElem?_drop]
  have e1 : 128 * (2 + g % 2 * 16) + i = 128 * (2 + g % 2 * 16 + i / 128) + i % 128 := by omega
  rw [e1, ← blk_get (by omega) (by omega), ← blk_get (by omega) (by omega), h _ (by omega)]
 ·rw [if_neg hi, if_neg hi]
theorem lastS_same {x d : Dk} {n : Nat} (h : blk x.1 n = blk d.1 n) : lastS x n = lastS d n := by unfold lastS; rw [h]
theorem ok_same {f : Fsd} {d : Dk} {D : List Fl} (h : okFs f) (hok : okD d = true) (hlen : d.1.length = f.1.1.length) (hb : ∀ k, k < 34 → blk d.1 k = blk f.1.1 k) (hw : ∀ p ∈ d.2.1, 34 ≤ p.1) (hD : chkF D (mny f.1) = 0) : okFs (d, f.2.1, D, f.2.2.2) := by
 obtain ⟨h1, h2, h3, h4⟩ := okFs_disk h
 obtain ⟨s1, s2⟩ := okFs_size h
 have hm : mny d = mny f.1 := by unfold mny; rw [hlen]
 have hL : latestS d = latestS f.1 := by
  have e1 : bestS d = bestS f.1 := by unfold bestS; rw [lastS_same (hb 0 (by omega)), lastS_same (hb 1 (by omega))]
  unfold latestS
  rw [e1, hm, chk_ok hok, chk_ok h1]
 have hG : genB d f.2.1 (latestS f.1).2.1 = genB f.1 f.2.1 (latestS f.1).2.1 := genB_same hlen (okD_len h1) h2 s1 hb
 obtain ⟨c1, c2, c3, c4, c5, c6⟩ := h
 refine ⟨by show (latestS d).2.2 = 0; rw [hL]; exact c1, by show (latestS d).1 = _; rw [hL]; exact c2, hw, ?_, ?_, ?_⟩
 ·show readE (genB d f.2.1 (latestS d).2.1) (mny d) = 0
  rw [hL, hG, hm]; exact c4
 ·show readL (genB d f.2.1 (latestS d).2.1) (mny d) = f.2.2.2
  rw [hL, hG, hm]; exact c5
 ·show chkF D (mny d) = 0
  rw [hm]; exact hD
theorem kept_chk {f : Fsd} (h : okFs f) : chkF f.2.2.2 (mny f.1) = 0 := by
 rw [← h.2.2.2.2.1]
 exact (read_only h.2.2.2.1).1
theorem then_begin {s : Stp} {f : Fsd} : endW (thenW s (beginW f)) = if fsE f ≠ 0 then (fz, fsE f) else if (s (beginW f)).2 ≠ 0 then (fz, (s (beginW f)).2) else ((s (beginW f)).1.1, 0) := by
 by_cases h : fsE f = 0
 ·rw [thenW_val (show (beginW f).2.1 = 0 from h), if_neg (by rw [h]; decide)]
  rfl
 ·rw [thenW_err (show (beginW f).2.1 ≠ 0 from h), if_pos h]
  unfold endW
  rw [if_pos (show (beginW f).2.1 ≠ 0 from h)]
  rfl
theorem put_is (f : Fsd) (s : List UInt8) (i : Int) (b : List UInt8) : putFs f s i b = if fsE f ≠ 0 then (fz, fsE f) else if atE f s i ≠ 0 then (fz, atE f s i) else if (doD f.1 [(false, atN f s i, b)] 1).2 ≠ 0 then (fz, (doD f.1 [(false, atN f s i, b)] 1).2) else (((doD f.1 [(false, atN f s i, b)] 1).1, f.2), 0) := by
 unfold putFs
 rw [then_begin]
 by_cases h : fsE f ≠ 0
 ·rw [if_pos h, if_pos h]
 ·rw [if_neg h, if_neg h]
  by_cases h1 : atE f s i ≠ 0
  ·have e : putW s i b (beginW f) = (beginW f, atE f s i) := by unfold putW; rw [if_pos (show atE (beginW f).1 s i ≠ 0 from h1)]; rfl
   rw [e, if_pos h1, if_pos h1]
  ·have e : putW s i b (beginW f) = writeW (atN f s i) b (beginW f) := by unfold putW; rw [if_neg (show ¬ atE (beginW f).1 s i ≠ 0 from h1)]; rfl
   rw [e, if_neg h1]
   rfl
theorem turn_ok {f : Fsd} {l : List Fl} {e : Int} (h : (turnFs f l e).2 = 0) : fsE f = 0 ∧ e = 0 ∧ turnFs f l e = ((f.1, f.2.1, l, f.2.2.2), 0) := by
 unfold turnFs at *
 split at h
 ·rename_i h0; exact absurd h h0
 ·rename_i h0
  split at h
  ·rename_i h1; exact absurd h h1
  ·rename_i h1
   rw [if_neg h0, if_neg h1]
   exact ⟨Decidable.not_not.1 h0, Decidable.not_not.1 h1, rfl⟩
theorem turned_ok {f : Fsd} {l : List Fl} (h : okFs f) (hl : chkF l (mny f.1) = 0) : okFs (f.1, f.2.1, l, f.2.2.2) :=
 ok_same h (okFs_disk h).1 rfl (fun _ _ => rfl) h.2.2.1 hl
/-! ### the example -/
section
variable {x : List UInt8}
end
def contF (f : Fsd) (s : List UInt8) : List UInt8 := if sizeE f s ≠ 0 then [] else (bloL f s).flatMap fun n => nowD f.1 n.toNat
theorem okFs_may {f : Fsd} (h : okFs f) : mayF f.2.2.1 (mny f.1) := (chkF_may h.2.2.2.2.2).2
theorem ext_chk {l m : List Ex} {b : Int} (h : extP m b) (hs : l.Sublist m) : chkX l = 0 := (extP_sub hs h).1
theorem mem_sub {fs : List Fl} {g : Fl} (h : g ∈ fs) : g.2.Sublist (usedF fs) := by
 have h1 : [g].Sublist fs := List.singleton_sublist.2 h
 have := used_sub h1
 simpa [usedF] using this
theorem file_in {f : Fsd} (h : okFs f) {g : Fl} (hg : g ∈ f.2.2.1) : thereE f.2.2.1 g.1 = 0 ∧ getF f.2.2.1 g.1 = g.2 ∧ bloE f g.1 = 0 ∧ bloL f g.1 = blocksX g.2 ∧ sizeE f g.1 = 0 := by
 have hm := okFs_may h
 have h1 : isF f.2.2.1 g.1 = true := (isF_iff _ _).2 ⟨g.2, hg⟩
 have h2 : nameF g.1 = true := by
  have := hm.2.1.1 g hg
  unfold oneF at this
  simp only [Bool.and_eq_true] at this
  exact this.1.1
 have h3 := (thereE_in h.2.2.2.2.2 h2 h1).1
 have h4 : getF f.2.2.1 g.1 = g.2 := getF_mem hm.2.1.2 hg
 have h5 : chkX g.2 = 0 := ext_chk hm.2.2.1 (mem_sub hg)
 have h6 : bloE f g.1 = 0 := by unfold bloE; rw [if_neg (by rw [h3]; decide), h4, h5]
 have h7 : bloL f g.1 = blocksX g.2 := by unfold bloL blocksR; rw [if_neg (by rw [h3]; decide), h4, if_pos h5]
 refine ⟨h3, h4, h6, h7, ?_⟩
 unfold sizeE
 rw [if_neg (by rw [fsE_of h]; decide), h6]
theorem size_there {f : Fsd} {s : List UInt8} (h : sizeE f s = 0) : okFs f ∧ ∃ l, (s, l) ∈ f.2.2.1 := by
 unfold sizeE at h
 by_cases h0 : fsE f = 0
 ·rw [if_neg (by rw [h0]; decide)] at h
  have hok := fsE_ok h0
  unfold bloE at h
  by_cases h1 : thereE f.2.2.1 s = 0
  ·exact ⟨hok, (isF_iff _ _).1 (thereE_okF h1).2.2⟩
  ·rw [if_pos h1] at h; exact absurd h h1
 ·rw [if_pos h0] at h; exact absurd h h0
theorem blocksX_mem {l : List Ex} {n : Int} (h : n ∈ blocksX l) : ∃ x ∈ l, x.1 ≤ n ∧ n < x.1 + x.2 := by
 obtain ⟨x, hx, hn⟩ := List.mem_flatMap.1 h
 refine ⟨x, hx, ?_⟩
 unfold blkX at hn
 obtain ⟨i, hi, rfl⟩ := List.mem_map.1 hn
 have := List.mem_range.1 hi
 omega
theorem blo_rng {f : Fsd} (h : okFs f) {g : Fl} (hg : g ∈ f.2.2.1) : ∀ n ∈ blocksX g.2, 34 ≤ n ∧ n < mny f.1 := by
 intro n hn
 obtain ⟨x, hx, h1, h2⟩ := blocksX_mem hn
 have := extP_all (okFs_may h).2.2.1 x ((mem_sub hg).subset hx)
 omega
theorem blo_rng2 {f : Fsd} {s : List UInt8} (h : sizeE f s = 0) : ∀ n ∈ bloL f s, 34 ≤ n ∧ n < mny f.1 := by
 obtain ⟨h0, l, hl⟩ := size_there h
 rw [(file_in h0 hl).2.2.2.1]
 exact blo_rng h0 hl
theorem size_ok {f : Fsd} {s : List UInt8} (h : sizeE f s = 0) : okFs f ∧ bloE f s = 0 ∧ sizeN f s = (bloL f s).length := by
 obtain ⟨h0, l, hl⟩ := size_there h
 refine ⟨h0, (file_in h0 hl).2.2.1, ?_⟩
 unfold sizeN
 rw [if_neg (by rw [fsE_of h0]; decide)]
theorem get_ok {f : Fsd} {s : List UInt8} (h : sizeE f s = 0) {i : Nat} (hi : i < (bloL f s).length) : atE f s i = 0 ∧ atN f s i = (bloL f s)[i] ∧ getE f s i = 0 ∧ getL f s i = nowD f.1 ((bloL f s)[i]).toNat := by
 obtain ⟨h0, h1, _⟩ := size_ok h
 have hr := blo_rng2 h _ (List.getElem_mem hi)
 have a1 : atE f s i = 0 := by unfold atE; rw [if_neg (by rw [h1]; decide), if_neg (by omega)]
 have a2 : atN f s i = (bloL f s)[i] := by unfold atN; rw [if_neg (by rw [a1]; decide)]; simp [List.getD, List.getElem?_eq_getElem hi]
 have a3 : readD f.1 ((bloL f s)[i]) = (nowD f.1 ((bloL f s)[i]).toNat, 0) := by
  unfold readD
  rw [if_neg (by rw [chk_ok (okFs_disk h0).1]; decide), if_neg (by omega)]
 refine ⟨a1, a2, ?_, ?_⟩
 ·unfold getE; rw [if_neg (by rw [fsE_of h0]; decide), if_neg (by rw [a1]; decide), a2, a3]
 ·unfold getL; rw [if_neg (by rw [fsE_of h0]; decide), if_neg (by rw [a1]; decide), a2, a3]
theorem now_len {d : Dk} {n : Nat} (h : okD d = true) (hn : n < mny d) : (nowD d n).length = 128 := by
 unfold nowD
 have h1 := (okD_iff d).1 h
 cases e : lastP (n : Int) d.2.1 with
 | some b =>
  have : ∀ (l : List Pu), (∀ p ∈ l, putE (mny d) p = 0) → ∀ b, lastP (n : Int) l = some b → b.length = 128 := by
   intro l
   induction l with
   | nil => intro _ b hb; cases hb
   | cons p l ih =>
    intro hp b hb
    unfold lastP at hb
    cases e2 : lastP (n : Int) l with
    | some b' => rw [e2] at hb; cases hb; exact ih (fun q hq => hp q (List.mem_cons_of_mem _ hq)) _ e2
    | none =>
     rw [e2] at hb
     simp only at hb
     split at hb
     ·cases hb; exact (putE_ok (hp p (List.mem_cons_self ..))).2.2
     ·cases hb
  exact this _ h1.2.2.2.2.2.1 b e
 | none =>
  show (blk d.1 n).length = 128
  unfold blk
  rw [List.length_take, List.length_drop, okD_len h]
  omega
theorem cont_same {f g : Fsd} {s : List UInt8} (h1 : sizeE f s = 0) (h2 : sizeE g s = 0) (hl : bloL g s = bloL f s) (hb : ∀ n ∈ bloL f s, nowD g.1 n.toNat = nowD f.1 n.toNat) : contF f s = contF g s := by
 unfold contF
 rw [if_neg (by rw [h1]; decide), if_neg (by rw [h2]; decide), hl]
 have : ∀ (l : List Int), (∀ n ∈ l, nowD g.1 n.toNat = nowD f.1 n.toNat) → (l.flatMap fun n => nowD f.1 n.toNat) = l.flatMap fun n => nowD g.1 n.toNat := by
  intro l
  induction l with
  | nil => intro _; rfl
  | cons a l ih => intro h; rw [List.flatMap_cons, List.flatMap_cons, h a (List.mem_cons_self ..), ih (fun n hn => h n (List.mem_cons_of_mem _ hn))]
 exact this _ hb
theorem blo_dir {f g : Fsd} (h : g.2.2.1 = f.2.2.1) (s : List UInt8) : bloL g s = bloL f s ∧ bloE g s = bloE f s := by
 unfold bloL bloE
 rw [h]
 exact ⟨rfl, rfl⟩
theorem size_dir {f g : Fsd} (h : g.2.2.1 = f.2.2.1) (hf : okFs f) (hg : okFs g) (s : List UInt8) : sizeE g s = sizeE f s := by
 unfold sizeE
 rw [fsE_of hf, fsE_of hg, (blo_dir h s).2]
theorem OwFs.bx {w : World} {base : Nat} {v : Value} {f : Fsd} (h : OwFs w base v f) : ∃ x : FsV, v = x.val ∧ RdX w x f ∧ OwFs w base x.val f := by
 obtain ⟨x, e, hx⟩ := h.form
 exact ⟨x, e, hx, e ▸ h⟩
theorem FsV.ext_val {x y : FsV} (h : x.val = y.val) : x = y := by
 obtain ⟨a1, n1, c1, a2, n2, c2, a3, n3, c3, g, a4, n4, c4, a5, n5, c5⟩ := x
 obtain ⟨b1, m1, d1, b2, m2, d2, b3, m3, d3, g', b4, m4, d4, b5, m5, d5⟩ := y
 injection h with h
 have e0 := congrArg (fun z : Array Value => z[0]!) h
 have e1 := congrArg (fun z : Array Value => z[1]!) h
 have e2 := congrArg (fun z : Array Value => z[2]!) h
 have e3 := congrArg (fun z : Array Value => z[3]!) h
 have e4 := congrArg (fun z : Array Value => z[4]!) h
 have e5 := congrArg (fun z : Array Value => z[5]!) h
 simp at e0 e1 e2 e3 e4 e5
 obtain ⟨rfl, rfl, rfl⟩ := e0
 obtain ⟨rfl, rfl, rfl⟩ := e1
 obtain ⟨rfl, rfl, rfl⟩ := e2
 have e3 : g = g' := by omega
 subst e3
 obtain ⟨rfl, rfl, rfl⟩ := e4
 obtain ⟨rfl, rfl, rfl⟩ := e5
 rfl
theorem FsB.of {w : World} {q : Nat} {x : FsV} (h : FsAt w q x) : FsB w q := ⟨_, _, _, _, _, _, h⟩
theorem OwFs.assign {w w0 : World} {base q : Nat} {y : FsV} {f : Fsd} (h : OwFs w base y.val f) (hq : FsB w q) (hb : Below w0.heap.size w0 w) (hq0 : w0.heap.size ≤ q) :
  OwFs (set6 w q y) base y.val f ∧ Below w0.heap.size w0 (set6 w q y) ∧ FsAt (set6 w q y) q y ∧ RdX (set6 w q y) y f ∧ w.grownBy (set6 w q y) (some q) := by
 obtain ⟨h1, h2, h3⟩ := h.stored hq hb hq0
 refine ⟨h1, h2, h3, ?_, (hq.put y).2⟩
 obtain ⟨x', ex', hx'⟩ := h1.form
 have e : x' = y := FsV.ext_val ex'.symm
 subst e
 exact hx'
theorem flat_len {d : Dk} (h : okD d = true) : ∀ l : List Int, (∀ n ∈ l, 34 ≤ n ∧ n < mny d) → (l.flatMap fun n => nowD d n.toNat).length = 128 * l.length
 | [], _ => rfl
 | n :: l, hl => by
  have h1 := hl n (List.mem_cons_self ..)
  rw [List.flatMap_cons, List.length_append, flat_len h l (fun m hm => hl m (List.mem_cons_of_mem _ hm)), now_len h (by omega), List.length_cons]
  omega
def Like (f g : Fsd) (but : List UInt8) : Prop := ∀ x ∈ f.2.2.1, x.1 ≠ but → sizeE f x.1 = 0 ∧ sizeE g x.1 = 0 ∧ contF f x.1 = contF g x.1
theorem blkX_nodup (x : Ex) (k : Nat) : (blkX x k).Nodup := by
 unfold blkX
 rw [List.nodup_iff_pairwise_ne, List.pairwise_map]
 exact List.Pairwise.imp (fun h => by omega) List.nodup_range
theorem blocksX_nodup {l : List Ex} (h : apX l = true) (hp : ∀ x ∈ l, 1 ≤ x.2) : (blocksX l).Nodup := by
 have h := (apX_pw l).1 h
 unfold blocksX
 rw [List.nodup_iff_pairwise_ne, List.pairwise_flatMap]
 refine ⟨fun x _ => blkX_nodup x _, ?_⟩
 refine List.Pairwise.imp ?_ h
 intro x y hm a ha b hb
 unfold blkX at ha hb
 obtain ⟨i, hi, rfl⟩ := List.mem_map.1 ha
 obtain ⟨j, hj, rfl⟩ := List.mem_map.1 hb
 have := List.mem_range.1 hi
 have := List.mem_range.1 hj
 unfold meetX at hm
 simp only [Bool.and_eq_false_iff, decide_eq_false_iff_not] at hm
 omega
theorem blocks_used (fs : List Fl) : blocksX (usedF fs) = fs.flatMap fun g => blocksX g.2 := by
 unfold blocksX usedF
 rw [List.flatMap_assoc]
theorem dir_nodup {f : Fsd} (h : okFs f) : (f.2.2.1.flatMap fun g => blocksX g.2).Nodup := by
 rw [← blocks_used]
 have hm := okFs_may h
 have := extP_parts.1 hm.2.2.1
 exact blocksX_nodup this.1 (fun x hx => (extP_all hm.2.2.1 x hx).2.1)
theorem file_nodup {f : Fsd} (h : okFs f) {g : Fl} (hg : g ∈ f.2.2.1) : (blocksX g.2).Nodup := by
 have := dir_nodup h
 rw [List.nodup_iff_pairwise_ne, List.pairwise_flatMap] at this
 exact this.1 g hg
theorem files_apart {f : Fsd} (h : okFs f) {g k : Fl} (hg : g ∈ f.2.2.1) (hk : k ∈ f.2.2.1) (hne : g.1 ≠ k.1) {n : Int} (h1 : n ∈ blocksX g.2) : n ∉ blocksX k.2 := by
 have hp := dir_nodup h
 rw [List.nodup_iff_pairwise_ne, List.pairwise_flatMap] at hp
 intro h2
 have hs : ∀ a ∈ f.2.2.1, ∀ b ∈ f.2.2.1, a.1 ≠ b.1 → ∀ x ∈ blocksX a.2, ∀ y ∈ blocksX b.2, x ≠ y := by
  have := hp.2
  intro a ha b hb hab
  obtain ⟨i, hi, rfl⟩ := List.mem_iff_getElem.1 ha
  obtain ⟨j, hj, rfl⟩ := List.mem_iff_getElem.1 hb
  have hpw := List.pairwise_iff_getElem.1 this
  rcases Nat.lt_trichotomy i j with hij | hij | hij
  ·exact hpw i j hi hj hij
  ·subst hij; exact absurd rfl hab
  ·intro x hx y hy e
   exact hpw j i hj hi hij y hy x hx e.symm
 exact hs g hg k hk hne n h1 n h2 rfl
theorem put_all {f : Fsd} {s : List UInt8} {i : Int} {b : List UInt8} (h : (putFs f s i b).2 = 0) :
  okFs f ∧ ∃ d', putFs f s i b = ((d', f.2), 0) ∧ atE f s i = 0 ∧ oneD f.1 (false, atN f s i, b) = some d' ∧ actE (mny f.1) (false, atN f s i, b) = 0 := by
 rw [put_is] at h ⊢
 by_cases h0 : fsE f = 0
 ·have hok := fsE_ok h0
  rw [if_neg (by rw [h0]; decide)] at h ⊢
  by_cases h1 : atE f s i = 0
  ·rw [if_neg (by rw [h1]; decide)] at h ⊢
   by_cases h2 : (doD f.1 [(false, atN f s i, b)] 1).2 = 0
   ·obtain ⟨a1, a2, a3, a4, x, a5, a6⟩ := doD_ok h2
    have a7 := a2 (false, atN f s i, b) (by simp)
    refine ⟨hok, x, ?_, h1, ?_, a7⟩
    ·rw [if_neg (by rw [h2]; decide), a6]
    ·have : onesD f.1 [(false, atN f s i, b)] = some x := a5
     rw [onesD_one] at this
     exact this
   ·rw [if_pos h2] at h; exact absurd h h2
  ·rw [if_pos h1] at h; exact absurd h h1
 ·rw [if_pos h0] at h; exact absurd h h0
theorem at_file {f : Fsd} {s : List UInt8} {i : Int} (h : okFs f) (ha : atE f s i = 0) : sizeE f s = 0 ∧ ∃ j : Nat, i = j ∧ ∃ hj : j < (bloL f s).length, atN f s i = (bloL f s)[j] := by
 have ha2 := ha
 unfold atE at ha
 by_cases h1 : bloE f s = 0
 ·have hs : sizeE f s = 0 := by unfold sizeE; rw [if_neg (by rw [fsE_of h]; decide), h1]
  rw [if_neg (by rw [h1]; decide)] at ha
  by_cases h2 : i < 0 ∨ ((bloL f s).length : Int) ≤ i
  ·rw [if_pos h2] at ha; cases ha
  ·refine ⟨hs, i.toNat, by omega, by omega, ?_⟩
   have e : i = (i.toNat : Int) := by omega
   have := (get_ok hs (show i.toNat < (bloL f s).length by omega)).2.1
   rw [← e] at this
   exact this
 ·rw [if_pos h1] at ha; exact absurd ha h1
theorem put_err {f : Fsd} {s : List UInt8} {i : Int} {b : List UInt8} (h : (putFs f s i b).2 ≠ 0) : (putFs f s i b).1 = fz := by
 rw [put_is] at h ⊢
 by_cases h0 : fsE f ≠ 0
 ·rw [if_pos h0]
 ·rw [if_neg h0] at h ⊢
  by_cases h1 : atE f s i ≠ 0
  ·rw [if_pos h1]
  ·rw [if_neg h1] at h ⊢
   by_cases h2 : (doD f.1 [(false, atN f s i, b)] 1).2 ≠ 0
   ·rw [if_pos h2]
   ·rw [if_neg h2] at h; exact absurd rfl h
theorem flat_set (F G : Int → List UInt8) (b : List UInt8) : ∀ (l : List Int) (j : Nat) (hj : j < l.length), l.Nodup → (∀ n ∈ l, (F n).length = 128) → (∀ n, G n = if n = l[j] then b else F n) →
  l.flatMap G = (l.flatMap F).take (128 * j) ++ (b ++ (l.flatMap F).drop (128 * j + 128))
 | n :: l, 0, hj, hn, hF, hG => by
  have h1 : G n = b := by rw [hG]; simp
  have h2 : l.flatMap G = l.flatMap F := by
   have hx : ∀ m ∈ l, G m = F m := by
    intro m hm
    rw [hG, if_neg]
    intro e
    have e : m = n := e
    subst e
    exact (List.nodup_cons.1 hn).1 hm
   clear hG hF hn hj h1
   induction l with
   | nil => rfl
   | cons a l ih => rw [List.flatMap_cons, List.flatMap_cons, hx a (List.mem_cons_self ..), ih (fun m hm => hx m (List.mem_cons_of_mem _ hm))]
  rw [List.flatMap_cons, h1, h2, List.flatMap_cons]
  have hl := hF n (List.mem_cons_self ..)
  rw [Nat.mul_zero, List.take_zero, Nat.zero_add, List.nil_append, ← hl, List.drop_left]
 | n :: l, j + 1, hj, hn, hF, hG => by
  have hj' : j < l.length := by simpa using hj
  have ih := flat_set F G b l j hj' (List.nodup_cons.1 hn).2 (fun m hm => hF m (List.mem_cons_of_mem _ hm)) (fun m => by rw [hG]; rfl)
  have h1 : G n = F n := by
   rw [hG, if_neg]
   intro e
   have e : n = l[j] := e
   exact (List.nodup_cons.1 hn).1 (e ▸ List.getElem_mem hj')
  have hl := hF n (List.mem_cons_self ..)
  rw [List.flatMap_cons, h1, ih, List.flatMap_cons]
  have e1 : 128 * (j + 1) = (F n).length + 128 * j := by omega
  have e2 : 128 * (j + 1) + 128 = (F n).length + (128 * j + 128) := by omega
  rw [e2, e1, List.take_length_add_append, List.drop_length_add_append, List.append_assoc]
theorem put_spec {f : Fsd} {s : List UInt8} {i : Int} {b : List UInt8} (h : (putFs f s i b).2 = 0) :
  okFs (putFs f s i b).1 ∧ (putFs f s i b).1.2 = f.2 ∧ b.length = 128 ∧ sizeE f s = 0 ∧ sizeE (putFs f s i b).1 s = 0 ∧ (∃ j : Nat, i = j ∧ 128 * j + 128 ≤ (contF f s).length ∧ contF (putFs f s i b).1 s = (contF f s).take (128 * j) ++ (b ++ (contF f s).drop (128 * j + 128))) ∧ getE (putFs f s i b).1 s i = 0 ∧ getL (putFs f s i b).1 s i = b ∧ Like f (putFs f s i b).1 s := by
 obtain ⟨hok, d', e, ha, ho, hact⟩ := put_all h
 rw [e]
 obtain ⟨hs, j, rfl, hj, hN⟩ := at_file hok ha
 obtain ⟨hd, hm34, _, _⟩ := okFs_disk hok
 obtain ⟨o1, o2, _⟩ := okD_one hd hact ho
 have hr := blo_rng2 hs _ (List.getElem_mem hj)
 have hb : b.length = 128 := by
  have : putE (mny f.1) (atN f s j, b) = 0 := by unfold actE at hact; simpa using hact
  exact (putE_ok this).2.2
 have hd1 : d'.1 = f.1.1 ∧ d'.2.1 = f.1.2.1 ++ [(atN f s j, b)] := by
  unfold oneD at ho
  split at ho
  ·cases ho
  ·simp only [Bool.false_eq_true, if_false] at ho; cases ho; exact ⟨rfl, rfl⟩
 have hokF : okFs (d', f.2.1, f.2.2.1, f.2.2.2) := ok_same hok o1 (by rw [hd1.1]) (fun k _ => by rw [hd1.1]) (by
  intro p hp
  rw [hd1.2] at hp
  rcases List.mem_append.1 hp with hp | hp
  ·exact hok.2.2.1 p hp
  ·rw [List.mem_singleton.1 hp]; show 34 ≤ atN f s j; rw [hN]; exact hr.1) hok.2.2.2.2.2
 have hokF : okFs (d', f.2) := hokF
 have hsF : sizeE (d', f.2) s = 0 := by rw [size_dir (f := f) (g := (d', f.2)) rfl hok hokF]; exact hs
 have hbl : bloL (d', f.2) s = bloL f s := (blo_dir (f := f) (g := (d', f.2)) rfl s).1
 have hnow : ∀ k : Nat, k < mny f.1 → nowD d' k = if (k : Int) = atN f s j then b else nowD f.1 k := by
  intro k hk
  have := block_write hd hact ho hk
  rw [blockD_now o1 (by omega), blockD_now hd hk] at this
  exact this
 obtain ⟨h0, l, hl⟩ := size_there hs
 have hfi := (file_in hok hl).2.2.2.1
 have hnd : (bloL f s).Nodup := by rw [hfi]; exact file_nodup hok hl
 refine ⟨hokF, rfl, hb, hs, hsF, ⟨j, rfl, ?_, ?_⟩, ?_, ?_, ?_⟩
 ·unfold contF
  rw [if_neg (by rw [hs]; decide), flat_len hd _ (blo_rng2 hs)]
  omega
 ·unfold contF
  rw [if_neg (by rw [hsF]; decide), if_neg (by rw [hs]; decide), hbl]
  have hG : ∀ n ∈ bloL f s, nowD d' n.toNat = if n = (bloL f s)[j] then b else nowD f.1 n.toNat := by
   intro n hn
   have := blo_rng2 hs n hn
   rw [hnow _ (by omega), hN]
   have e : ((n.toNat : Nat) : Int) = n := by omega
   rw [e]
  have hc : (bloL f s).flatMap (fun n => nowD d' n.toNat) = (bloL f s).flatMap (fun n => if n = (bloL f s)[j] then b else nowD f.1 n.toNat) := by
   have : ∀ (l : List Int), (∀ n ∈ l, n ∈ bloL f s) → l.flatMap (fun n => nowD d' n.toNat) = l.flatMap (fun n => if n = (bloL f s)[j] then b else nowD f.1 n.toNat) := by
    intro l
    induction l with
    | nil => intro _; rfl
    | cons a l ih => intro hx; rw [List.flatMap_cons, List.flatMap_cons, hG a (hx a (List.mem_cons_self ..)), ih (fun m hm => hx m (List.mem_cons_of_mem _ hm))]
   exact this _ (fun n hn => hn)
  show (bloL f s).flatMap (fun n => nowD d' n.toNat) = _
  rw [hc]
  exact flat_set (fun n => nowD f.1 n.toNat) (fun n => if n = (bloL f s)[j] then b else nowD f.1 n.toNat) b (bloL f s) j hj hnd (fun n hn => by have := blo_rng2 hs n hn; exact now_len hd (by omega)) (fun n => rfl)
 ·exact (get_ok hsF (i := j) (by rw [hbl]; exact hj)).2.2.1
 ·rw [(get_ok hsF (i := j) (by rw [hbl]; exact hj)).2.2.2]
  have e : (bloL (d', f.2) s)[j]'(by rw [hbl]; exact hj) = (bloL f s)[j] := by simp only [hbl]
  rw [e]
  show nowD d' _ = b
  rw [hnow _ (by omega), if_pos (by rw [hN]; omega)]
 ·intro g hg hne
  have hsg := (file_in hok hg).2.2.2.2
  have hsg' : sizeE (d', f.2) g.1 = 0 := by rw [size_dir (f := f) (g := (d', f.2)) rfl hok hokF]; exact hsg
  refine ⟨hsg, hsg', cont_same hsg hsg' (blo_dir (f := f) (g := (d', f.2)) rfl g.1).1 ?_⟩
  intro n hn
  have hrn := blo_rng2 hsg n hn
  show nowD d' n.toNat = _
  rw [hnow _ (by omega), if_neg]
  intro e
  rw [hN] at e
  have e : n = (bloL f s)[j] := by omega
  rw [(file_in hok hg).2.2.2.1] at hn
  have hin : n ∈ blocksX l := by
   have h9 : n ∈ bloL f s := e ▸ List.getElem_mem hj
   have hfi' : bloL f s = blocksX l := hfi
   rw [hfi'] at h9
   exact h9
  exact files_apart hok hg hl hne hn hin
/-! ### how many blocks can be given -/
theorem cnt_congr {p q : Int → Bool} {a : Int} : ∀ k : Nat, (∀ i : Nat, i < k → p (a + i) = q (a + i)) → cntB p a k = cntB q a k
 | 0, _ => rfl
 | k + 1, h => by
  simp only [cntB]
  rw [cnt_congr k (fun i hi => h i (by omega)), h k (by omega)]
theorem cnt_all {p : Int → Bool} {a : Int} : ∀ k : Nat, (∀ i : Nat, i < k → p (a + i) = true) → cntB p a k = k
 | 0, _ => rfl
 | k + 1, h => by
  simp only [cntB]
  rw [cnt_all k (fun i hi => h i (by omega)), h k (by omega), if_pos rfl]
  omega
theorem used_all {f : Fsd} (h : okFs f) : allX (usedFs f) = 0 ∧ usedFs f = usedF f.2.2.1 ++ usedF f.2.2.2 ∧ (∀ x ∈ usedFs f, 34 ≤ x.1 ∧ 1 ≤ x.2 ∧ x.1 + x.2 ≤ mny f.1) := by
 have hc := h.2.2.2.2.2
 have hk := kept_chk h
 have e1 : usedL f.2.2.1 = usedF f.2.2.1 := by unfold usedL; rw [if_pos (chkF_top hc)]
 have e2 : usedL f.2.2.2 = usedF f.2.2.2 := by unfold usedL; rw [if_pos (chkF_top hk)]
 have m1 := (chkF_may hc).2
 have m2 := (chkF_may hk).2
 have hx : ∀ x ∈ usedFs f, 34 ≤ x.1 ∧ 1 ≤ x.2 ∧ x.1 + x.2 ≤ mny f.1 := by
  intro x hx
  unfold usedFs at hx
  rw [e1, e2] at hx
  rcases List.mem_append.1 hx with hx | hx
  ·exact extP_all m1.2.2.1 x hx
  ·exact extP_all m2.2.2.1 x hx
 have hmm := ((okD_iff f.1).1 (okFs_disk h).1).2.2.1
 have l1 : ∀ {fs : List Fl} {B : Int}, mayF fs B → (usedF fs).length ≤ 2048 := by
  intro fs B hm
  have := usedF_len fs 64 (fun g hg => by have := may_one hm g hg; omega)
  have := hm.1
  have hb := hm.2.2.2
  -- the bytes bound the extents
  have hle : (usedF fs).length ≤ (bytF fs).length := by
   have : ∀ fs : List Fl, (usedF fs).length ≤ (fs.flatMap bytFl).length := by
    intro fs
    induction fs with
    | nil => simp [usedF]
    | cons g fs ih =>
     have e : usedF (g :: fs) = g.2 ++ usedF fs := rfl
     rw [e, List.length_append, List.flatMap_cons, List.length_append]
     have h2 : g.2.length ≤ (bytFl g).length := by
      unfold bytFl
      rw [List.length_append, List.length_append]
      have : ∀ l : List Ex, l.length ≤ (bytE l).length := by
       intro l
       induction l with
       | nil => simp [bytE]
       | cons x l ih =>
        have e : bytE (x :: l) = bytX x ++ bytE l := rfl
        rw [e, List.length_append, List.length_cons]
        have : 1 ≤ (bytX x).length := by
         unfold bytX
         rw [List.length_append]
         have := sm_pos x.1.toNat
         omega
        omega
      have := this g.2
      omega
     omega
   have := this fs
   unfold bytF
   rw [List.length_append]
   omega
  omega
 refine ⟨?_, ?_, hx⟩
 ·refine allX_mk ?_ (fun x hx' => by have := hx x hx'; omega)
  unfold usedFs
  rw [e1, e2, List.length_append]
  have := l1 m1
  have := l1 m2
  omega
 ·unfold usedFs; rw [e1, e2]
theorem free_ok {f : Fsd} (h : okFs f) : freeE 34 (mnyFs f) (usedFs f) = 0 := by
 have h1 := (okFs_disk h).1
 rw [mnyFs_ok h1]
 unfold freeE
 have hmm := ((okD_iff f.1).1 h1).2.2.1
 have := (okFs_disk h).2.1
 rw [if_neg (by omega), (used_all h).1]
theorem room_cnt {f : Fsd} (h : okFs f) : roomE f = 0 ∧ roomN f = cntB (fun n => !inL (usedFs f) n) 34 (mny f.1 - 34) := by
 have h1 := (okFs_disk h).1
 have h2 := (okFs_disk h).2.1
 have hmm := ((okD_iff f.1).1 h1).2.2.1
 have hf := free_ok h
 obtain ⟨r1, r2, r3⟩ := freeL_rise hf
 have hm := mnyFs_ok h1
 have hch : chkX (freeL 34 (mnyFs f) (usedFs f)) = 0 := riseX_chk r1 (by decide) (by rw [hm]; omega) r3
 have he := fsE_of h
 refine ⟨?_, ?_⟩
 ·unfold roomE; rw [if_neg (by rw [he]; decide), if_neg (by rw [hf]; decide), hch]
 ·unfold roomN
  rw [if_neg (by rw [he]; decide), if_neg (by rw [hf]; decide)]
  unfold manyR
  rw [if_pos hch]
  rw [manyX_cnt (a := 34) (k := mny f.1 - 34) _ (fun x hx => by have := r1.1 x hx; rw [hm] at this; omega) (chkX_ok hch).2]
  apply cnt_congr
  intro i hi
  rw [r2, hm]
  rw [decide_eq_true (by omega), decide_eq_true (by omega)]
  simp
theorem cnt_not {p : Int → Bool} {a : Int} (k : Nat) : cntB (fun n => !p n) a k = k - cntB p a k := by
 have h1 := cntB_or (p := p) (q := fun n => !p n) a k (fun i _ hp => by simp [hp])
 have h2 := cnt_all (p := fun n => p n || !p n) (a := a) k (fun i _ => by simp)
 omega
theorem many_dir {f : Fsd} (h : okFs f) : manyX (usedF f.2.2.1) = cntB (inL (usedF f.2.2.1)) 34 (mny f.1 - 34) := by
 have hm := okFs_may h
 have := (okFs_disk h).2.1
 exact manyX_cnt _ (fun x hx => by have := extP_all hm.2.2.1 x hx; omega) (extP_parts.1 hm.2.2.1).1
theorem blocks_many {l : List Ex} (h : ∀ x ∈ l, 0 ≤ x.2) : ((blocksX l).length : Int) = manyX l := by
 induction l with
 | nil => rfl
 | cons x l ih =>
  have := ih (fun y hy => h y (List.mem_cons_of_mem _ hy))
  have hx := h x (List.mem_cons_self ..)
  have e1 : blocksX (x :: l) = blkX x x.2.toNat ++ blocksX l := rfl
  have e2 : manyX (x :: l) = x.2 + manyX l := rfl
  have e3 : (blkX x x.2.toNat).length = x.2.toNat := by simp [blkX]
  rw [e1, e2, List.length_append, e3]
  omega
def sumS (fs : List Fl) : Int := ((fs.map fun g => (blocksX g.2).length).sum : Nat)
theorem sum_many {fs : List Fl} (h : ∀ g ∈ fs, ∀ x ∈ g.2, 0 ≤ x.2) : sumS fs = manyX (usedF fs) := by
 induction fs with
 | nil => rfl
 | cons g fs ih =>
  have := ih (fun k hk => h k (List.mem_cons_of_mem _ hk))
  have hg := blocks_many (h g (List.mem_cons_self ..))
  have e1 : usedF (g :: fs) = g.2 ++ usedF fs := rfl
  have e2 : manyX (g.2 ++ usedF fs) = manyX g.2 + manyX (usedF fs) := by unfold manyX; rw [List.map_append, List.sum_append]
  rw [e1, e2, ← this, ← hg]
  unfold sumS
  rw [List.map_cons, List.sum_cons]
  omega
theorem sum_take (fs : List Fl) (k : Nat) (h : k < fs.length) : sumS (fs.take (k + 1)) = sumS (fs.take k) + (blocksX (fs[k]).2).length := by
 unfold sumS
 rw [List.take_succ_eq_append_getElem h, List.map_append, List.sum_append]
 simp
theorem sum_le {f : Fsd} (h : okFs f) (k : Nat) : 0 ≤ sumS (f.2.2.1.take k) ∧ sumS (f.2.2.1.take k) ≤ 4096 := by
 have hm := okFs_may h
 have hall : ∀ g ∈ f.2.2.1, ∀ x ∈ g.2, 0 ≤ x.2 := fun g hg x hx => by have := extP_all hm.2.2.1 x ((mem_sub hg).subset hx); omega
 have h1 := sum_many hall
 have h2 := many_dir h
 have h3 := cntB_le (inL (usedF f.2.2.1)) 34 (mny f.1 - 34)
 have hmm := ((okD_iff f.1).1 (okFs_disk h).1).2.2.1
 have e : sumS f.2.2.1 = sumS (f.2.2.1.take k) + sumS (f.2.2.1.drop k) := by
  unfold sumS
  rw [← Int.natCast_add, ← List.sum_append, ← List.map_append, List.take_append_drop]
 have a : 0 ≤ sumS (f.2.2.1.take k) := by unfold sumS; omega
 have b : 0 ≤ sumS (f.2.2.1.drop k) := by unfold sumS; omega
 omega
theorem like_sub {f g : Fsd} {but : List UInt8} (hf : okFs f) (hg : okFs g) (hd : g.1 = f.1) (hs : ∀ x ∈ f.2.2.1, x ∈ g.2.2.1) : Like f g but := by
 intro x hx _
 have h1 := file_in hf hx
 have h2 := file_in hg (hs x hx)
 refine ⟨h1.2.2.2.2, h2.2.2.2.2, cont_same h1.2.2.2.2 h2.2.2.2.2 (by rw [h1.2.2.2.1, h2.2.2.2.1]) ?_⟩
 intro n _
 rw [hd]
theorem turn_err {f : Fsd} {l : List Fl} {e : Int} (h : (turnFs f l e).2 ≠ 0) : (turnFs f l e).1 = fz := by
 unfold turnFs at *
 split
 ·rfl
 ·split
  ·rfl
  ·rename_i h0 h1
   rw [if_neg h0, if_neg h1] at h
   exact absurd rfl h
theorem taken_in {a b : Int} {l : List Ex} {n : Int} (ha : 0 ≤ a) (h : takeE a b l n = 0) : riseX a b (takeL a b l n) ∧ manyX (takeL a b l n) = n ∧ takeL a b l n ≠ [] ∧ ∀ k, inL (takeL a b l n) k = true → inL l k = false := by
 obtain ⟨f1, f2, r, f3, f4⟩ := takeE_ok h
 obtain ⟨r1, r2, r3⟩ := freeL_rise f1
 rcases cutX_spec (freeL a b l) n f2 (fun x hx => (r1.1 x hx).2.1) with ⟨k1, _⟩ | ⟨p, x, q, c, k1, k2, k3, k4, k5⟩
 ·rw [k1] at f3; cases f3
 rw [k2] at f3
 cases f3
 rw [f4]
 refine ⟨take_parts (q := q) (x := x) (y := (x.1, c)) (k1 ▸ r1) rfl k3 k4, ?_, by simp, ?_⟩
 ·unfold manyX at *
  rw [List.map_append, List.sum_append]
  simpa using k5
 ·intro k hk
  have hin : inL (freeL a b l) k = true := by
   rw [inL_iff] at hk ⊢
   obtain ⟨y, hy, h1, h2⟩ := hk
   rw [k1]
   rcases List.mem_append.1 hy with hy | hy
   ·exact ⟨y, List.mem_append_left _ hy, h1, h2⟩
   ·obtain rfl : y = (x.1, c) := by simpa using hy
    exact ⟨x, by simp, h1, by simp only at h2; omega⟩
  rw [r2] at hin
  simp only [Bool.and_eq_true, Bool.not_eq_true'] at hin
  exact hin.2
theorem create_all {f : Fsd} {s : List UInt8} {n : Int} (h : (createFs f s n).2 = 0) : okFs f ∧ createFs f s n = ((f.1, f.2.1, mkL f s n, f.2.2.2), 0) ∧ okFs (f.1, f.2.1, mkL f s n, f.2.2.2) ∧ sizeE (f.1, f.2.1, mkL f s n, f.2.2.2) s = 0 ∧ sizeN (f.1, f.2.1, mkL f s n, f.2.2.2) s = n ∧ Like f (f.1, f.2.1, mkL f s n, f.2.2.2) [] ∧ roomE (f.1, f.2.1, mkL f s n, f.2.2.2) = 0 ∧ roomN (f.1, f.2.1, mkL f s n, f.2.2.2) = roomN f - n ∧ 1 ≤ n ∧ n ≤ 4096 ∧ 0 ≤ roomN f ∧ roomN f ≤ 4096 := by
 obtain ⟨h0, h1, h2⟩ := turn_ok h
 have hok := fsE_ok h0
 obtain ⟨m1, m2, m3, m4⟩ := mk_ok h1
 have hd := (okFs_disk hok).1
 have hmm := mnyFs_ok hd
 have h34 := (okFs_disk hok).2.1
 have hm4 := ((okD_iff f.1).1 hd).2.2.1
 obtain ⟨T, hT⟩ : ∃ T, T = takeL 34 (mnyFs f) (usedFs f) n := ⟨_, rfl⟩
 rw [← hT] at m3 m4
 have ht := taken_in (by decide) m2
 rw [← hT, hmm] at ht
 rw [hmm] at m3
 have ha := created_all m3
 have hA : okFs (f.1, f.2.1, insF f.2.2.1 (s, T), f.2.2.2) := turned_ok hok ha.2.1
 have hin : (s, T) ∈ insF f.2.2.1 (s, T) := ins_mem.2 (.inl rfl)
 have hfi := file_in hA hin
 have hpos : ∀ x ∈ T, 0 ≤ x.2 := fun x hx => by have := ht.1.1 x hx; omega
 have hlen := blocks_many hpos
 rw [ht.2.1] at hlen
 rw [m4]
 refine ⟨hok, by unfold createFs; rw [h2, m4], hA, hfi.2.2.2.2, ?_, like_sub hok hA rfl (fun x hx => ins_mem.2 (.inr hx)), ?_⟩
 ·have hs : sizeE (f.1, f.2.1, insF f.2.2.1 (s, T), f.2.2.2) s = 0 := hfi.2.2.2.2
  rw [(size_ok hs).2.2]
  have hb : bloL (f.1, f.2.1, insF f.2.2.1 (s, T), f.2.2.2) s = blocksX T := hfi.2.2.2.1
  rw [hb]; exact hlen
 ·obtain ⟨c1, c2⟩ := room_cnt hA
  obtain ⟨d1, d2⟩ := room_cnt hok
  have u1 := (used_all hA).2.1
  have u2 := (used_all hok).2.1
  have hap : apX T = true := by
   have hx := (createE_ok m3).2.2.2.2.1
   exact (chkX_ok (ext_chk hx (List.sublist_append_right _ _))).2
  have hcT := manyX_cnt (a := 34) (k := mny f.1 - 34) T (fun x hx => by have := ht.1.1 x hx; omega) hap
  rw [ht.2.1] at hcT
  have hor : ∀ k, inL (usedFs (f.1, f.2.1, insF f.2.2.1 (s, T), f.2.2.2)) k = (inL (usedFs f) k || inL T k) := by
   intro k
   rw [u1, u2]
   show inL (usedF (insF f.2.2.1 (s, T)) ++ usedF f.2.2.2) k = _
   rw [Bool.eq_iff_iff]
   simp only [Bool.or_eq_true, inL_iff, List.mem_append]
   have hp := used_ins f.2.2.1 (s, T)
   constructor
   ·rintro ⟨x, hx | hx, h1, h2⟩
    ·rcases List.mem_append.1 (hp.mem_iff.1 hx) with hx | hx
     ·exact .inl ⟨x, .inl hx, h1, h2⟩
     ·exact .inr ⟨x, hx, h1, h2⟩
    ·exact .inl ⟨x, .inr hx, h1, h2⟩
   ·rintro (⟨x, hx | hx, h1, h2⟩ | ⟨x, hx, h1, h2⟩)
    ·exact ⟨x, .inl (hp.mem_iff.2 (List.mem_append_left _ hx)), h1, h2⟩
    ·exact ⟨x, .inr hx, h1, h2⟩
    ·exact ⟨x, .inl (hp.mem_iff.2 (List.mem_append_right _ hx)), h1, h2⟩
  have e1 := cntB_or (p := inL (usedFs f)) (q := inL T) 34 (mny f.1 - 34) (fun i _ hp => by
   cases e : inL T (34 + (i : Int)) with
   | false => rfl
   | true => rw [ht.2.2.2 _ e] at hp; cases hp)
  have e2 := cnt_not (p := inL (usedFs f)) (a := 34) (mny f.1 - 34)
  have e3 := cnt_not (p := fun k => inL (usedFs f) k || inL T k) (a := 34) (mny f.1 - 34)
  have e4 : roomN (f.1, f.2.1, insF f.2.2.1 (s, T), f.2.2.2) = cntB (fun k => !(inL (usedFs f) k || inL T k)) 34 (mny f.1 - 34) := by
   rw [c2]
   exact cnt_congr _ (fun i _ => by rw [hor])
  have hw := (takeE_ok m2).2.1
  have hn : n ≤ 4096 := by
   by_cases hx : n < 1 ∨ 4096 < n
   ·rw [(takeE_arg (takeE_ok m2).1 hx).1] at m2; cases m2
   ·omega
  have b1 := cntB_le (fun k => !inL (usedFs f) k) 34 (mny f.1 - 34)
  have b2 := cntB_le (inL (usedFs f)) 34 (mny f.1 - 34)
  refine ⟨c1, ?_, hw, hn, ?_, ?_⟩
  ·rw [e4, d2]; omega
  ·rw [d2]; omega
  ·rw [d2]; omega
def genF (b : List UInt8) : Nat := un4 (b.take 4)
abbrev Op := List UInt8 × Nat × Nat
theorem take_spliceF {α : Type} (cur x : List α) (off n : Nat) (h : off + x.length ≤ n) (hn : n ≤ cur.length) : (cur.take off ++ (x ++ cur.drop (off + x.length))).take n = (cur.take n).take off ++ (x ++ (cur.take n).drop (off + x.length)) := by
 have h1 : (cur.take off).length = off := by rw [List.length_take]; omega
 rw [List.take_append, List.take_append, h1, List.take_of_length_le (l := cur.take off) (by omega), List.take_of_length_le (l := x) (by omega), List.take_take, Nat.min_eq_left (by omega), List.drop_take, Nat.sub_sub]
theorem wpList_copyF {P : Program} (w : World) {ops : Array Oper} {rest : List Oper} {o : Oper} {a : Act} {Q : Exit → Act → World → Prop} (hgd : o.guard = none) (d s : Operand) (dT : TypeId)
  (ho : o.op = .call { callee := .builtin .copy, args := #[d, s], argTypes := #[dT, dT] }) (hu : P.underlying dT = some (.slice 5)) (hsz : (P.info? 5).map (·.size) = some 1)
  (base g n c off dLen dCap : Nat) (hd : a.eval d = .slice (some ⟨g, off, none⟩) dLen dCap) (v : Value) (l : List UInt8) (hs : a.eval s = v) (hrd : Rd w v l)
  (data : List UInt8) (hown : OwB w base (.slice (some ⟨g, 0, none⟩) n c) data) (hfit : off + dLen = data.length)
  (h : ∀ w', w.grownBy w' (some g) → OwB w' base (.slice (some ⟨g, 0, none⟩) n c) (splice data off (l.take dLen)) → wpList P ops Q rest (a.put o.dst (goInt (l.take dLen).length)) w') :
  wpList P ops Q (o :: rest) a w := by
 obtain ⟨sa, sc, rfl⟩ := hrd.form
 by_cases hpos : l = []
 ·subst hpos
  refine wpList_copy_nothing hgd d s dT dT ho 5 hu hsz _ _ _ _ _ _ hd hs (Nat.min_eq_left (Nat.zero_le _)) ?_
  have hh := h w (World.grownBy.refl _ _)
  have e0 : (([] : List UInt8).take dLen).length = 0 := by simp
  rw [e0] at hh
  refine hh ?_
  have e : splice data off (([] : List UInt8).take dLen) = data := by simp [splice]
  rw [e]; exact hown
 ·rcases hrd with ⟨e, _⟩ | ⟨b, of, c', e, hc, hm, hcell⟩
  ·exact absurd e hpos
  ·cases e
   have hlt : (l.take dLen).length = min dLen l.length := List.length_take
   have hlen : (u8v (l.take dLen)).length = min dLen l.length := by simp [u8v]
   obtain ⟨hx, h' | ⟨g', cap', cur, e, h1, h2, h3, h4, h5, h6⟩⟩ := hown
   ·cases h'.1
   ·cases e
    have htk : cur.toList.take data.length = u8v data := by rw [← h6, Nat.mul_one]
    have hcs : data.length ≤ cur.size := by rw [h5]; omega
    refine wpList_copy_own hgd d s dT dT ho 5 hu hsz g off _ dCap ⟨b, of, none⟩ l.length sc hd hs cur _ h2 (u8v (l.take dLen)) (by rw [hlen]; exact Nat.min_comm _ _) ?_ (by rw [hlen]; omega) (u8v_oneCell _) ?_
    ·intro j u hj
     obtain ⟨hj', rfl⟩ := u8v_getElem? (l.take dLen) j u hj
     rw [Addr.add_lit]
     rw [List.length_take] at hj'
     rw [List.getElem_take]
     exact hcell j (by omega)
    ·rw [hlen, ← hlt]
     refine h _ ⟨rfl, rfl, rfl, by simp [World.setRow], fun k _ hk => setRow_other w g k _ (fun e => hk (by rw [e]))⟩ ?_
     have hl2 : (splice data off (l.take dLen)).length = data.length := length_splice _ _ _ (by rw [hlt]; omega)
     refine ⟨by simp [u8v], .inr ⟨g, c, _, by rw [hl2], h1, setRow_heap w g _ _ _ _ h2, by rw [hl2]; exact h3, h4, ?_, ?_⟩⟩
     ·have hz : cur.toList.length = c * 1 := by rw [Array.length_toList, h5]
      simp [hlen]; omega
     ·rw [hl2, u8v_splice, hlen, Nat.mul_one]
      show ((cur.toList.take off ++ (u8v (l.take dLen) ++ cur.toList.drop (off + (l.take dLen).length))).take data.length) = _
      have hx1 : off + (u8v (l.take dLen)).length ≤ data.length := by rw [hlen]; omega
      have := take_spliceF cur.toList (u8v (l.take dLen)) off data.length hx1 (by rw [Array.length_toList]; exact hcs)
      rw [htk, hlen] at this
      rw [hlt]; exact this
def RdL (w : World) (v : Value) (ls : List (List UInt8)) : Prop :=
 (ls = [] ∧ (v = .slice none 0 0 ∨ ∃ a c, v = .slice (some a) 0 c)) ∨
 ∃ b off c, v = .slice (some ⟨b, off, none⟩) ls.length c ∧ ls.length ≤ c ∧ c ≤ maxLen ∧ ∀ j, (h : j < ls.length) → ∃ y z, w.cell? ⟨b, off + j, none⟩ = some (.slice y (ls[j]).length z) ∧ Rd w (.slice y (ls[j]).length z) ls[j]
theorem RdL.at {w : World} {a : Option Addr} {n c : Nat} {l : List (List UInt8)} (h : RdL w (.slice a n c) l) (j : Nat) (hj : j < l.length) : ∃ b off y z, a = some ⟨b, off, none⟩ ∧ w.cell? ⟨b, off + j, none⟩ = some (.slice y (l[j]).length z) ∧ Rd w (.slice y (l[j]).length z) l[j] := by
 rcases h with ⟨rfl, _⟩ | ⟨b, off, c', e, _, _, hc⟩
 ·simp at hj
 ·cases e
  obtain ⟨y, z, h1, h2⟩ := hc j hj
  exact ⟨b, off, y, z, rfl, h1, h2⟩
theorem OwBB.rdL {w : World} {base : Nat} {v : Value} {ls : List (List UInt8)} (h : OwBB w base v ls) : RdL w v ls := by
 obtain ⟨a, c, rfl⟩ := h.form
 obtain ⟨ps, e, h1, h2⟩ := h
 have h0 : OwBB w base (.slice a ls.length c) ls := ⟨ps, e, h1, h2⟩
 rcases h1.2 with ⟨e, hn⟩ | ⟨g, cap, cur, e, _, hg, hn, hm, hsz, htake⟩
 ·have : ls = [] := List.length_eq_zero_iff.1 hn
  subst this
  cases e
  exact .inl ⟨rfl, .inl rfl⟩
 ·cases e
  refine .inr ⟨g, 0, c, rfl, hn, hm, fun j hj => ?_⟩
  obtain ⟨g', y, z, e, hc, ho⟩ := h0.at j hj
  cases e
  exact ⟨y, z, by simpa using hc, ho.rd⟩
def blksW (f : Fsd) (s : List UInt8) : List (List UInt8) := if sizeE f s ≠ 0 then [] else (bloL f s).map fun n => nowD f.1 n.toNat
def headW (g : Nat) : List UInt8 := le4 g ++ List.replicate 124 0
def heldW (b : List UInt8) : Prop := genF b ≠ 0 ∧ b = headW (genF b)
instance (b : List UInt8) : Decidable (heldW b) := inferInstanceAs (Decidable (_ ∧ _))
abbrev Wl := List UInt8 × Nat × Nat × Nat × Nat × Nat
def wz : Wl := ([], 0, 0, 0, 0, 0)
def putsN (f : Fsd) (s : List UInt8) (at0 : Int) (l : List (List UInt8)) : Nat → Fsd × Int
 | 0 => (f, 0)
 | k + 1 => if (putsN f s at0 l k).2 ≠ 0 then putsN f s at0 l k else putFs (putsN f s at0 l k).1 s (at0 + k) (l.getD k [])
def putsFs (f : Fsd) (s : List UInt8) (at0 : Int) (l : List (List UInt8)) : Fsd × Int := putsN f s at0 l l.length
theorem puts_stay {f : Fsd} {s : List UInt8} {at0 : Int} {l : List (List UInt8)} {k : Nat} (h : (putsN f s at0 l k).2 ≠ 0) : ∀ j, putsN f s at0 l (k + j) = putsN f s at0 l k
 | 0 => rfl
 | j + 1 => by
  have e := puts_stay h j
  rw [← Nat.add_assoc, putsN, e, if_pos h]
/-! ### blocks -/
theorem blks_map {f : Fsd} {s : List UInt8} (h : sizeE f s = 0) : blksW f s = (bloL f s).map fun n => nowD f.1 n.toNat := by
 unfold blksW; rw [if_neg (fun e => e h)]
theorem blks_len {f : Fsd} {s : List UInt8} (h : sizeE f s = 0) : (blksW f s).length = (bloL f s).length := by rw [blks_map h, List.length_map]
theorem blks_get {f : Fsd} {s : List UInt8} (h : sizeE f s = 0) {i : Nat} (hi : i < (blksW f s).length) (hi' : i < (bloL f s).length) : (blksW f s)[i] = nowD f.1 ((bloL f s)[i]).toNat := by
 simp only [blks_map h, List.getElem_map]
theorem blks_128 {f : Fsd} {s : List UInt8} : ∀ b ∈ blksW f s, b.length = 128 := by
 intro b hb
 by_cases h : sizeE f s = 0
 ·rw [blks_map h, List.mem_map] at hb
  obtain ⟨n, hn, rfl⟩ := hb
  have := blo_rng2 h n hn
  exact now_len (okFs_disk (size_ok h).1).1 (by omega)
 ·unfold blksW at hb; rw [if_pos h] at hb; cases hb
theorem blks_4096 (f : Fsd) (s : List UInt8) : (blksW f s).length ≤ 4096 := by
 by_cases h : sizeE f s = 0
 ·rw [blks_len h]
  obtain ⟨hok, l, hl⟩ := size_there h
  obtain ⟨k, hk, e⟩ := List.getElem_of_mem hl
  have h1 := sum_take f.2.2.1 k hk
  have h2 := sum_le hok k
  have h3 := sum_le hok (k + 1)
  rw [e] at h1
  have e2 : bloL f s = blocksX l := (file_in hok hl).2.2.2.1
  rw [e2]
  have h1 : sumS (List.take (k + 1) f.2.2.1) = sumS (List.take k f.2.2.1) + (blocksX l).length := h1
  omega
 ·unfold blksW; rw [if_pos h]; exact Nat.zero_le _
theorem size_blks {f : Fsd} {s : List UInt8} (h : sizeE f s = 0) : sizeN f s = (blksW f s).length := by rw [(size_ok h).2.2, blks_len h]
theorem get_blks {f : Fsd} {s : List UInt8} (h : sizeE f s = 0) {i : Nat} (hi : i < (blksW f s).length) : getE f s i = 0 ∧ getL f s i = (blksW f s)[i] := by
 have hi' : i < (bloL f s).length := by rw [← blks_len h]; exact hi
 obtain ⟨_, _, h1, h2⟩ := get_ok h hi'
 exact ⟨h1, by rw [h2, blks_get h hi hi']⟩
theorem size_nz {f : Fsd} {s : List UInt8} (h : sizeE f s ≠ 0) : blksW f s = [] := by unfold blksW; rw [if_pos h]
theorem put_set {f : Fsd} {s : List UInt8} {i : Int} {b : List UInt8} (h : (putFs f s i b).2 = 0) :
  ∃ j : Nat, i = j ∧ j < (blksW f s).length ∧ blksW (putFs f s i b).1 s = (blksW f s).set j b ∧ okFs (putFs f s i b).1 ∧ (putFs f s i b).1.2 = f.2 ∧ sizeE f s = 0 ∧ sizeE (putFs f s i b).1 s = 0 ∧ mny (putFs f s i b).1.1 = mny f.1 := by
 obtain ⟨hok, d', e, ha, ho, hact⟩ := put_all h
 obtain ⟨hokF, _, _, hs, hsF, _⟩ := put_spec h
 rw [e] at hokF hsF ⊢
 obtain ⟨_, j, rfl, hj, hN⟩ := at_file hok ha
 obtain ⟨hd, hm34, _, _⟩ := okFs_disk hok
 obtain ⟨o1, o2, _⟩ := okD_one hd hact ho
 have hbl : bloL (d', f.2) s = bloL f s := (blo_dir (f := f) (g := (d', f.2)) rfl s).1
 have hlF := blks_len hsF
 have hl := blks_len hs
 obtain ⟨_, L, hL⟩ := size_there hs
 have hnd : (bloL f s).Nodup := by rw [(file_in hok hL).2.2.2.1]; exact file_nodup hok hL
 refine ⟨j, rfl, by rw [hl]; exact hj, ?_, hokF, rfl, hs, hsF, o2⟩
 apply List.ext_getElem
 ·rw [List.length_set, hlF, hl, hbl]
 ·intro k h1 h2
  have hk : k < (bloL f s).length := by rw [← hbl, ← hlF]; exact h1
  have hkf : k < (blksW f s).length := by rw [hl]; exact hk
  rw [blks_get hsF h1 (by rw [hbl]; exact hk), List.getElem_set]
  have eb : (bloL (d', f.2) s)[k]'(by rw [hbl]; exact hk) = (bloL f s)[k] := by simp only [hbl]
  rw [eb]
  have hr := blo_rng2 hs _ (List.getElem_mem hk)
  obtain ⟨n, hn⟩ : ∃ n : Nat, (bloL f s)[k] = n := ⟨((bloL f s)[k]).toNat, by omega⟩
  have hnt : ((bloL f s)[k]).toNat = n := by omega
  have hnm : n < mny f.1 := by omega
  have hw := block_write hd hact ho hnm
  rw [blockD_now o1 (by omega), blockD_now hd hnm, hN] at hw
  rw [hnt]
  show nowD d' n = _
  rw [hw]
  by_cases hjk : j = k
  ·subst hjk
   rw [if_pos hn.symm, if_pos rfl]
  ·rw [if_neg hjk, if_neg, blks_get hs hkf hk, hnt]
   intro e9
   exact hjk ((List.getElem_inj hnd).1 (e9.symm.trans hn.symm))
end Go.Proofs.YtmeaiocohalphaaGreatDoor

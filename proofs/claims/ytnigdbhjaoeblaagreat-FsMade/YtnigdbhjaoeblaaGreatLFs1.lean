/-
  The statements' own example.
-/
import Derived.Test.YtnigdbhjaoeblaaGreatMathFs3
namespace Go.Proofs.YtnigdbhjaoeblaaGreat
open Go.RowKit
set_option linter.unusedVariables false
set_option linter.unusedSimpArgs false

theorem then_begin {s : Stp} {f : Fsd} : endW (thenW s (beginW f)) = if fsE f ≠ 0 then (fz, fsE f) else if (s (beginW f)).2 ≠ 0 then (fz, (s (beginW f)).2) else ((s (beginW f)).1.1, 0) := by
  by_cases h : fsE f = 0
  · rw [thenW_val (show (beginW f).2.1 = 0 from h), if_neg (by rw [h]; decide)]
    rfl
  · rw [thenW_err (show (beginW f).2.1 ≠ 0 from h), if_pos h]
    unfold endW
    rw [if_pos (show (beginW f).2.1 ≠ 0 from h)]
    rfl
theorem put_is (f : Fsd) (s : List UInt8) (i : Int) (b : List UInt8) : putFs f s i b = if fsE f ≠ 0 then (fz, fsE f) else if atE f s i ≠ 0 then (fz, atE f s i) else if (doD f.1 [(false, atN f s i, b)] 1).2 ≠ 0 then (fz, (doD f.1 [(false, atN f s i, b)] 1).2) else (((doD f.1 [(false, atN f s i, b)] 1).1, f.2), 0) := by
  unfold putFs
  rw [then_begin]
  by_cases h : fsE f ≠ 0
  · rw [if_pos h, if_pos h]
  · rw [if_neg h, if_neg h]
    by_cases h1 : atE f s i ≠ 0
    · have e : putW s i b (beginW f) = (beginW f, atE f s i) := by unfold putW; rw [if_pos (show atE (beginW f).1 s i ≠ 0 from h1)]; rfl
      rw [e, if_pos h1, if_pos h1]
    · have e : putW s i b (beginW f) = writeW (atN f s i) b (beginW f) := by unfold putW; rw [if_neg (show ¬ atE (beginW f).1 s i ≠ 0 from h1)]; rfl
      rw [e, if_neg h1]
      rfl
theorem turn_ok {f : Fsd} {l : List Fl} {e : Int} (h : (turnFs f l e).2 = 0) : fsE f = 0 ∧ e = 0 ∧ turnFs f l e = ((f.1, f.2.1, l, f.2.2.2), 0) := by
  unfold turnFs at *
  split at h
  · rename_i h0; exact absurd h h0
  · rename_i h0
    split at h
    · rename_i h1; exact absurd h h1
    · rename_i h1
      rw [if_neg h0, if_neg h1]
      exact ⟨Decidable.not_not.1 h0, Decidable.not_not.1 h1, rfl⟩
theorem turn_of {f : Fsd} {l : List Fl} (h : fsE f = 0) : turnFs f l 0 = ((f.1, f.2.1, l, f.2.2.2), 0) := by
  unfold turnFs
  rw [if_neg (by rw [h]; decide), if_neg (by decide)]
/-- A directory is turned: files may be. -/
theorem turned_ok {f : Fsd} {l : List Fl} (h : okFs f) (hl : chkF l (mny f.1) = 0) : okFs (f.1, f.2.1, l, f.2.2.2) :=
  ok_same h (okFs_disk h).1 rfl (fun _ _ => rfl) h.2.2.1 hl

/-! ### the example -/
def ones6 : List UInt8 := List.replicate 128 1
def ex0 (x : List UInt8) : Fsd := ((x, [], []), 1, [], [])
def ex1 (x : List UInt8) : Fsd := ((x, [], []), 1, [([97], [(34, 3)])], [])
def ex2 (x : List UInt8) : Fsd := ((x, [(36, ones6)], [(false, 36, ones6)]), 1, [([97], [(34, 3)])], [])
def Exm (x : List UInt8) : Prop := okFs (ex0 x) ∧ mny ((x, [], []) : Dk) = 64
theorem ex0_is : ∃ x, formatFs 64 = (ex0 x, 0) ∧ Exm x := by
  obtain ⟨x, h1, h2, h3⟩ := format_ok (n := 64) (by decide) (by decide)
  exact ⟨x, h1, h2, h3⟩
section
variable {x : List UInt8}
theorem ex0_e (h : Exm x) : fsE (ex0 x) = 0 := fsE_of h.1
theorem ex0_m (h : Exm x) : mnyFs (ex0 x) = 64 := by rw [mnyFs_ok (okFs_disk h.1).1]; show ((mny ((x, [], []) : Dk) : Nat) : Int) = 64; rw [h.2]; rfl
theorem ex1_mk (h : Exm x) : mkE (ex0 x) [97] 3 = 0 ∧ mkL (ex0 x) [97] 3 = [([97], [(34, 3)])] := by
  have e : usedFs (ex0 x) = [] := by unfold usedFs ex0; kernel_rfl
  have e2 : (ex0 x).2.2.1 = [] := rfl
  unfold mkL mkE
  rw [ex0_m h, e, e2]
  exact ⟨by kernel_rfl, by kernel_rfl⟩
theorem ex1_is (h : Exm x) : createFs (ex0 x) [97] 3 = (ex1 x, 0) := by
  unfold createFs
  rw [(ex1_mk h).1, (ex1_mk h).2, turn_of (ex0_e h)]
  rfl
theorem chk_a : chkF [([97], [(34, 3)])] 64 = 0 := by kernel_rfl
theorem ex1_ok (h : Exm x) : okFs (ex1 x) := turned_ok (f := ex0 x) (l := [([97], [(34, 3)])]) h.1 (by show chkF [([97], [(34, 3)])] ((mny ((x, [], []) : Dk) : Nat) : Int) = 0; rw [h.2]; exact chk_a)
theorem ex_there : thereE [([97], [(34, 3)])] [97] = 0 := by kernel_rfl
theorem ex_getF : getF [([97], [(34, 3)])] [97] = [(34, 3)] := by kernel_rfl
theorem ex_blo (d : Dk) (g : Nat) (K : List Fl) : bloE (d, g, [([97], [(34, 3)])], K) [97] = 0 ∧ bloL (d, g, [([97], [(34, 3)])], K) [97] = [34, 35, 36] := by
  unfold bloE bloL
  rw [ex_there, ex_getF]
  exact ⟨by kernel_rfl, by kernel_rfl⟩
theorem ex_at (d : Dk) (g : Nat) (K : List Fl) : atE (d, g, [([97], [(34, 3)])], K) [97] 2 = 0 ∧ atN (d, g, [([97], [(34, 3)])], K) [97] 2 = 36 ∧ atE (d, g, [([97], [(34, 3)])], K) [97] 3 = 2 := by
  obtain ⟨h1, h2⟩ := ex_blo d g K
  have e1 : atE (d, g, [([97], [(34, 3)])], K) [97] 2 = 0 := by unfold atE; rw [h1, h2]; decide
  refine ⟨e1, ?_, ?_⟩
  · unfold atN; rw [e1, h2]; decide
  · unfold atE; rw [h1, h2]; decide
theorem act36 : actE 64 (false, 36, ones6) = 0 := by kernel_rfl
theorem ex1_m (h : Exm x) : mny (ex1 x).1 = 64 := h.2
theorem ex2_is (h : Exm x) : putFs (ex1 x) [97] 2 ones6 = (ex2 x, 0) := by
  have h1 := fsE_of (ex1_ok h)
  obtain ⟨h2, h3, _⟩ := ex_at (x, [], []) 1 []
  have h2 : atE (ex1 x) [97] 2 = 0 := h2
  have h3 : atN (ex1 x) [97] 2 = 36 := h3
  have h4 : doD (ex1 x).1 [(false, 36, ones6)] 1 = ((ex2 x).1, 0) := by
    rw [do1 (okFs_disk (ex1_ok h)).1 (by rw [ex1_m h]; exact act36)]
    rfl
  rw [put_is, if_neg (by rw [h1]; decide), if_neg (by rw [h2]; decide), h3, h4]
  rfl
theorem ex2_okD (h : Exm x) : okD (ex2 x).1 = true := by
  have h0 := (okFs_disk (ex1_ok h)).1
  exact (okD_one h0 (show actE (mny (ex1 x).1) (false, 36, ones6) = 0 by rw [ex1_m h]; exact act36) (show oneD (ex1 x).1 (false, 36, ones6) = some (ex2 x).1 from rfl)).1
theorem ex2_ok (h : Exm x) : okFs (ex2 x) := ok_same (f := ex1 x) (d := (ex2 x).1) (D := [([97], [(34, 3)])]) (ex1_ok h) (ex2_okD h) rfl (fun _ _ => rfl) (by intro p hp; have hp : p ∈ [((36, ones6) : Pu)] := hp; rw [List.mem_singleton.1 hp]; decide) (ex1_ok h).2.2.2.2.2
theorem ex2_m (h : Exm x) : mny (ex2 x).1 = 64 := h.2
theorem ex2_mf (h : Exm x) : mnyFs (ex2 x) = 64 := by rw [mnyFs_ok (ex2_okD h), ex2_m h]; rfl
theorem ex2_get (h : Exm x) : getE (ex2 x) [97] 2 = 0 ∧ getL (ex2 x) [97] 2 = ones6 ∧ getE (ex2 x) [97] 3 = 2 ∧ getL (ex2 x) [97] 3 = [] := by
  have h1 := fsE_of (ex2_ok h)
  obtain ⟨h2, h3, h5⟩ := ex_at (ex2 x).1 1 []
  have h2 : atE (ex2 x) [97] 2 = 0 := h2
  have h3 : atN (ex2 x) [97] 2 = 36 := h3
  have h5 : atE (ex2 x) [97] 3 = 2 := h5
  have h4 : readD (ex2 x).1 36 = (ones6, 0) := by
    unfold readD
    rw [if_neg (by rw [chk_ok (ex2_okD h)]; decide), if_neg (by rw [ex2_m h]; decide)]
    rfl
  refine ⟨?_, ?_, ?_, ?_⟩
  · unfold getE; rw [if_neg (by rw [h1]; decide), if_neg (by rw [h2]; decide), h3, h4]
  · unfold getL; rw [if_neg (by rw [h1]; decide), if_neg (by rw [h2]; decide), h3, h4]
  · unfold getE; rw [if_neg (by rw [h1]; decide), if_pos (by rw [h5]; decide), h5]
  · unfold getL; rw [if_neg (by rw [h1]; decide), if_pos (by rw [h5]; decide)]
theorem usedL_a : usedL [([97], [(34, 3)])] = [(34, 3)] := by kernel_rfl
theorem usedL_0 : usedL [] = [] := by kernel_rfl
theorem room_of {f : Fsd} {u : List Ex} {n : Int} (h : okFs f) (hm : mnyFs f = 64) (hu : usedFs f = u) (h1 : freeE 34 64 u = 0) (h2 : chkX (freeL 34 64 u) = 0) (h3 : manyR (freeL 34 64 u) = n) : roomE f = 0 ∧ roomN f = n := by
  have h0 := fsE_of h
  constructor
  · unfold roomE; rw [if_neg (by rw [h0]; decide), hm, hu, h1, if_neg (by decide), h2]
  · unfold roomN; rw [if_neg (by rw [h0]; decide), hm, hu, h1, if_neg (by decide), h3]
theorem ex2_room (h : Exm x) : roomE (ex2 x) = 0 ∧ roomN (ex2 x) = 27 := room_of (u := [(34, 3)]) (ex2_ok h) (ex2_mf h) (by unfold usedFs ex2; rw [usedL_a, usedL_0]; rfl) (by kernel_rfl) (by kernel_rfl) (by kernel_rfl)
end

end Go.Proofs.YtnigdbhjaoeblaaGreat
namespace Go.Proofs.YtnigdbhjaoeblaaGreat
open Go.RowKit
set_option linter.unusedVariables false
set_option linter.unusedSimpArgs false

def contF (f : Fsd) (s : List UInt8) : List UInt8 := if sizeE f s ≠ 0 then [] else (bloL f s).flatMap fun n => nowD f.1 n.toNat
theorem okFs_may {f : Fsd} (h : okFs f) : mayF f.2.2.1 (mny f.1) := (chkF_may h.2.2.2.2.2).2
theorem ext_chk {l m : List Ex} {b : Int} (h : extP m b) (hs : l.Sublist m) : chkX l = 0 := (extP_sub hs h).1
theorem mem_sub {fs : List Fl} {g : Fl} (h : g ∈ fs) : g.2.Sublist (usedF fs) := by
  have h1 : [g].Sublist fs := List.singleton_sublist.2 h
  have := used_sub h1
  simpa [usedF] using this
/-- A file of a directory that may be. -/
theorem file_in {f : Fsd} (h : okFs f) {g : Fl} (hg : g ∈ f.2.2.1) : thereE f.2.2.1 g.1 = 0 ∧ getF f.2.2.1 g.1 = g.2 ∧ bloE f g.1 = 0 ∧ bloL f g.1 = blocksX g.2 ∧ sizeE f g.1 = 0 := by
  have hm := okFs_may h
  have h1 : isF f.2.2.1 g.1 = true := (isF_iff _ _).2 ⟨g.2, hg⟩
  have h2 : nameF g.1 = true := by
    have := hm.2.1.1 g hg
    unfold oneF at this
    simp only [Bool.and_eq_true] at this
    exact this.1.1
  have h3 := (thereE_in h.2.2.2.2.2 h2 h1).1
  have h4 : getF f.2.2.1 g.1 = g.2 := getF_mem hm.2.1.2 hg
  have h5 : chkX g.2 = 0 := ext_chk hm.2.2.1 (mem_sub hg)
  have h6 : bloE f g.1 = 0 := by unfold bloE; rw [if_neg (by rw [h3]; decide), h4, h5]
  have h7 : bloL f g.1 = blocksX g.2 := by unfold bloL blocksR; rw [if_neg (by rw [h3]; decide), h4, if_pos h5]
  refine ⟨h3, h4, h6, h7, ?_⟩
  unfold sizeE
  rw [if_neg (by rw [fsE_of h]; decide), h6]
theorem size_there {f : Fsd} {s : List UInt8} (h : sizeE f s = 0) : okFs f ∧ ∃ l, (s, l) ∈ f.2.2.1 := by
  unfold sizeE at h
  by_cases h0 : fsE f = 0
  · rw [if_neg (by rw [h0]; decide)] at h
    have hok := fsE_ok h0
    unfold bloE at h
    by_cases h1 : thereE f.2.2.1 s = 0
    · exact ⟨hok, (isF_iff _ _).1 (thereE_okF h1).2.2⟩
    · rw [if_pos h1] at h; exact absurd h h1
  · rw [if_pos h0] at h; exact absurd h h0
theorem blocksX_mem {l : List Ex} {n : Int} (h : n ∈ blocksX l) : ∃ x ∈ l, x.1 ≤ n ∧ n < x.1 + x.2 := by
  obtain ⟨x, hx, hn⟩ := List.mem_flatMap.1 h
  refine ⟨x, hx, ?_⟩
  unfold blkX at hn
  obtain ⟨i, hi, rfl⟩ := List.mem_map.1 hn
  have := List.mem_range.1 hi
  omega
/-- Blocks of files are on the disk, from the first one on. -/
theorem blo_rng {f : Fsd} (h : okFs f) {g : Fl} (hg : g ∈ f.2.2.1) : ∀ n ∈ blocksX g.2, 34 ≤ n ∧ n < mny f.1 := by
  intro n hn
  obtain ⟨x, hx, h1, h2⟩ := blocksX_mem hn
  have := extP_all (okFs_may h).2.2.1 x ((mem_sub hg).subset hx)
  omega
theorem blo_rng2 {f : Fsd} {s : List UInt8} (h : sizeE f s = 0) : ∀ n ∈ bloL f s, 34 ≤ n ∧ n < mny f.1 := by
  obtain ⟨h0, l, hl⟩ := size_there h
  rw [(file_in h0 hl).2.2.2.1]
  exact blo_rng h0 hl
theorem size_ok {f : Fsd} {s : List UInt8} (h : sizeE f s = 0) : okFs f ∧ bloE f s = 0 ∧ sizeN f s = (bloL f s).length := by
  obtain ⟨h0, l, hl⟩ := size_there h
  refine ⟨h0, (file_in h0 hl).2.2.1, ?_⟩
  unfold sizeN
  rw [if_neg (by rw [fsE_of h0]; decide)]
theorem get_ok {f : Fsd} {s : List UInt8} (h : sizeE f s = 0) {i : Nat} (hi : i < (bloL f s).length) : atE f s i = 0 ∧ atN f s i = (bloL f s)[i] ∧ getE f s i = 0 ∧ getL f s i = nowD f.1 ((bloL f s)[i]).toNat := by
  obtain ⟨h0, h1, _⟩ := size_ok h
  have hr := blo_rng2 h _ (List.getElem_mem hi)
  have a1 : atE f s i = 0 := by unfold atE; rw [if_neg (by rw [h1]; decide), if_neg (by omega)]
  have a2 : atN f s i = (bloL f s)[i] := by unfold atN; rw [if_neg (by rw [a1]; decide)]; simp [List.getD, List.getElem?_eq_getElem hi]
  have a3 : readD f.1 ((bloL f s)[i]) = (nowD f.1 ((bloL f s)[i]).toNat, 0) := by
    unfold readD
    rw [if_neg (by rw [chk_ok (okFs_disk h0).1]; decide), if_neg (by omega)]
  refine ⟨a1, a2, ?_, ?_⟩
  · unfold getE; rw [if_neg (by rw [fsE_of h0]; decide), if_neg (by rw [a1]; decide), a2, a3]
  · unfold getL; rw [if_neg (by rw [fsE_of h0]; decide), if_neg (by rw [a1]; decide), a2, a3]
theorem bloL_len {f : Fsd} {s : List UInt8} (h : sizeE f s = 0) : (bloL f s).length ≤ 20000000 := by
  obtain ⟨h0, l, hl⟩ := size_there h
  rw [(file_in h0 hl).2.2.2.1]
  have h1 : l.length ≤ 4096 ∧ ∀ x ∈ l, 0 ≤ x.1 ∧ 1 ≤ x.2 ∧ x.1 + x.2 ≤ 4096 := chkX_rng (ext_chk (okFs_may h0).2.2.1 (mem_sub hl))
  have : ∀ (l : List Ex), (∀ x ∈ l, 0 ≤ x.1 ∧ 1 ≤ x.2 ∧ x.1 + x.2 ≤ 4096) → (blocksX l).length ≤ 4096 * l.length := by
    intro l
    induction l with
    | nil => intro _; simp [blocksX]
    | cons x l ih =>
      intro hx
      have a := ih (fun y hy => hx y (by simp [hy]))
      have b := hx x (by simp)
      unfold blocksX at *
      rw [List.flatMap_cons, List.length_append, List.length_cons]
      have c : (blkX x x.2.toNat).length = x.2.toNat := by simp [blkX]
      omega
  have := this l h1.2
  have e : (s, l).2 = l := rfl
  rw [e]
  omega
theorem now_len {d : Dk} {n : Nat} (h : okD d = true) (hn : n < mny d) : (nowD d n).length = 128 := by
  unfold nowD
  have h1 := (okD_iff d).1 h
  cases e : lastP (n : Int) d.2.1 with
  | some b =>
    have : ∀ (l : List Pu), (∀ p ∈ l, putE (mny d) p = 0) → ∀ b, lastP (n : Int) l = some b → b.length = 128 := by
      intro l
      induction l with
      | nil => intro _ b hb; cases hb
      | cons p l ih =>
        intro hp b hb
        unfold lastP at hb
        cases e2 : lastP (n : Int) l with
        | some b' => rw [e2] at hb; cases hb; exact ih (fun q hq => hp q (List.mem_cons_of_mem _ hq)) _ e2
        | none =>
          rw [e2] at hb
          simp only at hb
          split at hb
          · cases hb; exact (putE_ok (hp p (List.mem_cons_self ..))).2.2
          · cases hb
    exact this _ h1.2.2.2.2.2.1 b e
  | none =>
    show (blk d.1 n).length = 128
    unfold blk
    rw [List.length_take, List.length_drop, okD_len h]
    omega
/-- The contents are the same where the blocks are. -/
theorem cont_same {f g : Fsd} {s : List UInt8} (h1 : sizeE f s = 0) (h2 : sizeE g s = 0) (hl : bloL g s = bloL f s) (hb : ∀ n ∈ bloL f s, nowD g.1 n.toNat = nowD f.1 n.toNat) : contF f s = contF g s := by
  unfold contF
  rw [if_neg (by rw [h1]; decide), if_neg (by rw [h2]; decide), hl]
  have : ∀ (l : List Int), (∀ n ∈ l, nowD g.1 n.toNat = nowD f.1 n.toNat) → (l.flatMap fun n => nowD f.1 n.toNat) = l.flatMap fun n => nowD g.1 n.toNat := by
    intro l
    induction l with
    | nil => intro _; rfl
    | cons a l ih => intro h; rw [List.flatMap_cons, List.flatMap_cons, h a (List.mem_cons_self ..), ih (fun n hn => h n (List.mem_cons_of_mem _ hn))]
  exact this _ hb
end Go.Proofs.YtnigdbhjaoeblaaGreat
namespace Go.Proofs.YtnigdbhjaoeblaaGreat
open Go.RowKit
set_option linter.unusedVariables false
set_option linter.unusedSimpArgs false

set_option maxHeartbeats 1000000 in
set_option maxRecDepth 100000 in
theorem all6_any (x : UInt8) (w : World) :
    Calls Tryz.prog 24 #[.int .u8 x.toNat] w fun e w' => ∃ v, e = .returned v ∧ OwB w' w.heap.size v (List.replicate 128 x) ∧ Below w.heap.size w w' := by
  obtain ⟨i0, hi, hz0, hz1, hz2⟩ := info_parts Tryz.infoB
  obtain ⟨w2, hmake, hown2, hg2⟩ := run_make_full (P := Tryz.prog) w w.heap.size 23 5 i0 _ 1 Tryz.underlying23 hi hz0 hz1 .i64 .i64 128 (by rw [hz2]; decide) (by unfold maxLen; decide) (Nat.le_refl _)
  have hmake' : (Instr.makeSlice 23 (.int .i64 128) (.int .i64 128)).run Tryz.prog w = .ok (.slice (some ⟨w.heap.size, 0, none⟩) 128 128) w2 := hmake
  have hb2 : Below w.heap.size w w2 := (Below.refl _ _).grown hg2 (Nat.le_refl _) (fun k hk => by cases hk)
  have e : (madeCells (Value.int IntKind.u8 0).cells (128 * 1)).toList = List.replicate 128 (Value.int .u8 0) := by
    show (madeCells #[Value.int .u8 0] (128 * 1)).toList = _
    rw [toList_madeCells_one]
  rw [e] at hown2
  have HO := hide hown2
  clear hi hz0 hz1 hz2 hown2 hg2 hmake e
  go_enter Tryz.func24, Tryz.ntmps24
  go_wp2
  clear hmake'
  go_loopw [4] (fun i wr => ∃ k : Nat, k ≤ 128 ∧ i = .int .i64 k ∧ Hid (wr.ownsRow w.heap.size 5 1 (.slice (some ⟨w.heap.size, 0, none⟩) 128 128) 128 (u8v (List.replicate k x) ++ List.replicate (128 - k) (Value.int .u8 0))) ∧ Below w.heap.size w wr) (fun i _ => 128 - (intOf i).toNat)
  case atStart => exact ⟨0, by omega, rfl, by show World.ownsRow _ _ _ _ _ _ _; simpa [u8v] using HO.out, hb2⟩
  case round =>
    obtain ⟨k, hk, rfl, ho, hbel⟩ := hrel
    by_cases hlt : k < 128
    · have hlt' : (k : Int) < 128 := by omega
      have hlen := ho.out.1
      obtain ⟨y0, e0⟩ : ∃ y, (u8v (List.replicate k x) ++ List.replicate (128 - k) (Value.int .u8 0))[k]? = some y := ⟨_, List.getElem?_eq_getElem (by rw [hlen]; omega)⟩
      have c0 : wr.cell? ⟨w.heap.size, k, none⟩ = some y0 := (ho.out.cellAt _ (by omega)).trans e0
      have f0 := fun j => ho.out.frozenAt j
      obtain ⟨s1, g1⟩ := ho.out.stored k (.int .u8 x.toNat)
      rw [replicate_set k 128 hlt] at s1
      have HS := hide s1
      have HG := hide g1
      clear s1 g1 e0 hlen
      go_wp2
      go_roundw
      case rel => exact ⟨k + 1, by omega, by go_num, HS.out, hbel.grown HG.out hbel.size (fun j hj => by cases hj; exact Nat.le_refl _)⟩
      case measure => simp [intOf] <;> omega
    · obtain rfl : k = 128 := by omega
      go_wp2
      go_ret
      refine ⟨_, rfl, ?_, hbel⟩
      have := ho.out
      show World.ownsRow _ _ _ _ _ _ _
      rw [List.length_replicate]
      simpa using this

theorem wf_ex (d : Dk) (g : Nat) (hg : g < 4294967296) (D K : List Fl) (hD : D = [] ∨ D = [([97], [(34, 3)])]) (hK : K = [] ∨ K = [([97], [(34, 3)])]) : WfX (d, g, D, K) := by
  have h : ∀ L : List Fl, (L = [] ∨ L = [([97], [(34, 3)])]) → wfFs L := by
    intro L hL
    rcases hL with rfl | rfl
    · intro f hf; cases hf
    · intro f hf x hx
      rw [List.mem_singleton.1 hf] at hx
      have hx : x ∈ [((34, 3) : Ex)] := hx
      rw [List.mem_singleton.1 hx]
      unfold wfX
      decide
  exact ⟨hg, h D hD, h K hK⟩
theorem OwFs.bx {w : World} {base : Nat} {v : Value} {f : Fsd} (h : OwFs w base v f) : ∃ x : FsV, v = x.val ∧ RdX w x f ∧ OwFs w base x.val f := by
  obtain ⟨x, e, hx⟩ := h.form
  exact ⟨x, e, hx, e ▸ h⟩

theorem FsV.ext_val {x y : FsV} (h : x.val = y.val) : x = y := by
  obtain ⟨a1, n1, c1, a2, n2, c2, a3, n3, c3, g, a4, n4, c4, a5, n5, c5⟩ := x
  obtain ⟨b1, m1, d1, b2, m2, d2, b3, m3, d3, g', b4, m4, d4, b5, m5, d5⟩ := y
  injection h with h
  have e0 := congrArg (fun z : Array Value => z[0]!) h
  have e1 := congrArg (fun z : Array Value => z[1]!) h
  have e2 := congrArg (fun z : Array Value => z[2]!) h
  have e3 := congrArg (fun z : Array Value => z[3]!) h
  have e4 := congrArg (fun z : Array Value => z[4]!) h
  have e5 := congrArg (fun z : Array Value => z[5]!) h
  simp at e0 e1 e2 e3 e4 e5
  obtain ⟨rfl, rfl, rfl⟩ := e0
  obtain ⟨rfl, rfl, rfl⟩ := e1
  obtain ⟨rfl, rfl, rfl⟩ := e2
  have e3 : g = g' := by omega
  subst e3
  obtain ⟨rfl, rfl, rfl⟩ := e4
  obtain ⟨rfl, rfl, rfl⟩ := e5
  rfl

theorem FsB.of {w : World} {q : Nat} {x : FsV} (h : FsAt w q x) : FsB w q := ⟨_, _, _, _, _, _, h⟩
/-- A variable is written over. -/
theorem OwFs.assign {w w0 : World} {base q : Nat} {y : FsV} {f : Fsd} (h : OwFs w base y.val f) (hq : FsB w q) (hb : Below w0.heap.size w0 w) (hq0 : w0.heap.size ≤ q) :
    OwFs (set6 w q y) base y.val f ∧ Below w0.heap.size w0 (set6 w q y) ∧ FsAt (set6 w q y) q y ∧ RdX (set6 w q y) y f ∧ w.grownBy (set6 w q y) (some q) := by
  obtain ⟨h1, h2, h3⟩ := h.stored hq hb hq0
  refine ⟨h1, h2, h3, ?_, (hq.put y).2⟩
  obtain ⟨x', ex', hx'⟩ := h1.form
  have e : x' = y := FsV.ext_val ex'.symm
  subst e
  exact hx'

set_option maxHeartbeats 4000000 in
set_option maxRecDepth 100000 in
theorem one6_any (w : World) :
    Calls Tryz.prog 14 #[] w fun e w' => ∃ v x, Exm x ∧ e = .returned (.tuple #[v, .bool true]) ∧ OwFs w' w.heap.size v (ex2 x) ∧ Below w.heap.size w w' := by
  obtain ⟨x0, hE1, hE0⟩ := ex0_is
  have HE := hide hE0
  obtain ⟨w0, ew⟩ : ∃ w0, w.alloc (.cells #[.slice none 0 0, .slice none 0 0, .slice none 0 0, .int .u32 0, .slice none 0 0, .slice none 0 0] 33) = w0 := ⟨_, rfl⟩
  have hb0 : Below w.heap.size w w0 := by rw [← ew]; exact (Below.refl _ _).alloc (Nat.le_refl _) _
  have HFB_w0 := hide (show FsB w0 w.heap.size by rw [← ew]; exact FsB.new w)
  have HB_w0 := hide hb0
  have hfm := format_fs 64 w0
  rw [hE1] at hfm
  clear hb0 hE1 hE0
  go_enter Tryz.func14, Tryz.ntmps14
  go_wp2_with fail
  try rw [ew]
  refine hfm.mono ?_
  rintro e w1 ⟨v1, rfl, ho1, hb1⟩
  have HFB_w1 := hide (HFB_w0.out.carry hb1)
  have HB_w1 := hide (show Below w.heap.size w w1 from HB_w0.out.trans (hb1.mono HB_w0.out.size))
  have HLT := hide HFB_w1.out.lt
  obtain ⟨x1, e9, hx9, ho9⟩ := ho1.bx
  subst e9
  obtain ⟨w2, ew2⟩ : ∃ wq, w1.alloc (.cells x1.cs 33) = wq := ⟨_, rfl⟩
  have hbw2 : Below w1.heap.size w1 w2 := by rw [← ew2]; exact (Below.refl _ _).alloc (Nat.le_refl _) _
  have HF_w2 := hide (show FsAt w2 w1.heap.size x1 by rw [← ew2]; exact Bq.new _ _ _)
  unfold FsV.cs at ew2
  unfold FsV.val
  have HFB_w2 := hide (HFB_w1.out.carry hbw2)
  have HB_w2 := hide (show Below w.heap.size w w2 from HB_w1.out.trans (hbw2.mono HB_w1.out.size))
  have HO_w2 := hide (ho9.carry hbw2)
  have HR_w2 := hide (hx9.carry hbw2)
  have hcr := create_fs x1 (ex0 x0) [97] 3 w2 HR_w2.out (wf_ex _ _ (by decide) _ _ (.inl rfl) (.inl rfl))
  rw [ex1_is HE.out] at hcr
  obtain ⟨k0, k1, k2, k3, k4, k5⟩ := fs_cells HF_w2.out
  clear hfm ho1 hb1 ho9 hx9 ew HO_w2 HFB_w0 HB_w0 HFB_w1 HB_w1 hbw2
  go_wp2_with fail
  try rw [ew2]
  refine hcr.mono ?_
  rintro e w3 ⟨v3, rfl, ho3, hb3⟩
  have HFB_w3 := hide (HFB_w2.out.carry hb3)
  have HF_w3 := hide (HF_w2.out.carry hb3)
  have HB_w3 := hide (show Below w.heap.size w w3 from HB_w2.out.trans (hb3.mono HB_w2.out.size))
  obtain ⟨x2, e9, hx9, ho9⟩ := ho3.bx
  subst e9
  have hst := ho9.assign (FsB.of HF_w3.out) HB_w3.out (Nat.le_of_lt HLT.out)
  obtain ⟨⟨d0, e0⟩, ⟨d1, e1⟩, ⟨d2, e2⟩, ⟨d3, e3⟩, ⟨d4, e4⟩, ⟨d5, e5⟩, ff⟩ := (FsB.of HF_w3.out).cells
  have f0 := ff 0
  have f1 := ff 1
  have f2 := ff 2
  have f3 := ff 3
  have f4 := ff 4
  have f5 := ff 5
  obtain ⟨w4, ew4⟩ : ∃ w4, set6 w3 w1.heap.size x2 = w4 := ⟨_, rfl⟩
  rw [ew4] at hst
  have HO_w4 := hide hst.1
  have HB_w4 := hide hst.2.1
  have HF_w4 := hide hst.2.2.1
  have HR_w4 := hide hst.2.2.2.1
  have HFB_w4 := hide (HFB_w3.out.grown hst.2.2.2.2 (by have := HLT.out; omega))
  unfold set6 at ew4
  clear hcr ho3 hb3 ho9 hx9 hst ff ew2 k0 k1 k2 k3 k4 k5 HFB_w2 HB_w2 HF_w2 HFB_w3 HB_w3 HF_w3 HR_w2
  unfold FsV.val
  go_wp2_with fail
  try rw [ew4]
  clear ew4 e0 e1 e2 e3 e4 e5 f0 f1 f2 f3 f4 f5
  have hK : Keeps (fun wx => FsAt wx w1.heap.size x2 ∧ Below w.heap.size w wx) := fun w1 w2 h hb => ⟨h.1.carry hb, h.2.trans (hb.mono h.2.size)⟩
  have hS0 : (fun wx => FsAt wx w1.heap.size x2 ∧ Below w.heap.size w wx) w4 := ⟨HF_w4.out, HB_w4.out⟩
  have hdr : Below w4.heap.size w4 w4.drew := (Below.refl _ _).drew
  have HFB_wd := hide (HFB_w4.out.carry hdr)
  have HR_wd := hide (HR_w4.out.carry hdr)
  refine regL_begin hK 6 (by kernel_rfl) hS0 ?_
  intro hS
  clear hdr hS0
  generalize w4.drew = wd at *
  refine regL_take (i := 0) (v := ?qav0) rfl (by kernel_rfl) (by kernel_rfl) (by kernel_rfl) rfl (by kernel_rfl) (by kernel_rfl) (by rfl) ?qay0 hS ?qar0
  case qay0 => (rintro wx ⟨x1, x2⟩; (obtain ⟨k0, k1, k2, k3, k4, k5⟩ := fs_cells x1); go_simp; all_goals (with_reducible rfl))
  try simp only [Act.put, List.setIfInBounds_toArray, List.set_cons_zero, List.set_cons_succ]
  refine regL_callg (i := 1) (R := fun v wx => ∃ a n c, v = .slice a n c ∧ OwB wx wd.heap.size (.slice a n c) ones6 ∧ Below wd.heap.size wd wx) rfl (by kernel_rfl) (by rfl) (by go_simp) ((all6_any 1 wd).mono fun e wy ⟨v, h1, h2, h3⟩ => by
      obtain ⟨a, c, ev⟩ := h2.form
      subst ev
      exact ⟨_, h1, a, _, c, rfl, h2, h3⟩) ?_
  rintro v17 w17 ⟨a17, n17, c17, rfl, ho17, hb17⟩
  have hS17 := hK _ _ hS hb17
  refine ⟨hS17, ?_⟩
  have HFB_w17 := hide (HFB_wd.out.carry hb17)
  have HR_w17 := hide (HR_wd.out.carry hb17)
  clear hS
  have hS := hS17
  try simp only [Act.put, List.setIfInBounds_toArray, List.set_cons_zero, List.set_cons_succ]
  have hpu := put_fs x2 (ex1 x0) [97] 2 a17 n17 c17 ones6 w17 HR_w17.out (wf_ex _ _ (by decide) _ _ (.inr rfl) (.inl rfl)) ho17.rd
  rw [ex2_is HE.out] at hpu
  refine regL_callg (i := 2) (R := fun v wx => ∃ y : FsV, v = .tuple #[y.val, .int .i64 0] ∧ OwFs wx w.heap.size y.val (ex2 x0) ∧ Below w17.heap.size w17 wx) rfl (by kernel_rfl) (by rfl) (by go_simp; rfl) (hpu.mono fun e wy ⟨v, h1, h2, h3⟩ => by
      obtain ⟨y, ey, _, h4⟩ := h2.bx
      subst ey
      exact ⟨_, h1, y, rfl, h4.mono (hS.2.size), h3⟩) ?_
  clear hpu
  rintro v18 w18 ⟨x9, rfl, ho18, hb18⟩
  have hS18 := hK _ _ hS hb18
  refine ⟨hS18, ?_⟩
  have HFB_w18 := hide (HFB_w17.out.carry hb18)
  clear hS
  have hS := hS18
  try simp only [Act.put, List.setIfInBounds_toArray, List.set_cons_zero, List.set_cons_succ]
  refine regL_take (i := 3) (v := ?qav3) rfl (by kernel_rfl) (by kernel_rfl) (by kernel_rfl) rfl (by kernel_rfl) (by kernel_rfl) (by rfl) ?qay3 hS ?qar3
  case qay3 => (rintro wx ⟨x1, x2⟩; (obtain ⟨k0, k1, k2, k3, k4, k5⟩ := fs_cells x1); go_simp; all_goals (with_reducible rfl))
  try simp only [Act.put, List.setIfInBounds_toArray, List.set_cons_zero, List.set_cons_succ]
  refine regL_take (i := 4) (v := ?qav4) rfl (by kernel_rfl) (by kernel_rfl) (by kernel_rfl) rfl (by kernel_rfl) (by kernel_rfl) (by rfl) ?qay4 hS ?qar4
  case qay4 => (rintro wx ⟨x1, x2⟩; (obtain ⟨k0, k1, k2, k3, k4, k5⟩ := fs_cells x1); go_simp; all_goals (with_reducible rfl))
  try simp only [Act.put, List.setIfInBounds_toArray, List.set_cons_zero, List.set_cons_succ]
  refine regL_takeP (i := 5) (v := ?qav5) rfl (by kernel_rfl) (by kernel_rfl) (by kernel_rfl) rfl (by rfl) ?qay5 (fun _ => hS) ?qar5
  case qay5 => (intro wx; go_simp; all_goals (with_reducible rfl))
  try simp only [Act.put, List.setIfInBounds_toArray, List.set_cons_zero, List.set_cons_succ]
  obtain ⟨⟨d0, e0⟩, ⟨d1, e1⟩, ⟨d2, e2⟩, ⟨d3, e3⟩, ⟨d4, e4⟩, ⟨d5, e5⟩, ff⟩ := (FsB.of hS.1).cells
  have f0 := ff 0
  have f1 := ff 1
  have f2 := ff 2
  have f3 := ff 3
  have f4 := ff 4
  have f5 := ff 5
  have hst := ho18.assign (FsB.of hS.1) hS.2 (Nat.le_of_lt HLT.out)
  obtain ⟨w9, hw9⟩ : ∃ w9, w9 = set6 w18 w1.heap.size x9 := ⟨_, rfl⟩
  rw [← hw9] at hst
  have HFin := hide hst
  have HFB_w9 := hide (HFB_w18.out.grown hst.2.2.2.2 (by have := HLT.out; omega))
  unfold set6 at hw9
  refine regL_last (i := 6) (w' := w9) rfl (by kernel_rfl) (by kernel_rfl) (by rfl) (by rw [hw9]; go_simp) ?_
  clear hst hw9 ff e0 e1 e2 e3 e4 e5 f0 f1 f2 f3 f4 f5 ho18 hb18 ho17 hb17
  try simp only [Act.put, List.setIfInBounds_toArray, List.set_cons_zero, List.set_cons_succ]
  refine regL_run (i := 7) (v := .int .i64 0) (w' := w9) rfl (by kernel_rfl) (by rfl) (by go_simp) (fun h => absurd h (by decide)) ?_
  try simp only [Act.put, List.setIfInBounds_toArray, List.set_cons_zero, List.set_cons_succ]
  refine wpAnyL_done (by kernel_rfl) ?_ _
  refine NoPanic.normal ?_

  try simp only [Act.put, List.setIfInBounds_toArray, List.set_cons_zero, List.set_cons_succ]
  obtain ⟨k0, k1, k2, k3, k4, k5⟩ := fs_cells HFin.out.2.2.1
  obtain ⟨⟨d0, e0⟩, ⟨d1, e1⟩, ⟨d2, e2⟩, ⟨d3, e3⟩, ⟨d4, e4⟩, ⟨d5, e5⟩, ff⟩ := HFB_w9.out.cells
  have f0 := ff 0
  have f1 := ff 1
  have f2 := ff 2
  have f3 := ff 3
  have f4 := ff 4
  have f5 := ff 5
  have hs8 := HFin.out.1.assign HFB_w9.out HFin.out.2.1 (Nat.le_refl _)
  obtain ⟨w8, hw8⟩ : ∃ w8, w8 = set6 w9 w.heap.size x9 := ⟨_, rfl⟩
  rw [← hw8] at hs8
  have HST := hide hs8
  clear ff hs8 hS hK
  go_wp2
  unfold set6 at hw8
  rw [← hw8]
  obtain ⟨z0, z1, z2, z3, z4, z5⟩ := fs_cells HST.out.2.2.1
  clear e0 e1 e2 e3 e4 e5 f0 f1 f2 f3 f4 f5 hw8 k0 k1 k2 k3 k4 k5
  try simp only [Exit.inBlock, Exit.then]
  refine bodyPost_ret (v := .tuple #[x9.val, .bool true]) ?_ rfl ⟨_, x0, HE.out, rfl, HST.out.1.mono (Nat.le_refl _), HST.out.2.1⟩
  simp [results, Tryz.results14, go_sem, *]

end Go.Proofs.YtnigdbhjaoeblaaGreat

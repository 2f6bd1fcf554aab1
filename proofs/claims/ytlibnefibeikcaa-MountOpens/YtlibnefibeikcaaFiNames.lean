/-
  The chapter's examples of layer 5: what the statements' own 'of', 'one', 'two', 'alive' answer.
-/
import Derived.Test.YtlibnefibeikcaaFiByt
import Derived.Lib.AppendZerosOnto
import Derived.Lib.Overlaps
import Derived.Test.YtlibnefibeikcaaSmall
namespace Go.Proofs.Ytlibnefibeikcaa
open Go.RowKit
set_option linter.unusedVariables false
set_option linter.unusedSimpArgs false

set_option maxHeartbeats 2000000 in
theorem fmay_any (a : Option Addr) (n c : Nat) (fs : List Fl) (B : Int) (w : World) (hrd : RdF w (.slice a n c) fs) (hn : n = fs.length) (hwf : wfFs fs) :
    Calls Try.prog 49 #[.slice a n c, .int .i64 B] w fun e w' => e = .returned (.bool (decide (mayF fs B))) ∧ Below w.heap.size w w' := by
  have hm : n ≤ maxLen := hn ▸ hrd.len_le
  unfold maxLen at hm
  by_cases g1 : 40 < n
  · have HM := hide (show decide (mayF fs B) = false by simp only [decide_eq_false_iff_not]; intro h; have := h.1; omega)
    have g1' : decide ((n : Int) ≤ 40) = false := by simpa using (by omega : ¬ (n : Int) ≤ 40)
    clear hrd hn
    go_enter Try.func49, Try.ntmps49
    go_wp2
    all_goals first | (go_ret; exact ⟨by rw [HM.out]; first | rfl | simp [g1'], Below.refl _ _⟩) | (exfalso; omega)
  have g1' : (n : Int) ≤ 40 := by omega
  have hl : fs.length ≤ 40 := by omega
  have heach := eachMayBe_any a n c fs w hrd hn
  by_cases g2 : eachP fs
  · have g2' : decide (eachP fs) = true := by simpa using g2
    rw [g2'] at heach
    clear g2'
    have hu := each_used g2 hl
    have HEX := hide (fun w1 (hb1 : Below w.heap.size w w1) => extents_any a n c fs w1 (hrd.carry hb1) hn (by omega))
    by_cases g3 : extP (usedF fs) B
    · have hok := okB_may hl g2 g3
      have HFI := hide (fun w1 (hb1 : Below w.heap.size w w1) => fits_any a n c fs w1 (hrd.carry hb1) hn hok)
      have HM := hide (show decide (mayF fs B) = decide ((bytF fs).length ≤ 2048) by
        rw [decide_eq_decide]
        exact ⟨fun h => h.2.2.2, fun h => ⟨hl, g2, g3, h⟩⟩)
      have HG3 := hide g3
      have HU := hide (wfFs_used hwf)
      clear hrd hn hwf g2 hu hok g3 hl
      go_enter Try.func49, Try.ntmps49
      go_wp2_with fail
      refine heach.mono ?_
      rintro e w1 ⟨rfl, hb1⟩
      clear heach
      go_wp2_with fail
      refine (HEX.out _ hb1).mono ?_
      rintro e w2 ⟨v2, rfl, ho2, hb2⟩
      have hb2' : Below w.heap.size w w2 := hb1.trans (hb2.mono hb1.size)
      obtain ⟨a2, c2, rfl⟩ := ho2.form
      obtain ⟨m2, hm2⟩ : ∃ m2, m2 = (usedF fs).length := ⟨_, rfl⟩
      rw [← hm2] at ho2 ⊢
      have hext := extMay_any a2 m2 c2 (usedF fs) B w2 ho2.rd hm2 HU.out
      rw [show decide (extP (usedF fs) B) = true by simpa using HG3.out] at hext
      clear hm2 ho2 hb1 hb2
      go_wp2_with fail
      refine hext.mono ?_
      rintro e w3 ⟨rfl, hb3⟩
      have hb3' : Below w.heap.size w w3 := hb2'.trans (hb3.mono hb2'.size)
      clear hext hb3 hb2'
      go_wp2_with fail
      refine (HFI.out _ hb3').mono ?_
      rintro e w4 ⟨rfl, hb4⟩
      have hb4' : Below w.heap.size w w4 := hb3'.trans (hb4.mono hb3'.size)
      clear hb4 hb3'
      obtain ⟨r, hr⟩ : ∃ r, r = decide ((bytF fs).length ≤ 2048) := ⟨_, rfl⟩
      rw [← hr] at HM ⊢
      clear hr
      go_wp2
      go_ret
      exact ⟨by rw [HM.out]; rfl, hb4'⟩
    · have HM := hide (show decide (mayF fs B) = false by simp only [decide_eq_false_iff_not]; exact fun h => g3 h.2.2.1)
      have HG3 := hide g3
      have HU := hide (wfFs_used hwf)
      clear hrd hn hwf g2 hu g3 hl
      go_enter Try.func49, Try.ntmps49
      go_wp2_with fail
      refine heach.mono ?_
      rintro e w1 ⟨rfl, hb1⟩
      clear heach
      go_wp2_with fail
      refine (HEX.out _ hb1).mono ?_
      rintro e w2 ⟨v2, rfl, ho2, hb2⟩
      have hb2' : Below w.heap.size w w2 := hb1.trans (hb2.mono hb1.size)
      obtain ⟨a2, c2, rfl⟩ := ho2.form
      obtain ⟨m2, hm2⟩ : ∃ m2, m2 = (usedF fs).length := ⟨_, rfl⟩
      rw [← hm2] at ho2 ⊢
      have hext := extMay_any a2 m2 c2 (usedF fs) B w2 ho2.rd hm2 HU.out
      rw [show decide (extP (usedF fs) B) = false by simpa using HG3.out] at hext
      clear hm2 ho2 hb1 hb2
      go_wp2_with fail
      refine hext.mono ?_
      rintro e w3 ⟨rfl, hb3⟩
      have hb3' : Below w.heap.size w w3 := hb2'.trans (hb3.mono hb2'.size)
      clear hext hb3 hb2'
      go_wp2
      go_ret
      exact ⟨by rw [HM.out]; rfl, hb3'⟩
  · have g2' : decide (eachP fs) = false := by simpa using g2
    rw [g2'] at heach
    have HM := hide (show decide (mayF fs B) = false by simp only [decide_eq_false_iff_not]; exact fun h => g2 h.2.1)
    clear hrd hn g2 g2' hl
    go_enter Try.func49, Try.ntmps49
    go_wp2_with fail
    refine heach.mono ?_
    rintro e w1 ⟨rfl, hb1⟩
    go_wp2
    go_ret
    exact ⟨by rw [HM.out]; rfl, hb1⟩

end Go.Proofs.Ytlibnefibeikcaa
namespace Go.Proofs.Ytlibnefibeikcaa
open Go.RowKit
set_option linter.unusedVariables false
set_option linter.unusedSimpArgs false

def vAt (w : World) (a : Addr) : Value := (w.cell? a).getD undef
/-- A block of a file, and another one. -/
def Two (p q : Nat) (s : ByteArray) (x : Value) (w : World) : Prop := p ≠ q ∧ w.heap[p]? = some (.cells #[.string s, x] 43 (0, 0)) ∧ ∃ y z, w.heap[q]? = some (.cells #[y, z] 43 (0, 0))
theorem Two.carry {p q : Nat} {s : ByteArray} {x : Value} {w w' : World} (h : Two p q s x w) (hb : Below w.heap.size w w') : Two p q s x w' := by
  obtain ⟨h0, h1, y, z, h2⟩ := h
  exact ⟨h0, (hb.block p (Array.getElem?_eq_some_iff.1 h1).1).trans h1, y, z, (hb.block q (Array.getElem?_eq_some_iff.1 h2).1).trans h2⟩
theorem Two.c0 {p q : Nat} {s : ByteArray} {x : Value} (w : World) (h : Two p q s x w) : w.cell? ⟨p, 0, none⟩ = some (.string s) := by rw [cell_of_row w p 0 _ _ (0, 0) h.2.1]; rfl
theorem Two.c1 {p q : Nat} {s : ByteArray} {x : Value} (w : World) (h : Two p q s x w) : w.cell? ⟨p, 1, none⟩ = some x := by rw [cell_of_row w p 1 _ _ (0, 0) h.2.1]; rfl
theorem Two.e0 {p q : Nat} {s : ByteArray} {x : Value} (w : World) (h : Two p q s x w) : w.cell? ⟨q, 0, none⟩ = some (vAt w ⟨q, 0, none⟩) := by obtain ⟨_, _, y, z, h⟩ := h; unfold vAt; rw [cell_of_row w q 0 _ _ (0, 0) h]; rfl
theorem Two.e1 {p q : Nat} {s : ByteArray} {x : Value} (w : World) (h : Two p q s x w) : w.cell? ⟨q, 1, none⟩ = some (vAt w ⟨q, 1, none⟩) := by obtain ⟨_, _, y, z, h⟩ := h; unfold vAt; rw [cell_of_row w q 1 _ _ (0, 0) h]; rfl
theorem Two.fz {p q : Nat} {s : ByteArray} {x : Value} (w : World) (h : Two p q s x w) (i : Nat) : w.frozen? ⟨q, i, none⟩ = false := by obtain ⟨_, _, y, z, h⟩ := h; exact frozen_of_row w q i _ _ h
/-- .. behind a store into the other one. -/
theorem Two.put {p q : Nat} {s : ByteArray} {x : Value} {w : World} (h : Two p q s x w) (u v : Value) : Two p q s x ((w.setCell ⟨q, 0, none⟩ u).setCell ⟨q, 1, none⟩ v) ∧ ((w.setCell ⟨q, 0, none⟩ u).setCell ⟨q, 1, none⟩ v).heap[q]? = some (.cells #[u, v] 43 (0, 0)) := by
  obtain ⟨h0, h1, y, z, h2⟩ := h
  have a1 := heap_setCell_same w q 0 #[y, z] 43 u h2
  have a2 := heap_setCell_same (w.setCell ⟨q, 0, none⟩ u) q 1 _ 43 v a1
  have b1 := heap_setCell_other w ⟨q, 0, none⟩ p u h0
  have b2 := heap_setCell_other (w.setCell ⟨q, 0, none⟩ u) ⟨q, 1, none⟩ p v h0
  have a3 : ((w.setCell ⟨q, 0, none⟩ u).setCell ⟨q, 1, none⟩ v).heap[q]? = some (.cells #[u, v] 43 (0, 0)) := by rw [a2]; rfl
  exact ⟨⟨h0, (b2.trans b1).trans h1, u, v, a3⟩, a3⟩
theorem grown_two {w : World} {q : Nat} (u v : Value) : w.grownBy ((w.setCell ⟨q, 0, none⟩ u).setCell ⟨q, 1, none⟩ v) (some q) := grown_transE (grown_setCellE w ⟨q, 0, none⟩ u) (grown_setCellE _ ⟨q, 1, none⟩ v)

theorem app_fileF {w : World} {base : Nat} {v : Value} {fs : List Fl} (h : OwF w base v fs) (hb : base ≤ w.heap.size) (hl : fs.length ≤ 1000000) (s : List UInt8) (x : Value) (l : List Ex) (hx : OwE w base x l) :
    ∃ g c w', (Builtin.append_ #[30, 30] 30 #[v, .slice (some ⟨w.heap.size, 0, none⟩) 1 1]).run Try.prog (w.alloc (.cells #[.string (bs s), x] 43)) = .ok (.slice (some ⟨g, 0, none⟩) (fs.length + 1) c) w' ∧
      OwF w' base (.slice (some ⟨g, 0, none⟩) (fs.length + 1) c) (fs ++ [(s, l)]) ∧ Below base w w' := by
  obtain ⟨ps, rfl, h⟩ := h
  rw [List.length_map] at hl
  obtain ⟨g, c, w', hrun, ho, hb'⟩ := app_file h hb hl s x l hx
  rw [List.length_map]
  exact ⟨g, c, w', hrun, ⟨ps ++ [((s, l), x)], by simp, ho⟩, hb'⟩

end Go.Proofs.Ytlibnefibeikcaa
namespace Go.Proofs.Ytlibnefibeikcaa
open Go.RowKit
set_option linter.unusedVariables false
set_option linter.unusedSimpArgs false

theorem cellsP_set : ∀ (ps : List (Fl × Value)) (i : Nat) (q : Fl × Value), i < ps.length → cellsP (ps.set i q) = ((cellsP ps).set (i * 2) (.string (bs q.1.1))).set (i * 2 + 1) q.2
  | p :: ps, 0, q, _ => by simp [cellsP]
  | p :: ps, i + 1, q, h => by
    have := cellsP_set ps i q (by simpa using h)
    rw [List.set_cons_succ, cellsP_cons, cellsP_cons, this, show (i + 1) * 2 = i * 2 + 1 + 1 by omega]
    rfl
theorem OwP.block {w : World} {base g n c : Nat} {ps : List (Fl × Value)} (h : OwP w base (.slice (some ⟨g, 0, none⟩) n c) ps) :
    ∃ cur : Array Value, n = ps.length ∧ base ≤ g ∧ w.heap[g]? = some (.cells cur 43 (0, 0)) ∧ n ≤ c ∧ c ≤ maxLen ∧ cur.size = c * 2 ∧ cur.toList.take (n * 2) = cellsP ps := by
  rcases h.1.2 with ⟨e, _⟩ | ⟨g', cap, cur, e, hb, hg, hn, hm, hsz, htake⟩
  · cases e
  · cases e; exact ⟨cur, rfl, hb, hg, hn, hm, hsz, htake⟩
theorem OwP.stored {w : World} {base g n c : Nat} {ps : List (Fl × Value)} (h : OwP w base (.slice (some ⟨g, 0, none⟩) n c) ps) (i : Nat) (hi : i < ps.length) (q : Fl × Value) (hq : OwE w base q.2 q.1.2) :
    OwP ((w.setCell ⟨g, i * 2, none⟩ (.string (bs q.1.1))).setCell ⟨g, i * 2 + 1, none⟩ q.2) base (.slice (some ⟨g, 0, none⟩) n c) (ps.set i q) ∧
      w.grownBy ((w.setCell ⟨g, i * 2, none⟩ (.string (bs q.1.1))).setCell ⟨g, i * 2 + 1, none⟩ q.2) (some g) := by
  obtain ⟨cur, rfl, hb, hg, _⟩ := h.block
  have h1 := World.ownsRow.stored h.1 (i * 2) (.string (bs q.1.1))
  have h2 := World.ownsRow.stored h1.1 (i * 2 + 1) q.2
  have hgr := grown_transE h1.2 h2.2
  refine ⟨⟨?_, ?_⟩, hgr⟩
  · rw [cellsP_set ps i q hi, List.length_set]; exact h2.1
  · intro p hp
    have hpo : OwE w base p.2 p.1.2 := by
      rcases List.mem_or_eq_of_mem_set hp with hp | rfl
      · exact h.2 p hp
      · exact hq
    exact World.ownsRow.kept hpo hgr (.inr (hpo.apartF hg))
theorem OwP.cells {w : World} {base g n c : Nat} {ps : List (Fl × Value)} (h : OwP w base (.slice (some ⟨g, 0, none⟩) n c) ps) (j : Nat) (hj : j < ps.length) :
    w.cell? ⟨g, j * 2, none⟩ = some (.string (bs (ps[j]).1.1)) ∧ w.cell? ⟨g, j * 2 + 1, none⟩ = some (ps[j]).2 := by
  obtain ⟨e1, e2⟩ := cellsP_get ps j hj
  have c1 := h.1.cells (g := g) rfl _ _ e1
  have c2 := h.1.cells (g := g) rfl _ _ e2
  rw [Addr.add_lit] at c1 c2
  exact ⟨by simpa using c1, by simpa [Nat.add_assoc] using c2⟩
theorem OwP.fz {w : World} {base g n c : Nat} {ps : List (Fl × Value)} (h : OwP w base (.slice (some ⟨g, 0, none⟩) n c) ps) (j : Nat) : w.frozen? ⟨g, j, none⟩ = false := by
  obtain ⟨cur, rfl, hb, hg, _⟩ := h.block
  exact frozen_of_row w g j _ _ hg
end Go.Proofs.Ytlibnefibeikcaa
namespace Go.Proofs.Ytlibnefibeikcaa
open Go.RowKit
set_option linter.unusedVariables false
set_option linter.unusedSimpArgs false

theorem chkF_may {fs : List Fl} {B : Int} (h : chkF fs B = 0) : blkP B ∧ mayF fs B := by
  unfold chkF at h
  split at h
  · cases h
  · rename_i h1
    split at h
    · rename_i h2; exact ⟨Decidable.of_not_not h1, h2⟩
    · cases h
theorem may_one {fs : List Fl} {B : Int} (h : mayF fs B) : ∀ f ∈ fs, 1 ≤ f.1.length ∧ f.1.length ≤ 16 ∧ 1 ≤ f.2.length ∧ f.2.length ≤ 64 := fun f hf => oneF_parts (h.2.1.1 f hf)
theorem may_le {fs : List Fl} {B : Int} (h : mayF fs B) : ∀ f ∈ fs, f.2.length ≤ 1000000 := fun f hf => by have := may_one h f hf; omega
end Go.Proofs.Ytlibnefibeikcaa
namespace Go.Proofs.Ytlibnefibeikcaa
open Go.RowKit
set_option linter.unusedVariables false
set_option linter.unusedSimpArgs false

theorem own_keptS {w w' : World} {base : Nat} {e : TypeId} {size : Nat} {v : Value} {n : Nat} {xs : List Value} {q : Nat} {cs : Array Value} {t : TypeId} {fr : Nat × Nat} (h : w.ownsRow base e size v n xs) (hg : w.grownBy w' (some q)) (hq : w.heap[q]? = some (.cells cs t fr)) (ht : t ≠ e) : w'.ownsRow base e size v n xs := by
  refine World.ownsRow.kept h hg (.inr ?_)
  intro e0
  rcases h.2 with ⟨rfl, _⟩ | ⟨g, cap, cur, rfl, _, hgc, _⟩
  · cases e0
  · cases e0; rw [hq] at hgc; cases hgc; exact ht rfl
theorem OwF.keptS {w w' : World} {base : Nat} {v : Value} {fs : List Fl} {q : Nat} {cs : Array Value} {t : TypeId} {fr : Nat × Nat} (h : OwF w base v fs) (hg : w.grownBy w' (some q)) (hq : w.heap[q]? = some (.cells cs t fr)) (h1 : t ≠ 43) (h2 : t ≠ 45) : OwF w' base v fs := by
  obtain ⟨ps, e, ho, hi⟩ := h
  exact ⟨ps, e, own_keptS ho hg hq h1, fun p hp => own_keptS (hi p hp) hg hq h2⟩
/-- A directory's cell. -/
def BlkD (w : World) (q : Nat) : Prop := ∃ y, w.heap[q]? = some (.cells #[y] 32 (0, 0))
theorem BlkD.carry {w w' : World} {q : Nat} (h : BlkD w q) (hb : Below w.heap.size w w') : BlkD w' q := by
  obtain ⟨y, h⟩ := h
  exact ⟨y, (hb.block q (Array.getElem?_eq_some_iff.1 h).1).trans h⟩
theorem BlkD.cell {w : World} {q : Nat} (h : BlkD w q) : w.cell? ⟨q, 0, none⟩ = some (vAt w ⟨q, 0, none⟩) := by obtain ⟨y, h⟩ := h; unfold vAt; rw [cell_of_row w q 0 _ _ (0, 0) h]; rfl
theorem BlkD.fz {w : World} {q : Nat} (h : BlkD w q) : w.frozen? ⟨q, 0, none⟩ = false := by obtain ⟨y, h⟩ := h; exact frozen_of_row w q 0 _ _ h
theorem BlkD.put {w : World} {q : Nat} (h : BlkD w q) (u : Value) : (w.setCell ⟨q, 0, none⟩ u).cell? ⟨q, 0, none⟩ = some u ∧ w.grownBy (w.setCell ⟨q, 0, none⟩ u) (some q) ∧ BlkD (w.setCell ⟨q, 0, none⟩ u) q := by
  obtain ⟨y, h⟩ := h
  have a1 : (w.setCell ⟨q, 0, none⟩ u).heap[q]? = some (.cells #[u] 32 (0, 0)) := by have := heap_setCell_same w q 0 #[y] 32 u h; rw [this]; rfl
  exact ⟨by rw [cell_of_row _ q 0 _ _ (0, 0) a1]; rfl, grown_setCellE w ⟨q, 0, none⟩ u, u, a1⟩
theorem BlkD.new (w : World) (y : Value) : BlkD (w.alloc (.cells #[y] 32)) w.heap.size := ⟨y, heap_alloc_new w _⟩

end Go.Proofs.Ytlibnefibeikcaa
namespace Go.Proofs.Ytlibnefibeikcaa
open Go.RowKit
set_option linter.unusedVariables false
set_option linter.unusedSimpArgs false

/-- A directory's cell that holds a value. -/
def DirAt (w : World) (q : Nat) (y : Value) : Prop := w.heap[q]? = some (.cells #[y] 32 (0, 0))
theorem DirAt.carry {w w' : World} {q : Nat} {y : Value} (h : DirAt w q y) (hb : Below w.heap.size w w') : DirAt w' q y := (hb.block q (Array.getElem?_eq_some_iff.1 h).1).trans h
theorem DirAt.cell {w : World} {q : Nat} {y : Value} (h : DirAt w q y) : w.cell? ⟨q, 0, none⟩ = some y := by rw [cell_of_row w q 0 _ _ (0, 0) h]; rfl
theorem DirAt.new (w : World) (y : Value) : DirAt (w.alloc (.cells #[y] 32)) w.heap.size y := heap_alloc_new w _

end Go.Proofs.Ytlibnefibeikcaa

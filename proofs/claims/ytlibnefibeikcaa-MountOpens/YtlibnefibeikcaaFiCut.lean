/-
  What files.Read does: numbers, extents, files are cut from bytes.
-/
import Derived.Test.YtlibnefibeikcaaFiNames
import Derived.Test.YtlibnefibeikcaaFiRef1
import Derived.Test.YtlibnefibeikcaaMathFi2
import Derived.Test.YtlibnefibeikcaaMathFs
namespace Go.Proofs.Ytlibnefibeikcaa
open Go.RowKit
set_option linter.unusedVariables false
set_option linter.unusedSimpArgs false

/-- A row of files of one's own, whose extents only are read. -/
def OwR (w0 w : World) (base : Nat) (v : Value) (fs : List Fl) : Prop := ∃ ps : List (Fl × Value), ps.map Prod.fst = fs ∧ w.ownsRow base 43 2 v ps.length (cellsP ps) ∧ ∀ p ∈ ps, RdE w0 p.2 p.1.2
theorem OwR.nil (w0 w : World) (base : Nat) : OwR w0 w base (.slice none 0 0) [] := ⟨[], rfl, World.ownsRow_nil w base _ _, by simp⟩
theorem OwR.rd {w0 w : World} {base : Nat} {v : Value} {fs : List Fl} (h : OwR w0 w base v fs) (hb : Below w0.heap.size w0 w) : RdF w v fs := by
  obtain ⟨ps, rfl, h, hi⟩ := h
  rcases h.2 with ⟨rfl, hn⟩ | ⟨g, cap, cur, rfl, _, hg, hn, hm, hsz, htake⟩
  · obtain rfl := List.length_eq_zero_iff.1 hn
    exact .inl ⟨rfl, .inl rfl⟩
  · refine .inr ⟨g, 0, cap, by simp, by simpa using hn, hm, fun j hj => ?_⟩
    have hj' : j < ps.length := by simpa using hj
    obtain ⟨e1, e2⟩ := cellsP_get ps j hj'
    have c1 := h.cells (g := g) rfl _ _ e1
    have c2 := h.cells (g := g) rfl _ _ e2
    rw [Addr.add_lit] at c1 c2
    have hI := (hi ps[j] (List.getElem_mem hj')).carry hb
    obtain ⟨a, c, hv⟩ := hI.form
    simp only [List.getElem_map]
    refine ⟨by simpa using c1, a, c, ?_, ?_⟩
    · rw [hv] at c2; simpa [Nat.add_assoc] using c2
    · rw [← hv]; exact hI
theorem OwR.form {w0 w : World} {base : Nat} {v : Value} {fs : List Fl} (h : OwR w0 w base v fs) : ∃ a c, v = .slice a fs.length c := by
  obtain ⟨ps, rfl, h, hi⟩ := h
  rcases h.2 with ⟨rfl, hn⟩ | ⟨g, cap, cur, rfl, _⟩
  · exact ⟨none, 0, by rw [List.length_map, hn]⟩
  · exact ⟨_, _, by rw [List.length_map]⟩
end Go.Proofs.Ytlibnefibeikcaa
namespace Go.Proofs.Ytlibnefibeikcaa
open Go.RowKit
set_option linter.unusedVariables false
set_option linter.unusedSimpArgs false

def FileAt (w : World) (q : Nat) (s : ByteArray) (y : Value) : Prop := w.heap[q]? = some (.cells #[.string s, y] 43 (0, 0))
theorem FileAt.carry {w w' : World} {q : Nat} {s : ByteArray} {y : Value} (h : FileAt w q s y) (hb : Below w.heap.size w w') : FileAt w' q s y := (hb.block q (Array.getElem?_eq_some_iff.1 h).1).trans h
theorem FileAt.cell1 {w : World} {q : Nat} {s : ByteArray} {y : Value} (h : FileAt w q s y) : w.cell? ⟨q, 1, none⟩ = some y := by rw [cell_of_row w q 1 _ _ (0, 0) h]; rfl
theorem FileAt.cell0 {w : World} {q : Nat} {s : ByteArray} {y : Value} (h : FileAt w q s y) : w.cell? ⟨q, 0, none⟩ = some (.string s) := by rw [cell_of_row w q 0 _ _ (0, 0) h]; rfl
theorem FileAt.new (w : World) (s : ByteArray) (y : Value) : FileAt (w.alloc (.cells #[.string s, y] 43)) w.heap.size s y := heap_alloc_new w _
end Go.Proofs.Ytlibnefibeikcaa
namespace Go.Proofs.Ytlibnefibeikcaa
open Go.RowKit
set_option linter.unusedVariables false
set_option linter.unusedSimpArgs false

/-- Bytes that are read in a block of bytes. -/
def RdU (w : World) (v : Value) (l : List UInt8) : Prop :=
  (l = [] ∧ (v = .slice none 0 0 ∨ ∃ a c, v = .slice (some a) 0 c)) ∨
  ∃ b off c cs, v = .slice (some ⟨b, off, none⟩) l.length c ∧ l.length ≤ c ∧ c ≤ maxLen ∧ w.heap[b]? = some (.cells cs 5 (0, 0)) ∧ ∀ j, (h : j < l.length) → w.cell? ⟨b, off + j, none⟩ = some (.int .u8 (l[j]).toNat)
theorem RdU.rd {w : World} {v : Value} {l : List UInt8} (h : RdU w v l) : Rd w v l := by
  rcases h with h | ⟨b, off, c, cs, e, h1, h2, _, h3⟩
  · exact .inl h
  · exact .inr ⟨b, off, c, e, h1, h2, h3⟩
theorem RdU.carry {w w' : World} {v : Value} {l : List UInt8} (h : RdU w v l) (hb : Below w.heap.size w w') : RdU w' v l := by
  rcases h with h | ⟨b, off, c, cs, e, h1, h2, h4, h3⟩
  · exact .inl h
  · exact .inr ⟨b, off, c, cs, e, h1, h2, (hb.block b (Array.getElem?_eq_some_iff.1 h4).1).trans h4, fun j hj => by rw [hb.cell (World.block_lt_of_cell? w _ (h3 j hj))]; exact h3 j hj⟩
theorem OwBy.rdU {w : World} {base : Nat} {v : Value} {l : List UInt8} (h : OwBy w base v l) : RdU w v l := by
  rcases h.2 with ⟨rfl, hn⟩ | ⟨g, cap, cur, rfl, _, hg, hn, hm, hsz, htake⟩
  · exact .inl ⟨List.length_eq_zero_iff.1 hn, .inl rfl⟩
  · refine .inr ⟨g, 0, cap, cur, rfl, hn, hm, hg, fun j hj => ?_⟩
    have := h.cells (g := g) rfl j (.int .u8 (l[j]).toNat) (by simp [u8v, List.getElem?_eq_getElem hj])
    simpa [Addr.add_lit] using this
/-- All blocks of another type stay. -/
def KeepT (t0 : TypeId) (w w' : World) : Prop := ∀ (k : Nat) (cs : Array Value) (t : TypeId) (fr : Nat × Nat), t ≠ t0 → w.heap[k]? = some (Obj.cells cs t fr) → w'.heap[k]? = some (Obj.cells cs t fr)
theorem RdU.keepT {w w' : World} {v : Value} {l : List UInt8} (h : RdU w v l) {t0 : TypeId} (ht : 5 ≠ t0) (hk : KeepT t0 w w') : RdU w' v l := by
  rcases h with h | ⟨b, off, c, cs, e, h1, h2, h4, h3⟩
  · exact .inl h
  · have h5 := hk b cs _ _ ht h4
    refine .inr ⟨b, off, c, cs, e, h1, h2, h5, fun j hj => ?_⟩
    rw [cell_of_row w' b _ _ _ (0, 0) h5, ← cell_of_row w b _ _ _ (0, 0) h4]
    exact h3 j hj
/-- The end of what is read, wherever that is. -/
def SubX (v : Value) (l : List UInt8) (v' : Value) (r : List UInt8) : Prop := (∀ wx, Rd wx v l → Rd wx v' r) ∧ ∀ wx, RdU wx v l → RdU wx v' r
theorem SubX.refl (v : Value) (l : List UInt8) : SubX v l v l := ⟨fun _ h => h, fun _ h => h⟩
theorem SubX.trans {v v1 v2 : Value} {l l1 l2 : List UInt8} (h : SubX v l v1 l1) (k : SubX v1 l1 v2 l2) : SubX v l v2 l2 := ⟨fun w h' => k.1 w (h.1 w h'), fun w h' => k.2 w (h.2 w h')⟩
theorem sub_drop {b off n c k : Nat} {l : List UInt8} (hn : n = l.length) (hc : n ≤ c) (hm : c ≤ maxLen) (hk : k ≤ n) (hkc : k ≠ c) : SubX (.slice (some ⟨b, off, none⟩) n c) l (.slice (some ⟨b, off + k, none⟩) (l.drop k).length (c - k)) (l.drop k) := by
  subst hn
  have hl : (l.drop k).length = l.length - k := List.length_drop
  have key : ∀ (wx : World) (b' off' c' : Nat), Value.slice (some ⟨b, off, none⟩) l.length c = .slice (some ⟨b', off', none⟩) l.length c' → (∀ j, (h : j < l.length) → wx.cell? ⟨b', off' + j, none⟩ = some (.int .u8 (l[j]).toNat)) → ∀ j, (h : j < (l.drop k).length) → wx.cell? ⟨b, off + k + j, none⟩ = some (.int .u8 ((l.drop k)[j]).toNat) := by
    intro wx b' off' c' e h j hj
    cases e
    rw [List.getElem_drop, Nat.add_assoc]
    exact h (k + j) (by omega)
  refine ⟨fun wx h => ?_, fun wx h => ?_⟩
  · rcases h with ⟨h, _⟩ | ⟨b', off', c', e, h1, h2, h3⟩
    · have : l.drop k = [] := by rw [h]; simp
      rw [this]
      exact .inl ⟨rfl, .inr ⟨_, _, rfl⟩⟩
    · exact .inr ⟨b, off + k, c - k, rfl, by omega, by omega, key wx b' off' c' e h3⟩
  · rcases h with ⟨h, _⟩ | ⟨b', off', c', cs, e, h1, h2, h4, h3⟩
    · have : l.drop k = [] := by rw [h]; simp
      rw [this]
      exact .inl ⟨rfl, .inr ⟨_, _, rfl⟩⟩
    · have e' := e
      cases e'
      exact .inr ⟨b, off + k, c - k, cs, rfl, by omega, by omega, h4, key wx b off c e h3⟩
theorem sub_end {a : Addr} {n c : Nat} {l : List UInt8} {r : List UInt8} (hr : r = []) (c' : Nat) : SubX (.slice (some a) n c) l (.slice (some a) r.length c') r := by
  subst hr
  exact ⟨fun _ _ => .inl ⟨rfl, .inr ⟨_, _, rfl⟩⟩, fun _ _ => .inl ⟨rfl, .inr ⟨_, _, rfl⟩⟩⟩

theorem cnum_rd {l r : List UInt8} {m : Nat} (h : cnum l = some (m, r)) : ∃ k, rd l = some (m, k) ∧ m ≤ 4096 ∧ r = l.drop k := by
  unfold cnum at h
  cases e : rd l with
  | none => rw [e] at h; cases h
  | some p =>
    obtain ⟨n, k⟩ := p
    rw [e] at h
    simp only at h
    by_cases hm : n ≤ 4096
    · rw [if_pos hm] at h
      injection h with h
      injection h with e1 e2
      subst e1 e2
      exact ⟨k, rfl, hm, rfl⟩
    · rw [if_neg hm] at h; cases h

set_option maxHeartbeats 1000000 in
set_option maxRecDepth 100000 in
theorem cutNum_some (a : Option Addr) (n c : Nat) (l r : List UInt8) (m : Nat) (w : World) (hrd : Rd w (.slice a n c) l) (h : cnum l = some (m, r)) :
    Calls Try.prog 66 #[.slice a n c] w fun e w' => ∃ a2 c2, e = .returned (.tuple #[.int .i64 m, .slice a2 r.length c2, .int .i64 0]) ∧ SubX (.slice a n c) l (.slice a2 r.length c2) r ∧ Below w.heap.size w w' := by
  obtain ⟨k, e1, e2, e3⟩ := cnum_rd h
  have hread := read1_any w hrd
  rw [e1] at hread
  unfold rdV at hread
  obtain ⟨hk0, hkl, hk10, hn64⟩ := rd_fits e1
  have HE := hide e3
  rcases hrd with ⟨hl, _⟩ | ⟨b, off, c', e, h1, h2, h3⟩
  · rw [hl] at hkl; simp at hkl; omega
  obtain ⟨nn, hnn⟩ : ∃ nn, nn = l.length := ⟨_, rfl⟩
  rw [← hnn] at e h1 hkl
  cases e
  have g1 : decide ((4096 : Int) < m) = false := by simpa using (by omega : ¬ (4096 : Int) < m)
  have g2 : IntKind.i64.wrap (m : Int) = m := by rw [IntKind.wrap_i64]; omega
  have g3 : (k : Int) ≤ n := by omega
  have g4 : (0 : Int) ≤ k := by omega
  have g5 : (n : Int) ≤ c := by omega
  unfold maxLen at h2
  by_cases hck : k = c
  · have HX := hide (show SubX (.slice (some ⟨b, off, none⟩) n c) l (.slice (some ⟨b, off, none⟩) r.length 0) r from sub_end (by rw [e3]; exact List.drop_of_length_le (by omega)) 0)
    have hrl : r.length = 0 := by rw [e3, List.length_drop]; omega
    have hkn : n = k := by omega
    subst hck
    subst hkn
    rw [hrl] at HX ⊢
    clear h3 e3 h e1 hnn hrl hkl h1 h2
    go_enter Try.func66, Try.ntmps66
    go_wp2_with fail
    refine hread.mono ?_
    rintro e w1 ⟨rfl, rfl⟩
    clear hread
    go_wp2
    go_quiet (fail)
    go_wp2
    go_ret3
    exact ⟨some ⟨b, off, none⟩, 0, by simp_all, HX.out, below_drewN (Below.refl _ _) _⟩
  · have HX := hide (show SubX (.slice (some ⟨b, off, none⟩) n c) l (.slice (some ⟨b, off + k, none⟩) r.length (c - k)) r by rw [e3]; exact sub_drop hnn h1 (by unfold maxLen; omega) hkl hck)
    have HRL := hide (show r.length = n - k by rw [e3, List.length_drop, ← hnn])
    clear h3 e3 h e1 hnn
    go_enter Try.func66, Try.ntmps66
    go_wp2_with fail
    refine hread.mono ?_
    rintro e w1 ⟨rfl, rfl⟩
    clear hread
    go_wp2
    go_quiet (fail)
    go_wp2
    go_ret3
    exact ⟨some ⟨b, off + k, none⟩, c - k, by rw [HRL.out]; simp, HX.out, below_drewN (Below.refl _ _) _⟩

set_option maxHeartbeats 1000000 in
set_option maxRecDepth 100000 in
theorem cutNum_none (a : Option Addr) (n c : Nat) (l : List UInt8) (w : World) (hrd : Rd w (.slice a n c) l) (h : cnum l = none) :
    Calls Try.prog 66 #[.slice a n c] w fun e w' => e = .returned (.tuple #[.int .i64 0, .slice none 0 0, .int .i64 8]) ∧ Below w.heap.size w w' := by
  have hread := read1_any w hrd
  cases e : rd l with
  | none =>
    rw [e] at hread
    unfold rdV at hread
    clear hrd h e
    go_enter Try.func66, Try.ntmps66
    go_wp2_with fail
    refine hread.mono ?_
    rintro e w1 ⟨rfl, rfl⟩
    clear hread
    go_wp2
    go_ret3
    exact ⟨rfl, Below.refl _ _⟩
  | some p =>
    obtain ⟨m, k⟩ := p
    rw [e] at hread
    unfold rdV at hread
    have hm : 4096 < m := by
      unfold cnum at h
      rw [e] at h
      simp only at h
      by_cases hm : m ≤ 4096
      · rw [if_pos hm] at h; cases h
      · omega
    have g1 : (4096 : Int) < m := by omega
    clear hrd h e
    go_enter Try.func66, Try.ntmps66
    go_wp2_with fail
    refine hread.mono ?_
    rintro e w1 ⟨rfl, rfl⟩
    clear hread
    go_wp2
    go_ret3
    exact ⟨rfl, Below.refl _ _⟩

end Go.Proofs.Ytlibnefibeikcaa

/-
  Copies of files.
-/
import Derived.Test.YtjjhaahlinbpdaaFiPl
namespace Go.Proofs.Ytjjhaahlinbpdaa
open Go.RowKit
set_option linter.unusedVariables false
set_option linter.unusedSimpArgs false

set_option maxHeartbeats 400000 in
set_option maxRecDepth 100000 in
theorem clone_ext (a : Option Addr) (n c : Nat) (l : List Ex) (w : World) (hrd : RdE w (.slice a n c) l) (hn : n = l.length) (hl : l.length ≤ 1000000) :
    Calls Try.prog 82 #[.slice a n c] w fun e w' => ∃ v, e = .returned v ∧ OwE w' w.heap.size v l ∧ Below w.heap.size w w' := by
  have hq := fun wx => Lib.run_eql_slice_nil (P := Try.prog) wx 32 72 a n c 0 0 Try.underlying32
  cases a with
  | none =>
    have HO := hide (show OwE w w.heap.size (.slice none 0 0) l by
      rcases hrd with ⟨rfl, _⟩ | ⟨b, off, c', e, _⟩
      · exact OwE.nil _ _
      · cases e)
    clear hrd hn
    go_enter Try.func82, Try.ntmps82
    go_wp2
    go_ret
    exact ⟨_, rfl, HO.out, Below.refl _ _⟩
  | some ad =>
    have hb0 : Below w.heap.size w (w.alloc (.cells #[] 72)) := (Below.refl _ _).alloc (Nat.le_refl _) _
    have h0 : OwE (w.alloc (.cells #[] 72)) w.heap.size (.slice (some ⟨w.heap.size, 0, none⟩) 0 0) [] := World.ownsRow_made w #[] 0 (Nat.le_refl _) (by decide) rfl
    obtain ⟨b9, c9, w9, hrun, ho, hb9⟩ := app_exN h0 hb0.size (hrd.carry hb0) hn (by simpa using hl)
    have HO := hide ho
    have HB := hide (hb0.trans hb9)
    clear h0 ho hb9 hrd hn hb0
    go_enter Try.func82, Try.ntmps82
    go_wp2_with (at_builtin; refine wpList_runappE rfl (.tmp 5) (.tmp 6) 32 rfl rfl rfl rfl hrun ?_)
    go_ret
    exact ⟨_, rfl, by simpa using HO.out, HB.out⟩

def vAt (w : World) (a : Addr) : Value := (w.cell? a).getD undef
/-- A block of a file, and another one. -/
def Two (p q : Nat) (s : ByteArray) (x : Value) (w : World) : Prop := p ≠ q ∧ w.heap[p]? = some (.cells #[.string s, x] 39 (0, 0)) ∧ ∃ y z, w.heap[q]? = some (.cells #[y, z] 39 (0, 0))
theorem Two.carry {p q : Nat} {s : ByteArray} {x : Value} {w w' : World} (h : Two p q s x w) (hb : Below w.heap.size w w') : Two p q s x w' := by
  obtain ⟨h0, h1, y, z, h2⟩ := h
  exact ⟨h0, (hb.block p (Array.getElem?_eq_some_iff.1 h1).1).trans h1, y, z, (hb.block q (Array.getElem?_eq_some_iff.1 h2).1).trans h2⟩
theorem Two.c0 {p q : Nat} {s : ByteArray} {x : Value} (w : World) (h : Two p q s x w) : w.cell? ⟨p, 0, none⟩ = some (.string s) := by rw [cell_of_row w p 0 _ _ (0, 0) h.2.1]; rfl
theorem Two.c1 {p q : Nat} {s : ByteArray} {x : Value} (w : World) (h : Two p q s x w) : w.cell? ⟨p, 1, none⟩ = some x := by rw [cell_of_row w p 1 _ _ (0, 0) h.2.1]; rfl
theorem Two.e0 {p q : Nat} {s : ByteArray} {x : Value} (w : World) (h : Two p q s x w) : w.cell? ⟨q, 0, none⟩ = some (vAt w ⟨q, 0, none⟩) := by obtain ⟨_, _, y, z, h⟩ := h; unfold vAt; rw [cell_of_row w q 0 _ _ (0, 0) h]; rfl
theorem Two.e1 {p q : Nat} {s : ByteArray} {x : Value} (w : World) (h : Two p q s x w) : w.cell? ⟨q, 1, none⟩ = some (vAt w ⟨q, 1, none⟩) := by obtain ⟨_, _, y, z, h⟩ := h; unfold vAt; rw [cell_of_row w q 1 _ _ (0, 0) h]; rfl
theorem Two.fz {p q : Nat} {s : ByteArray} {x : Value} (w : World) (h : Two p q s x w) (i : Nat) : w.frozen? ⟨q, i, none⟩ = false := by obtain ⟨_, _, y, z, h⟩ := h; exact frozen_of_row w q i _ _ h
/-- .. behind a store into the other one. -/
theorem Two.put {p q : Nat} {s : ByteArray} {x : Value} {w : World} (h : Two p q s x w) (u v : Value) : Two p q s x ((w.setCell ⟨q, 0, none⟩ u).setCell ⟨q, 1, none⟩ v) ∧ ((w.setCell ⟨q, 0, none⟩ u).setCell ⟨q, 1, none⟩ v).heap[q]? = some (.cells #[u, v] 39 (0, 0)) := by
  obtain ⟨h0, h1, y, z, h2⟩ := h
  have a1 := heap_setCell_same w q 0 #[y, z] 39 u h2
  have a2 := heap_setCell_same (w.setCell ⟨q, 0, none⟩ u) q 1 _ 39 v a1
  have b1 := heap_setCell_other w ⟨q, 0, none⟩ p u h0
  have b2 := heap_setCell_other (w.setCell ⟨q, 0, none⟩ u) ⟨q, 1, none⟩ p v h0
  have a3 : ((w.setCell ⟨q, 0, none⟩ u).setCell ⟨q, 1, none⟩ v).heap[q]? = some (.cells #[u, v] 39 (0, 0)) := by rw [a2]; rfl
  exact ⟨⟨h0, (b2.trans b1).trans h1, u, v, a3⟩, a3⟩
theorem grown_two {w : World} {q : Nat} (u v : Value) : w.grownBy ((w.setCell ⟨q, 0, none⟩ u).setCell ⟨q, 1, none⟩ v) (some q) := grown_transE (grown_setCellE w ⟨q, 0, none⟩ u) (grown_setCellE _ ⟨q, 1, none⟩ v)

set_option maxHeartbeats 1000000 in
set_option maxRecDepth 100000 in
theorem copyOf_any (s : List UInt8) (a : Option Addr) (n c : Nat) (l : List Ex) (w : World) (hrd : RdE w (.slice a n c) l) (hn : n = l.length) (hl : l.length ≤ 1000000) :
    Calls Try.prog 50 #[.agg #[.string (bs s), .slice a n c]] w fun e w' => ∃ v, e = .returned (.agg #[.string (bs s), v]) ∧ OwE w' w.heap.size v l ∧ Below w.heap.size w w' := by
  have HC := hide (fun w1 (hb1 : Below w.heap.size w w1) => clone_ext a n c l w1 (hrd.carry hb1) hn hl)
  clear hrd hn hl
  obtain ⟨W0, hW⟩ : ∃ W0, W0 = (w.alloc (.cells #[.string (bs s), .slice a n c] 39)).alloc (.cells #[.string { data := #[] }, .slice none 0 0] 39) := ⟨_, rfl⟩
  have hb0 : Below w.heap.size w W0 := by rw [hW]; exact ((Below.refl _ _).alloc (Nat.le_refl _) _).alloc (by simp) _
  have h2 : Two w.heap.size (w.heap.size + 1) (bs s) (.slice a n c) W0 := by
    rw [hW]
    refine ⟨by omega, ?_, .string { data := #[] }, .slice none 0 0, ?_⟩
    · have := heap_alloc_new w (.cells #[.string (bs s), .slice a n c] 39)
      rw [← this]
      exact ((Below.refl (w.alloc (.cells #[.string (bs s), .slice a n c] 39)).heap.size _).alloc (Nat.le_refl _) _).block _ (by simp)
    · have := heap_alloc_new (w.alloc (.cells #[.string (bs s), .slice a n c] 39)) (.cells #[.string { data := #[] }, .slice none 0 0] 39)
      simpa using this
  have k0 := fun wx h => Two.c0 (p := w.heap.size) (q := w.heap.size + 1) (s := bs s) (x := .slice a n c) wx h
  have k1 := fun wx h => Two.c1 (p := w.heap.size) (q := w.heap.size + 1) (s := bs s) (x := .slice a n c) wx h
  have k2 := fun wx h => Two.e0 (p := w.heap.size) (q := w.heap.size + 1) (s := bs s) (x := .slice a n c) wx h
  have k3 := fun wx h => Two.e1 (p := w.heap.size) (q := w.heap.size + 1) (s := bs s) (x := .slice a n c) wx h
  have k4 := fun wx i h => Two.fz (p := w.heap.size) (q := w.heap.size + 1) (s := bs s) (x := .slice a n c) wx h i
  go_enter Try.func50, Try.ntmps50
  go_wp2
  rw [← hW]
  have hS := h2
  clear h2 hW
  go_region_held3 (fun wx => Two w.heap.size (w.heap.size + 1) (bs s) (.slice a n c) wx) (first | assumption | exact (Two.put (by assumption) _ _).1 | exact Two.carry (by assumption) (by assumption)) ((go_at_call 82; refine (HC.out _ (by exact hb0.drew)).mono ?_; rintro e w2 ⟨v2, rfl, hown2, hbel2⟩; obtain ⟨a2, c2, rfl⟩ := hown2.form))
  have hbel3 : Below W0.heap.size W0 w2 := ((Below.refl W0.heap.size W0).drew).trans hbel2
  have h2 := hS.carry hbel3
  obtain ⟨h3, h4⟩ := h2.put (.string (bs s)) (.slice a2 l.length c2)
  obtain ⟨y, z, hq⟩ := h2.2.2
  have hb2 : Below w.heap.size w w2 := hb0.trans (hbel3.mono hb0.size)
  have hg := grown_two (w := w2) (q := w.heap.size + 1) (.string (bs s)) (.slice a2 l.length c2)
  obtain ⟨w9, hw9⟩ : ∃ w9, w9 = (w2.setCell ⟨w.heap.size + 1, 0, none⟩ (.string (bs s))).setCell ⟨w.heap.size + 1, 1, none⟩ (.slice a2 l.length c2) := ⟨_, rfl⟩
  rw [← hw9] at h4 hg ⊢
  have HO := hide (show OwE w9 w.heap.size (.slice a2 l.length c2) l from OwE.mono (World.ownsRow.kept hown2 hg (.inr (hown2.apartF hq))) hb0.size)
  have HB := hide (show Below w.heap.size w w9 from hb2.grown hg hb2.size (by intro k hk; cases hk; omega))
  have r0 : w9.cell? ⟨w.heap.size + 1, 0, none⟩ = some (.string (bs s)) := by rw [cell_of_row w9 _ 0 _ _ (0, 0) h4]; rfl
  have r1 : w9.cell? ⟨w.heap.size + 1, 1, none⟩ = some (.slice a2 l.length c2) := by rw [cell_of_row w9 _ 1 _ _ (0, 0) h4]; rfl
  clear h2 h3 h4 hq hg hw9 hown2 hbel2 hS k0 k1 k2 k3 k4
  go_wp2
  try simp only [Exit.inBlock, Exit.then]
  refine bodyPost_ret (v := .agg #[.string (bs s), .slice a2 l.length c2]) ?_ rfl ⟨_, rfl, HO.out, HB.out⟩
  simp [results, Try.results50, go_sem, *]

/-- A file more: the parts are there as the list says. -/
theorem OwF.parts {w : World} {base : Nat} {v : Value} {fs : List Fl} (h : OwF w base v fs) : ∃ ps a c, ps.map Prod.fst = fs ∧ ps.length = fs.length ∧ v = .slice a fs.length c ∧ OwP w base (.slice a fs.length c) ps := by
  obtain ⟨a, c, rfl⟩ := h.form
  obtain ⟨ps, rfl, h⟩ := h
  exact ⟨ps, a, c, rfl, by simp, rfl, h⟩
theorem app_fileF {w : World} {base : Nat} {v : Value} {fs : List Fl} (h : OwF w base v fs) (hb : base ≤ w.heap.size) (hl : fs.length ≤ 1000000) (s : List UInt8) (x : Value) (l : List Ex) (hx : OwE w base x l) :
    ∃ g c w', (Builtin.append_ #[23, 23] 23 #[v, .slice (some ⟨w.heap.size, 0, none⟩) 1 1]).run Try.prog (w.alloc (.cells #[.string (bs s), x] 39)) = .ok (.slice (some ⟨g, 0, none⟩) (fs.length + 1) c) w' ∧
      OwF w' base (.slice (some ⟨g, 0, none⟩) (fs.length + 1) c) (fs ++ [(s, l)]) ∧ Below base w w' := by
  obtain ⟨ps, rfl, h⟩ := h
  rw [List.length_map] at hl
  obtain ⟨g, c, w', hrun, ho, hb'⟩ := app_file h hb hl s x l hx
  rw [List.length_map]
  exact ⟨g, c, w', hrun, ⟨ps ++ [((s, l), x)], by simp, ho⟩, hb'⟩

set_option maxHeartbeats 1000000 in
set_option maxRecDepth 100000 in
theorem copies_any (a : Option Addr) (n c : Nat) (fs : List Fl) (w : World) (hrd : RdF w (.slice a n c) fs) (hn : n = fs.length) (hl : fs.length ≤ 1000) (hle : ∀ f ∈ fs, f.2.length ≤ 1000000) :
    Calls Try.prog 77 #[.slice a n c] w fun e w' => ∃ v, e = .returned v ∧ OwF w' w.heap.size v fs ∧ Below w.heap.size w w' := by
  have hm : n ≤ 1000 := by omega
  have HR := hide hrd
  have HN := hide hn
  have HL := hide hle
  clear hrd hn hl hle
  go_enter Try.func77, Try.ntmps77
  go_wp2
  go_loopw [8, 3] (fun i v wr => ∃ k : Nat, k ≤ n ∧ i = .int .i64 k ∧ Hid (OwF wr w.heap.size v (fs.take k)) ∧ Below w.heap.size w wr) (fun i _ _ => n - (intOf i).toNat)
  case atStart => exact ⟨0, Nat.zero_le _, rfl, hide (by simpa using OwF.nil _ _), Below.refl _ _⟩
  case round =>
    obtain ⟨k, hk, rfl, hown, hbel⟩ := hrel
    by_cases hlt : k < n
    · have hlt' : (k : Int) < n := by omega
      have hkl : k < fs.length := by have := HN.out; omega
      have HT := hide (take_snocF fs k hkl)
      have HTL := hide (show (fs.take k).length = k by rw [List.length_take]; omega)
      obtain ⟨b, off, a2, c2, rfl, q0, q1, q2⟩ := HR.out.atB hbel k hkl
      have HQ := hide q2
      have HLk := hide (HL.out _ (List.getElem_mem hkl))
      clear q2
      obtain ⟨f, hf⟩ : ∃ f, f = fs[k] := ⟨_, rfl⟩
      rw [← hf] at q0 q1 HQ HT HLk
      clear hf
      obtain ⟨s, l⟩ := f
      simp only at q0 q1
      obtain ⟨m, hm2⟩ : ∃ m, m = l.length := ⟨_, rfl⟩
      have HQ2 := hide (show RdE w (.slice a2 m c2) l by rw [hm2]; exact HQ.out)
      rw [← hm2] at q1
      have HM2 := hide hm2
      clear hm2 HQ
      have hb0 : ∀ o, Below w.heap.size w (wr.alloc o) := fun o => hbel.alloc hbel.size o
      go_wp2_with fail
      refine (copyOf_any s a2 m c2 l _ (HQ2.out.carry (hb0 _)) HM2.out HLk.out).mono ?_
      rintro e w1 ⟨v1, rfl, ho1, hb1⟩
      obtain ⟨w2, hw2⟩ : ∃ w2, w2 = wr.alloc (.cells #[.string (bs s), .slice a2 m c2] 39) := ⟨_, rfl⟩
      rw [← hw2] at ho1 hb1
      have hb2 : Below wr.heap.size wr w2 := by rw [hw2]; exact (Below.refl _ _).alloc (Nat.le_refl _) _
      have hbel2 : Below w.heap.size w w2 := hbel.trans (hb2.mono hbel.size)
      have hbel1 : Below w.heap.size w w1 := hbel2.trans (hb1.mono hbel2.size)
      obtain ⟨g, cc, w9, hrun, ho9, hb9⟩ := app_fileF ((hown.out.carry hb2).carry hb1) hbel1.size (by have := HTL.out; omega) s v1 l (ho1.mono hbel2.size)
      have HO9 := hide ho9
      have HB9 := hide (hbel1.trans hb9)
      rw [HTL.out] at hrun HO9
      obtain ⟨av, cv, rfl⟩ := ho1.form
      clear ho9 hb9 ho1 hb1 hw2 hb2 hbel2 hbel1 hown q0 q1 hb0
      go_wp2_with (at_builtin; refine wpList_runappE rfl (.tmp 12) (.tmp 15) 23 rfl rfl rfl rfl hrun ?_)
      go_roundw
      case rel => exact ⟨k + 1, by omega, rfl, hide (by rw [HT.out]; exact HO9.out), HB9.out⟩
      case measure => simp only [intOf]; omega
    · have hd : decide ((k : Int) < n) = false := by simpa using (by omega : ¬ (k : Int) < n)
      have e : k = fs.length := by have := HN.out; omega
      rw [e, List.take_length] at hown
      clear e
      go_wp2
      go_ret
      exact ⟨_, rfl, hown.out, hbel⟩

end Go.Proofs.Ytjjhaahlinbpdaa

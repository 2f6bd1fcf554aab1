/-
  What batch.cutNumber does.
-/
import Derived.Test.YtihbidkonoikkaaBxK
namespace Go.Proofs.Ytihbidkonoikkaa
open Go.RowKit
set_option linter.unusedVariables false
set_option linter.unusedSimpArgs false

theorem cutM_rd {most m : Nat} {l r : List UInt8} (h : cutM most l = some (m, r)) : ∃ k, rd l = some (m, k) ∧ 1 ≤ m ∧ m ≤ most ∧ r = l.drop k := by
  unfold cutM at h
  cases e : rd l with
  | none => rw [e] at h; cases h
  | some p =>
    obtain ⟨n, k⟩ := p
    rw [e] at h
    simp only at h
    by_cases hm : 1 ≤ n ∧ n ≤ most
    · rw [if_pos hm] at h
      injection h with h
      injection h with e1 e2
      subst e1 e2
      exact ⟨k, rfl, hm.1, hm.2, rfl⟩
    · rw [if_neg hm] at h; cases h
theorem cutM_cases {most : Nat} {l : List UInt8} (h : cutM most l = none) : rd l = none ∨ ∃ m k, rd l = some (m, k) ∧ (m < 1 ∨ most < m) := by
  unfold cutM at h
  cases e : rd l with
  | none => exact .inl rfl
  | some p =>
    obtain ⟨n, k⟩ := p
    rw [e] at h
    simp only at h
    by_cases hm : 1 ≤ n ∧ n ≤ most
    · rw [if_pos hm] at h; cases h
    · exact .inr ⟨n, k, rfl, by omega⟩
theorem subX_end {a : Addr} {n c : Nat} {l r : List UInt8} (hr : r = []) (c' : Nat) : ∀ wx, Rd wx (.slice (some a) n c) l → Rd wx (.slice (some a) r.length c') r := by
  subst hr
  exact fun _ _ => .inl ⟨rfl, .inr ⟨_, _, rfl⟩⟩
theorem subX_drop {b off n c k : Nat} {l : List UInt8} (hn : n = l.length) (hc : n ≤ c) (hm : c ≤ maxLen) (hk : k ≤ n) (hkc : k ≠ c) : ∀ wx, Rd wx (.slice (some ⟨b, off, none⟩) n c) l → Rd wx (.slice (some ⟨b, off + k, none⟩) (l.drop k).length (c - k)) (l.drop k) := by
  subst hn
  have hl : (l.drop k).length = l.length - k := List.length_drop
  intro wx h
  rcases h with ⟨h, _⟩ | ⟨b', off', c', e, h1, h2, h3⟩
  · have : l.drop k = [] := by rw [h]; simp
    rw [this]
    exact .inl ⟨rfl, .inr ⟨_, _, rfl⟩⟩
  · cases e
    refine .inr ⟨b, off + k, c - k, rfl, by omega, by omega, fun j hj => ?_⟩
    rw [List.getElem_drop, Nat.add_assoc]
    exact h3 (k + j) (by omega)

set_option maxHeartbeats 1000000 in
set_option maxRecDepth 100000 in
theorem cutNumber_some (most : Nat) (a : Option Addr) (n c : Nat) (l r : List UInt8) (m : Nat) (w : World) (hmo : most < 9223372036854775808) (hrd : Rd w (.slice a n c) l) (h : cutM most l = some (m, r)) :
    Calls Try.prog 33 #[.slice a n c, .int .u64 most] w fun e w' => ∃ a2 c2, e = .returned (.tuple #[.int .i64 m, .slice a2 r.length c2, .bool true]) ∧ (∀ wx, Rd wx (.slice a n c) l → Rd wx (.slice a2 r.length c2) r) ∧ Below w.heap.size w w' := by
  obtain ⟨k, e1, e0, e2, e3⟩ := cutM_rd h
  have hread := read1_any w hrd
  rw [e1] at hread
  unfold rdV at hread
  obtain ⟨hk0, hkl, hk10, hn64⟩ := rd_fits e1
  have HE := hide e3
  rcases hrd with ⟨hl, _⟩ | ⟨b, off, c', e, h1, h2, h3⟩
  · rw [hl] at hkl; simp at hkl; omega
  obtain ⟨nn, hnn⟩ : ∃ nn, nn = l.length := ⟨_, rfl⟩
  rw [← hnn] at e h1 hkl
  cases e
  have g0 : decide ((m : Int) < 1) = false := by simpa using (by omega : ¬ (m : Int) < 1)
  have g1 : decide ((most : Int) < m) = false := by simpa using (by omega : ¬ (most : Int) < m)
  have g2 : IntKind.i64.wrap (m : Int) = m := by rw [IntKind.wrap_i64]; omega
  have g3 : (k : Int) ≤ n := by omega
  have g4 : (0 : Int) ≤ k := by omega
  have g5 : (n : Int) ≤ c := by omega
  unfold maxLen at h2
  by_cases hck : k = c
  · have HX := hide (show ∀ wx, Rd wx (.slice (some ⟨b, off, none⟩) n c) l → Rd wx (.slice (some ⟨b, off, none⟩) r.length 0) r from subX_end (by rw [e3]; exact List.drop_of_length_le (by omega)) 0)
    have hrl : r.length = 0 := by rw [e3, List.length_drop]; omega
    have hkn : n = k := by omega
    subst hck
    subst hkn
    rw [hrl] at HX ⊢
    clear h3 e3 h e1 hnn hrl hkl h1 h2
    go_enter Try.func33, Try.ntmps33
    go_wp2_with fail
    refine hread.mono ?_
    rintro e w1 ⟨rfl, rfl⟩
    clear hread
    go_wp2
    go_quiet (fail)
    go_wp2
    go_ret3
    exact ⟨some ⟨b, off, none⟩, 0, by simp_all, HX.out, belowX_drewN (Below.refl _ _) _⟩
  · have HX := hide (show ∀ wx, Rd wx (.slice (some ⟨b, off, none⟩) n c) l → Rd wx (.slice (some ⟨b, off + k, none⟩) r.length (c - k)) r by rw [e3]; exact subX_drop hnn h1 (by unfold maxLen; omega) hkl hck)
    have HRL := hide (show r.length = n - k by rw [e3, List.length_drop, ← hnn])
    clear h3 e3 h e1 hnn
    go_enter Try.func33, Try.ntmps33
    go_wp2_with fail
    refine hread.mono ?_
    rintro e w1 ⟨rfl, rfl⟩
    clear hread
    go_wp2
    go_quiet (fail)
    go_wp2
    go_ret3
    exact ⟨some ⟨b, off + k, none⟩, c - k, by rw [HRL.out]; simp, HX.out, belowX_drewN (Below.refl _ _) _⟩

set_option maxHeartbeats 1000000 in
set_option maxRecDepth 100000 in
theorem cutNumber_none (most : Nat) (a : Option Addr) (n c : Nat) (l : List UInt8) (w : World) (hrd : Rd w (.slice a n c) l) (h : cutM most l = none) :
    Calls Try.prog 33 #[.slice a n c, .int .u64 most] w fun e w' => e = .returned (.tuple #[.int .i64 0, .slice none 0 0, .bool false]) ∧ Below w.heap.size w w' := by
  have hread := read1_any w hrd
  rcases cutM_cases h with e | ⟨m, k, e, hm⟩
  · rw [e] at hread
    unfold rdV at hread
    clear hrd h e
    go_enter Try.func33, Try.ntmps33
    go_wp2_with fail
    refine hread.mono ?_
    rintro e w1 ⟨rfl, rfl⟩
    clear hread
    go_wp2
    go_ret3
    exact ⟨rfl, Below.refl _ _⟩
  · rw [e] at hread
    unfold rdV at hread
    clear hrd h e
    go_enter Try.func33, Try.ntmps33
    go_wp2_with fail
    refine hread.mono ?_
    rintro e w1 ⟨rfl, rfl⟩
    clear hread
    rcases hm with hm | hm
    · have hm' : (m : Int) < 1 := by omega
      go_wp2
      go_ret3
      exact ⟨rfl, Below.refl _ _⟩
    · by_cases h1 : (m : Int) < 1
      · go_wp2
        go_ret3
        exact ⟨rfl, Below.refl _ _⟩
      · have h1' : decide ((m : Int) < 1) = false := by simpa using h1
        have hm' : (most : Int) < m := by omega
        clear h1
        go_wp2
        go_ret3
        exact ⟨rfl, Below.refl _ _⟩

end Go.Proofs.Ytihbidkonoikkaa

/-
  Rows of rows of entries: how they read; what the document's Great of layer 15 does.
-/
import Derived.Test.YtdgjinfaopkalaaLg2
namespace Go.Proofs.Ytdgjinfaopkalaa
open Go.RowKit
set_option linter.unusedVariables false
set_option linter.unusedSimpArgs false

def ecR (p : Value × List Ent) : List Value := [p.1]
def RdR (w : World) (v : Value) (R : List (Value × List Ent)) : Prop := RdG 1 ecR w v R ∧ ∀ p ∈ R, RdN w p.1 p.2
theorem RdR.len {w : World} {a : Option Addr} {n c : Nat} {R : List (Value × List Ent)} (h : RdR w (.slice a n c) R) : n = R.length := RdG.len h.1
theorem RdR.carry {w w' : World} {v : Value} {R : List (Value × List Ent)} (h : RdR w v R) (hb : Below w.heap.size w w') : RdR w' v R := ⟨RdG.carry h.1 hb, fun p hp => (h.2 p hp).carry hb⟩
theorem RdR.cells {w w' : World} {a : Option Addr} {n c : Nat} {R : List (Value × List Ent)} (h : RdR w (.slice a n c) R) (hb : Below w.heap.size w w') (k : Nat) (hk : k < R.length) :
    ∃ b off ax nx cx, a = some ⟨b, off, none⟩ ∧ w'.cell? ⟨b, off + k, none⟩ = some (.slice ax nx cx) ∧ RdN w (.slice ax nx cx) (R[k]).2 ∧ nx = (R[k]).2.length := by
  obtain ⟨b, off, rfl, hc⟩ := RdG.atB h.1 hb k hk
  have h1 := hc 0 (R[k]).1 rfl
  have h2 := h.2 _ (List.getElem_mem hk)
  obtain ⟨ax, cx, e⟩ := RdG.form h2
  rw [e] at h1 h2
  exact ⟨b, off, ax, _, cx, rfl, by simpa using h1, h2, rfl⟩

set_option maxHeartbeats 4000000 in
set_option maxRecDepth 100000 in
theorem rgreat_mg (a : Option Addr) (n c : Nat) (R : List (Value × List Ent)) (w : World) (hrd : RdR w (.slice a n c) R) :
    Calls Try.prog 14 #[.slice a n c] w fun e w' => ∃ b, e = .returned (.bool b) ∧ Hid (b = false → n ≤ 50 ∧ ∀ p ∈ R, p.2.length ≤ 70000) ∧ Below w.heap.size w w' := by
  have HN := hide hrd.len
  have HR := hide hrd
  clear hrd
  by_cases h50 : 50 < n
  · have h50' : (50 : Int) < n := by omega
    go_enter Try.func14, Try.ntmps14
    go_wp2
    go_ret
    exact ⟨true, rfl, hide (fun q => by cases q), Below.refl _ _⟩
  have h50' : decide ((50 : Int) < n) = false := by simpa using (by omega : ¬ (50 : Int) < n)
  have hn50 : n ≤ 50 := by omega
  go_enter Try.func14, Try.ntmps14
  go_wp2
  clear h50 h50'
  go_loopw [4, 3] (fun i v wr => ∃ (k : Nat) (z : Int), k ≤ n ∧ i = .int .i64 k ∧ v = .int .i64 z ∧ Hid (∀ p ∈ R.take k, p.2.length ≤ 70000) ∧ Below w.heap.size w wr) (fun i _ _ => n - (intOf i).toNat)
  case atStart => exact ⟨0, 0, Nat.zero_le _, rfl, rfl, hide (fun p hp => by simp at hp), Below.refl _ _⟩
  case round =>
    obtain ⟨k, z, hk, rfl, rfl, hP, hbel⟩ := hrel
    obtain ⟨wo, hwo⟩ : ∃ wo, wo = wr := ⟨_, rfl⟩
    subst hwo
    by_cases hlt : k < n
    · have hlt' : (k : Int) < n := by omega
      have hkl : k < R.length := by have := HN.out; omega
      have HCO := hide (fun wx (hb : Below w.heap.size w wx) => HR.out.cells hb k hkl)
      obtain ⟨b, off, ax, nx, cx, rfl, q0, hRx, hnx⟩ := HCO.out wo hbel
      have HNX := hide hnx
      have HRX := hide hRx
      have HP2 := hide (show (R[k]).2.length ≤ 70000 → ∀ p ∈ R.take (k + 1), p.2.length ≤ 70000 from fun h p hp => by
        rw [List.take_succ_eq_append_getElem hkl] at hp
        rcases List.mem_append.1 hp with hp | hp
        · exact hP.out p hp
        · obtain rfl := List.mem_singleton.1 hp; exact h)
      have HQ := hide (show ∀ wx, Below wo.heap.size wo wx → wx.cell? ⟨b, off + k, none⟩ = some (.slice ax nx cx) from fun wx hb => by
        rw [hb.cell (World.block_lt_of_cell? wo _ q0)]; exact q0)
      clear hnx hRx HCO hP
      by_cases c1 : 400 < nx ∧ nx ≤ 65536
      · have c2 : (400 : Int) < nx := by omega
        have c3 : (nx : Int) ≤ 65536 := by omega
        clear c1
        go_wp2
        go_ret
        exact ⟨true, rfl, hide (fun q => by cases q), hbel⟩
      by_cases c4 : 70000 < nx
      · have c2 : (400 : Int) < nx := by omega
        have c3 : decide ((nx : Int) ≤ 65536) = false := by simpa using (by omega : ¬ (nx : Int) ≤ 65536)
        have c5 : (70000 : Int) < nx := by omega
        clear c1
        go_wp2
        go_ret
        exact ⟨true, rfl, hide (fun q => by cases q), hbel⟩
      have c5 : decide ((70000 : Int) < nx) = false := by simpa using (by omega : ¬ (70000 : Int) < nx)
      have HP3 := hide (HP2.out (by have := HNX.out; omega))
      have hn7 : nx ≤ 70000 := by omega
      clear HP2
      rcases Nat.lt_or_ge 400 nx with c6 | c6
      · have c2 : (400 : Int) < nx := by omega
        have c3 : decide ((nx : Int) ≤ 65536) = false := by simpa using (by omega : ¬ (nx : Int) ≤ 65536)
        clear c1 c4 c6
        go_wp2
        go_loopw [5, 3] (fun i v wr => ∃ (m : Nat) (z : Int), m ≤ nx ∧ i = .int .i64 m ∧ v = .int .i64 z ∧ Below wo.heap.size wo wr) (fun i _ _ => nx - (intOf i).toNat)
        case atStart => exact ⟨0, z, Nat.zero_le _, rfl, rfl, Below.refl _ _⟩
        case round =>
          obtain ⟨m, z2, hm, rfl, rfl, hb2⟩ := hrel
          have q1 := HQ.out wr hb2
          have HBW := hide (show Below w.heap.size w wr from hbel.trans (hb2.mono hbel.size))
          have HB2 := hide hb2
          clear hb2 q0
          by_cases m1 : m < nx
          · have m1' : (m : Int) < nx := by omega
            by_cases m2 : m < 500
            · have m2' : (m : Int) < 500 := by omega
              have hml : m < (R[k]).2.length := by have := HNX.out; omega
              obtain ⟨bx, ox, ex, u0, u1, u2, u3⟩ := RdN.cells HRX.out HBW.out m hml
              subst ex
              generalize ((R[k]).2)[m] = x at *
              have hs1 := bs_size x.1
              have hs2 := bs_size x.2.2.2
              clear hml
              go_wp2
              go_quiet (fail)
              go_wp2
              go_roundw
              case rel => exact ⟨m + 1, _, by omega, by go_num, rfl, belowX_drewN HB2.out _⟩
              case measure => simp only [intOf]; omega
            · have m2' : decide ((m : Int) < 500) = false := by simpa using (by omega : ¬ (m : Int) < 500)
              go_wp2
              go_roundw
              case rel => exact ⟨k + 1, z2, by omega, by go_num, rfl, HP3, HBW.out⟩
              case measure => simp only [intOf]; omega
          · have m1' : decide ((m : Int) < nx) = false := by simpa using (by omega : ¬ (m : Int) < nx)
            go_wp2
            go_roundw
            case rel => exact ⟨k + 1, z2, by omega, by go_num, rfl, HP3, HBW.out⟩
            case measure => simp only [intOf]; omega
      · have c2 : decide ((400 : Int) < nx) = false := by simpa using (by omega : ¬ (400 : Int) < nx)
        clear c1 c4 c6
        go_wp2
        go_loopw [5, 3] (fun i v wr => ∃ (m : Nat) (z : Int), m ≤ nx ∧ i = .int .i64 m ∧ v = .int .i64 z ∧ Below wo.heap.size wo wr) (fun i _ _ => nx - (intOf i).toNat)
        case atStart => exact ⟨0, z, Nat.zero_le _, rfl, rfl, Below.refl _ _⟩
        case round =>
          obtain ⟨m, z2, hm, rfl, rfl, hb2⟩ := hrel
          have q1 := HQ.out wr hb2
          have HBW := hide (show Below w.heap.size w wr from hbel.trans (hb2.mono hbel.size))
          have HB2 := hide hb2
          clear hb2 q0
          by_cases m1 : m < nx
          · have m1' : (m : Int) < nx := by omega
            by_cases m2 : m < 500
            · have m2' : (m : Int) < 500 := by omega
              have hml : m < (R[k]).2.length := by have := HNX.out; omega
              obtain ⟨bx, ox, ex, u0, u1, u2, u3⟩ := RdN.cells HRX.out HBW.out m hml
              subst ex
              generalize ((R[k]).2)[m] = x at *
              have hs1 := bs_size x.1
              have hs2 := bs_size x.2.2.2
              clear hml
              go_wp2
              go_quiet (fail)
              go_wp2
              go_roundw
              case rel => exact ⟨m + 1, _, by omega, by go_num, rfl, belowX_drewN HB2.out _⟩
              case measure => simp only [intOf]; omega
            · have m2' : decide ((m : Int) < 500) = false := by simpa using (by omega : ¬ (m : Int) < 500)
              go_wp2
              go_roundw
              case rel => exact ⟨k + 1, z2, by omega, by go_num, rfl, HP3, HBW.out⟩
              case measure => simp only [intOf]; omega
          · have m1' : decide ((m : Int) < nx) = false := by simpa using (by omega : ¬ (m : Int) < nx)
            go_wp2
            go_roundw
            case rel => exact ⟨k + 1, z2, by omega, by go_num, rfl, HP3, HBW.out⟩
            case measure => simp only [intOf]; omega
    · have hd : decide ((k : Int) < n) = false := by simpa using (by omega : ¬ (k : Int) < n)
      have HE := hide (show ∀ p ∈ R, p.2.length ≤ 70000 by
        have := hP.out
        rwa [List.take_of_length_le (by have := HN.out; omega)] at this)
      go_wp2
      go_ret
      exact ⟨_, rfl, hide (fun _ => ⟨hn50, HE.out⟩), hbel⟩
end Go.Proofs.Ytdgjinfaopkalaa

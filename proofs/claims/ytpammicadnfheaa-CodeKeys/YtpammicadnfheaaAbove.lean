/-
  What code.Above does.
-/
import Derived.Test.YtpammicadnfheaaParts
namespace Go.Proofs.Ytpammicadnfheaa
open Go.RowKit
set_option linter.unusedVariables false
set_option linter.unusedSimpArgs false

/-- The least text above, its bytes from the last one on. -/
def abR : List UInt8 → Option (List UInt8)
  | [] => none
  | c :: r => if c = 255 then abR r else some ((c + 1) :: r)
def ab (l : List UInt8) : Option (List UInt8) := (abR l.reverse).map List.reverse
theorem ab_snoc (l : List UInt8) (c : UInt8) : ab (l ++ [c]) = if c = 255 then ab l else some (l ++ [c + 1]) := by
  unfold ab
  rw [List.reverse_append]
  simp only [List.reverse_cons, List.reverse_nil, List.nil_append, List.cons_append, abR]
  split <;> simp
def abV : Option (List UInt8) → Value
  | none => .tuple #[.string (bs []), .bool false]
  | some r => .tuple #[.string (bs r), .bool true]

theorem bytesWorld_frozen (w : World) (e : TypeId) (s : ByteArray) (j : Nat) (hj : j < s.size) : (Lib.bytesWorld w e s).frozen? ⟨w.heap.size, j, none⟩ = false := by
  have h := Lib.bytesWorld_at_new w e s
  have hsz : s.size ≤ (Lib.bytesCells w e s).size := by
    simp [Lib.bytesCells]
  simp [World.frozen?, h]
  omega

set_option maxHeartbeats 600000 in
set_option maxRecDepth 100000 in
theorem above_any (l : List UInt8) (w : World) (hl : l.length ≤ 1000000000) :
    Calls Try.prog 14 #[.string (bs l)] w fun e w' => e = .returned (abV (ab l)) ∧ Below w.heap.size w w' := by
  have hss := bs_size l
  go_enter Try.func14, Try.ntmps14
  go_wp2
  go_loop [4] (fun i => ∃ n : Nat, n ≤ l.length ∧ i = .int .i64 n ∧ ab l = ab (l.take n)) (fun i => (intOf i).toNat)
  case atStart => exact ⟨l.length, Nat.le_refl _, rfl, by rw [List.take_length]⟩
  case round =>
    obtain ⟨n, hn, rfl, hab⟩ := hrel
    have HA := hide hab
    clear hab
    by_cases h0 : n = 0
    · subst h0
      have HE : Hid (ab l = none) := by show _ = _; rw [HA.out]; rfl
      go_wp2
      go_ret2
      rw [HE.out]
      exact ⟨rfl, Below.refl _ _⟩
    · obtain ⟨k, rfl⟩ : ∃ k, n = k + 1 := ⟨n - 1, by omega⟩
      have hkl : k < l.length := by omega
      have HT : Hid (l.take (k + 1) = l.take k ++ [l[k]]) := List.take_succ_eq_append_getElem hkl
      have HB : Hid (ab l = if l[k] = 255 then ab (l.take k) else some (l.take k ++ [l[k] + 1])) := by show _ = _; rw [HA.out, HT.out, ab_snoc]
      obtain ⟨c, hc⟩ : ∃ c, c = l[k] := ⟨_, rfl⟩
      rw [← hc] at HT HB
      have HC := hide hc
      clear hc
      have hg : ∀ h, (bs l)[k]'h = c := fun h => by rw [bs_get]; exact HC.out.symm
      have hcb := c.toNat_lt
      have hk1 : ((k + 1 : Nat) : Int) - 1 = (k : Int) := by omega
      have hki : (k : Int) < l.length := by omega
      by_cases h255 : c = 255
      · have h255n : ((c.toNat : Int) == 255) = true := by rw [h255]; rfl
        rw [if_pos h255] at HB
        clear h255
        go_wp2
        go_round
        case rel => exact ⟨k, by omega, by go_num, HB.out⟩
        case measure => simp [intOf] <;> omega
      · have h255n : ((c.toNat : Int) == 255) = false := by
          have : c.toNat ≠ 255 := fun h => h255 (by rw [← UInt8.toNat_inj]; simpa using h)
          simpa using (by omega : ¬ (c.toNat : Int) = 255)
        rw [if_neg h255] at HB
        clear h255
        have htl : (l.take (k + 1)).length = k + 1 := by simp; omega
        have hx : (bs l).extract 0 (k + 1) = bs (l.take (k + 1)) := by rw [bs_extract _ _ _ (by omega), List.drop_zero]
        have hcv := Lib.run_convert_string_bytes (P := Try.prog) w 9 26 5 (bs (l.take (k + 1))) Try.underlying9 Try.underlying26 Try.underlying5
        have hbw := bytesWorld_below w 5 (bs (l.take (k + 1)))
        have hcell : ∀ j, (h : j < k + 1) → (Lib.bytesWorld w 5 (bs (l.take (k + 1)))).cell? ⟨w.heap.size, j, none⟩ = some (.int .u8 ((l.take (k + 1))[j]'(by omega)).toNat) := fun j hj => by
          rw [Lib.bytesWorld_cell w 5 (bs (l.take (k + 1))) j (by rw [bs_size]; omega), bs_toList]
          simp only [List.getD, List.getElem?_eq_getElem (show j < (l.take (k + 1)).length by omega), Option.getD_some]
        have hfz := bytesWorld_frozen w 5 (bs (l.take (k + 1))) k (by rw [bs_size]; omega)
        have hg1 := grownCap_ge w (bs (l.take (k + 1))).size 0 5
        have hg2 := grownCap_le_maxLen w (bs (l.take (k + 1))).size 0 5 (by rw [bs_size]; unfold maxLen; omega)
        rw [bs_size, htl] at hcv hg1 hg2
        generalize grownCap w (k + 1) 0 5 = cap at hcv hg1 hg2
        have hck := hcell k (by omega)
        have hlk : (l.take (k + 1))[k]'(by omega) = c := by simp [HC.out]
        rw [hlk] at hck
        obtain ⟨w0, hw0⟩ : ∃ w0, w0 = Lib.bytesWorld w 5 (bs (l.take (k + 1))) := ⟨_, rfl⟩
        rw [← hw0] at hcv hbw hcell hfz hck
        have hrd : Rd (w0.setCell ⟨w.heap.size, k, none⟩ (.int .u8 (((c.toNat : Int) + 1) % 256))) (.slice (some ⟨w.heap.size, 0, none⟩) (k + 1) cap) (l.take k ++ [c + 1]) := by
          have hlen2 : (l.take k ++ [c + 1]).length = k + 1 := by simp; omega
          refine .inr ⟨w.heap.size, 0, cap, by rw [hlen2], by omega, hg2, fun j hj => ?_⟩
          rw [Nat.zero_add]
          by_cases e : j = k
          · subst e
            rw [World.cell?_setCell_same _ _ _ hck]
            have : (l.take j ++ [c + 1])[j] = c + 1 := by
              rw [List.getElem_append_right (by simp; omega)]; simp
            rw [this, UInt8.toNat_add]
            simp
          · rw [World.cell?_setCell_other _ _ _ _ (by simp <;> omega), hcell j (by omega)]
            have : (l.take k ++ [c + 1])[j] = (l.take (k + 1))[j]'(by omega) := by
              rw [List.getElem_append_left (by simp; omega)]; simp
            rw [this]
        have hconv := conv_rd (P := Try.prog) 26 5 9 Try.underlying26 Try.underlying5 Try.underlying9 hrd
        clear hw0 hcell hrd hlk htl
        have HBW := hide hbw
        clear hbw
        go_wp2
        go_ret2
        rw [HB.out]
        exact ⟨rfl, HBW.out.setCell (Nat.le_refl _) _⟩

end Go.Proofs.Ytpammicadnfheaa

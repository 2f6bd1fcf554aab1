/-
  What the statements' row, are and alive of layer 15 answer.
-/
import Derived.Test.YtdgjinfaopkalaaMg7
import Derived.Test.YtdgjinfaopkalaaMathMg3
import Derived.Test.YtdgjinfaopkalaaBk1
namespace Go.Proofs.Ytdgjinfaopkalaa
open Go.RowKit
set_option linter.unusedVariables false
set_option linter.unusedSimpArgs false

def rowG : List Ent := [([97], 3, false, [120]), ([97], 2, true, []), ([97], 1, false, [119]), ([98], 2, false, [121])]

set_option maxHeartbeats 1000000 in
set_option maxRecDepth 100000 in
theorem row_mg (w : World) : Calls Try.prog 9 #[] w fun e w' => e = .returned (.slice (some ⟨w.heap.size, 0, none⟩) 4 4) ∧ OwN w' w.heap.size (.slice (some ⟨w.heap.size, 0, none⟩) 4 4) rowG ∧ Below w.heap.size w w' := by
  have ho := World.ownsRow_lit (base := w.heap.size) (e := 30) (size := 4) w #[.string { data := #[97] }, .int .i64 3, .bool false, .string { data := #[120] }, .string { data := #[97] }, .int .i64 2, .bool true, .string { data := #[] }, .string { data := #[97] }, .int .i64 1, .bool false, .string { data := #[119] }, .string { data := #[98] }, .int .i64 2, .bool false, .string { data := #[121] }] 4 (Nat.le_refl _) (by decide) rfl
  have hO : OwN (w.alloc (.cells #[.string { data := #[97] }, .int .i64 3, .bool false, .string { data := #[120] }, .string { data := #[97] }, .int .i64 2, .bool true, .string { data := #[] }, .string { data := #[97] }, .int .i64 1, .bool false, .string { data := #[119] }, .string { data := #[98] }, .int .i64 2, .bool false, .string { data := #[121] }] 30)) w.heap.size (.slice (some ⟨w.heap.size, 0, none⟩) 4 4) rowG := ho
  have HO := hide hO
  clear ho hO
  go_enter Try.func9, Try.ntmps9
  go_wp2
  go_ret
  exact ⟨rfl, HO.out, (Below.refl _ _).alloc (Nat.le_refl _) _⟩

set_option maxHeartbeats 2000000 in
set_option maxRecDepth 100000 in
theorem are_mg (a : Option Addr) (n c : Nat) (L : List Ent) (s : List UInt8) (w : World) (hrd : RdN w (.slice a n c) L) (hl : L.length = s.length) (hn : n ≤ 1000) (hs : ∀ i, (h : i < s.length) → ∃ j, j < 4 ∧ (s[i]).toNat = 48 + j ∧ L[i]? = rowG[j]?) :
    Calls Try.prog 12 #[.slice a n c, .string (bs s)] w fun e w' => e = .returned (.bool true) ∧ Below w.heap.size w w' := by
  have HN := hide hrd.len
  have HR := hide hrd
  have HS := hide hs
  have hs1 := bs_size s
  have hns : s.length = n := by have := HN.out; omega
  rw [hns] at hs1
  have HNS := hide hns
  clear hrd hs hl hns
  go_enter Try.func12, Try.ntmps12
  go_wp2
  go_loopw [5] (fun i wr => ∃ k : Nat, k ≤ n ∧ i = .int .i64 k ∧ Below w.heap.size w wr) (fun i _ => n - (intOf i).toNat)
  case atStart => exact ⟨0, Nat.zero_le _, rfl, Below.refl _ _⟩
  case round =>
    obtain ⟨k, hk, rfl, hbel⟩ := hrel
    by_cases hlt : k < n
    · have hlt' : (k : Int) < n := by omega
      have hkl : k < L.length := by have := HN.out; omega
      have hks : k < s.length := by have := HNS.out; omega
      obtain ⟨b, off, rfl, q0, q1, q2, q3⟩ := RdN.cells HR.out hbel k hkl
      obtain ⟨j, hj4, hjb, hjx⟩ := HS.out k hks
      have hix := fun wx => ix_bk s k hks wx
      obtain ⟨B, hB⟩ : ∃ B, B = (s[k]).toNat := ⟨_, rfl⟩
      rw [← hB] at hix hjb
      clear hB
      have hjl : j < rowG.length := hj4
      rw [List.getElem?_eq_getElem hkl, List.getElem?_eq_getElem hjl, Option.some.injEq] at hjx
      have HRC := hide (show ∀ (wy : World) (g : Nat), OwN wy g (.slice (some ⟨g, 0, none⟩) 4 4) rowG → CellsN wy g (0 + j * 4) L[k] from fun wy g h => by
        obtain ⟨b', o', e', r0, r1, r2, r3⟩ := RdN.cells (h.rd ecN_len) (Below.refl _ _) j hjl
        have e1 := Option.some.inj e'
        have e2 : b' = g := by simpa using (congrArg Addr.block e1).symm
        have e3 : o' = 0 := by simpa using (congrArg Addr.off e1).symm
        subst e2 e3
        rw [hjx]
        exact ⟨r0, r1, r2, r3⟩)
      obtain ⟨x, hx⟩ : ∃ x, x = L[k] := ⟨_, rfl⟩
      rw [← hx] at q0 q1 q2 q3 HRC
      clear hx hjx hjl hkl hks
      obtain ⟨K, S, D, V⟩ := x
      have HQ := hide (show CellsN wr b (off + k * 4) (K, S, D, V) from ⟨q0, q1, q2, q3⟩)
      clear q0 q1 q2 q3
      have hwB : IntKind.i64.wrap (B : Int) = B := by rw [IntKind.wrap_i64]; omega
      have hsB : (B : Int) - 48 = j := by omega
      have hwj : IntKind.i64.wrap (j : Int) = j := by rw [IntKind.wrap_i64]; omega
      have hj4' : (j : Int) < 4 := by omega
      have heg : ∀ op x y xs ys wx, (eqGuard op 30 x y (.agg xs) (.agg ys)).run Try.prog wx = .ok () wx := fun op x y xs ys wx => run_eqGuard_agg wx op 30 x y xs ys (by kernel_rfl)
      have hne' : ∀ wx, (binOp .neq 30 (.agg #[.string (bs K), .int .i64 S, .bool D, .string (bs V)]) (.agg #[.string (bs K), .int .i64 S, .bool D, .string (bs V)])).run Try.prog wx = .ok (.bool false) wx := fun wx => by
        have := run_equal_ent wx (K, S, D, V) (K, S, D, V)
        rw [decide_eq_true rfl] at this
        rw [run_neq_struct, this]; rfl
      have hK : Keeps (fun wx => CellsN wx b (off + k * 4) (K, S, D, V) ∧ Below w.heap.size w wx) := fun w1 w2 h hb => ⟨h.1.carry hb, h.2.trans (hb.mono h.2.size)⟩
      have hS0 : CellsN wr b (off + k * 4) (K, S, D, V) ∧ Below w.heap.size w wr := ⟨HQ.out, hbel⟩
      clear hbel hjb
      go_wp2_with fail
      refine reg_begin hK (by kernel_rfl) hS0 ?_
      intro hS
      clear hS0
      generalize wr.drew = wd at *
      refine reg_plan [0, 1, 2, 3, 5, 6, 7, 8, 9] (fuel := 4) (a' := ?qaa1) (by kernel_rfl) (by kernel_rfl) (by kernel_rfl) ?qap1 hS ?qan1
      case qap1 =>
        iterate 9 (apply Yl.cons rfl (by kernel_rfl); focus (rintro wx ⟨hx1, _⟩; obtain ⟨k0, k1, k2, k3⟩ := hx1; dsimp only at k0 k1 k2 k3; (try (cases e2; obtain ⟨p0, p1, p2, p3⟩ := hr; simp only [Nat.zero_add] at p0 p1 p2 p3)); go_simp; all_goals (with_reducible rfl)); try simp only [Act.put, List.setIfInBounds_toArray, List.set_cons_zero, List.set_cons_succ])
        exact Yl.nil
      refine reg_call hK (i := 4) (R := (fun v wy => ∃ g, v = .slice (some ⟨g, 0, none⟩) 4 4 ∧ CellsN wy g (0 + j * 4) (K, S, D, V))) rfl (by kernel_rfl) (by kernel_rfl) (by go_simp) hS ((row_mg _).mono fun e wy ⟨h1, h2, h3⟩ => ⟨_, h1, ⟨_, rfl, HRC.out _ _ h2⟩, h3⟩) (fun v w1 w2 h hb => by obtain ⟨g, e, h⟩ := h; exact ⟨g, e, h.carry hb⟩) ?_
      intro v21 w21 hKn hRn hSn
      clear hK hS
      have hK := hKn
      have hS := hSn
      clear hKn hSn
      obtain ⟨g, rfl, -⟩ := hRn
      try simp only [Act.put, List.setIfInBounds_toArray, List.set_cons_zero, List.set_cons_succ]
      refine reg_plan [10, 11, 12] (fuel := 0) (a' := ?qaa2) (by kernel_rfl) (by kernel_rfl) (by kernel_rfl) ?qap2 hS ?qan2
      case qap2 =>
        iterate 3 (apply Yl.cons rfl (by kernel_rfl); focus (rintro wx ⟨⟨hx1, _⟩, ⟨g2, e2, hr⟩⟩; obtain ⟨k0, k1, k2, k3⟩ := hx1; dsimp only at k0 k1 k2 k3; (try (cases e2; obtain ⟨p0, p1, p2, p3⟩ := hr; simp only [Nat.zero_add] at p0 p1 p2 p3)); go_simp; all_goals (with_reducible rfl)); try simp only [Act.put, List.setIfInBounds_toArray, List.set_cons_zero, List.set_cons_succ])
        exact Yl.nil
      refine wpAnyH_done (by kernel_rfl) ?_ _
      refine NoPanic.normal ?_
      try simp only [Act.put, List.setIfInBounds_toArray, List.set_cons_zero, List.set_cons_succ]
      have HB9 := hide hS.1.2
      clear hS hK hwB hsB hwj hj4' hix heg hne' HQ
      go_wp2
      go_roundw
      case rel => exact ⟨k + 1, by omega, by go_num, HB9.out⟩
      case measure => simp only [intOf]; omega
    · have hd : decide ((k : Int) < n) = false := by simpa using (by omega : ¬ (k : Int) < n)
      go_wp2
      go_ret
      exact ⟨by simp, hbel⟩

set_option maxRecDepth 100000 in
theorem row_ok : chkG rowG = 0 := by decide +kernel
theorem row_ask (s : Int) (h0 : 0 ≤ s) (h1 : s ≤ 1099511627776) : askG rowG s = 0 := askG_ok.2 ⟨row_ok, h0, h1⟩
theorem row_at3 : ansG rowG 3 (lseG 3 false rowG) = [([97], 3, false, [120]), ([98], 2, false, [121])] := by rw [ansG_ok (row_ask 3 (by decide) (by decide))]; decide +kernel
theorem row_at2 : ansG rowG 2 (lseG 2 false rowG) = [([97], 2, true, []), ([98], 2, false, [121])] := by rw [ansG_ok (row_ask 2 (by decide) (by decide))]; decide +kernel
theorem row_li2 : ansG rowG 2 (lseG 2 true rowG) = [([98], 2, false, [121])] := by rw [ansG_ok (row_ask 2 (by decide) (by decide))]; decide +kernel
end Go.Proofs.Ytdgjinfaopkalaa

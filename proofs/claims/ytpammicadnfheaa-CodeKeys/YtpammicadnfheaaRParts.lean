/-
  What the document's one, Parts and Above do.
-/
import Derived.Test.YtpammicadnfheaaRKey
import Derived.Test.YtpammicadnfheaaParts2
import Derived.Test.YtpammicadnfheaaAbove
namespace Go.Proofs.Ytpammicadnfheaa
open Go.RowKit
set_option linter.unusedVariables false
set_option linter.unusedSimpArgs false

/-- What the document's one answers: a part and how many bytes it has, where there is one. -/
def OneV (l : List UInt8) (e : Ending) : Prop :=
  ∃ (p : Pt) (n : Int), e = .returned (.tuple #[ptV p, .int .i64 n, .bool (cp l).isSome]) ∧ (∀ q r, cp l = some (q, r) → p = q ∧ ∃ k : Nat, n = k ∧ k ≤ l.length ∧ r = l.drop k)

set_option maxHeartbeats 1000000 in
set_option maxRecDepth 100000 in
theorem rone_any (c : UInt8) (l : List UInt8) (w : World) (hl : l.length ≤ 1000) :
    Calls Try.prog 36 #[.string (bs (c :: l))] w fun e w' => OneV (c :: l) e ∧ Below w.heap.size w w' := by
  have hg0 : ∀ h, (bs (c :: l))[0]'h = c := fun h => by rw [bs_get]; rfl
  have hsz : (bs (c :: l)).size = l.length + 1 := by rw [bs_size]; rfl
  have hcb := c.toNat_lt
  have hB0 : Below w.heap.size w (w.alloc (.cells #[.bool false, .int .u64 0, .string { data := #[] }] 32)) := (Below.refl _ _).alloc (Nat.le_refl _) _
  have HB0 := hide hB0
  clear hB0
  by_cases h1 : c = 1
  · subst h1
    by_cases h9 : l.length < 8
    · have h9' : ((l.length : Int) + 1) < 9 := by omega
      have HK : Hid (cp (1 :: l) = none) := by show _ = _; simp [cp, cw, h9]
      go_enter Try.func36, Try.ntmps36
      go_wp2
      refine bodyPost_ret (v := .tuple #[ptV (false, 0, []), .int .i64 0, .bool false]) ?_ rfl ⟨⟨(false, 0, []), 0, by rw [HK.out]; rfl, fun q r h => by rw [HK.out] at h; cases h⟩, HB0.out⟩
      unfold ptV
      simp [results, Try.results36, go_sem, *] <;> rfl
    · have h9' : (9 : Int) ≤ (l.length : Int) + 1 := by omega
      have HK : Hid (cp (1 :: l) = some ((false, wn (l.take 8) 0, []), l.drop 8)) := by show _ = _; simp [cp, cw, h9]
      go_enter Try.func36, Try.ntmps36
      go_wp2
      go_loop [5, 6] (fun n i => ∃ k : Nat, k ≤ 8 ∧ i = .int .i64 ((k : Int) + 1) ∧ n = .int .u64 (wn (l.take k) 0 : Nat)) (fun _ i => 9 - (intOf i).toNat)
      case atStart => exact ⟨0, Nat.zero_le _, rfl, rfl⟩
      case round =>
        obtain ⟨k, hk, rfl, rfl⟩ := hrel
        by_cases hlt : k < 8
        · have hlt' : (k : Int) + 1 < 9 := by omega
          have hkl : (k : Int) + 1 < (l.length : Int) + 1 := by omega
          have hgk : ∀ h, (bs (1 :: l))[k + 1]'h = l[k]'(by omega) := fun h => by rw [bs_get]; rfl
          have HW : Hid (wn (l.take (k + 1)) 0 = wn (l.take k) 0 * 256 + (l[k]'(by omega)).toNat) := by
            show _ = _
            rw [List.take_succ_eq_append_getElem (by omega), wn_snoc]
          have hb := wn_lt (l.take k)
          have hkk : (l.take k).length = k := by simp; omega
          rw [hkk] at hb
          have hp : 256 ^ k ≤ 256 ^ 7 := Nat.pow_le_pow_right (by decide) (by omega)
          have hb2 : wn (l.take k) 0 < 256 ^ 7 := Nat.lt_of_lt_of_le hb hp
          obtain ⟨x, hx⟩ : ∃ x, x = wn (l.take k) 0 := ⟨_, rfl⟩
          obtain ⟨y, hy⟩ : ∃ y, y = l[k]'(by omega) := ⟨_, rfl⟩
          rw [← hx] at HW hb2 ⊢
          rw [← hy] at HW hgk
          have hb3 : x < 72057594037927936 := by omega
          have hyb := y.toNat_lt
          clear hb hp hb2 hx hkk hy
          go_wp2
          go_round
          case rel => exact ⟨k + 1, by omega, by go_num, by rw [HW.out]; go_num⟩
          case measure => simp [intOf] <;> omega
        · obtain rfl : k = 8 := by omega
          go_wp2
          refine bodyPost_ret (v := .tuple #[ptV (false, wn (l.take 8) 0, []), .int .i64 9, .bool true]) ?_ rfl ⟨⟨(false, wn (l.take 8) 0, []), 9, by rw [HK.out]; rfl, fun q r h => by rw [HK.out] at h; cases h; exact ⟨rfl, 9, rfl, by simp; omega, rfl⟩⟩, (Below.refl _ _).alloc (Nat.le_refl _) _⟩
          unfold ptV
          simp [results, Try.results36, go_sem, *] <;> rfl
  · have h1' : ((c.toNat : Int) == 1) = false := by
      have : c.toNat ≠ 1 := fun h => h1 (by rw [← UInt8.toNat_inj]; simpa using h)
      simpa using (by omega : ¬ (c.toNat : Int) = 1)
    by_cases h2 : c = 2
    · subst h2
      have h29 : ¬ ((UInt8.toNat 2 : Int) == 1) = true := by simp
      obtain ⟨W0, hW0⟩ : ∃ W0, W0 = (w.alloc (.cells #[.bool false, .int .u64 0, .string { data := #[] }] 32)) := ⟨_, rfl⟩
      have k0 : W0.cell? ⟨w.heap.size, 0, none⟩ = some (.bool false) := by rw [hW0]; simp
      have k1 : W0.cell? ⟨w.heap.size, 1, none⟩ = some (.int .u64 0) := by rw [hW0]; simp
      have k2 : W0.cell? ⟨w.heap.size, 2, none⟩ = some (.string { data := #[] }) := by rw [hW0]; simp
      have f0 : W0.frozen? ⟨w.heap.size, 0, none⟩ = false := by rw [hW0]; simp
      have f1 : W0.frozen? ⟨w.heap.size, 1, none⟩ = false := by rw [hW0]; simp
      have f2 : W0.frozen? ⟨w.heap.size, 2, none⟩ = false := by rw [hW0]; simp
      have hlt0 : w.heap.size < W0.heap.size := by rw [hW0]; simp
      have HB : Hid (Below w.heap.size w W0) := by rw [hW0]; exact HB0.out
      have HK0 := hide k0
      have HK1 := hide k1
      have HK2 := hide k2
      have HF0 := hide f0
      have HF1 := hide f1
      have HF2 := hide f2
      have HW0 := hide hW0
      clear k0 k1 k2 f0 f1 f2 hW0 HB0
      have hN : ∀ x : Option (List UInt8 × List UInt8), ctx l = x → cp (2 :: l) = x.map fun x => ((true, 0, x.1), x.2) := fun x h => by simp [cp, h]
      have HN := hide hN
      clear hN
      by_cases h9 : (l.length : Int) + 1 < 9
      all_goals
        go_enter Try.func36, Try.ntmps36
        go_wp2
        rw [← HW0.out]
        go_loopw [7, 8] (fun x i wr => ∃ (k : Nat) (p : List UInt8), k ≤ l.length ∧ p.length ≤ k ∧ i = .int .i64 ((k : Int) + 1) ∧ ctx l = ((ctx (l.drop k)).map fun y => (p ++ y.1, y.2)) ∧ wr.ownsRow W0.heap.size 5 1 x p.length (u8v p) ∧ Below W0.heap.size W0 wr) (fun _ i _ => l.length + 1 - (intOf i).toNat)
        case atStart => exact ⟨0, [], Nat.zero_le _, Nat.zero_le _, rfl, by rw [List.drop_zero]; cases ctx l <;> simp, World.ownsRow_nil _ _ _ _, Below.refl _ _⟩
        case round =>
          obtain ⟨k, p, hk, hpl, rfl, hctx, hown, hbel⟩ := hrel
          have HX := hide hctx
          clear hctx
          have k0 : wr.cell? ⟨w.heap.size, 0, none⟩ = some (.bool false) := (hbel.cell hlt0).trans HK0.out
          have k1 : wr.cell? ⟨w.heap.size, 1, none⟩ = some (.int .u64 0) := (hbel.cell hlt0).trans HK1.out
          have k2 : wr.cell? ⟨w.heap.size, 2, none⟩ = some (.string { data := #[] }) := (hbel.cell hlt0).trans HK2.out
          have f0 : wr.frozen? ⟨w.heap.size, 0, none⟩ = false := (hbel.frozen hlt0).trans HF0.out
          have f1 : wr.frozen? ⟨w.heap.size, 1, none⟩ = false := (hbel.frozen hlt0).trans HF1.out
          have f2 : wr.frozen? ⟨w.heap.size, 2, none⟩ = false := (hbel.frozen hlt0).trans HF2.out
          have hbw : Below w.heap.size w wr := HB.out.trans (hbel.mono (Nat.le_of_lt hlt0))
          by_cases hlt : k < l.length
          · have hlt' : (k : Int) + 1 < (l.length : Int) + 1 := by omega
            have HD : Hid (l.drop k = l[k] :: l.drop (k + 1)) := List.drop_eq_getElem_cons hlt
            have hgk : ∀ h, (bs (2 :: l))[k + 1]'h = l[k] := fun h => by rw [bs_get]; rfl
            obtain ⟨d, hd⟩ : ∃ d, d = l[k] := ⟨_, rfl⟩
            rw [← hd] at HD hgk
            clear hd
            have hdb := d.toNat_lt
            by_cases hd0 : d = 0
            · subst hd0
              by_cases hend : k + 1 < l.length
              · have hend' : (k : Int) + 1 + 1 < (l.length : Int) + 1 := by omega
                have HD2 : Hid (l.drop (k + 1) = l[k + 1] :: l.drop (k + 2)) := List.drop_eq_getElem_cons hend
                have hgk2 : ∀ h, (bs (2 :: l))[k + 1 + 1]'h = l[k + 1] := fun h => by rw [bs_get]; rfl
                obtain ⟨e, he⟩ : ∃ e, e = l[k + 1] := ⟨_, rfl⟩
                rw [← he] at HD2 hgk2
                clear he
                have heb := e.toNat_lt
                by_cases he0 : e = 0
                · subst he0
                  have HC : Hid (ctx l = some (p, l.drop (k + 2))) := by
                    show _ = _
                    rw [HX.out, HD.out, HD2.out]; simp [ctx]
                  have HK : Hid (cp (2 :: l) = some ((true, 0, p), l.drop (k + 2))) := by show _ = _; rw [HN.out _ HC.out]; rfl
                  have hconv := conv_rd (P := Try.prog) 26 5 9 Try.underlying26 Try.underlying5 Try.underlying9 (own_rd hown)
                  go_wp2
                  refine bodyPost_ret (v := .tuple #[ptV (true, 0, p), .int .i64 ((k : Int) + 1 + 2), .bool true]) ?_ rfl ⟨⟨(true, 0, p), ((k : Int) + 1 + 2), by rw [HK.out]; rfl, fun q r h => by rw [HK.out] at h; cases h; exact ⟨rfl, k + 3, by omega, by simp; omega, rfl⟩⟩, below3 hbw _ _ _⟩
                  unfold ptV
                  simp [results, Try.results36, go_sem, *] <;> rfl
                · have he0' : ((e.toNat : Int) == 0) = false := by
                    have : e.toNat ≠ 0 := fun h => he0 (by rw [← UInt8.toNat_inj]; simpa using h)
                    simpa using this
                  by_cases he5 : e = 255
                  · subst he5
                    have HC : Hid (ctx l = ((ctx (l.drop (k + 2))).map fun y => (p ++ [0] ++ y.1, y.2))) := by
                      show _ = _
                      rw [HX.out, HD.out, HD2.out, ctx]
                      simp only [if_true, show ((255 : UInt8) = 0) = False by simp, if_false]
                      cases ctx (l.drop (k + 2)) <;> simp
                    go_wp2_with (at_builtin; go_must (refine wpList_app1 W0 wr rfl (.tmp 77) (.tmp 78) 26 rfl W0.heap.size 5 Try.underlying26 Try.infoB _ p hown rfl hbel (Nat.le_refl _) _ 0 (by rfl) rfl (by omega) ?_); intro v2 w2 hown2 hbel2)
                    go_roundw
                    case rel => exact ⟨k + 2, p ++ [0], by omega, by simp; omega, by go_num, HC.out, hown2, hbel2⟩
                    case measure => simp [intOf] <;> omega
                  · have he5' : ((e.toNat : Int) != 255) = true := by
                      have : e.toNat ≠ 255 := fun h => he5 (by rw [← UInt8.toNat_inj]; simpa using h)
                      simpa using (by omega : ¬ (e.toNat : Int) = 255)
                    have HC : Hid (ctx l = none) := by
                      show _ = _
                      rw [HX.out, HD.out, HD2.out, ctx]; simp [he0, he5]
                    have HK : Hid (cp (2 :: l) = none) := by show _ = _; rw [HN.out _ HC.out]; rfl
                    go_wp2
                    refine bodyPost_ret (v := .tuple #[ptV (false, 0, []), .int .i64 0, .bool false]) ?_ rfl ⟨⟨(false, 0, []), 0, by rw [HK.out]; rfl, fun q r h => by rw [HK.out] at h; cases h⟩, below3 hbw _ _ _⟩
                    unfold ptV
                    simp [results, Try.results36, go_sem, *] <;> rfl
              · have hend' : (l.length : Int) + 1 ≤ (k : Int) + 1 + 1 := by omega
                have HC : Hid (ctx l = none) := by
                  show _ = _
                  rw [HX.out, HD.out, List.drop_eq_nil_of_le (by omega)]; simp [ctx]
                have HK : Hid (cp (2 :: l) = none) := by show _ = _; rw [HN.out _ HC.out]; rfl
                go_wp2
                refine bodyPost_ret (v := .tuple #[ptV (false, 0, []), .int .i64 0, .bool false]) ?_ rfl ⟨⟨(false, 0, []), 0, by rw [HK.out]; rfl, fun q r h => by rw [HK.out] at h; cases h⟩, below3 hbw _ _ _⟩
                unfold ptV
                simp [results, Try.results36, go_sem, *] <;> rfl
            · have hd0' : ((d.toNat : Int) != 0) = true := by
                have : d.toNat ≠ 0 := fun h => hd0 (by rw [← UInt8.toNat_inj]; simpa using h)
                simpa using this
              have HC : Hid (ctx l = ((ctx (l.drop (k + 1))).map fun y => (p ++ [d] ++ y.1, y.2))) := by
                show _ = _
                rw [HX.out, HD.out, ctx_nz hd0]
                cases ctx (l.drop (k + 1)) <;> simp
              go_wp2_with (at_builtin; go_must (refine wpList_app1 W0 wr rfl (.tmp 49) (.tmp 53) 26 rfl W0.heap.size 5 Try.underlying26 Try.infoB _ p hown rfl hbel (Nat.le_refl _) _ d rfl rfl (by omega) ?_); intro v2 w2 hown2 hbel2)
              go_roundw
              case rel => exact ⟨k + 1, p ++ [d], by omega, by simp; omega, by go_num, HC.out, hown2, hbel2⟩
              case measure => simp [intOf] <;> omega
          · have hlt' : ¬ ((k : Int) + 1 < (l.length : Int) + 1) := by omega
            have HC : Hid (ctx l = none) := by
              show _ = _
              rw [HX.out, List.drop_eq_nil_of_le (by omega)]; simp [ctx]
            have HK : Hid (cp (2 :: l) = none) := by show _ = _; rw [HN.out _ HC.out]; rfl
            go_wp2
            refine bodyPost_ret (v := .tuple #[ptV (false, 0, []), .int .i64 0, .bool false]) ?_ rfl ⟨⟨(false, 0, []), 0, by rw [HK.out]; rfl, fun q r h => by rw [HK.out] at h; cases h⟩, below3 hbw _ _ _⟩
            unfold ptV
            simp [results, Try.results36, go_sem, *] <;> rfl
    · have h2' : ((c.toNat : Int) == 2) = false := by
        have : c.toNat ≠ 2 := fun h => h2 (by rw [← UInt8.toNat_inj]; simpa using h)
        simpa using (by omega : ¬ (c.toNat : Int) = 2)
      have h2'' : ((c.toNat : Int) != 2) = true := by simpa using (by intro e; rw [e] at h2'; simp at h2' : ¬ (c.toNat : Int) = 2)
      have HK : Hid (cp (c :: l) = none) := by show _ = _; simp [cp, h1, h2]
      clear h1 h2
      by_cases h9 : (l.length : Int) + 1 < 9
      · go_enter Try.func36, Try.ntmps36
        go_wp2
        refine bodyPost_ret (v := .tuple #[ptV (false, 0, []), .int .i64 0, .bool false]) ?_ rfl ⟨⟨(false, 0, []), 0, by rw [HK.out]; rfl, fun q r h => by rw [HK.out] at h; cases h⟩, HB0.out⟩
        unfold ptV
        simp [results, Try.results36, go_sem, *] <;> rfl
      · have h9' : (9 : Int) ≤ (l.length : Int) + 1 := by omega
        go_enter Try.func36, Try.ntmps36
        go_wp2
        refine bodyPost_ret (v := .tuple #[ptV (false, 0, []), .int .i64 0, .bool false]) ?_ rfl ⟨⟨(false, 0, []), 0, by rw [HK.out]; rfl, fun q r h => by rw [HK.out] at h; cases h⟩, HB0.out⟩
        unfold ptV
        simp [results, Try.results36, go_sem, *] <;> rfl

end Go.Proofs.Ytpammicadnfheaa

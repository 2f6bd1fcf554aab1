/-
  What the document's Parts and Above do.
-/
import Derived.Test.YtpammicadnfheaaRParts
namespace Go.Proofs.Ytpammicadnfheaa
open Go.RowKit
set_option linter.unusedVariables false
set_option linter.unusedSimpArgs false

set_option maxHeartbeats 600000 in
set_option maxRecDepth 100000 in
theorem rparts_any (s : List UInt8) (w : World) (hs : s.length ≤ 1000000000) :
    Calls Try.prog 25 #[.string (bs s)] w fun e w' => ∃ v, e = .returned (.tuple #[v, .int .i64 (pa s).2]) ∧ RdP w' v (pa s).1 ∧ Below w.heap.size w w' := by
  have hss := bs_size s
  by_cases hsh : s.length < 1 ∨ 64 < s.length
  · have HP := hide (pa_short hsh)
    rcases hsh with h | h
    · have h' : (s.length : Int) < 1 := by omega
      go_enter Try.func25, Try.ntmps25
      go_wp2
      all_goals (go_ret2; rw [HP.out]; exact ⟨_, rfl, .inl ⟨rfl, .inl rfl⟩, Below.refl _ _⟩)
    · have h' : (64 : Int) < s.length := by omega
      go_enter Try.func25, Try.ntmps25
      go_wp2
      all_goals (go_ret2; rw [HP.out]; exact ⟨_, rfl, .inl ⟨rfl, .inl rfl⟩, Below.refl _ _⟩)
  · have HS := hide hsh
    have h1 : 1 ≤ s.length := by omega
    have h64 : s.length ≤ 64 := by omega
    clear hsh hs
    go_enter Try.func25, Try.ntmps25
    go_wp2
    go_loopw [0, 4] (fun z x wr => ∃ (r : List UInt8) (ps : List Pt), z = .string (bs r) ∧ r.length ≤ 64 ∧ ps.length ≤ 8 ∧ prs 8 s = ((prs (8 - ps.length) r).map fun l => ps ++ l) ∧ fits ps ∧ wr.ownsRow w.heap.size 32 3 x ps.length (ptsv ps) ∧ Below w.heap.size w wr)
      (fun z _ _ => match z with | .string b => b.size | _ => 0)
    case atStart => exact ⟨s, [], rfl, h64, by simp, by cases prs 8 s <;> simp, fun j h => by simp at h, World.ownsRow_nil _ _ _ _, Below.refl _ _⟩
    case round =>
      obtain ⟨r, ps, rfl, hrl, hpl, hprs, hfit, hown, hbel⟩ := hrel
      have HR := hide hprs
      have HF := hide hfit
      clear hprs hfit
      obtain ⟨ax, cx, rfl⟩ := own_form hown
      cases r with
      | nil =>
        have hq : (bs ([] : List UInt8)).size = 0 := by rw [bs_size]; rfl
        have HK : Hid (pa s = (ps, 0)) := pa_some HS.out (by rw [HR.out, prs]; simp)
        go_wp2
        go_ret2
        rw [HK.out]
        exact ⟨_, rfl, own_rdp hown HF.out, hbel⟩
      | cons c q =>
        have hsz : (bs (c :: q)).size = q.length + 1 := by rw [bs_size]; rfl
        have hq0 : (0 : Int) < (q.length : Int) + 1 := by omega
        go_wp2_with fail
        refine (rone_any c q _ (by simp at hrl; omega)).mono ?_
        rintro e w1 ⟨⟨p, n, rfl, hp⟩, hb1⟩
        have hbel1 : Below w.heap.size w w1 := hbel.trans (hb1.mono hbel.size)
        have hown1 := own_carry hown hb1
        clear hb1 hbel hown
        cases hcp : cp (c :: q) with
        | none =>
          have HK : Hid (pa s = ([], 8)) := pa_none HS.out (by rw [HR.out, prs_none hcp]; rfl)
          clear hp hcp
          unfold ptV
          go_wp2
          go_ret2
          rw [HK.out]
          exact ⟨_, rfl, .inl ⟨rfl, .inl rfl⟩, hbel1.alloc hbel1.size _⟩
        | some y =>
          obtain ⟨p', t⟩ := y
          obtain ⟨rfl, k, rfl, hk, ht⟩ := hp p' t hcp
          obtain ⟨hf1, hf2, hf3⟩ := cp_fits hcp
          have HCP := hide hcp
          have hkl : k ≤ q.length + 1 := by simpa using hk
          have hkl' : (k : Int) ≤ (q.length : Int) + 1 := by omega
          have hx : (bs (c :: q)).extract k (q.length + 1) = bs t := by
            rw [bs_extract _ _ _ (by simp), ht, show q.length + 1 = (c :: q).length from rfl, List.take_length]
          clear hp hcp ht hk
          unfold ptV
          have hst := bs_size t
          by_cases h8 : ps.length = 8
          · have h8' : ((ps.length : Int) == 8) = true := by simpa using (by omega : (ps.length : Int) = 8)
            have HK : Hid (pa s = ([], 8)) := pa_none HS.out (by rw [HR.out, h8]; rfl)
            clear h8
            go_wp2
            go_ret2
            rw [HK.out]
            exact ⟨_, rfl, .inl ⟨rfl, .inl rfl⟩, hbel1.alloc hbel1.size _⟩
          · have h8' : ((ps.length : Int) == 8) = false := by simpa using (by omega : ¬ (ps.length : Int) = 8)
            have HK : Hid (prs 8 s = ((prs (8 - (ps ++ [p]).length) t).map fun l => ps ++ [p] ++ l)) := by
              show _ = _
              rw [HR.out, show 8 - ps.length = (8 - (ps ++ [p]).length) + 1 by simp; omega, prs_step HCP.out]
              cases prs (8 - (ps ++ [p]).length) t <;> simp
            go_wp2_with (at_builtin; go_must (refine wpList_appP w (w1.alloc _) rfl (.tmp 32) (.tmp 34) 34 rfl w.heap.size 32 Try.underlying34 Try.infoP _ ps (hown1.alloc _) rfl (hbel1.alloc hbel1.size _) (Nat.le_refl _) p (w1.heap.size + 1) (by simp) rfl (by omega) ?_); intro v2 w2 hown2 hbel2)
            go_roundw
            case rel => exact ⟨t, ps ++ [p], rfl, by simp at hf3 hrl; omega, by simp; omega, HK.out, fits_snoc HF.out hf1 (by unfold maxLen; simp at hf2 hrl; omega), hown2, hbel2⟩
            case measure => simp [bs_size] at hf3 ⊢ <;> omega

theorem bs_append (a b : List UInt8) : bs a ++ bs b = bs (a ++ b) := by
  apply WideShapes.bytes_inj
  simp [bs]

set_option maxHeartbeats 600000 in
set_option maxRecDepth 100000 in
theorem rabove_any (l : List UInt8) (w : World) (hl : l.length ≤ 1000000000) :
    Calls Try.prog 26 #[.string (bs l)] w fun e w' => e = .returned (abV (ab l)) ∧ Below w.heap.size w w' := by
  go_enter Try.func26, Try.ntmps26
  go_wp2
  go_loop [0] (fun z => ∃ n : Nat, n ≤ l.length ∧ z = .string (bs (l.take n)) ∧ ab l = ab (l.take n)) (fun z => match z with | .string b => b.size | _ => 0)
  case atStart => exact ⟨l.length, Nat.le_refl _, by rw [List.take_length], by rw [List.take_length]⟩
  case round =>
    obtain ⟨n, hn, rfl, hab⟩ := hrel
    have HA := hide hab
    clear hab
    have htl : (l.take n).length = n := by simp; omega
    have hsz : (bs (l.take n)).size = n := by rw [bs_size, htl]
    by_cases h0 : n = 0
    · subst h0
      have HE : Hid (ab l = none) := by show _ = _; rw [HA.out]; rfl
      rw [List.take_zero] at hsz ⊢
      have hq : (bs []).toList.isEmpty = true := by rw [ByteArray.toList_eq]; rfl
      clear htl
      go_wp2
      go_ret2
      rw [HE.out]
      exact ⟨rfl, Below.refl _ _⟩
    · obtain ⟨k, rfl⟩ : ∃ k, n = k + 1 := ⟨n - 1, by omega⟩
      have hkl : k < l.length := by omega
      have HT : Hid (l.take (k + 1) = l.take k ++ [l[k]]) := List.take_succ_eq_append_getElem hkl
      have HB : Hid (ab l = if l[k] = 255 then ab (l.take k) else some (l.take k ++ [l[k] + 1])) := by show _ = _; rw [HA.out, HT.out, ab_snoc]
      have hq : (bs (l.take (k + 1))).toList.isEmpty = false := by
        rw [ByteArray.toList_eq, bs_toList, HT.out]
        cases l.take k <;> rfl
      obtain ⟨c, hc⟩ : ∃ c, c = l[k] := ⟨_, rfl⟩
      rw [← hc] at HT HB
      have hg : ∀ h, (bs (l.take (k + 1)))[k]'h = c := fun h => by rw [bs_get]; simp [hc]
      have hx : (bs (l.take (k + 1))).extract 0 k = bs (l.take k) := by
        rw [bs_extract _ _ _ (by omega), List.drop_zero, List.take_take, Nat.min_eq_left (by omega)]
      clear hc
      have hcb := c.toNat_lt
      have hk1 : ((k + 1 : Nat) : Int) - 1 = (k : Int) := by omega
      by_cases h255 : c = 255
      · have h255n : ((c.toNat : Int) == 255) = true := by rw [h255]; rfl
        rw [if_pos h255] at HB
        clear h255
        go_wp2
        go_round
        case rel => exact ⟨k, by omega, rfl, HB.out⟩
        case measure => simp [bs_size] <;> omega
      · have h255n : ((c.toNat : Int) == 255) = false := by
          have : c.toNat ≠ 255 := fun h => h255 (by rw [← UInt8.toNat_inj]; simpa using h)
          simpa using (by omega : ¬ (c.toNat : Int) = 255)
        rw [if_neg h255] at HB
        clear h255
        have hb1 : (k : Int) ≤ (k : Int) + 1 := by omega
        have hb2 : (k : Int) < (k : Int) + 1 := by omega
        have hb0 : (0 : Int) ≤ (k : Int) := by omega
        have hz1 : (bs (l.take k)).size = k := by rw [bs_size]; simp; omega
        have hz2 : (bs [c + 1]).size = 1 := by rw [bs_size]; rfl
        have hz3 : ¬ (9223372036854775807 < k + 1) := by omega
        go_wp2
        refine reg_begin' (S := fun _ => True) (by kernel_rfl) trivial ?_
        intro hS
        refine reg_take (i := 0) (v := ?qv0) rfl (by kernel_rfl) (by kernel_rfl) (by kernel_rfl) (by rfl) ?qy0 hS ?qr0
        case qy0 => (intro wx hx'; go_simp; all_goals (with_reducible rfl))
        try simp only [Act.put, List.setIfInBounds_toArray, List.set_cons_zero, List.set_cons_succ]
        refine reg_take (i := 1) (v := ?qv1) rfl (by kernel_rfl) (by kernel_rfl) (by kernel_rfl) (by rfl) ?qy1 hS ?qr1
        case qy1 => (intro wx hx'; go_simp; all_goals (with_reducible rfl))
        try simp only [Act.put, List.setIfInBounds_toArray, List.set_cons_zero, List.set_cons_succ]
        refine reg_take (i := 2) (v := ?qv2) rfl (by kernel_rfl) (by kernel_rfl) (by kernel_rfl) (by rfl) ?qy2 hS ?qr2
        case qy2 => (intro wx hx'; go_simp; all_goals (with_reducible rfl))
        try simp only [Act.put, List.setIfInBounds_toArray, List.set_cons_zero, List.set_cons_succ]
        refine reg_take (i := 3) (v := ?qv3) rfl (by kernel_rfl) (by kernel_rfl) (by kernel_rfl) (by rfl) ?qy3 hS ?qr3
        case qy3 => (intro wx hx'; go_simp; all_goals (with_reducible rfl))
        try simp only [Act.put, List.setIfInBounds_toArray, List.set_cons_zero, List.set_cons_succ]
        refine reg_take (i := 4) (v := ?qv4) rfl (by kernel_rfl) (by kernel_rfl) (by kernel_rfl) (by rfl) ?qy4 hS ?qr4
        case qy4 => (intro wx hx'; go_simp; all_goals (with_reducible rfl))
        try simp only [Act.put, List.setIfInBounds_toArray, List.set_cons_zero, List.set_cons_succ]
        refine reg_take (i := 5) (v := ?qv5) rfl (by kernel_rfl) (by kernel_rfl) (by kernel_rfl) (by rfl) ?qy5 hS ?qr5
        case qy5 => (intro wx hx'; go_simp; all_goals (with_reducible rfl))
        try simp only [Act.put, List.setIfInBounds_toArray, List.set_cons_zero, List.set_cons_succ]
        refine reg_take (i := 6) (v := ?qv6) rfl (by kernel_rfl) (by kernel_rfl) (by kernel_rfl) (by rfl) ?qy6 hS ?qr6
        case qy6 => (intro wx hx'; go_simp; all_goals (with_reducible rfl))
        try simp only [Act.put, List.setIfInBounds_toArray, List.set_cons_zero, List.set_cons_succ]
        refine reg_run (i := 7) (v := .slice (some ⟨w.heap.size, 0, none⟩) 1 1) (w' := (w.alloc (.cells #[.int .u8 (IntKind.u8.wrap ((c.toNat : Int) + 1))] 5)).drew) rfl (by kernel_rfl) (by rfl) (by go_simp) trivial ?_
        try simp only [Act.put, List.setIfInBounds_toArray, List.set_cons_zero, List.set_cons_succ]
        have hrd : Rd (w.alloc (.cells #[.int .u8 (IntKind.u8.wrap ((c.toNat : Int) + 1))] 5)).drew (.slice (some ⟨w.heap.size, 0, none⟩) 1 1) [c + 1] := by
          refine .inr ⟨w.heap.size, 0, 1, rfl, Nat.le_refl _, by decide, fun j hj => ?_⟩
          have e : j = 0 := by simp at hj; omega
          subst e
          have h1 : (([c + 1] : List UInt8)[0]).toNat = (c.toNat + 1) % 256 := by show (c + 1).toNat = _; rw [UInt8.toNat_add]; rfl
          rw [h1, IntKind.wrap_u8]
          simp
        refine wpAnyH_mono (S' := fun wx => Rd wx (.slice (some ⟨w.heap.size, 0, none⟩) 1 1) [c + 1]) (fun _ _ => trivial) _ _ _ _ ?_
        clear hS
        have hS := hrd
        clear hrd
        refine reg_take (i := 8) (v := .string (bs [c + 1])) rfl (by kernel_rfl) (by kernel_rfl) (by kernel_rfl) (by rfl) (fun wx hx' => yield_conv rfl Try.underlying26 Try.underlying5 Try.underlying9 rfl hx') hS ?_
        try simp only [Act.put, List.setIfInBounds_toArray, List.set_cons_zero, List.set_cons_succ]
        refine reg_take (i := 9) (v := ?qv9) rfl (by kernel_rfl) (by kernel_rfl) (by kernel_rfl) (by rfl) ?qy9 hS ?qr9
        case qy9 => (intro wx hx'; go_simp; all_goals (with_reducible rfl))
        try simp only [Act.put, List.setIfInBounds_toArray, List.set_cons_zero, List.set_cons_succ]
        refine reg_take (i := 10) (v := ?qv10) rfl (by kernel_rfl) (by kernel_rfl) (by kernel_rfl) (by rfl) ?qy10 hS ?qr10
        case qy10 => (intro wx hx'; go_simp; all_goals (with_reducible rfl))
        try simp only [Act.put, List.setIfInBounds_toArray, List.set_cons_zero, List.set_cons_succ]
        refine reg_take (i := 11) (v := ?qv11) rfl (by kernel_rfl) (by kernel_rfl) (by kernel_rfl) (by rfl) ?qy11 hS ?qr11
        case qy11 => (intro wx hx'; go_simp; all_goals (with_reducible rfl))
        try simp only [Act.put, List.setIfInBounds_toArray, List.set_cons_zero, List.set_cons_succ]
        refine wpAnyH_done (by kernel_rfl) ?_ _
        refine NoPanic.normal ?_
        go_wp2
        go_ret2
        rw [HB.out]
        refine ⟨?_, ((Below.refl w.heap.size w).alloc (Nat.le_refl _) _).drew⟩
        show Ending.returned (.tuple #[.string (bs (l.take k) ++ bs [c + 1]), .bool true]) = _
        rw [bs_append]
        rfl

end Go.Proofs.Ytpammicadnfheaa

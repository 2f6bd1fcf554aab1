/-
  What the document's Apply, Get and Size do.
-/
import Derived.Test.YtoedfbceapfimaaMr3
namespace Go.Proofs.Ytoedfbceapfimaa
open Go.RowKit
set_option linter.unusedVariables false
set_option linter.unusedSimpArgs false

theorem RdN.box {w : World} {A : Nat} {v u y : Value} {l : List Ent} (h : RdN w v l) (hA : MemAt w A y) : RdN (w.setCell ⟨A, 0, none⟩ u) v l := by
  rcases h with h | ⟨b, off, c, rfl, h1, h2, h3⟩
  · exact .inl h
  · refine .inr ⟨b, off, c, rfl, h1, h2, ?_⟩
    intro j hj i x hx
    have hb : b ≠ A := by
      rintro rfl
      have h4 := h3 j hj 1 _ rfl
      rw [cell_of_row w b (off + j * 4 + 1) _ _ (0, 0) hA] at h4
      rw [Array.getElem?_eq_none (by show 1 ≤ off + j * 4 + 1; omega)] at h4
      cases h4
    rw [World.cell?_setCell_other w _ _ _ (by intro e; simp only [Addr.mk.injEq] at e; exact hb e.1.symm)]
    exact h3 j hj i x hx
theorem apl_a3 {l : List Ent} {s : Int} {m : List Opn} (h : memE l = 0) (h2 : askO s m = 0) {e : Ent} (he : e ∈ l) (h3 : s ≤ e.2.1) : aplE l s m = 2 ∧ aplM l s m = [] := by
  have ea : l.any (fun e => decide (s ≤ e.2.1)) = true := List.any_eq_true.2 ⟨e, he, by simpa using h3⟩
  have e1 : aplE l s m = 2 := by unfold aplE; rw [if_neg (fun q => q h), if_neg (fun q => q h2), if_pos ea]
  exact ⟨e1, by unfold aplM; rw [if_pos (by rw [e1]; decide)]⟩
theorem any_no {l : List Ent} {s : Int} (h3 : ∀ e ∈ l, e.2.1 < s) : ¬ l.any (fun e => decide (s ≤ e.2.1)) = true := by
  intro q
  obtain ⟨e, he, k⟩ := List.any_eq_true.1 q
  have := h3 e he
  have k' : s ≤ e.2.1 := by simpa using k
  omega
theorem apl_a4 {l : List Ent} {s : Int} {m : List Opn} (h : memE l = 0) (h2 : askO s m = 0) (h3 : ∀ e ∈ l, e.2.1 < s) (h4 : 512 < l.length + m.length) : aplE l s m = 4 ∧ aplM l s m = [] := by
  have e1 : aplE l s m = 4 := by unfold aplE; rw [if_neg (fun q => q h), if_neg (fun q => q h2), if_neg (any_no h3), if_pos h4]
  exact ⟨e1, by unfold aplM; rw [if_pos (by rw [e1]; decide)]⟩
theorem apl_a5 {l : List Ent} {s : Int} {m : List Opn} (h : memE l = 0) (h2 : askO s m = 0) (h3 : ∀ e ∈ l, e.2.1 < s) (h4 : ¬ 512 < l.length + m.length) : aplE l s m = 0 ∧ aplM l s m = putsM l (entG s m) := by
  have e1 : aplE l s m = 0 := by unfold aplE; rw [if_neg (fun q => q h), if_neg (fun q => q h2), if_neg (any_no h3), if_neg h4]
  exact ⟨e1, by unfold aplM; rw [if_neg (fun q => q e1)]⟩
set_option maxHeartbeats 2000000 in
set_option maxRecDepth 100000 in
theorem rapply_mm (a : Option Addr) (n c : Nat) (l : List Ent) (s : Int) (a2 : Option Addr) (n2 c2 : Nat) (m : List Opn) (w : World) (hrd : RdN w (.slice a n c) l) (hrm : RdO w (.slice a2 n2 c2) m) :
    Calls Try.prog 17 #[.agg #[.slice a n c], .int .i64 s, .slice a2 n2 c2] w fun e w' => ∃ av nv cv, e = .returned (.tuple #[.agg #[.slice av nv cv], .int .i64 (aplE l s m)]) ∧ RdN w' (.slice av nv cv) (aplM l s m) ∧ Below w.heap.size w w' := by
  have HR := hide hrd
  have HM := hide hrm
  have HN := hide hrd.len
  clear hrd hrm
  obtain ⟨w1, hw1⟩ : ∃ w1, w1 = (w.alloc (.cells #[.slice a n c] 24)).alloc (.cells #[.slice none 0 0] 24) := ⟨_, rfl⟩
  have HA_w1 := hide (show ApM w (.slice a n c) w1 by rw [hw1]; exact ApM.new w _)
  have hk1 := HA_w1.out.1.cell
  rw [hw1] at hk1
  have hck := rcheck_mm a n c l w1 (HR.out.carry HA_w1.out.2.2)
  by_cases g1 : memE l = 0
  · rw [g1] at hck
    have HG1 := hide g1
    clear g1
    go_enter Try.func17, Try.ntmps17
    go_wp2_with fail
    rw [← hw1]
    refine hck.mono ?_
    rintro e w2 ⟨rfl, b2⟩
    have HA_w2 := hide (HA_w1.out.carry b2)
    clear hck b2 hw1 hk1
    have hen := rentries_bt s a2 n2 c2 m w2 (HM.out.carry HA_w2.out.2.2)
    by_cases g2 : askO s m = 0
    · rw [g2] at hen
      have HG2 := hide g2
      clear g2
      go_wp2_with fail
      refine hen.mono ?_
      rintro e w3 ⟨a3, n3, c3, rfl, o3, b3⟩
      have HA_w3 := hide (HA_w2.out.carry b3)
      have HEG := hide (show entL s m = entG s m by unfold entL; rw [if_pos HG2.out])
      rw [HEG.out] at o3
      have HR3 := hide (OwG.rd ecN_len o3)
      have HN3 := hide (show n3 = m.length by rw [HR3.out.len, entG_len])
      clear hen o3 b3
      have hn5 : n ≤ 512 := by have := (memE_ok.1 HG1.out).1; have := HN.out; omega
      have hm5 : n3 ≤ 64 := by have := (chkO_ok.1 (askO_ok.1 HG2.out).2.2); have := HN3.out; omega
      go_wp2
      go_loopw [11] (fun i wr => ∃ j : Nat, j ≤ n ∧ i = .int .i64 j ∧ Hid (∀ e ∈ l.take j, e.2.1 < s) ∧ wr = w3) (fun i _ => n - (intOf i).toNat)
      case atStart => exact ⟨0, Nat.zero_le _, rfl, hide (fun e he => by simp at he), rfl⟩
      case round =>
        obtain ⟨j, hj, rfl, hall, rfl⟩ := hrel
        have hk3 := HA_w3.out.1.cell
        by_cases hlt : j < n
        · have hlt' : (j : Int) < n := by omega
          have hjl : j < l.length := by have := HN.out; omega
          obtain ⟨b, off, rfl, q0, q1, q2, q3⟩ := RdN.cells HR.out HA_w3.out.2.2 j hjl
          by_cases g3 : s ≤ (l[j]).2.1
          · obtain ⟨p1, p2⟩ := apl_a3 HG1.out HG2.out (List.getElem_mem hjl) g3
            have HE := hide p1
            have HL := hide p2
            clear p1 p2
            generalize l[j] = y at *
            have hA9 := HA_w3.out
            have hc := hA9.2.1.cell
            have hf := hA9.2.1.fz
            have HB9 := hide (show Below w.heap.size w (wr.setCell ⟨w.heap.size + 1, 0, none⟩ (.slice none 0 0)) from belowX_set hA9.2.2 (Nat.le_succ _) _ _)
            have hz9 := (hA9.2.1.put (.slice none 0 0)).cell
            have HO9 := hide (show RdN (wr.setCell ⟨w.heap.size + 1, 0, none⟩ (.slice none 0 0)) (.slice none 0 0) (aplM l s m) from by rw [HL.out]; exact RdG.nil _)
            clear hA9
            go_wp2
            obtain ⟨w9, hw9⟩ : ∃ w9, w9 = wr.setCell ⟨w.heap.size + 1, 0, none⟩ (.slice none 0 0) := ⟨_, rfl⟩
            rw [← hw9] at hz9 HB9 HO9 ⊢
            clear hc hf
            refine bodyPost_ret (v := .tuple #[.agg #[.slice none 0 0], .int .i64 2]) ?_ rfl ⟨_, _, _, by rw [HE.out], HO9.out, HB9.out⟩
            clear hw9
            simp [results, Try.results17, go_sem, *]
          · have HNX := hide (show ∀ e ∈ l.take (j + 1), e.2.1 < s by
              rw [List.take_succ_eq_append_getElem hjl]
              intro e he
              rcases List.mem_append.1 he with he | he
              · exact hall.out e he
              · obtain rfl := List.mem_singleton.1 he; omega)
            generalize l[j] = y at *
            have g3' : decide (s ≤ y.2.1) = false := by simpa using g3
            clear g3 hall
            go_wp2
            go_roundw
            case rel => exact ⟨j + 1, by omega, by go_num, HNX, by simp⟩
            case measure => simp only [intOf]; omega
        · have hd : decide ((j : Int) < n) = false := by simpa using (by omega : ¬ (j : Int) < n)
          have HALL := hide (show ∀ e ∈ l, e.2.1 < s by
            have := hall.out
            rwa [List.take_of_length_le (by have := HN.out; omega)] at this)
          clear hall
          by_cases g4 : 512 < n + n3
          · obtain ⟨q1, q2⟩ := apl_a4 HG1.out HG2.out HALL.out (by have := HN.out; have := HN3.out; omega)
            have HE := hide q1
            have HL := hide q2
            have g4' : (512 : Int) < (n : Int) + n3 := by omega
            clear q1 q2
            have hA9 := HA_w3.out
            have hc := hA9.2.1.cell
            have hf := hA9.2.1.fz
            have HB9 := hide (show Below w.heap.size w (wr.setCell ⟨w.heap.size + 1, 0, none⟩ (.slice none 0 0)) from belowX_set hA9.2.2 (Nat.le_succ _) _ _)
            have hz9 := (hA9.2.1.put (.slice none 0 0)).cell
            have HO9 := hide (show RdN (wr.setCell ⟨w.heap.size + 1, 0, none⟩ (.slice none 0 0)) (.slice none 0 0) (aplM l s m) from by rw [HL.out]; exact RdG.nil _)
            clear hA9
            go_wp2
            obtain ⟨w9, hw9⟩ : ∃ w9, w9 = wr.setCell ⟨w.heap.size + 1, 0, none⟩ (.slice none 0 0) := ⟨_, rfl⟩
            rw [← hw9] at hz9 HB9 HO9 ⊢
            clear hc hf
            refine bodyPost_ret (v := .tuple #[.agg #[.slice none 0 0], .int .i64 4]) ?_ rfl ⟨_, _, _, by rw [HE.out], HO9.out, HB9.out⟩
            clear hw9
            simp [results, Try.results17, go_sem, *]
          have g4' : decide ((512 : Int) < (n : Int) + n3) = false := by simpa using (by omega : ¬ (512 : Int) < (n : Int) + n3)
          obtain ⟨q1, q2⟩ := apl_a5 HG1.out HG2.out HALL.out (by have := HN.out; have := HN3.out; omega)
          have HE := hide q1
          have HL := hide q2
          have hsum : n + n3 ≤ 512 := by omega
          clear q1 q2 g4
          go_wp2
          clear hk3
          obtain ⟨w3, hw3⟩ : ∃ w3, w3 = wr := ⟨_, rfl⟩
          subst hw3
          go_loopw [13, 12] (fun i v wr => ∃ k : Nat, k ≤ n3 ∧ i = .int .i64 k ∧ ∃ av nv cv, v = .slice av nv cv ∧ Hid (RdN wr (.slice av nv cv) (putsM l ((entG s m).take k))) ∧ Hid (Below w3.heap.size w3 wr)) (fun i _ _ => n3 - (intOf i).toNat)
          case atStart => exact ⟨0, Nat.zero_le _, rfl, _, _, _, rfl, hide (HR.out.carry HA_w3.out.2.2), hide (Below.refl _ _)⟩
          case round =>
            obtain ⟨k, hk, rfl, av, nv, cv, rfl, hrd, hbq⟩ := hrel
            have HA_wr := hide (HA_w3.out.carry hbq.out)
            by_cases hlt : k < n3
            · have hlt' : (k : Int) < n3 := by omega
              have hkl : k < (entG s m).length := by rw [entG_len]; have := HN3.out; omega
              obtain ⟨b, off, rfl, q0, q1, q2, q3⟩ := RdN.cells HR3.out hbq.out k hkl
              have HU := hide (putsM_snoc l (entG s m) k hkl)
              have hnv : nv ≤ 100000 := by
                have h1 := hrd.out.len
                rw [putsM_len, List.length_take] at h1
                have := HN.out
                omega
              obtain ⟨y, hy⟩ : ∃ y, y = (entG s m)[k] := ⟨_, rfl⟩
              rw [← hy] at q0 q1 q2 q3 HU
              clear hy
              have hput := rput_mm av nv cv (putsM l ((entG s m).take k)) y wr hrd.out hnv
              rw [← HU.out] at hput
              go_wp2_with fail
              refine hput.mono ?_
              rintro e w8 ⟨a8, n8, c8, rfl, o8, b8⟩
              have HRU := hide (show RdN w8 (.slice a8 n8 c8) (putsM l ((entG s m).take (k + 1))) from OwG.rd ecN_len o8)
              have HB8 := hide (show Below w3.heap.size w3 w8 from hbq.out.trans (b8.mono hbq.out.size))
              clear hput o8 b8 hrd hbq q0 q1 q2 q3
              go_wp2
              go_roundw
              case rel => exact ⟨k + 1, by omega, by go_num, _, _, _, rfl, HRU, HB8⟩
              case measure => simp only [intOf]; omega
            · have hd : decide ((k : Int) < n3) = false := by simpa using (by omega : ¬ (k : Int) < n3)
              have HRD := hide (show RdN wr (.slice av nv cv) (aplM l s m) by
                have := hrd.out
                rw [List.take_of_length_le (by rw [entG_len]; have := HN3.out; omega)] at this
                rw [HL.out]; exact this)
              clear hrd
              have hA9 := HA_wr.out
              have hc := hA9.2.1.cell
              have hf := hA9.2.1.fz
              have HB9 := hide (show Below w.heap.size w (wr.setCell ⟨w.heap.size + 1, 0, none⟩ (.slice av nv cv)) from belowX_set hA9.2.2 (Nat.le_succ _) _ _)
              have hz9 := (hA9.2.1.put (.slice av nv cv)).cell
              have HO9 := hide (show RdN (wr.setCell ⟨w.heap.size + 1, 0, none⟩ (.slice av nv cv)) (.slice av nv cv) (aplM l s m) from RdN.box HRD.out hA9.2.1)
              clear hA9
              go_wp2
              obtain ⟨w9, hw9⟩ : ∃ w9, w9 = wr.setCell ⟨w.heap.size + 1, 0, none⟩ (.slice av nv cv) := ⟨_, rfl⟩
              rw [← hw9] at hz9 HB9 HO9 ⊢
              clear hc hf
              refine bodyPost_ret (v := .tuple #[.agg #[.slice av nv cv], .int .i64 0]) ?_ rfl ⟨_, _, _, by rw [HE.out], HO9.out, HB9.out⟩
              clear hw9
              simp [results, Try.results17, go_sem, *]
    · obtain ⟨q1, q2⟩ := apl_e2 HG1.out g2
      obtain ⟨x, hx⟩ : ∃ x, x = askO s m := ⟨_, rfl⟩
      rw [← hx] at hen g2 q1
      have g2' : (x == 0) = false := by simpa using g2
      have HE := hide q1
      have HL := hide q2
      clear hx q1 q2
      go_wp2_with fail
      refine hen.mono ?_
      rintro e w3 ⟨a3, n3, c3, rfl, o3, b3⟩
      have HA_w3 := hide (HA_w2.out.carry b3)
      clear hen o3 b3
      have hA9 := HA_w3.out
      have hc := hA9.2.1.cell
      have hf := hA9.2.1.fz
      have HB9 := hide (show Below w.heap.size w (w3.setCell ⟨w.heap.size + 1, 0, none⟩ (.slice none 0 0)) from belowX_set hA9.2.2 (Nat.le_succ _) _ _)
      have hz9 := (hA9.2.1.put (.slice none 0 0)).cell
      have HO9 := hide (show RdN (w3.setCell ⟨w.heap.size + 1, 0, none⟩ (.slice none 0 0)) (.slice none 0 0) (aplM l s m) from by rw [HL.out]; exact RdG.nil _)
      clear hA9
      go_wp2
      obtain ⟨w9, hw9⟩ : ∃ w9, w9 = w3.setCell ⟨w.heap.size + 1, 0, none⟩ (.slice none 0 0) := ⟨_, rfl⟩
      rw [← hw9] at hz9 HB9 HO9 ⊢
      clear hc hf
      refine bodyPost_ret (v := .tuple #[.agg #[.slice none 0 0], .int .i64 x]) ?_ rfl ⟨_, _, _, by rw [HE.out], HO9.out, HB9.out⟩
      clear hw9
      simp [results, Try.results17, go_sem, *]
  · obtain ⟨q1, q2⟩ := apl_e1 (s := s) (m := m) g1
    obtain ⟨x, hx⟩ : ∃ x, x = memE l := ⟨_, rfl⟩
    rw [← hx] at hck g1 q1
    have g1' : (x == 0) = false := by simpa using g1
    have HE := hide q1
    have HL := hide q2
    clear hx q1 q2
    go_enter Try.func17, Try.ntmps17
    go_wp2_with fail
    rw [← hw1]
    refine hck.mono ?_
    rintro e w2 ⟨rfl, b2⟩
    have HA_w2 := hide (HA_w1.out.carry b2)
    clear hck b2 hw1 hk1
    have hA9 := HA_w2.out
    have hc := hA9.2.1.cell
    have hf := hA9.2.1.fz
    have HB9 := hide (show Below w.heap.size w (w2.setCell ⟨w.heap.size + 1, 0, none⟩ (.slice none 0 0)) from belowX_set hA9.2.2 (Nat.le_succ _) _ _)
    have hz9 := (hA9.2.1.put (.slice none 0 0)).cell
    have HO9 := hide (show RdN (w2.setCell ⟨w.heap.size + 1, 0, none⟩ (.slice none 0 0)) (.slice none 0 0) (aplM l s m) from by rw [HL.out]; exact RdG.nil _)
    clear hA9
    go_wp2
    obtain ⟨w9, hw9⟩ : ∃ w9, w9 = w2.setCell ⟨w.heap.size + 1, 0, none⟩ (.slice none 0 0) := ⟨_, rfl⟩
    rw [← hw9] at hz9 HB9 HO9 ⊢
    clear hc hf
    refine bodyPost_ret (v := .tuple #[.agg #[.slice none 0 0], .int .i64 x]) ?_ rfl ⟨_, _, _, by rw [HE.out], HO9.out, HB9.out⟩
    clear hw9
    simp [results, Try.results17, go_sem, *]

end Go.Proofs.Ytoedfbceapfimaa

/-
  What the document's Order does.
-/
import Derived.Test.YtpammicadnfheaaReadLaw
import Derived.Test.YtpammicadnfheaaMathOrd
namespace Go.Proofs.Ytpammicadnfheaa
open Go.RowKit
set_option linter.unusedVariables false
set_option linter.unusedSimpArgs false

set_option maxHeartbeats 1000000 in
set_option maxRecDepth 100000 in
theorem order_row (b off c b' off' c' : Nat) (l l' : List Pt) (w : World) (h60 : l.length ≤ 60) (h60' : l'.length ≤ 60) (hl : Lie w b off l) (hl' : Lie w b' off' l') :
    Calls Try.prog 28 #[.slice (some ⟨b, off, none⟩) l.length c, .slice (some ⟨b', off', none⟩) l'.length c'] w fun e w' => e = .returned (.int .i64 (ord l l')) ∧ Below w.heap.size w w' := by
  have HL := hide hl
  have HL' := hide hl'
  clear hl hl'
  go_enter Try.func28, Try.ntmps28
  go_wp2
  go_loopw [5] (fun i wr => ∃ k : Nat, k ≤ l.length ∧ k ≤ l'.length ∧ i = .int .i64 k ∧ l.take k = l'.take k ∧ Below w.heap.size w wr) (fun i _ => l.length - (intOf i).toNat)
  case atStart => exact ⟨0, Nat.zero_le _, Nat.zero_le _, rfl, rfl, Below.refl _ _⟩
  case round =>
    obtain ⟨k, hk, hk', rfl, htk, hbel⟩ := hrel
    have HO : Hid (ord l l' = ord (l.drop k) (l'.drop k)) := ord_drop k l l' hk hk' htk
    have HT := hide htk
    clear htk
    by_cases hlt : k < l.length ∧ k < l'.length
    · obtain ⟨hlt1, hlt2⟩ := hlt
      obtain ⟨c0, c1, c2, h3, _⟩ := HL.out k hlt1
      obtain ⟨d0, d1, d2, h3', _⟩ := HL'.out k hlt2
      rw [← hbel.cell (World.block_lt_of_cell? w _ c0)] at c0
      rw [← hbel.cell (World.block_lt_of_cell? w _ c1)] at c1
      rw [← hbel.cell (World.block_lt_of_cell? w _ c2)] at c2
      rw [← hbel.cell (World.block_lt_of_cell? w _ d0)] at d0
      rw [← hbel.cell (World.block_lt_of_cell? w _ d1)] at d1
      rw [← hbel.cell (World.block_lt_of_cell? w _ d2)] at d2
      have HX : Hid (ord l l' = if l[k] = l'[k] then ord (l.drop (k + 1)) (l'.drop (k + 1)) else ordP l[k] l'[k]) := by
        show _ = _
        rw [HO.out, List.drop_eq_getElem_cons hlt1, List.drop_eq_getElem_cons hlt2, ord]
      obtain ⟨⟨t, m, s⟩, hp⟩ : ∃ p : Pt, l[k] = p := ⟨_, rfl⟩
      obtain ⟨⟨t', m', s'⟩, hp'⟩ : ∃ p : Pt, l'[k] = p := ⟨_, rfl⟩
      have HP := hide hp
      have HP' := hide hp'
      rw [hp] at c0 c1 c2 h3 HX
      rw [hp'] at d0 d1 d2 h3' HX
      clear hp hp' HO
      dsimp only at c0 c1 c2 h3 d0 d1 d2 h3'
      have hbel2 : ∀ {o : Obj}, w.heap.size ≤ (wr.alloc o).heap.size := fun {o} => by have := hbel.size; simp; omega
      have i1 : (k : Int) < l.length := by omega
      have i2 : (k : Int) < l'.length := by omega
      have heg : ∀ op x y xs ys wx, (eqGuard op 32 x y (.agg xs) (.agg ys)).run Try.prog wx = .ok () wx := fun op x y xs ys wx => run_eqGuard_agg wx op 32 x y xs ys (by kernel_rfl)
      have hne : ∀ wx, (binOp .eql 32 (.agg #[.bool t, .int .u64 m, .string (bs s)]) (.agg #[.bool t', .int .u64 m', .string (bs s')])).run Try.prog wx = .ok (.bool (decide (((t, m, s) : Pt) = (t', m', s')))) wx := fun wx => by
        rw [run_eql_struct, run_equal_part wx (t, m, s) (t', m', s')]; rfl
      by_cases hd : ((t, m, s) : Pt) = (t', m', s')
      · have hne' : ∀ wx, (binOp .eql 32 (.agg #[.bool t, .int .u64 m, .string (bs s)]) (.agg #[.bool t', .int .u64 m', .string (bs s')])).run Try.prog wx = .ok (.bool true) wx := fun wx => by rw [hne wx, decide_eq_true hd]
        have HE : Hid (l[k] = l'[k]) := by show _ = _; rw [HP.out, HP'.out, hd]
        clear hne hd
        go_wp2
        go_region_held3 (fun wx => wx.cell? ⟨b, off + k * 3, none⟩ = some (.bool t) ∧ wx.cell? ⟨b, off + k * 3 + 1, none⟩ = some (.int .u64 m) ∧ wx.cell? ⟨b, off + k * 3 + 2, none⟩ = some (.string (bs s)) ∧ wx.cell? ⟨b', off' + k * 3, none⟩ = some (.bool t') ∧ wx.cell? ⟨b', off' + k * 3 + 1, none⟩ = some (.int .u64 m') ∧ wx.cell? ⟨b', off' + k * 3 + 2, none⟩ = some (.string (bs s'))) (go_keep) (fail)
        all_goals
          go_wp2
          go_roundw
          case rel => exact ⟨k + 1, by omega, by omega, by go_num, by rw [List.take_succ_eq_append_getElem hlt1, List.take_succ_eq_append_getElem hlt2, HT.out, HE.out], ((hbel.alloc hbel.size _).alloc hbel2 _).drew⟩
          case measure => simp [intOf] <;> omega
      · rw [if_neg hd] at HX
        by_cases ht : t = t'
        · subst ht
          by_cases hm : m < m'
          · have HE : Hid (ord l l' = -1) := by show _ = _; rw [HX.out, ordP]; simp [hm]
            have f1 : (m : Int) < m' := by omega
            have hne' : ∀ wx, (binOp .eql 32 (.agg #[.bool t, .int .u64 m, .string (bs s)]) (.agg #[.bool t, .int .u64 m', .string (bs s')])).run Try.prog wx = .ok (.bool false) wx := fun wx => by rw [hne wx, decide_eq_false hd]
            clear hne hd
            go_wp2
            go_region_held3 (fun wx => wx.cell? ⟨b, off + k * 3, none⟩ = some (.bool t) ∧ wx.cell? ⟨b, off + k * 3 + 1, none⟩ = some (.int .u64 m) ∧ wx.cell? ⟨b, off + k * 3 + 2, none⟩ = some (.string (bs s)) ∧ wx.cell? ⟨b', off' + k * 3, none⟩ = some (.bool t) ∧ wx.cell? ⟨b', off' + k * 3 + 1, none⟩ = some (.int .u64 m') ∧ wx.cell? ⟨b', off' + k * 3 + 2, none⟩ = some (.string (bs s'))) (go_keep) (fail)
            all_goals
              go_wp2
              go_ret
              exact ⟨by rw [HE.out]; rfl, ((hbel.alloc hbel.size _).alloc hbel2 _).drew⟩
          · have f1 : ¬ ((m : Int) < m') := by omega
            have hbs : Op.bytesLess (bs s).toList (bs s').toList = Op.bytesLess s s' := by rw [ByteArray.toList_eq, ByteArray.toList_eq, bs_toList, bs_toList]
            cases hbl : Op.bytesLess s s' with
            | true =>
              have HE : Hid (ord l l' = -1) := by show _ = _; rw [HX.out, ordP]; simp [hbl]
              rw [hbl] at hbs
              clear hbl
              have hne' : ∀ wx, (binOp .eql 32 (.agg #[.bool t, .int .u64 m, .string (bs s)]) (.agg #[.bool t, .int .u64 m', .string (bs s')])).run Try.prog wx = .ok (.bool false) wx := fun wx => by rw [hne wx, decide_eq_false hd]
              clear hne hd
              go_wp2
              go_region_held3 (fun wx => wx.cell? ⟨b, off + k * 3, none⟩ = some (.bool t) ∧ wx.cell? ⟨b, off + k * 3 + 1, none⟩ = some (.int .u64 m) ∧ wx.cell? ⟨b, off + k * 3 + 2, none⟩ = some (.string (bs s)) ∧ wx.cell? ⟨b', off' + k * 3, none⟩ = some (.bool t) ∧ wx.cell? ⟨b', off' + k * 3 + 1, none⟩ = some (.int .u64 m') ∧ wx.cell? ⟨b', off' + k * 3 + 2, none⟩ = some (.string (bs s'))) (go_keep) (fail)
              all_goals
                go_wp2
                go_ret
                exact ⟨by rw [HE.out]; rfl, ((hbel.alloc hbel.size _).alloc hbel2 _).drew⟩
            | false =>
              have HE : Hid (ord l l' = 1) := by show _ = _; rw [HX.out, ordP]; simp [hbl, hm]
              rw [hbl] at hbs
              clear hbl
              have hne' : ∀ wx, (binOp .eql 32 (.agg #[.bool t, .int .u64 m, .string (bs s)]) (.agg #[.bool t, .int .u64 m', .string (bs s')])).run Try.prog wx = .ok (.bool false) wx := fun wx => by rw [hne wx, decide_eq_false hd]
              clear hne hd
              go_wp2
              go_region_held3 (fun wx => wx.cell? ⟨b, off + k * 3, none⟩ = some (.bool t) ∧ wx.cell? ⟨b, off + k * 3 + 1, none⟩ = some (.int .u64 m) ∧ wx.cell? ⟨b, off + k * 3 + 2, none⟩ = some (.string (bs s)) ∧ wx.cell? ⟨b', off' + k * 3, none⟩ = some (.bool t) ∧ wx.cell? ⟨b', off' + k * 3 + 1, none⟩ = some (.int .u64 m') ∧ wx.cell? ⟨b', off' + k * 3 + 2, none⟩ = some (.string (bs s'))) (go_keep) (fail)
              all_goals
                go_wp2
                go_ret
                exact ⟨by rw [HE.out]; rfl, ((hbel.alloc hbel.size _).alloc hbel2 _).drew⟩
        · cases t with
          | false =>
            cases t' with
            | false => exact absurd rfl ht
            | true =>
              have HE : Hid (ord l l' = -1) := by show _ = _; rw [HX.out, ordP]; simp
              have hne' : ∀ wx, (binOp .eql 32 (.agg #[.bool false, .int .u64 m, .string (bs s)]) (.agg #[.bool true, .int .u64 m', .string (bs s')])).run Try.prog wx = .ok (.bool false) wx := fun wx => by rw [hne wx, decide_eq_false hd]
              clear hne hd ht
              go_wp2
              go_region_held3 (fun wx => wx.cell? ⟨b, off + k * 3, none⟩ = some (.bool false) ∧ wx.cell? ⟨b, off + k * 3 + 1, none⟩ = some (.int .u64 m) ∧ wx.cell? ⟨b, off + k * 3 + 2, none⟩ = some (.string (bs s)) ∧ wx.cell? ⟨b', off' + k * 3, none⟩ = some (.bool true) ∧ wx.cell? ⟨b', off' + k * 3 + 1, none⟩ = some (.int .u64 m') ∧ wx.cell? ⟨b', off' + k * 3 + 2, none⟩ = some (.string (bs s'))) (go_keep) (fail)
              all_goals
                go_wp2
                go_ret
                exact ⟨by rw [HE.out]; rfl, ((hbel.alloc hbel.size _).alloc hbel2 _).drew⟩
          | true =>
            cases t' with
            | true => exact absurd rfl ht
            | false =>
              have HE : Hid (ord l l' = 1) := by show _ = _; rw [HX.out, ordP]; simp
              have hne' : ∀ wx, (binOp .eql 32 (.agg #[.bool true, .int .u64 m, .string (bs s)]) (.agg #[.bool false, .int .u64 m', .string (bs s')])).run Try.prog wx = .ok (.bool false) wx := fun wx => by rw [hne wx, decide_eq_false hd]
              clear hne hd ht
              go_wp2
              go_region_held3 (fun wx => wx.cell? ⟨b, off + k * 3, none⟩ = some (.bool true) ∧ wx.cell? ⟨b, off + k * 3 + 1, none⟩ = some (.int .u64 m) ∧ wx.cell? ⟨b, off + k * 3 + 2, none⟩ = some (.string (bs s)) ∧ wx.cell? ⟨b', off' + k * 3, none⟩ = some (.bool false) ∧ wx.cell? ⟨b', off' + k * 3 + 1, none⟩ = some (.int .u64 m') ∧ wx.cell? ⟨b', off' + k * 3 + 2, none⟩ = some (.string (bs s'))) (go_keep) (fail)
              all_goals
                go_wp2
                go_ret
                exact ⟨by rw [HE.out]; rfl, ((hbel.alloc hbel.size _).alloc hbel2 _).drew⟩
    · by_cases q1 : k < l.length
      · have q2 : k = l'.length := by omega
        have j1 : (k : Int) < l.length := by omega
        have j2 : ¬ (k : Int) < l'.length := by omega
        have j3 : ¬ (l.length : Int) < l'.length := by omega
        have j4 : (l'.length : Int) < l.length := by omega
        have HE : Hid (ord l l' = 1) := by
          show _ = _
          have e : l'.drop k = [] := List.drop_eq_nil_of_le (by omega)
          rw [HO.out, e, List.drop_eq_getElem_cons q1]; rfl
        clear q2
        go_wp2
        go_ret
        exact ⟨by rw [HE.out]; rfl, hbel⟩
      · have q2 : k = l.length := by omega
        have j1 : ¬ (k : Int) < l.length := by omega
        by_cases q3 : k < l'.length
        · have j3 : (l.length : Int) < l'.length := by omega
          have HE : Hid (ord l l' = -1) := by
            show _ = _
            have e : l.drop k = [] := List.drop_eq_nil_of_le (by omega)
            rw [HO.out, e, List.drop_eq_getElem_cons q3]; rfl
          clear q2
          go_wp2
          go_ret
          exact ⟨by rw [HE.out]; rfl, hbel⟩
        · have j3 : ¬ (l.length : Int) < l'.length := by omega
          have j4 : ¬ (l'.length : Int) < l.length := by omega
          have HE : Hid (ord l l' = 0) := by
            show _ = _
            rw [HO.out, List.drop_eq_nil_of_le (by omega), List.drop_eq_nil_of_le (by omega)]; rfl
          clear q2
          go_wp2
          go_ret
          exact ⟨by rw [HE.out]; rfl, hbel⟩

end Go.Proofs.Ytpammicadnfheaa

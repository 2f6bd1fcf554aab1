/-
  What merge.merged does: rows, merged two at a time.
-/
import Derived.Test.YtdgjinfaopkalaaMg8
import Derived.Test.YtdgjinfaopkalaaRegP
namespace Go.Proofs.Ytdgjinfaopkalaa
open Go.RowKit
set_option linter.unusedVariables false
set_option linter.unusedSimpArgs false

def allG (R : List (Value × List Ent)) : List Ent := R.flatMap Prod.snd
theorem allG_app (R S : List (Value × List Ent)) : allG (R ++ S) = allG R ++ allG S := by unfold allG; rw [List.flatMap_append]
theorem allG_split (R : List (Value × List Ent)) (k : Nat) : allG R = allG (R.take k) ++ allG (R.drop k) := by rw [← allG_app, List.take_append_drop]
def MgP (R : List (Value × List Ent)) (base : Nat) (v : Value) (wx : World) : Prop := ∃ av nv cv M, v = .slice av nv cv ∧ OwN wx base (.slice av nv cv) M ∧ M.Perm (allG R) ∧ ((∀ p ∈ R, WkG p.2) → WkG M)
theorem MgP.carry {R : List (Value × List Ent)} {base : Nat} {v : Value} {w w' : World} (h : MgP R base v w) (hb : Below w.heap.size w w') : MgP R base v w' := by
  obtain ⟨a, n, c, M, h1, h2, h3⟩ := h
  exact ⟨a, n, c, M, h1, h2.carry hb, h3⟩
theorem MgP.mono {R : List (Value × List Ent)} {base base' : Nat} {v : Value} {w : World} (h : MgP R base v w) (hb : base' ≤ base) : MgP R base' v w := by
  obtain ⟨a, n, c, M, h1, h2, h3⟩ := h
  exact ⟨a, n, c, M, h1, h2.mono hb, h3⟩
theorem exec_slH {P : Program} {o : Oper} {a : Act} {x hi : Operand} {t : TypeId} {v vh v' : Value} {w : World} (ht : P.underlying t = some (.slice (P.elem t))) (ho : o.op = .slice t x none (some hi) none) (hx : a.eval x = v) (hhi : a.eval hi = vh)
    (hrun : ∀ wx, (Instr.slice t v none (some vh) none).run P wx = .ok v' wx) : (execOp a.eval o).run P w = .ok (.value v') w := by
  unfold execOp
  simp only [ho, Option.map_some, Option.map_none, hx, hhi, run_sliceAt_slice w t _ _ _ _ ht, Sem.run_bind, hrun w, Result.andThen_ok, Sem.run_pure]
theorem mg_join {R : List (Value × List Ent)} {k base : Nat} {M N : List Ent} (h1 : M.Perm (allG (R.take k))) (h2 : N.Perm (allG (R.drop k))) : (mrgG M N).Perm (allG R) := by
  rw [allG_split R k]
  exact (mrgG_perm M N).trans (h1.append h2)

set_option maxHeartbeats 4000000 in
set_option maxRecDepth 100000 in
theorem merged_mg : ∀ (m : Nat) (a : Option Addr) (n c : Nat) (R : List (Value × List Ent)) (w : World) (hm : n ≤ m) (hm5 : n ≤ 100000) (hrd : RdR w (.slice a n c) R) (hal : (allG R).length ≤ 1000000),
    Calls Try.prog 28 #[.slice a n c] w fun e w' => ∃ v, e = .returned v ∧ MgP R w.heap.size v w' ∧ Below w.heap.size w w'
  | m, a, n, c, R, w, hm, hm5, hrd, hal => by
    have HN := hide hrd.len
    have HR := hide hrd
    have HAL := hide hal
    clear hrd hal
    by_cases h0 : n = 0
    · subst h0
      obtain rfl : R = [] := List.length_eq_zero_iff.1 (HN.out).symm
      go_enter Try.func28, Try.ntmps28
      go_wp2
      go_ret
      exact ⟨_, rfl, ⟨_, _, _, [], rfl, OwG.nil _ _, List.Perm.refl _, fun _ => List.Pairwise.nil⟩, Below.refl _ _⟩
    by_cases h1 : n = 1
    · subst h1
      obtain ⟨p, rfl⟩ : ∃ p, R = [p] := List.length_eq_one_iff.1 (HN.out).symm
      obtain ⟨b, off, ax, nx, cx, rfl, q0, hRx, hnx⟩ := HR.out.cells (Below.refl _ _) 0 (Nat.zero_lt_one)
      simp only [List.getElem_cons_zero, Nat.add_zero] at q0 hRx hnx
      have hall : allG [p] = p.2 := by simp [allG]
      obtain ⟨ao, no, co, w5, hno, hr5, o5, b5⟩ := app_entsG (OwG.nil w w.heap.size) (Nat.le_refl _) hRx (by have := HAL.out; rw [hall] at this; simp only [List.length_nil]; omega)
      rw [List.nil_append] at hno o5
      have HO5 := hide o5
      have HB5 := hide b5
      have HALL := hide hall
      clear o5 b5 hno hRx hnx hall
      go_enter Try.func28, Try.ntmps28
      go_wp2_with (first | (at_builtin; refine wpList_runappY rfl (.const (.slice none 0 0)) (.tmp 12) 22 rfl rfl rfl rfl hr5 ?_) | fail)
      go_ret
      exact ⟨_, rfl, ⟨_, _, _, p.2, rfl, HO5.out, by rw [HALL.out], fun h => h p (List.mem_singleton.2 rfl)⟩, HB5.out⟩
    match m, hm with
    | 0, hm => exact absurd (Nat.le_zero.1 hm) h0
    | m + 1, hm =>
    have h0' : ((n : Int) == 0) = false := by simpa using (by omega : ¬ (n : Int) = 0)
    have h1' : ((n : Int) == 1) = false := by simpa using (by omega : ¬ (n : Int) = 1)
    have h0d : decide ((n : Int) = 0) = false := by simpa using (by omega : ¬ (n : Int) = 0)
    have h1d : decide ((n : Int) = 1) = false := by simpa using (by omega : ¬ (n : Int) = 1)
    obtain ⟨k, hk⟩ : ∃ k, k = n / 2 := ⟨_, rfl⟩
    have hq : Int.tdiv (n : Int) 2 = (k : Int) := by rw [Int.tdiv_eq_ediv_of_nonneg (by omega), hk]; omega
    have hqw : wrap64 (k : Int) = (k : Int) := by simp only [wrap64]; omega
    have hkl : k ≤ R.length := by have := HN.out; omega
    obtain ⟨a2, c2, hsl, hrl⟩ := slRl HR.out.1 k hkl
    have hsh := slRh HR.out.1 k hkl
    have HSL := hide hsl
    have HSH := hide hsh
    have HRL := hide (show RdR w (.slice a2 (n - k) c2) (R.drop k) from ⟨hrl w (Below.refl _ _), fun p hp => HR.out.2 p (List.mem_of_mem_drop hp)⟩)
    have HRH := hide (show RdR w (.slice a k c) (R.take k) from ⟨takeRG HR.out.1 k hkl, fun p hp => HR.out.2 p (List.mem_of_mem_take hp)⟩)
    have HA1 := hide (show (allG (R.take k)).length ≤ 1000000 ∧ (allG (R.drop k)).length ≤ 1000000 ∧ (allG (R.take k)).length + (allG (R.drop k)).length ≤ 2000000 by
      have := HAL.out
      rw [allG_split R k, List.length_append] at this
      omega)
    have IH1 := hide (fun wx hx => merged_mg m a k c (R.take k) wx (by omega) (by omega) hx HA1.out.1)
    have IH2 := hide (fun wx hx => merged_mg m a2 (n - k) c2 (R.drop k) wx (by omega) (by omega) hx HA1.out.2.1)
    clear hsl hrl hsh HR HAL hk hkl
    obtain ⟨nk, hnk⟩ : ∃ nk, nk = n - k := ⟨_, rfl⟩
    rw [← hnk] at HSL HRL IH2
    clear hnk
    go_enter Try.func28, Try.ntmps28
    go_wp2_with fail
    have hK : Keeps (fun wx => Below w.heap.size w wx) := fun w1 w2 h hb => h.trans (hb.mono h.size)
    refine reg_begin hK (by kernel_rfl) (Below.refl _ _) ?_
    intro hS
    generalize w.drew = wd at *
    refine reg_plan [0, 1, 2, 4, 5, 6] (fuel := 4) (a' := ?qaa1) (by kernel_rfl) (by kernel_rfl) (by kernel_rfl) ?qap1 hS ?qan1
    case qap1 =>
      iterate 6 (apply Yl.cons rfl (by kernel_rfl); focus (rintro wx x1; (first | exact exec_slY (by kernel_rfl) rfl rfl rfl HSL.out | exact exec_slH (by kernel_rfl) rfl rfl rfl HSH.out | (clear x1; go_simp; all_goals (with_reducible rfl)))); try simp only [Act.put, List.setIfInBounds_toArray, List.set_cons_zero, List.set_cons_succ])
      exact Yl.nil
    refine reg_call hK (i := 3) (R := fun v wx => MgP (R.take k) w.heap.size v wx) rfl (by kernel_rfl) (by kernel_rfl) (by go_simp) hS ((IH1.out _ (HRH.out.carry hS)).mono fun e w1 ⟨v, h1, h2, h3⟩ => ⟨v, h1, h2.mono hS.size, h3⟩) (fun v _ _ h hb => h.carry hb) ?_
    clear hS hK
    intro v3 w3 hK hr3 hS
    try simp only [Act.put, List.setIfInBounds_toArray, List.set_cons_zero, List.set_cons_succ]
    refine reg_call hK (i := 7) (R := fun v wx => MgP (R.drop k) w.heap.size v wx) rfl (by kernel_rfl) (by kernel_rfl) (by go_simp) hS ((IH2.out _ (HRL.out.carry hS.1)).mono fun e w1 ⟨v, h1, h2, h3⟩ => ⟨v, h1, h2.mono hS.1.size, h3⟩) (fun v _ _ h hb => h.carry hb) ?_
    clear hS hK hr3
    intro v7 w7 hK hr7 hS
    try simp only [Act.put, List.setIfInBounds_toArray, List.set_cons_zero, List.set_cons_succ]
    obtain ⟨a3, n3, c3, M3, rfl, o3, p3, k3⟩ := hS.1.2
    obtain ⟨a7, n7, c7, M7, rfl, o7, p7, k7⟩ := hr7
    have HP := hide (mg_join (base := 0) p3 p7)
    have HK3 := hide k3
    have HK7 := hide k7
    have HLL := hide (show n3 + n7 ≤ 2000000 by
      have e1 := (OwG.rd ecN_len o3).len
      have e2 := (OwG.rd ecN_len o7).len
      have e3 := p3.length_eq
      have e4 := p7.length_eq
      have := HA1.out
      omega)
    refine reg_call hK (i := 8) (R := fun v wx => ∃ a4 n4 c4, v = .slice a4 n4 c4 ∧ OwN wx w.heap.size (.slice a4 n4 c4) (mrgG M3 M7)) rfl (by kernel_rfl) (by kernel_rfl) (by go_simp) hS ((two_mg a3 n3 c3 M3 a7 n7 c7 M7 w7 (OwG.rd ecN_len o3) (OwG.rd ecN_len o7) HLL.out).mono fun e w1 ⟨a4, n4, c4, h1, h2, h3⟩ => ⟨_, h1, ⟨a4, n4, c4, rfl, h2.mono hS.1.1.size⟩, h3⟩) (fun v _ _ ⟨a4, n4, c4, h, h2⟩ hb => ⟨a4, n4, c4, h, h2.carry hb⟩) ?_
    clear hS hK o3 o7 p3 p7 k3 k7
    intro v8 w8 hK hr8 hS
    obtain ⟨a8, n8, c8, rfl, o8⟩ := hr8
    try simp only [Act.put, List.setIfInBounds_toArray, List.set_cons_zero, List.set_cons_succ]
    refine reg_plan [9] (fuel := 0) (a' := ?qaa2) (by kernel_rfl) (by kernel_rfl) (by kernel_rfl) ?qap2 hS ?qan2
    case qap2 =>
      iterate 1 (apply Yl.cons rfl (by kernel_rfl); focus (rintro wx x1; clear x1; go_simp; all_goals (with_reducible rfl)); try simp only [Act.put, List.setIfInBounds_toArray, List.set_cons_zero, List.set_cons_succ])
      exact Yl.nil
    refine wpAnyH_done (by kernel_rfl) ?_ _
    refine NoPanic.normal ?_
    try simp only [Act.put, List.setIfInBounds_toArray, List.set_cons_zero, List.set_cons_succ]
    have HB8 := hide hS.1.1.1
    have HO8 := hide o8
    clear hS hK o8
    go_wp2
    go_ret
    exact ⟨_, rfl, ⟨_, _, _, mrgG M3 M7, rfl, HO8.out, HP.out, fun h => mrg_wk (HK3.out fun p hp => h p (List.mem_of_mem_take hp)) (HK7.out fun p hp => h p (List.mem_of_mem_drop hp))⟩, HB8.out⟩
end Go.Proofs.Ytdgjinfaopkalaa

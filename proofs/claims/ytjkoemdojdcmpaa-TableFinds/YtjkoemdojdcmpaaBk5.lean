/-
  What block.cutNumber, cutText, cutKey and cutEnd do.
-/
import Derived.Test.YtjkoemdojdcmpaaBk4
namespace Go.Proofs.Ytjkoemdojdcmpaa
open Go.RowKit
set_option linter.unusedVariables false
set_option linter.unusedSimpArgs false

theorem sliceT {w : World} {a : Option Addr} {n c : Nat} {l : List UInt8} (h : Rd w (.slice a n c) l) (k : Nat) (hk : k ≤ l.length) :
    ∃ a2 c2, (∀ wx, (Instr.slice 22 (.slice a n c) none (some (.int .i64 k)) none).run Try.prog wx = .ok (.slice a2 k c2) wx) ∧ ∀ wx, Rd wx (.slice a n c) l → Rd wx (.slice a2 k c2) (l.take k) := by
  obtain ⟨a', c', e⟩ := rd_formX h
  cases e
  have hkc : k ≤ c := by
    have := (rd_takeX h k hk).1
    omega
  have run : ∀ wx, (Instr.slice 22 (.slice a l.length c) none (some (.int .i64 k)) none).run Try.prog wx = .ok (sliced a 0 k c 1) wx := by
    intro wx
    rw [run_slice_h wx 22 a l.length c (by kernel_rfl) .i64 k (by omega) (by omega), sizeY wx]
    simp [Result.andThen]
  unfold sliced at run
  cases a with
  | none =>
    refine ⟨none, c, by simpa using run, fun wx hx => (rd_takeX hx k hk).2⟩
  | some x =>
    have e : (if c = 0 then some x else Option.map (fun x => x.add (0 * 1)) (some x)) = some x := by
      split
      · rfl
      · simp [Addr.add]
    simp only [Nat.sub_zero] at run
    rw [e] at run
    exact ⟨some x, c, run, fun wx hx => (rd_takeX hx k hk).2⟩

set_option maxHeartbeats 1000000 in
set_option maxRecDepth 100000 in
theorem cutNum_some (most : Nat) (a : Option Addr) (n c : Nat) (l r : List UInt8) (m : Nat) (w : World) (hmo : most < 9223372036854775808) (hrd : Rd w (.slice a n c) l) (h : cutW most l = some (m, r)) :
    Calls Try.prog 86 #[.slice a n c, .int .u64 most] w fun e w' => ∃ a2 c2, e = .returned (.tuple #[.int .i64 m, .slice a2 r.length c2, .bool true]) ∧ (∀ wx, Rd wx (.slice a n c) l → Rd wx (.slice a2 r.length c2) r) ∧ Below w.heap.size w w' := by
  obtain ⟨k, e1, e2, e3⟩ := cutW_rd h
  have hread := read1_any w hrd
  rw [e1] at hread
  unfold rdV at hread
  obtain ⟨hk0, hkl, hk10, hn64⟩ := rd_fits e1
  have g1 : decide ((most : Int) < m) = false := by simpa using (by omega : ¬ (most : Int) < m)
  have g2 : IntKind.i64.wrap (m : Int) = m := by rw [IntKind.wrap_i64]; omega
  obtain ⟨a2, c2, hsl, hsr⟩ := sliceY hrd k hkl
  have HN := hide (show n - k = r.length by
    obtain ⟨_, _, e⟩ := rd_formX hrd
    cases e
    rw [e3, List.length_drop])
  have HS := hide (show ∀ wx, Rd wx (.slice a n c) l → Rd wx (.slice a2 r.length c2) r by rw [← HN.out, e3]; exact hsr)
  clear e1 e3 h hrd hsr hk0 hkl hk10 hn64 hmo
  go_enter Try.func86, Try.ntmps86
  go_wp2_with fail
  refine hread.mono ?_
  rintro e w1 ⟨rfl, rfl⟩
  clear hread
  go_wp2
  go_quiet (fail)
  go_wp2
  go_ret3
  exact ⟨a2, c2, by rw [← HN.out]; rfl, HS.out, belowX_drewN (Below.refl _ _) _⟩

set_option maxHeartbeats 1000000 in
set_option maxRecDepth 100000 in
theorem cutNum_none (most : Nat) (a : Option Addr) (n c : Nat) (l : List UInt8) (w : World) (hrd : Rd w (.slice a n c) l) (h : cutW most l = none) :
    Calls Try.prog 86 #[.slice a n c, .int .u64 most] w fun e w' => e = .returned (.tuple #[.int .i64 0, .slice none 0 0, .bool false]) ∧ Below w.heap.size w w' := by
  have hread := read1_any w hrd
  rcases cutW_cases h with e | ⟨m, k, e, hm⟩
  · rw [e] at hread
    unfold rdV at hread
    clear hrd h e
    go_enter Try.func86, Try.ntmps86
    go_wp2_with fail
    refine hread.mono ?_
    rintro e w1 ⟨rfl, rfl⟩
    clear hread
    go_wp2
    go_ret3
    exact ⟨rfl, Below.refl _ _⟩
  · rw [e] at hread
    unfold rdV at hread
    clear hrd h e
    have hm' : (most : Int) < m := by omega
    go_enter Try.func86, Try.ntmps86
    go_wp2_with fail
    refine hread.mono ?_
    rintro e w1 ⟨rfl, rfl⟩
    clear hread
    go_wp2
    go_ret3
    exact ⟨rfl, Below.refl _ _⟩

theorem ct_W_none {l : List UInt8} (h : cutW l.length l = none) : ct l = none := by rw [ct_W, h]
theorem ct_W_some {l q : List UInt8} {m : Nat} (h : cutW l.length l = some (m, q)) : ct l = if m ≤ q.length then some (q.take m, q.drop m) else none := by rw [ct_W, h]
def CtP (a : Option Addr) (n c : Nat) (l : List UInt8) (e : Ending) : Prop :=
  (∃ s r a2 n2 c2, ct l = some (s, r) ∧ e = .returned (.tuple #[.string (bs s), .slice a2 n2 c2, .bool true]) ∧ n2 = r.length ∧ ∀ wx, Rd wx (.slice a n c) l → Rd wx (.slice a2 n2 c2) r) ∨
  (ct l = none ∧ e = .returned (.tuple #[.string (bs []), .slice none 0 0, .bool false]))

set_option maxHeartbeats 1000000 in
set_option maxRecDepth 100000 in
theorem cutText_bk (a : Option Addr) (n c : Nat) (l : List UInt8) (w : World) (hl : l.length ≤ 1000000) (hrd : Rd w (.slice a n c) l) :
    Calls Try.prog 90 #[.slice a n c] w fun e w' => CtP a n c l e ∧ Below w.heap.size w w' := by
  have hn : n = l.length := by obtain ⟨_, _, e⟩ := rd_formX hrd; cases e; rfl
  have g0 : (n : Int) % 18446744073709551616 = n := by omega
  cases h1 : cutW l.length l with
  | none =>
    have hc := cutNum_none l.length a n c l w hrd h1
    rw [← hn] at hc
    have HE := hide (ct_W_none h1)
    clear hrd h1 hn hl
    go_enter Try.func90, Try.ntmps90
    go_wp2_with fail
    refine hc.mono ?_
    rintro e w1 ⟨rfl, b1⟩
    clear hc
    go_wp2
    go_ret3
    exact ⟨.inr ⟨HE.out, rfl⟩, b1⟩
  | some p =>
    obtain ⟨m, q⟩ := p
    have hc := cutNum_some l.length a n c l q m w (by omega) hrd h1
    rw [← hn] at hc
    have HE := hide (ct_W_some h1)
    have HR := hide hrd
    clear h1 hn hl hrd
    go_enter Try.func90, Try.ntmps90
    go_wp2_with fail
    refine hc.mono ?_
    rintro e w1 ⟨a2, c2, rfl, hs2, b1⟩
    clear hc
    have HR2 := hide (hs2 w1 (HR.out.carry b1))
    have HS2 := hide hs2
    have HB1 := hide b1
    clear hs2 b1 g0
    by_cases hm : m ≤ q.length
    · rw [if_pos hm] at HE
      obtain ⟨a3, c3, hst, hrt⟩ := sliceT HR2.out m hm
      obtain ⟨a4, c4, hsl, hrl⟩ := sliceY HR2.out m hm
      obtain ⟨nq, hnq⟩ : ∃ nq, nq = q.length := ⟨_, rfl⟩
      rw [← hnq] at hst hrt hsl hrl HR2 HS2 hm ⊢
      have hm' : decide ((nq : Int) < m) = false := by simpa using (by omega : ¬ (nq : Int) < m)
      have HNL := hide (show nq - m = (q.drop m).length by rw [List.length_drop, hnq])
      have hS0 : Rd w1 (.slice a2 nq c2) q := HR2.out
      have HRL := hide hrl
      have HRT := hide hrt
      have HMN := hide (show m ≤ nq from hm)
      clear hm hnq HR2 hrl hrt
      have hmn : m ≤ nq := HMN.out
      go_wp2_with fail
      clear hmn
      have hK : Keeps (fun wx => Rd wx (.slice a2 nq c2) q) := fun w1 w2 h hb => h.carry hb
      refine reg_begin hK (by kernel_rfl) hS0 ?_
      intro hS
      clear hS0
      have HBd := hide (HB1.out.drew)
      generalize w1.drew = wd at *
      refine reg_plan [0, 1, 2, 3, 4, 5, 6, 7, 8, 9] (fuel := 0) (a' := ?qaa1) (by kernel_rfl) (by kernel_rfl) (by kernel_rfl) ?qap1 hS ?qan1
      case qap1 =>
        iterate 10 (apply Yl.cons rfl (by kernel_rfl); focus (rintro wx x1; have cv := conv_y (HRT.out wx x1); go_simp; all_goals (with_reducible rfl)); try simp only [Act.put, List.setIfInBounds_toArray, List.set_cons_zero, List.set_cons_succ])
        exact Yl.nil
      refine wpAnyH_done (by kernel_rfl) ?_ _
      refine NoPanic.normal ?_
      try simp only [Act.put, List.setIfInBounds_toArray, List.set_cons_zero, List.set_cons_succ]
      go_wp2
      go_ret3
      exact ⟨.inl ⟨_, _, a4, _, c4, HE.out, rfl, HNL.out, fun wx hx => HRL.out wx (HS2.out wx hx)⟩, HBd.out⟩
    · rw [if_neg hm] at HE
      obtain ⟨nq, hnq⟩ : ∃ nq, nq = q.length := ⟨_, rfl⟩
      rw [← hnq] at HR2 HS2 hm ⊢
      have hm' : (nq : Int) < m := by omega
      clear hm hnq
      go_wp2
      go_ret3
      exact ⟨.inr ⟨HE.out, rfl⟩, HB1.out⟩
end Go.Proofs.Ytjkoemdojdcmpaa

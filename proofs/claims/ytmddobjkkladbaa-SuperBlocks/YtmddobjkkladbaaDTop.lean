/-
  What dev's Check and Many do; and the plain mathematics of acts done one by one.
-/
import Derived.Test.YtmddobjkkladbaaDAct2
namespace Go.Proofs.Ytmddobjkkladbaa
open Go.RowKit
set_option linter.unusedVariables false
set_option linter.unusedSimpArgs false

theorem check_any {d : Dk} {v : Value} (w : World) (h : RdD w v d) :
    Calls Try.prog 39 #[v] w fun e w' => e = .returned (.int .i64 (chk d)) ∧ Below w.heap.size w w' := by
  obtain ⟨a1, c1, a2, c2, a3, c3, rfl, h1, h2, h3⟩ := h.form
  have H1 := hide h1
  have H2 := hide h2
  have H3 := hide h3
  clear h1 h2 h3 h
  have hb : ∀ o, Below w.heap.size w (w.alloc o) := fun o => (Below.refl _ _).alloc (Nat.le_refl _) _
  generalize e1 : d.1.length = n1 at *
  generalize e2 : d.2.1.length = n2 at *
  generalize e3 : d.2.2.length = n3 at *
  have E1 := hide e1
  have E2 := hide e2
  have E3 := hide e3
  clear e1 e2 e3
  go_enter Try.func39, Try.ntmps39
  go_wp2_with fail
  refine (mayBe_any (d := d) a1 a2 a3 n1 c1 n2 c2 n3 c3 _ (H1.out.carry (hb _)) (H2.out.carry (hb _)) (H3.out.carry (hb _)) E1.out.symm E2.out.symm E3.out.symm).mono ?_
  rintro e w1 ⟨rfl, hb1⟩
  have hb2 : Below w.heap.size w w1 := (hb _).trans (hb1.mono (by simp))
  clear hb1
  have HK : Hid (chk d = if okD d then 0 else 20) := rfl
  generalize okD d = ok at HK
  cases ok
  · go_wp2
    go_ret
    exact ⟨by rw [HK.out]; rfl, hb2⟩
  · go_wp2
    go_ret
    exact ⟨by rw [HK.out]; rfl, hb2⟩

theorem chk_cases (d : Dk) : (okD d = true ∧ chk d = 0) ∨ (okD d = false ∧ chk d = 20) := by
  unfold chk
  cases okD d
  · exact .inr ⟨rfl, rfl⟩
  · exact .inl ⟨rfl, rfl⟩

theorem onesD_snoc (a : Ac) : ∀ (l : List Ac) (d : Dk), onesD d (l ++ [a]) = (onesD d l).bind (fun x => oneD x a)
  | [], d => by
    show (match oneD d a with | none => none | some x => some x) = oneD d a
    cases oneD d a <;> rfl
  | b :: l, d => by
    show (match oneD d b with | none => none | some x => onesD x (l ++ [a])) = (match oneD d b with | none => none | some x => onesD x l).bind _
    cases e : oneD d b with
    | none => rfl
    | some x => exact onesD_snoc a l x
theorem onesD_none (d : Dk) (l l' : List Ac) (h : onesD d l = none) : onesD d (l ++ l') = none := by
  induction l' generalizing l with
  | nil => simpa using h
  | cons a l' ih =>
    have := ih (l ++ [a]) (by rw [onesD_snoc, h]; rfl)
    simpa using this
theorem firstE_take (k : Nat) : ∀ (l : List Ac), (∀ a ∈ l, actE k a = 0) → firstE k l = 0
  | [], _ => rfl
  | a :: l, h => by
    unfold firstE
    rw [if_pos (h a (List.mem_cons_self ..))]
    exact firstE_take k l (fun b hb => h b (List.mem_cons_of_mem _ hb))
theorem firstE_at (k : Nat) : ∀ (l : List Ac) (j : Nat) (hj : j < l.length), (∀ a ∈ l.take j, actE k a = 0) → actE k l[j] ≠ 0 → firstE k l = actE k l[j]
  | a :: l, 0, _, _, h => by
    have h' : ¬ actE k a = 0 := h
    unfold firstE; rw [if_neg h']; rfl
  | a :: l, j + 1, hj, h, h' => by
    unfold firstE
    rw [if_pos (h a (by simp))]
    exact firstE_at k l j (by simpa using hj) (fun b hb => h b (by simp [hb])) (by simpa using h')
theorem firstE_zero (k : Nat) : ∀ (l : List Ac), firstE k l = 0 → ∀ a ∈ l, actE k a = 0
  | [], _, a, ha => by cases ha
  | b :: l, h, a, ha => by
    unfold firstE at h
    split at h
    · rename_i hb
      rcases List.mem_cons.1 ha with rfl | ha
      · exact hb
      · exact firstE_zero k l h a ha
    · rename_i hb; exact absurd h hb

/-- A disk of cnt blocks whose writes may be. -/
def Fine (cnt : Nat) (d : Dk) : Prop := d.1.length = 128 * cnt ∧ d.2.1.length ≤ 65536 ∧ d.2.2.length ≤ 65536 ∧ ∀ p ∈ d.2.1, putE cnt p = 0
theorem Fine.one {cnt : Nat} {d d' : Dk} {a : Ac} (h : Fine cnt d) (ha : actE cnt a = 0) (he : oneD d a = some d') : Fine cnt d' ∧ d'.2.2 = d.2.2 ++ [a] := by
  obtain ⟨h1, h2, h3, h4⟩ := h
  unfold oneD at he
  split at he
  · cases he
  · rename_i hf
    split at he
    · rename_i hs
      cases he
      refine ⟨⟨?_, by simp, by simp; omega, by simp⟩, rfl⟩
      show (setBs d.1 d.2.1).length = _
      rw [setBs_len d.1 d.2.1 d.1 rfl (fun p hp => by have := putE_ok (h4 p hp); omega)]
      exact h1
    · rename_i hs
      cases he
      have hs' : a.1 = false := by simpa using hs
      have ha' : putE cnt a.2 = 0 := by unfold actE at ha; rw [hs'] at ha; exact ha
      refine ⟨⟨h1, by simp; simp [hs'] at hf; omega, by simp; omega, fun p hp => ?_⟩, rfl⟩
      rcases List.mem_append.1 hp with h | h
      · exact h4 p h
      · rw [List.mem_singleton.1 h]; exact ha'
theorem Fine.of_ok {d : Dk} (h : okD d = true) : Fine (mny d) d ∧ 1 ≤ mny d ∧ mny d ≤ 4096 := by
  obtain ⟨h1, h2, h3, h4, h5, h6, h7⟩ := (okD_iff d).1 h
  refine ⟨⟨by unfold mny at *; omega, h4, h5, h6⟩, h2, h3⟩
theorem actE_len {k : Nat} {a : Ac} (h : actE k a = 0) : a.2.2.length ≤ 128 := by
  unfold actE at h
  split at h
  · split at h
    · cases h
    · rename_i h'
      have : a.2.2 = [] := Classical.byContradiction fun e => h' (.inr e)
      rw [this]; simp
  · have := putE_ok h; omega

end Go.Proofs.Ytmddobjkkladbaa

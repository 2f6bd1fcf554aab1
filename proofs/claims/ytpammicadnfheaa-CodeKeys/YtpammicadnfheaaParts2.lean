/-
  What code.Parts does.
-/
import Derived.Test.YtpammicadnfheaaParts
namespace Go.Proofs.Ytpammicadnfheaa
open Go.RowKit
set_option linter.unusedVariables false
set_option linter.unusedSimpArgs false

/-- A part's cells; parts' cells. -/
def ptc (p : Pt) : List Value := [.bool p.1, .int .u64 p.2.1, .string (bs p.2.2)]
def ptsv (l : List Pt) : List Value := (l.map ptc).flatten
theorem ptsv_len : ∀ l, (ptsv l).length = l.length * 3
  | [] => rfl
  | p :: l => by
    show (ptc p ++ ptsv l).length = _
    rw [List.length_append, ptsv_len l]
    simp [ptc]; omega
theorem ptsv_append (a b : List Pt) : ptsv (a ++ b) = ptsv a ++ ptsv b := by simp [ptsv]
theorem ptsv_get : ∀ (l : List Pt) (j : Nat) (h : j < l.length), (ptsv l)[j * 3]? = some (.bool (l[j]).1) ∧ (ptsv l)[j * 3 + 1]? = some (.int .u64 (l[j]).2.1) ∧ (ptsv l)[j * 3 + 2]? = some (.string (bs (l[j]).2.2))
  | p :: l, 0, h => by simp [ptsv, ptc]
  | p :: l, j + 1, h => by
    have := ptsv_get l j (by simpa using h)
    have e : ptsv (p :: l) = ptc p ++ ptsv l := rfl
    rw [e, show (j + 1) * 3 = 3 + j * 3 by omega]
    refine ⟨?_, ?_, ?_⟩
    · rw [List.getElem?_append_right (by simp [ptc])]; simpa [ptc] using this.1
    · rw [Nat.add_assoc, List.getElem?_append_right (by simp [ptc])]; simpa [ptc] using this.2.1
    · rw [Nat.add_assoc, List.getElem?_append_right (by simp [ptc])]; simpa [ptc] using this.2.2
/-- Parts that fit. -/
def fits (l : List Pt) : Prop := ∀ j, (h : j < l.length) → (l[j]).2.1 < 18446744073709551616 ∧ (l[j]).2.2.length ≤ maxLen
theorem fits_snoc {l : List Pt} {p : Pt} (h : fits l) (h1 : p.2.1 < 18446744073709551616) (h2 : p.2.2.length ≤ maxLen) : fits (l ++ [p]) := by
  intro j hj
  by_cases e : j < l.length
  · simp only [List.getElem_append_left e]; exact h j e
  · have : j = l.length := by simp at hj; omega
    subst this
    simpa using ⟨h1, h2⟩
theorem own_rdp {w : World} {base : Nat} {e : TypeId} {v : Value} {l : List Pt} (h : w.ownsRow base e 3 v l.length (ptsv l)) (hf : fits l) : RdP w v l := by
  rcases h.2 with ⟨rfl, hn⟩ | ⟨g, cap, cur, rfl, _, hg, hn, hm, hsz, htake⟩
  · exact .inl ⟨List.length_eq_zero_iff.1 hn, .inl rfl⟩
  · refine .inr ⟨g, 0, cap, rfl, hn, hm, fun j hj => ?_⟩
    obtain ⟨g0, g1, g2⟩ := ptsv_get l j hj
    have c0 := h.cells (g := g) rfl _ _ g0
    have c1 := h.cells (g := g) rfl _ _ g1
    have c2 := h.cells (g := g) rfl _ _ g2
    rw [Addr.add_lit] at c0 c1 c2
    exact ⟨c0, c1, c2, hf j hj⟩
theorem own_form {w : World} {base : Nat} {e : TypeId} {size : Nat} {v : Value} {n : Nat} {xs : List Value} (h : w.ownsRow base e size v n xs) : ∃ a cap, v = .slice a n cap := by
  rcases h.2 with ⟨rfl, rfl⟩ | ⟨g, cap, cur, rfl, _⟩
  · exact ⟨_, _, rfl⟩
  · exact ⟨_, _, rfl⟩

/-- One part is appended to a row of one's own. -/
theorem wpList_appP {P : Program} {ops : Array Oper} {rest : List Oper} {o : Oper} {a : Act} {Q : Exit → Act → World → Prop} (W wr : World) (hgd : o.guard = none) (s x : Operand) (t : TypeId)
    (ho : o.op = .call { callee := .builtin .append, args := #[s, x], argTypes := #[t, t] })
    (base : Nat) (e : TypeId) (ht : P.underlying t = some (.slice e)) (hi : (P.info? e).map (fun i => (i.zero, i.size, i.bytes)) = some (some (.agg #[.bool false, .int .u64 0, .string { data := #[] }]), 3, 32))
    (v : Value) (l : List Pt) (hown : wr.ownsRow base e 3 v l.length (ptsv l)) (hs : a.eval s = v) (hbel : Below base W wr) (hb : base ≤ W.heap.size)
    (p : Pt) (N : Nat) (hN : wr.heap.size = N) (hx : a.eval x = .slice (some ⟨N, 0, none⟩) 1 1) (hlen : l.length + 1 ≤ 1000000000)
    (h : ∀ v' w', w'.ownsRow base e 3 v' (l ++ [p]).length (ptsv (l ++ [p])) → Below base W w' → wpList P ops Q rest (a.put o.dst v') w') :
    wpList P ops Q (o :: rest) a (wr.alloc (.cells #[.bool p.1, .int .u64 p.2.1, .string (bs p.2.2)] e)) := by
  obtain ⟨i0, hi, hz0, hz1, hz2⟩ := info_parts hi
  subst hN
  have hbw : base ≤ wr.heap.size := by have := hbel.size; omega
  refine wpList_append_own _ hgd s x t ho base e i0 _ 3 32 ht hi hz0 hz1 hz2 rfl (by decide) v l.length (ptsv l) hs (hown.alloc _) ⟨wr.heap.size, 0, none⟩ 1 1 (ptc p) hx rfl ?_ ?_ ?_ ?_ ?_ ?_
  · intro j u hj
    have := World.news_of_block (w := wr.alloc (.cells #[.bool p.1, .int .u64 p.2.1, .string (bs p.2.2)] e)) (heap_alloc_new wr _) j u (by simpa [ptc] using hj)
    simpa using this
  · intro u hu
    simp [ptc] at hu
    rcases hu with rfl | rfl | rfl <;> rfl
  · unfold maxLen; omega
  · omega
  · simp; omega
  · intro v' w' hown' hg _
    refine h v' w' ?_ ((hbel.alloc hbw _).grown hg (by simp; omega) fun k hk => (hown.lt k hk).1)
    rw [ptsv_append, List.length_append]
    exact hown'

theorem Try.infoP : (Try.prog.info? 32).map (fun i => (i.zero, i.size, i.bytes)) = some (some (.agg #[.bool false, .int .u64 0, .string { data := #[] }]), 3, 32) := by kernel_rfl

theorem pa_short {s : List UInt8} (h : s.length < 1 ∨ 64 < s.length) : pa s = ([], 3) := by rw [pa, if_pos h]
theorem pa_none {s : List UInt8} (h : ¬ (s.length < 1 ∨ 64 < s.length)) (hp : prs 8 s = none) : pa s = ([], 8) := by rw [pa, if_neg h, hp]
theorem pa_some {s : List UInt8} {l : List Pt} (h : ¬ (s.length < 1 ∨ 64 < s.length)) (hp : prs 8 s = some l) : pa s = (l, 0) := by rw [pa, if_neg h, hp]

set_option maxHeartbeats 600000 in
set_option maxRecDepth 100000 in
theorem parts_any (s : List UInt8) (w : World) (hs : s.length ≤ 1000000000) :
    Calls Try.prog 15 #[.string (bs s)] w fun e w' => ∃ v, e = .returned (.tuple #[v, .int .i64 (pa s).2]) ∧ RdP w' v (pa s).1 ∧ Below w.heap.size w w' := by
  have hss := bs_size s
  by_cases hsh : s.length < 1 ∨ 64 < s.length
  · have HP := hide (pa_short hsh)
    rcases hsh with h | h
    · have h' : (s.length : Int) < 1 := by omega
      go_enter Try.func15, Try.ntmps15
      go_wp2
      all_goals (go_ret2; rw [HP.out]; exact ⟨_, rfl, .inl ⟨rfl, .inl rfl⟩, Below.refl _ _⟩)
    · have h' : (64 : Int) < s.length := by omega
      go_enter Try.func15, Try.ntmps15
      go_wp2
      all_goals (go_ret2; rw [HP.out]; exact ⟨_, rfl, .inl ⟨rfl, .inl rfl⟩, Below.refl _ _⟩)
  · have HS := hide hsh
    have h1 : 1 ≤ s.length := by omega
    have h64 : s.length ≤ 64 := by omega
    clear hsh hs
    go_enter Try.func15, Try.ntmps15
    go_wp2
    go_loopw [0, 4] (fun z x wr => ∃ (r : List UInt8) (ps : List Pt), z = .string (bs r) ∧ r.length ≤ 64 ∧ ps.length ≤ 8 ∧ prs 8 s = ((prs (8 - ps.length) r).map fun l => ps ++ l) ∧ fits ps ∧ wr.ownsRow w.heap.size 32 3 x ps.length (ptsv ps) ∧ Below w.heap.size w wr)
      (fun z _ _ => match z with | .string b => b.size | _ => 0)
    case atStart => exact ⟨s, [], rfl, h64, by simp, by cases prs 8 s <;> simp, fun j h => by simp at h, World.ownsRow_nil _ _ _ _, Below.refl _ _⟩
    case round =>
      obtain ⟨r, ps, rfl, hrl, hpl, hprs, hfit, hown, hbel⟩ := hrel
      have HR := hide hprs
      have HF := hide hfit
      clear hprs hfit
      obtain ⟨ax, cx, rfl⟩ := own_form hown
      cases r with
      | nil =>
        have hq : (bs []).toList.isEmpty = true := by rw [ByteArray.toList_eq]; rfl
        have HK : Hid (pa s = (ps, 0)) := pa_some HS.out (by rw [HR.out, prs]; simp)
        go_wp2
        go_ret2
        rw [HK.out]
        exact ⟨_, rfl, own_rdp hown HF.out, hbel⟩
      | cons c q =>
        have hq : (bs (c :: q)).toList.isEmpty = false := by rw [ByteArray.toList_eq, bs_toList]; rfl
        have hsz : (bs (c :: q)).size = q.length + 1 := by rw [bs_size]; rfl
        go_wp2_with fail
        refine (cpart_any c q _ (by simp at hrl; omega)).mono ?_
        rintro e w1 ⟨⟨p, t, rfl, hp⟩, hb1⟩
        have hbel1 : Below w.heap.size w w1 := hbel.trans (hb1.mono hbel.size)
        have hown1 := own_carry hown hb1
        clear hb1 hbel hown
        cases hcp : cp (c :: q) with
        | none =>
          have HK : Hid (pa s = ([], 8)) := pa_none HS.out (by rw [HR.out, prs_none hcp]; rfl)
          clear hp hcp
          unfold ptV
          go_wp2
          go_ret2
          rw [HK.out]
          exact ⟨_, rfl, .inl ⟨rfl, .inl rfl⟩, hbel1.alloc hbel1.size _⟩
        | some y =>
          obtain ⟨p', t'⟩ := y
          obtain ⟨rfl, rfl⟩ := hp p' t' hcp
          obtain ⟨hf1, hf2, hf3⟩ := cp_fits hcp
          have HCP := hide hcp
          clear hp hcp
          unfold ptV
          have hst := bs_size t
          by_cases h8 : ps.length = 8
          · have h8' : ((ps.length : Int) == 8) = true := by simpa using (by omega : (ps.length : Int) = 8)
            have HK : Hid (pa s = ([], 8)) := pa_none HS.out (by rw [HR.out, h8]; rfl)
            clear h8
            go_wp2
            go_ret2
            rw [HK.out]
            exact ⟨_, rfl, .inl ⟨rfl, .inl rfl⟩, hbel1.alloc hbel1.size _⟩
          · have h8' : ((ps.length : Int) == 8) = false := by simpa using (by omega : ¬ (ps.length : Int) = 8)
            have HK : Hid (prs 8 s = ((prs (8 - (ps ++ [p]).length) t).map fun l => ps ++ [p] ++ l)) := by
              show _ = _
              rw [HR.out, show 8 - ps.length = (8 - (ps ++ [p]).length) + 1 by simp; omega, prs_step HCP.out]
              cases prs (8 - (ps ++ [p]).length) t <;> simp
            go_wp2_with (at_builtin; go_must (refine wpList_appP w (w1.alloc _) rfl (.tmp 31) (.tmp 33) 34 rfl w.heap.size 32 Try.underlying34 Try.infoP _ ps (hown1.alloc _) rfl (hbel1.alloc hbel1.size _) (Nat.le_refl _) p (w1.heap.size + 1) (by simp) rfl (by omega) ?_); intro v2 w2 hown2 hbel2)
            go_roundw
            case rel => exact ⟨t, ps ++ [p], rfl, by simp at hf3 hrl; omega, by simp; omega, HK.out, fits_snoc HF.out hf1 (by unfold maxLen; simp at hf2 hrl; omega), hown2, hbel2⟩
            case measure => simp [bs_size] at hf3 ⊢ <;> omega

end Go.Proofs.Ytpammicadnfheaa

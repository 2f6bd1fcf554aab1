/-
  What the statement CodeKeys does: it answers true, and changes nothing that was there.
-/
import Derived.Test.YtpammicadnfheaaRParts2
import Derived.Test.YtpammicadnfheaaReadLaw
namespace Go.Proofs.Ytpammicadnfheaa
open Go.RowKit
set_option linter.unusedVariables false
set_option linter.unusedSimpArgs false

theorem ptsv_at {w : World} {b off : Nat} {l : List Pt} (h : Lie w b off l) (j : Nat) (u : Value) (hj : (ptsv l)[j]? = some u) : w.cell? ⟨b, off + j, none⟩ = some u := by
  have hlt : j < (ptsv l).length := by
    obtain ⟨h, _⟩ := List.getElem?_eq_some_iff.1 hj
    exact h
  rw [ptsv_len] at hlt
  obtain ⟨q, r, hr, rfl⟩ : ∃ q r, r < 3 ∧ j = q * 3 + r := ⟨j / 3, j % 3, Nat.mod_lt _ (by decide), by omega⟩
  have hq : q < l.length := by omega
  obtain ⟨g0, g1, g2⟩ := ptsv_get l q hq
  obtain ⟨c0, c1, c2, _⟩ := h q hq
  match r, hr with
  | 0, _ => rw [Nat.add_zero] at hj ⊢; rw [g0] at hj; cases hj; exact c0
  | 1, _ => rw [g1] at hj; cases hj; rw [← Nat.add_assoc]; exact c1
  | 2, _ => rw [g2] at hj; cases hj; rw [← Nat.add_assoc]; exact c2
theorem ptsv_oneCell (l : List Pt) : ∀ u ∈ ptsv l, u.oneCell' = true := by
  intro u hu
  simp only [ptsv, List.mem_flatten, List.mem_map] at hu
  obtain ⟨x, ⟨p, _, rfl⟩, hu⟩ := hu
  simp [ptc] at hu
  rcases hu with rfl | rfl | rfl <;> rfl
theorem rdp_fit {w : World} {v : Value} {l : List Pt} (h : RdP w v l) : fits l := by
  rcases h with ⟨rfl, _⟩ | ⟨b, off, c, rfl, hc, hm, hcell⟩
  · intro j hj; simp at hj
  · intro j hj; exact (hcell j hj).2.2.2

/-- Parts that are read are appended to nothing. -/
theorem wpList_appPs {P : Program} {ops : Array Oper} {rest : List Oper} {o : Oper} {a : Act} {Q : Exit → Act → World → Prop} (wr : World) (hgd : o.guard = none) (s x : Operand) (t : TypeId)
    (ho : o.op = .call { callee := .builtin .append, args := #[s, x], argTypes := #[t, t] })
    (e : TypeId) (ht : P.underlying t = some (.slice e)) (hi : (P.info? e).map (fun i => (i.zero, i.size, i.bytes)) = some (some (.agg #[.bool false, .int .u64 0, .string { data := #[] }]), 3, 32))
    (hs : a.eval s = .slice none 0 0) (vx : Value) (l : List Pt) (hrd : RdP wr vx l) (hx : a.eval x = vx) (hlen : l.length ≤ 1000000)
    (h : ∀ v' w', w'.ownsRow wr.heap.size e 3 v' l.length (ptsv l) → Below wr.heap.size wr w' → wpList P ops Q rest (a.put o.dst v') w') :
    wpList P ops Q (o :: rest) a wr := by
  obtain ⟨i0, hi, hz0, hz1, hz2⟩ := info_parts hi
  rcases hrd with ⟨rfl, rfl | ⟨ad, c, rfl⟩⟩ | ⟨b, off, c, rfl, hc, hm, hcell⟩
  · exact wpList_append_own_none hgd s x t ho wr.heap.size e i0 3 ht hi (.slice none 0 0) 0 [] hs (World.ownsRow_nil _ _ _ _) hx (h _ _ (World.ownsRow_nil _ _ _ _) (Below.refl _ _))
  · refine wpList_append_own _ hgd s x t ho wr.heap.size e i0 _ 3 32 ht hi hz0 hz1 hz2 rfl (by decide) (.slice none 0 0) 0 [] hs (World.ownsRow_nil _ _ _ _) ad 0 c [] hx rfl ?_ ?_ ?_ ?_ ?_ ?_
    · intro j u hj; simp at hj
    · intro u hu; simp at hu
    · decide
    · decide
    · omega
    · intro v' w' hown' hg _
      exact h v' w' hown' ((Below.refl _ _).grown hg (Nat.le_refl _) (fun k hk => by simp [Value.ownBlock] at hk))
  · refine wpList_append_own _ hgd s x t ho wr.heap.size e i0 _ 3 32 ht hi hz0 hz1 hz2 rfl (by decide) (.slice none 0 0) 0 [] hs (World.ownsRow_nil _ _ _ _) ⟨b, off, none⟩ l.length c (ptsv l) hx (ptsv_len l) ?_ (ptsv_oneCell l) ?_ ?_ ?_ ?_
    · intro j u hj
      rw [Addr.add_lit]
      exact ptsv_at hcell j u hj
    · unfold maxLen; omega
    · omega
    · omega
    · intro v' w' hown' hg _
      refine h v' w' ?_ ((Below.refl _ _).grown hg (Nat.le_refl _) (fun k hk => by simp [Value.ownBlock] at hk))
      simpa using hown'

theorem abV_form (o : Option (List UInt8)) : ∃ x b, abV o = .tuple #[.string x, .bool b] := by
  cases o <;> exact ⟨_, _, rfl⟩

set_option maxHeartbeats 600000 in
set_option maxRecDepth 100000 in
theorem keyslaw_any (a0 : Option Addr) (n0 c0 : Nat) {l : List Pt} (sl : List UInt8) (w : World) (hv : RdP w (.slice a0 n0 c0) l) :
    Calls Try.prog 5 #[.slice a0 n0 c0, .string (bs sl)] w fun e w' => e = .returned (.bool true) ∧ Below w.heap.size w w' := by
  have hss := bs_size sl
  have HV := hide hv
  clear hv
  go_enter Try.func5, Try.ntmps5
  go_wp2_with fail
  refine (heavy_any _ HV.out).mono ?_
  rintro e w1 ⟨⟨r, rfl, hr⟩, rfl⟩
  cases r with
  | true =>
    clear hr
    go_wp2
    go_ret
    exact ⟨rfl, Below.refl _ _⟩
  | false =>
    have hl60 := hr rfl
    clear hr
    by_cases hs : 100000 < sl.length
    · have hs' : (100000 : Int) < sl.length := by omega
      go_wp2
      go_ret
      exact ⟨rfl, Below.refl _ _⟩
    · have hs' : (sl.length : Int) ≤ 100000 := by omega
      go_wp2_with (at_builtin; go_must (refine wpList_appPs w1 rfl _ (.tmp 25) 34 rfl 32 Try.underlying34 Try.infoP rfl _ l HV.out rfl (by omega) ?_); intro vo w2 hown hb2)
      have ho := own_rdp hown (rdp_fit HV.out)
      have hv2 := HV.out.carry hb2
      clear hown
      refine (key_any (l := l) _ (by omega) ho).mono ?_
      rintro e w3 ⟨rfl, hb3⟩
      have c3 := keeps_below w1 _ _ hb2 hb3
      have ho3 := ho.carry hb3
      have hv3 := hv2.carry hb3
      clear hb2 hb3 ho hv2
      unfold kyV
      go_wp2_with fail
      refine (rkey_any (l := l) _ (by omega) hv3).mono ?_
      rintro e w4 ⟨rfl, hb4⟩
      have c4 := keeps_below w1 _ _ c3 hb4
      have ho4 := ho3.carry hb4
      have hv4 := hv3.carry hb4
      clear c3 hb4 ho3 hv3
      unfold kyV
      go_wp2_with fail
      refine (parts_any sl _ (by omega)).mono ?_
      rintro e w5 ⟨vp, rfl, hp, hb5⟩
      have c5 := keeps_below w1 _ _ c4 hb5
      have ho5 := ho4.carry hb5
      have hv5 := hv4.carry hb5
      clear c4 hb5 ho4 hv4
      go_wp2_with fail
      refine (rparts_any sl _ (by omega)).mono ?_
      rintro e w6 ⟨vq, rfl, hq, hb6⟩
      have c6 := keeps_below w1 _ _ c5 hb6
      have ho6 := ho5.carry hb6
      have hv6 := hv5.carry hb6
      have hp6 := hp.carry hb6
      clear c5 hb6 ho5 hv5 hp
      obtain ⟨xa, xb, hab⟩ := abV_form (ab sl)
      have HAB := hide hab
      clear hab
      go_wp2_with fail
      refine (above_any sl _ (by omega)).mono ?_
      rintro e w7 ⟨rfl, hb7⟩
      rw [HAB.out]
      have c7 := keeps_below w1 _ _ c6 hb7
      have ho7 := ho6.carry hb7
      have hv7 := hv6.carry hb7
      have hp7 := hp6.carry hb7
      have hq7 := hq.carry hb7
      clear c6 hb7 ho6 hv6 hp6 hq
      go_wp2_with fail
      refine (rabove_any sl _ (by omega)).mono ?_
      rintro e w8 ⟨rfl, hb8⟩
      rw [HAB.out]
      have c8 := keeps_below w1 _ _ c7 hb8
      have ho8 := ho7.carry hb8
      have hv8 := hv7.carry hb8
      have hp8 := hp7.carry hb8
      have hq8 := hq7.carry hb8
      clear c7 hb8 ho7 hv7 hp7 hq7 HAB
      have hpl : (pa sl).1.length ≤ 1000000 := by
        by_cases h : (pa sl).2 = 0
        · have := (prs_of 8 sl _ (pa_zero h).2.2).2.1; omega
        · rw [pa_err h]; simp
      generalize (ky l).2 = ek at *
      generalize (ky l).1 = kk at *
      generalize (pa sl).2 = ep at *
      generalize (pa sl).1 = pp at *
      have HO := hide ho8
      have HVV := hide hv8
      have HP := hide hp8
      have HQ := hide hq8
      clear ho8 hv8 hp8 hq8
      go_wp2_with fail
      refine (same_any (l := pp) (l' := pp) _ hpl HP.out HQ.out).mono ?_
      rintro e w9 ⟨rfl, hb9⟩
      rw [decide_eq_true rfl]
      go_wp2_with fail
      refine (same_any (l := l) (l' := l) _ (by omega) (HO.out.carry hb9) (HVV.out.carry hb9)).mono ?_
      rintro e wa ⟨rfl, hba⟩
      rw [decide_eq_true rfl]
      go_wp2
      go_ret
      exact ⟨rfl, keeps_below w1 _ _ (keeps_below w1 _ _ c8 hb9) hba⟩

end Go.Proofs.Ytpammicadnfheaa

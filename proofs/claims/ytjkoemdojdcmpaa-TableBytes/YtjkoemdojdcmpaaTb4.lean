/-
  Keys, each once: the library's Compact of texts, table.keysOf, the document's Keys.
-/
import Derived.Test.YtjkoemdojdcmpaaTb3
import Derived.Test.YtjkoemdojdcmpaaFiDel
namespace Go.Proofs.Ytjkoemdojdcmpaa
open Go.RowKit
set_option linter.unusedVariables false
set_option linter.unusedSimpArgs false

theorem flatT (l : List (List UInt8)) : l.flatMap ecT = l.map (fun s => Value.string (bs s)) := by
  induction l with
  | nil => rfl
  | cons x l ih => rw [List.flatMap_cons, ih]; rfl
theorem OwTx.lt {w : World} {base g n c : Nat} {l : List (List UInt8)} (h : OwTx w base (.slice (some ⟨g, 0, none⟩) n c) l) : n = l.length ∧ base ≤ g ∧ g < w.heap.size ∧ n ≤ c := by
  obtain ⟨h1, h2⟩ := World.ownsRow.lt h g rfl
  rcases h.2 with ⟨e, _⟩ | ⟨g', cap, cur, e, hb, hg, hn, hm, hs, ht⟩
  · cases e
  · injection e with e1 e2 e3
    exact ⟨e2, by omega, by omega, by omega⟩
theorem OwTx.setT {w : World} {base g n c : Nat} {l : List (List UInt8)} (h : OwTx w base (.slice (some ⟨g, 0, none⟩) n c) l) (k : Nat) (s : List UInt8) (hB : base ≤ w.heap.size) :
    OwTx (w.setCell ⟨g, k, none⟩ (.string (bs s))) base (.slice (some ⟨g, 0, none⟩) n c) (l.set k s) ∧ Below base w (w.setCell ⟨g, k, none⟩ (.string (bs s))) := by
  have hn := h.lt.1
  subst hn
  obtain ⟨s1, s2⟩ := World.ownsRow.stored h k (.string (bs s))
  refine ⟨?_, ?_⟩
  · unfold OwTx OwG
    have e : ((l.flatMap ecT).set k (.string (bs s))) = (l.set k s).flatMap ecT := by rw [flatT, flatT, List.map_set]
    rw [List.length_set, ← e]
    exact s1
  · exact (Below.refl _ _).grown s2 hB fun j hj => (World.ownsRow.lt h j hj).1
theorem sizeTx (wx : World) : (sizeOf (Try.prog.elem 65)).run Try.prog wx = .ok 1 wx := by
  rw [show Try.prog.elem 65 = 9 by kernel_rfl]
  obtain ⟨i0, hi, hz0, hz1, hz2⟩ := info_parts Try.infoTx
  simp [sizeOf, typeInfo, hi, hz1]
theorem slTl (g n c k : Nat) (hk : k ≤ n) (hc : k < c) (wx : World) : (Instr.slice 65 (.slice (some ⟨g, 0, none⟩) n c) (some (.int .i64 k)) none none).run Try.prog wx = .ok (.slice (some ⟨g, k, none⟩) (n - k) (c - k)) wx := by
  rw [run_slice_l wx 65 _ n c (by kernel_rfl) .i64 k (by omega) (by omega), sizeTx wx]
  simp [Result.andThen, sliced, Nat.ne_of_gt hc, Addr.add_lit]
theorem slTh (g n c k : Nat) (hc : k ≤ c) (wx : World) : (Instr.slice 65 (.slice (some ⟨g, 0, none⟩) n c) none (some (.int .i64 k)) none).run Try.prog wx = .ok (.slice (some ⟨g, 0, none⟩) k c) wx := by
  rw [run_slice_h wx 65 _ n c (by kernel_rfl) .i64 k (by omega) (by omega), sizeTx wx]
  simp only [Result.andThen, sliced, Int.toNat_natCast, Nat.sub_zero]
  by_cases h : c = 0
  · simp [h]
  · simp [h, Addr.add]
theorem clear_tx {w : World} {base g n c k : Nat} {l : List (List UInt8)} (h : OwTx w base (.slice (some ⟨g, 0, none⟩) n c) l) (hk : k < n) (hB : base ≤ w.heap.size) (ty : TypeId) :
    ∃ w', (Builtin.clear_ #[65] ty #[.slice (some ⟨g, k, none⟩) (n - k) (c - k)]).run Try.prog w = .ok (.tuple #[]) w' ∧ OwTx w' base (.slice (some ⟨g, 0, none⟩) k c) (l.take k) ∧ Below base w w' := by
  have hn := h.lt.1
  subst hn
  rcases h.2 with ⟨e, _⟩ | ⟨g', cap, cur, e, hb, hg, hn, hm, hs, ht⟩
  · cases e
  injection e with e1 e2 e3
  injection e1 with e1
  injection e1 with e1
  subst e1 e3
  obtain ⟨i0, hi, hz0, hz1, hz2⟩ := info_parts Try.infoTx
  have hz : ∀ w, (zeroValue 9).run Try.prog w = .ok (.string ByteArray.empty) w := by intro w; simp [zeroValue, typeInfo, hi, hz0]
  have hzc : (Builtin.zeroCells (Value.cells (.string ByteArray.empty)) (l.length - k)).toList = List.replicate (l.length - k) (.string ByteArray.empty) := by
    have e0 : Value.cells (.string ByteArray.empty) = #[.string ByteArray.empty] := rfl
    rw [e0]
    simp [Builtin.zeroCells]
    apply List.ext_getElem
    · simp
    · intro i h1 h2
      simp [Nat.mod_one]
  have hst := run_storeCells_at Try.prog g k 9 (List.replicate (l.length - k) (.string ByteArray.empty)) 0 cur w hg (by rw [List.length_replicate]; omega) (by
    intro v hv
    rw [List.eq_of_mem_replicate hv]; rfl)
  simp only [Nat.add_zero, List.length_replicate] at hst
  refine ⟨w.setRow g (cur.toList.take k ++ List.replicate (l.length - k) (Value.string ByteArray.empty) ++ cur.toList.drop (k + (l.length - k))).toArray, ?_, ?_, ?_⟩
  rotate_left
  · have hlt : k ≤ cur.toList.length := by rw [Array.length_toList]; omega
    refine ⟨by rw [flatT, List.length_map, Nat.mul_one], .inr ⟨g, c, _, by rw [List.length_take, Nat.min_eq_left (by omega)], hb, setRow_heap w g cur _ 9 _ hg, by rw [List.length_take]; omega, hm, ?_, ?_⟩⟩
    · simp only [List.size_toArray, List.length_append, List.length_take, List.length_replicate, List.length_drop, Array.length_toList]; omega
    · rw [List.length_take, Nat.min_eq_left (by omega), Nat.mul_one, List.append_assoc, List.take_append_of_le_length (by rw [List.length_take]; omega), List.take_take, Nat.min_self]
      rw [Nat.mul_one] at ht
      have e3 : cur.toList.take k = (cur.toList.take l.length).take k := by rw [List.take_take, Nat.min_eq_left (by omega)]
      rw [e3, ht, flatT, flatT, List.map_take]
  · exact (Below.refl _ _).grown (setRow_grown w g _) hB fun j hj => by
      injection hj with hj
      subst hj
      exact hb
  · obtain ⟨m, hm'⟩ : ∃ m, l.length - k = m + 1 := ⟨l.length - k - 1, by omega⟩
    rw [hm'] at hzc hst ⊢
    simp [Builtin.clear_, run_underlying Try.underlying65, hz, hzc, hst]
theorem cpt_short {l : List (List UInt8)} (h : l.length < 2) : cpt l = l := by
  match l, h with
  | [], _ => rfl
  | [x], _ => rfl
theorem cpt_grow {ks : List (List UInt8)} {k : Nat} (h0 : 0 < k) (hk : k < ks.length) (h : cpt (ks.take k) = ks.take k) (hne : ¬ ks[k] = ks[k - 1]'(by omega)) : cpt (ks.take (k + 1)) = ks.take (k + 1) := by
  rw [cpt_take ks k h0 hk, if_neg (fun e => hne e.symm), h, ← List.take_succ_eq_append_getElem hk]
def CptI (ks L : List (List UInt8)) (k i : Nat) : Prop := L.length = ks.length ∧ k + 1 ≤ i ∧ L.take k = cpt (ks.take i) ∧ L.drop (i - 1) = ks.drop (i - 1)
theorem CptI.start {ks : List (List UInt8)} {k : Nat} (h0 : 0 < k) (hk : k < ks.length) (h : cpt (ks.take k) = ks.take k) (he : ks[k] = ks[k - 1]'(by omega)) : CptI ks ks k (k + 1) :=
  ⟨rfl, Nat.le_refl _, by rw [cpt_take ks k h0 hk, if_pos he.symm, h], rfl⟩
theorem CptI.at {ks L : List (List UInt8)} {k i j : Nat} (h : CptI ks L k i) (hj : i ≤ j + 1) (hl : j < ks.length) : L[j]'(by rw [h.1]; exact hl) = ks[j] := by
  have e : L[j]? = ks[j]? := by
    have e1 : L[j]? = (L.drop (i - 1))[j - (i - 1)]? := by rw [List.getElem?_drop]; congr 1; omega
    have e2 : ks[j]? = (ks.drop (i - 1))[j - (i - 1)]? := by rw [List.getElem?_drop]; congr 1; omega
    rw [e1, e2, h.2.2.2]
  rw [List.getElem?_eq_getElem (by rw [h.1]; exact hl), List.getElem?_eq_getElem hl] at e
  exact Option.some.inj e
theorem CptI.same {ks L : List (List UInt8)} {k i : Nat} (h : CptI ks L k i) (hi : i < ks.length) (he : ks[i] = ks[i - 1]'(by omega)) : CptI ks L k (i + 1) := by
  obtain ⟨h1, h2, h3, h4⟩ := h
  refine ⟨h1, by omega, by rw [cpt_take ks i (by omega) hi, if_pos he.symm, h3], ?_⟩
  have := congrArg (List.drop 1) h4
  rw [List.drop_drop, List.drop_drop] at this
  rwa [show i - 1 + 1 = i by omega] at this
theorem CptI.more {ks L : List (List UInt8)} {k i : Nat} (h : CptI ks L k i) (hi : i < ks.length) (he : ¬ ks[i] = ks[i - 1]'(by omega)) : CptI ks (L.set k ks[i]) (k + 1) (i + 1) := by
  obtain ⟨h1, h2, h3, h4⟩ := h
  refine ⟨by rw [List.length_set, h1], by omega, ?_, ?_⟩
  · rw [cpt_take ks i (by omega) hi, if_neg (fun e => he e.symm), ← h3]
    rw [List.take_succ_eq_append_getElem (by rw [List.length_set, h1]; omega), List.getElem_set_self, List.take_set_of_le (Nat.le_refl _)]
  · have := congrArg (List.drop 1) h4
    rw [List.drop_drop, List.drop_drop] at this
    rw [show i - 1 + 1 = i by omega] at this
    rw [List.drop_set_of_lt (by omega), Nat.add_sub_cancel]
    exact this

set_option maxHeartbeats 4000000 in
set_option maxRecDepth 100000 in
theorem compact_tb (g n c base : Nat) (ks : List (List UInt8)) (w : World) (h : OwTx w base (.slice (some ⟨g, 0, none⟩) n c) ks) (hb : base ≤ w.heap.size) (hn : n ≤ 1000000) :
    Calls Try.prog 74 #[.slice (some ⟨g, 0, none⟩) n c] w fun e w' => ∃ m, e = .returned (.slice (some ⟨g, 0, none⟩) m c) ∧ OwTx w' base (.slice (some ⟨g, 0, none⟩) m c) (cpt ks) ∧ Below base w w' := by
  obtain ⟨l1, l2, l3, l4⟩ := h.lt
  have HL := hide l1
  have HO := hide h
  have HBB := hide hb
  have HG := hide l2
  clear h l1 l2 l3 hb
  by_cases h2 : n < 2
  · have h2' : (n : Int) < 2 := by omega
    have HC := hide (cpt_short (l := ks) (by have := HL.out; omega))
    go_enter Try.func74, Try.ntmps74
    go_wp2
    go_ret
    rw [HC.out]
    exact ⟨_, rfl, HO.out, Below.refl _ _⟩
  have h2' : decide ((n : Int) < 2) = false := by simpa using (by omega : ¬ (n : Int) < 2)
  go_enter Try.func74, Try.ntmps74
  go_wp2
  clear h2'
  go_loopw [3] (fun i wr => ∃ k : Nat, 1 ≤ k ∧ k ≤ n ∧ i = .int .i64 k ∧ Hid (cpt (ks.take k) = ks.take k) ∧ Hid (Below w.heap.size w wr)) (fun i _ => n - (intOf i).toNat)
  case atStart => exact ⟨1, Nat.le_refl _, by omega, rfl, hide (cpt_short (by rw [List.length_take]; omega)), hide (Below.refl _ _)⟩
  case round =>
    obtain ⟨k, hk1, hk, rfl, hC, hB⟩ := hrel
    by_cases hlt : k < n
    · have hlt' : (k : Int) < n := by omega
      have hkl : k < ks.length := by have := HL.out; omega
      obtain ⟨j, hj⟩ : ∃ j, k = j + 1 := ⟨k - 1, by omega⟩
      have hjl : j < ks.length := by omega
      obtain ⟨b', o', e', q1⟩ := RdTx.at HO.out.rd hB.out k hkl
      cases e'
      obtain ⟨b', o', e', q0⟩ := RdTx.at HO.out.rd hB.out j hjl
      cases e'
      rw [Nat.zero_add] at q0 q1
      have HGR := hide (show ¬ ks[k] = ks[k - 1]'(by omega) → cpt (ks.take (k + 1)) = ks.take (k + 1) from cpt_grow (by omega) hkl hC.out)
      have HST := hide (show ks[k] = ks[k - 1]'(by omega) → CptI ks ks k (k + 1) from CptI.start (by omega) hkl hC.out)
      have eP : ks[k - 1]'(by omega) = ks[j] := by congr 1; omega
      rw [eP] at HGR HST
      clear eP
      have he := eqK_bs ks[k] ks[j]
      generalize ks[k] = x at *
      generalize ks[j] = y at *
      have wj : IntKind.i64.wrap ((k : Int) - 1) = (j : Int) := by rw [IntKind.wrap_i64]; omega
      have wj2 : wrap64 ((k : Int) - 1) = (j : Int) := by unfold wrap64; omega
      have hj0 : (j : Int) < n := by omega
      have HJ := hide hj
      clear hj hjl
      by_cases hxy : x = y
      · rw [decide_eq_true hxy] at he
        have HI0 := hide (HST.out hxy)
        have hsl := slTl g n c k (by omega) (by omega)
        clear hxy HGR HST
        go_wp2_with fail
        go_quiet (fail)
        go_wp2_with (first | (refine wpList_slY rfl (.tmp 26) (.tmp 27) 65 (by kernel_rfl) rfl rfl rfl hsl ?_) | fail)
        clear hsl he wj wj2 hj0 q0 q1 hC
        obtain ⟨w0, hw0⟩ : ∃ w0, w0 = wr := ⟨_, rfl⟩
        subst hw0
        go_loopw [3, 5] (fun s i wr => ∃ (m k2 : Nat) (L : List (List UInt8)), 1 ≤ k2 ∧ k + k2 ≤ n ∧ m + 1 ≤ k + k2 ∧ s = .int .i64 m ∧ i = .int .i64 k2 ∧ Hid (CptI ks L m (k + k2)) ∧ Hid (OwTx wr base (.slice (some ⟨g, 0, none⟩) n c) L) ∧ Hid (Below base w wr)) (fun _ i _ => n - k - (intOf i).toNat)
        case atStart => exact ⟨k, 1, ks, Nat.le_refl _, by omega, Nat.le_refl _, rfl, rfl, HI0, hide (HO.out.carry (hB.out.trans (below_drewN (Below.refl _ _) _))), hide ((hB.out.mono HBB.out).trans (below_drewN (Below.refl _ _) _))⟩
        case round =>
          obtain ⟨m, k2, L, hk21, hkk, hmk, rfl, rfl, hI, hO, hB2⟩ := hrel
          clear HI0
          by_cases hlt2 : k + k2 < n
          · have hlt2' : (k2 : Int) < ((n - k : Nat) : Int) := by omega
            obtain ⟨j2, hj2⟩ : ∃ j2, k2 = j2 + 1 := ⟨k2 - 1, by omega⟩
            have hLl := hI.out.1
            have hil : k + k2 < L.length := by have := HL.out; omega
            have hjl : k + j2 < L.length := by omega
            obtain ⟨b', o', e', q1⟩ := RdTx.at hO.out.rd (Below.refl _ _) (k + k2) hil
            cases e'
            obtain ⟨b', o', e', q0⟩ := RdTx.at hO.out.rd (Below.refl _ _) (k + j2) hjl
            cases e'
            obtain ⟨b', o', e', qm⟩ := RdTx.at hO.out.rd (Below.refl _ _) m (by have := HL.out; omega)
            cases e'
            rw [Nat.zero_add] at q0 q1 qm
            rw [hI.out.at (by omega) (by have := HL.out; omega)] at q1 q0
            have hfz : wr.frozen? ⟨g, m, none⟩ = false := World.ownsRow.frozenAt (show wr.ownsRow _ _ _ _ _ _ by have := hO.out; unfold OwTx OwG at this; rw [hLl, ← HL.out] at this; exact this) _
            have hik : k + k2 < ks.length := by have := HL.out; omega
            have HSA := hide (show ks[k + k2] = ks[k + k2 - 1]'(by omega) → CptI ks L m (k + k2 + 1) from hI.out.same hik)
            have HMO := hide (show ¬ ks[k + k2] = ks[k + k2 - 1]'(by omega) → CptI ks (L.set m ks[k + k2]) (m + 1) (k + k2 + 1) from hI.out.more hik)
            have eP : ks[k + k2 - 1]'(by have := HL.out; omega) = ks[k + j2]'(by have := HL.out; omega) := by congr 1; omega
            rw [eP] at HSA HMO
            clear eP
            generalize L[m]'(by have := HL.out; omega) = lm at *
            obtain ⟨x2, hx2⟩ : ∃ x2, x2 = ks[k + k2]'(by have := HL.out; omega) := ⟨_, rfl⟩
            obtain ⟨y2, hy2⟩ : ∃ y2, y2 = ks[k + j2]'(by have := HL.out; omega) := ⟨_, rfl⟩
            rw [← hx2] at q1 HSA HMO
            rw [← hy2] at q0 HSA HMO
            clear hx2 hy2 hil hjl hLl
            have he2 := eqK_bs x2 y2
            have wj : IntKind.i64.wrap ((k2 : Int) - 1) = (j2 : Int) := by rw [IntKind.wrap_i64]; omega
            have wj2 : wrap64 ((k2 : Int) - 1) = (j2 : Int) := by unfold wrap64; omega
            have hj0 : (j2 : Int) < ((n - k : Nat) : Int) := by omega
            clear hj2
            by_cases hxy : x2 = y2
            · rw [decide_eq_true hxy] at he2
              have HI2 := hide (HSA.out hxy)
              clear hxy HSA HMO
              go_wp2_with fail
              go_quiet (fail)
              go_wp2
              go_roundw
              case rel => exact ⟨m, k2 + 1, L, by omega, by omega, by omega, rfl, by go_num, HI2, hide (hO.out.carry (below_drewN (Below.refl _ _) _)), hide (hB2.out.trans (below_drewN (Below.refl _ _) _))⟩
              case measure => simp only [intOf]; omega
            · rw [decide_eq_false hxy] at he2
              have HI2 := hide (HMO.out hxy)
              have hmn : (m : Int) < n := by omega
              clear hxy HSA HMO
              have HS6 := hide (fun q => (hO.out.carry (below_drewN (Below.refl _ _) q)).setT m x2 (Nat.le_trans HBB.out (below_drewN hB2.out q).size))
              go_wp2_with fail
              go_quiet (fail)
              go_wp2
              go_roundw
              case rel => exact ⟨m + 1, k2 + 1, _, by omega, by omega, by omega, by go_num, by go_num, HI2, hide (HS6.out _).1, hide ((below_drewN hB2.out _).trans (HS6.out _).2)⟩
              case measure => simp only [intOf]; omega
          · have hd : decide ((k2 : Int) < ((n - k : Nat) : Int)) = false := by simpa using (by omega : ¬ (k2 : Int) < ((n - k : Nat) : Int))
            have hmn : m < n := by omega
            obtain ⟨h1, h2, h3, h4⟩ := hI.out
            obtain ⟨w9, hrun, o9, b9⟩ := clear_tx hO.out hmn (Nat.le_trans HBB.out hB2.out.size) 0
            have HCP := hide (show L.take m = cpt ks by rw [h3, List.take_of_length_le (by have := HL.out; omega)])
            rw [HCP.out] at o9
            have HO9 := hide o9
            have HB9 := hide (hB2.out.trans b9)
            have hsl := slTl g n c m (by omega) (by omega)
            have hsh := slTh g n c m (by omega)
            clear h1 h2 h3 h4 o9 b9
            go_wp2_with (first | (refine wpList_slY rfl (.tmp 54) (.tmp 55) 65 (by kernel_rfl) rfl rfl rfl hsl ?_) | (refine wpList_slH rfl (.tmp 57) (.tmp 58) 65 (by kernel_rfl) rfl rfl rfl hsh ?_) | (refine wpList_runclrF rfl (.tmp 56) 65 rfl rfl hrun ?_) | fail)
            go_ret
            exact ⟨_, rfl, HO9.out, HB9.out⟩
      · rw [decide_eq_false hxy] at he
        have HC2 := hide (HGR.out hxy)
        clear hxy HGR HST
        go_wp2_with fail
        go_quiet (fail)
        go_wp2
        go_roundw
        case rel => exact ⟨k + 1, by omega, by omega, by go_num, HC2, hide (hB.out.trans (below_drewN (Below.refl _ _) _))⟩
        case measure => simp only [intOf]; omega
    · have hd : decide ((k : Int) < n) = false := by simpa using (by omega : ¬ (k : Int) < n)
      have HCP := hide (show cpt ks = ks by
        have := hC.out
        rwa [List.take_of_length_le (by have := HL.out; omega)] at this)
      go_wp2
      go_ret
      rw [HCP.out]
      exact ⟨_, rfl, HO.out.carry hB.out, hB.out.mono HBB.out⟩

end Go.Proofs.Ytjkoemdojdcmpaa

/-
  What the statement PickMeets answers.
-/
import Derived.Test.YthhlckdglifmeaaLk4
import Derived.Test.YthhlckdglifmeaaLv4
import Derived.Test.YthhlckdglifmeaaVn15
import Derived.Test.YthhlckdglifmeaaVn16
import Derived.Test.YthhlckdglifmeaaRegT
import Derived.Test.YthhlckdglifmeaaRk1
namespace Go.Proofs.Ythhlckdglifmeaa
open Go.RowKit
set_option linter.unusedVariables false
set_option linter.unusedSimpArgs false
set_option synthInstance.maxHeartbeats 400000
set_option synthInstance.maxSize 4000

theorem getD_flatM : ∀ (L : List (List Mta)) (k : Nat), (L.getD k []).length ≤ L.flatten.length
  | [], k => by simp
  | x :: L, 0 => by simp
  | x :: L, k + 1 => by
    have := getD_flatM L k
    simp at this ⊢
    omega
theorem upp_lenM (L : List (List Mta)) (n : Nat) : (uppP L n).length ≤ L.flatten.length := by
  unfold uppP
  split
  · exact getD_flatM L 0
  · exact Nat.le_trans (by rw [List.length_take]; omega) (getD_flatM L n)
theorem fmn_m {a : List UInt8} {l : List Mta} {j : Nat} (h : j < l.length) : fmn a (l.take (j + 1)) = minL (fmn a (l.take j)) (Mlo l[j]) := by
  rw [List.take_succ_eq_append_getElem h, fmn_app, minL_is]; rfl
theorem fmx_m {a : List UInt8} {l : List Mta} {j : Nat} (h : j < l.length) : fmx a (l.take (j + 1)) = maxL (fmx a (l.take j)) (Mhi l[j]) := by
  rw [List.take_succ_eq_append_getElem h, fmx_app]; rfl
theorem fmn_ma {a : List UInt8} {k l : List Mta} {j : Nat} (h : j < l.length) : fmn a (k ++ l.take (j + 1)) = minL (fmn a (k ++ l.take j)) (Mlo l[j]) := by
  rw [List.take_succ_eq_append_getElem h, ← List.append_assoc, fmn_app, minL_is]; rfl
theorem fmx_ma {a : List UInt8} {k l : List Mta} {j : Nat} (h : j < l.length) : fmx a (k ++ l.take (j + 1)) = maxL (fmx a (k ++ l.take j)) (Mhi l[j]) := by
  rw [List.take_succ_eq_append_getElem h, ← List.append_assoc, fmx_app]; rfl
def LkT (w : World) (a : Option Addr) (c : Nat) (L : List (List Mta)) : Prop := ∃ base S, OwVw w base (.slice a 4 c) S ∧ lvs S = L
theorem LkT.carry {w w' : World} {a : Option Addr} {c : Nat} {L : List (List Mta)} (h : LkT w a c L) (hb : Below w.heap.size w w') : LkT w' a c L := by
  obtain ⟨base, S, h1, h2⟩ := h
  exact ⟨base, S, h1.carry hb, h2⟩
theorem LkT.keepV {w w' : World} {a : Option Addr} {c : Nat} {L : List (List Mta)} (h : LkT w a c L) (hk : KeepG 24 w w') : LkT w' a c L := by
  obtain ⟨base, S, h1, h2⟩ := h
  exact ⟨base, S, h1.keepV hk, h2⟩
def VzK (w : World) (A : Nat) : Prop := VvAt w A (.slice none 0 0) 0 0 []
theorem VzK.carry {w w' : World} {A : Nat} (h : VzK w A) (hb : Below w.heap.size w w') : VzK w' A := VvAt.carry h hb
theorem VzK.new (w : World) : VzK (w.alloc (.cells #[.slice none 0 0, .int .i64 0, .int .i64 0, .string { data := #[] }] 24)) w.heap.size := VvAt.new w (.slice none 0 0) 0 0 []
theorem VzK.at {w : World} {A : Nat} (h : VzK w A) : VvAt w A (.slice none 0 0) 0 0 [] := h
theorem one_rd (nm lo hi : List UInt8) (w : World) : RdM (w.alloc (.cells #[.string (bs nm), .int .i64 1, .int .i64 1, .string (bs lo), .string (bs hi)] 28)) (.slice (some ⟨w.heap.size, 0, none⟩) 1 1) [(nm, 1, 1, lo, hi)] := by
  have ho := World.ownsRow_lit (base := w.heap.size) (e := 28) (size := 5) w #[.string (bs nm), .int .i64 1, .int .i64 1, .string (bs lo), .string (bs hi)] 1 (Nat.le_refl _) (by decide) rfl
  have hO : OwM (w.alloc (.cells #[.string (bs nm), .int .i64 1, .int .i64 1, .string (bs lo), .string (bs hi)] 28)) w.heap.size (.slice (some ⟨w.heap.size, 0, none⟩) 1 1) [(nm, 1, 1, lo, hi)] := ho
  exact OwG.rd ecM_len hO
theorem pckE_0 {V : Vrs} (h : pckE V = 0) : chkV V = 0 ∧ ∃ k, fulP V.1 = some k := by
  unfold pckE at h
  by_cases h0 : chkV V = 0
  · rw [if_neg (by simpa using h0)] at h
    cases hf : fulP V.1 with
    | none => rw [hf] at h; simp at h
    | some k => exact ⟨h0, k, rfl⟩
  · rw [if_pos h0] at h; exact absurd h h0
theorem pckE_n {V : Vrs} (h : pckE V ≠ 0) : (chkV V != 0) = true ∨ nedB V = false := by
  unfold pckE at h
  by_cases h0 : chkV V = 0
  · rw [if_neg (by simpa using h0)] at h
    right
    cases hf : fulP V.1 with
    | none => unfold nedB; rw [hf]; simp
    | some k => rw [hf] at h; simp at h
  · exact .inl (by simpa using h0)

set_option maxHeartbeats 16000000 in
set_option maxRecDepth 100000 in
theorem pickMeets_any (a : Option Addr) (n c : Nat) (R : Lvs) (nx sq : Int) (lg : List UInt8) (w : World) (hrd : RdVw w (.slice a n c) R) :
    Calls Try.prog 5 #[.agg #[.slice a n c, .int .i64 nx, .int .i64 sq, .string (bs lg)]] w fun e w' => e = .returned (.bool true) ∧ Below w.heap.size w w' := by
  have HR := hide hrd
  have HN0 := hide hrd.len
  clear hrd
  obtain ⟨w1, hw1⟩ : ∃ w1, w1 = w.alloc (.cells #[.slice a n c, .int .i64 nx, .int .i64 sq, .string (bs lg)] 24) := ⟨_, rfl⟩
  have hb1 : Below w.heap.size w w1 := by rw [hw1]; exact (Below.refl _ _).alloc (Nat.le_refl _) _
  have HV1 := hide (show VvAt w1 w.heap.size (.slice a n c) nx sq lg by rw [hw1]; exact VvAt.new w _ nx sq lg)
  have HB1 := hide hb1
  have hc := alive_lk w1
  clear hb1
  go_enter Try.func5, Try.ntmps5
  go_wp2_with fail
  rw [← hw1]
  clear hw1
  refine hc.mono ?_
  rintro e w2 ⟨rfl, b2⟩
  have HV2 := hide (HV1.out.carry b2)
  have HB2 := hide (HB1.out.trans (b2.mono HB1.out.size))
  clear hc b2 HV1 HB1
  have hc := rgreat_vn a n c R nx sq lg w2 (HR.out.carry HB2.out)
  obtain ⟨v0, v1, v2, v3⟩ := HV2.out.cells
  go_wp2_with fail
  refine hc.mono ?_
  rintro e w3 ⟨bb, rfl, hbb, b3⟩
  have HV3 := hide (HV2.out.carry b3)
  have HB3 := hide (HB2.out.trans (b3.mono HB2.out.size))
  clear hc b3 HV2 HB2 v0 v1 v2 v3
  cases bb with
  | true =>
    go_wp2
    go_ret
    exact ⟨rfl, HB3.out⟩
  | false =>
  obtain ⟨hn20, hF⟩ := hbb.out rfl
  have HF := hide hF
  have hF2 : (lvs R).flatten.length ≤ 100000 := by omega
  clear hbb hF
  obtain ⟨V, hV⟩ : ∃ V : Vrs, V = (lvs R, nx, sq, lg) := ⟨_, rfl⟩
  have HVV := hide hV
  have C1 := hide (fun w h => hV ▸ pick_pk a n c R nx sq lg w h (by omega) hF2)
  have C2 := hide (fun w h => hV ▸ need_pk a n c R nx sq lg w h (by omega) hF2)
  have C3 := hide (fun k w h => hV ▸ score_pk a n c R nx sq lg k w h (by omega) hF2)
  have C4 := hide (fun k lo hi w h => hV ▸ overlap_vn a n c R nx sq lg k lo hi w h (by omega) hF2)
  clear hV hF2
  have hc := C1.out w3 (HR.out.carry HB3.out)
  obtain ⟨v0, v1, v2, v3⟩ := HV3.out.cells
  go_wp2_with fail
  refine hc.mono ?_
  rintro e w4 ⟨⟨au, nu, cu, ao, no, co, rfl, oU, oO⟩, b4⟩
  obtain ⟨w5, hw5⟩ : ∃ w5, w5 = w4.alloc (.cells #[.int .i64 (pckW V).1, .slice au nu cu, .slice ao no co] 31) := ⟨_, rfl⟩
  have hb5 : Below w4.heap.size w4 w5 := by rw [hw5]; exact (Below.refl _ _).alloc (Nat.le_refl _) _
  obtain ⟨D, hD⟩ : ∃ A, A = w4.heap.size := ⟨_, rfl⟩
  have HW5 := hide (show WkAt w5 D (pckW V).1 (.slice au nu cu) (.slice ao no co) by rw [hw5, hD]; exact WkAt.new w4 _ _ _)
  have HU5 := hide (OwG.rd ecM_len (OwG.carry oU hb5))
  have HO5 := hide (OwG.rd ecM_len (OwG.carry oO hb5))
  have b35 : Below w3.heap.size w3 w5 := b4.trans (hb5.mono b4.size)
  have HV5 := hide (HV3.out.carry b35)
  have HB5 := hide (HB3.out.trans (b35.mono HB3.out.size))
  clear hc b4 oU oO hb5 b35 HV3 HB3 v0 v1 v2 v3
  have hc := C2.out w5 (HR.out.carry HB5.out)
  obtain ⟨v0, v1, v2, v3⟩ := HV5.out.cells
  rw [hw5] at v0 v1 v2 v3
  go_wp2_with fail
  rw [← hw5]
  try rw [← hD]
  clear hw5 hD v0 v1 v2 v3
  refine hc.mono ?_
  rintro e w6 ⟨rfl, b6⟩
  have HW6 := hide (HW5.out.carry b6)
  have HU6 := hide (HU5.out.carry b6)
  have HO6 := hide (HO5.out.carry b6)
  have HV6 := hide (HV5.out.carry b6)
  have HB6 := hide (HB5.out.trans (b6.mono HB5.out.size))
  clear hc b6 HW5 HU5 HO5 HV5 HB5
  by_cases hp : pckE V = 0
  rotate_left
  · have hpn := pckE_n hp
    have hp' : (pckE V != 0) = true := by simpa using hp
    obtain ⟨PE, hPE⟩ : ∃ x, x = pckE V := ⟨_, rfl⟩
    obtain ⟨NB, hNB⟩ : ∃ x, x = nedB V := ⟨_, rfl⟩
    obtain ⟨CK, hCK⟩ : ∃ x, x = chkV V := ⟨_, rfl⟩
    obtain ⟨PW, hPW⟩ : ∃ x, x = (pckW V).1 := ⟨_, rfl⟩
    rw [← hPE] at hp'
    rw [← hNB, ← hCK] at hpn
    rw [← hPE, ← hNB, ← hCK, ← hPW]
    clear hp hPE hNB hCK hPW
    by_cases hck : (CK != 0) = true
    · clear hpn
      go_wp2
      go_ret
      exact ⟨rfl, HB6.out⟩
    · have hck' : (CK != 0) = false := by simpa using hck
      obtain rfl : NB = false := by rcases hpn with h | h; exact absurd h hck; exact h
      clear hpn hck
      go_wp2
      go_ret
      exact ⟨rfl, HB6.out⟩
  obtain ⟨hck, k, hf⟩ := pckE_0 hp
  obtain ⟨hk2, ho1⟩ := fulP_some hf
  have hPW := (pckW_ok hck hf).1
  have hNB : nedB V = true := by unfold nedB; rw [decide_eq_true hck, hf]; rfl
  have hn4 : n = 4 := by
    have h := four_pk hck
    rw [HVV.out, lvs_len] at h
    rw [HN0.out, h]
  subst hn4
  rw [hPW] at HW6 HU6 HO6
  simp only at HW6 HU6 HO6
  have HCK := hide hck
  have HFU := hide hf
  rw [hp, hNB, hck, hPW]
  have HLT := hide ho1
  clear hp hck hf hPW hNB ho1
  have hsE : scrE V k = 0 := by unfold scrE; rw [if_neg (by simpa using HCK.out), if_neg (by omega)]
  have hsN : scrN V k = (ovrP V.1 k : Nat) := by unfold scrN; rw [hsE]; simp
  have hc := C3.out k w6 (HR.out.carry HB6.out)
  rw [hsE, hsN] at hc
  obtain ⟨OV, hOV⟩ : ∃ x, x = ovrP V.1 k := ⟨_, rfl⟩
  rw [← hOV] at hc HLT
  have HOV := hide hOV
  clear hsE hsN hOV hn20
  obtain ⟨v0, v1, v2, v3⟩ := HV6.out.cells
  obtain ⟨k0, k1, k2⟩ := HW6.out.cells
  go_wp2_with fail
  refine hc.mono ?_
  rintro e w7 ⟨rfl, b7⟩
  have HW7 := hide (HW6.out.carry b7)
  have HU7 := hide (HU6.out.carry b7)
  have HO7 := hide (HO6.out.carry b7)
  have HV7 := hide (HV6.out.carry b7)
  have HB7 := hide (HB6.out.trans (b7.mono HB6.out.size))
  clear hc b7 HW6 HU6 HO6 HV6 HB6 v0 v1 v2 v3 k0 k1 k2
  obtain ⟨x0, r, hU⟩ := upp_cons (L := V.1) (n := k) (by rw [← HOV.out]; exact HLT.out)
  have HUE := hide hU
  have HNU := hide HU7.out.len
  have HNO := hide HO7.out.len
  have hnu1 : 1 ≤ nu := by rw [HNU.out, hU]; simp
  have hlt1 := HLT.out
  have e1 : decide ((OV : Int) < 1) = false := decide_eq_false (by omega)
  have e1' : decide (OV < 1) = false := decide_eq_false (by omega)
  have e2 : decide ((k : Int) < 0) = false := decide_eq_false (by omega)
  have e3 : decide ((2 : Int) < (k : Int)) = false := decide_eq_false (by omega)
  have e3' : decide (2 < k) = false := decide_eq_false (by omega)
  have e4 : decide ((nu : Int) < 1) = false := decide_eq_false (by omega)
  have e4' : decide (nu < 1) = false := decide_eq_false (by omega)
  obtain ⟨k0, k1, k2⟩ := HW7.out.cells
  have hkR : k < R.length := by have := HN0.out; omega
  have hkR1 : k + 1 < R.length := by have := HN0.out; omega
  obtain ⟨b, off, ax, m, cx, rfl, q0, hRX, hm⟩ := RdVw.cells HR.out (Below.refl _ _) k hkR
  obtain ⟨b', off', ay, m', cy, eb, q1, hRY, hm'⟩ := RdVw.cells HR.out (Below.refl _ _) (k + 1) hkR1
  cases eb
  have hVL : V.1 = lvs R := by rw [HVV.out]
  have eX : V.1.getD k [] = (R[k]).2 := by
    rw [hVL, List.getD_eq_getElem?_getD, List.getElem?_eq_getElem (by rw [lvs_len]; exact hkR)]
    simp
  have eY : V.1.getD (k + 1) [] = (R[k + 1]).2 := by
    rw [hVL, List.getD_eq_getElem?_getD, List.getElem?_eq_getElem (by rw [lvs_len]; exact hkR1)]
    simp
  have hmX : m ≤ 1000000 := by rw [hm]; exact Nat.le_trans (cntW_one hkR) (by have := HF.out; omega)
  have hmY : m' ≤ 1000000 := by rw [hm']; exact Nat.le_trans (cntW_one hkR1) (by have := HF.out; omega)
  have HUL := hide (show (uppP V.1 k).length ≤ 2000 from Nat.le_trans (upp_lenM V.1 k) (by rw [hVL]; exact HF.out))
  have HOL := hide (show (lwrP V.1 k).length ≤ 2000 from Nat.le_trans (met_len _ _ _) (by rw [eY, ← hm', hm']; exact Nat.le_trans (cntW_one hkR1) HF.out))
  rw [← eX] at hRX
  rw [← eY] at hRY
  have HXR := hide hRX
  have HYR := hide hRY
  have Q0 := hide q0
  have Q1 := hide q1
  have HHX := hide (fun (y : Mta) (hy : y ∈ uppP V.1 k) wx (hb : Below w.heap.size w wx) => (has_lk ax m cx _ y wx (HXR.out.carry hb) hmX).mono (R' := fun e wy => e = .returned (.bool true) ∧ Below wx.heap.size wx wy) fun e wy ⟨h1, h2⟩ => ⟨by rw [h1, decide_eq_true (upp_sub y hy)], h2⟩)
  have HHY := hide (fun (y : Mta) (hy : y ∈ lwrP V.1 k) wx (hb : Below w.heap.size w wx) => (has_lk ay m' cy _ y wx (HYR.out.carry hb) hmY).mono (R' := fun e wy => e = .returned (.bool true) ∧ Below wx.heap.size wx wy) fun e wy ⟨h1, h2⟩ => ⟨by rw [h1, decide_eq_true (mem_metM.1 hy).1], h2⟩)
  have HML := hide (fun (y : Mta) => show (metM (V.1.getD (k + 1) []) (Mlo y) (Mhi y)).length ≤ 2000 from Nat.le_trans (met_len _ _ _) (by rw [eY, ← hm', hm']; exact Nat.le_trans (cntW_one hkR1) HF.out))
  have HOV2 := hide (fun (y : Mta) (hy : y ∈ uppP V.1 k) => met_ok HCK.out hk2 hy)
  have HSUB := hide (fun (y z : Mta) (hy : y ∈ uppP V.1 k) (hz : z ∈ metM (V.1.getD (k + 1) []) (Mlo y) (Mhi y)) => met_sub hy hz)
  clear hm hm' hRX hRY eX eY q0 q1 hVL hkR hkR1 hmX hmY
  obtain ⟨U, hUd⟩ : ∃ U, U = uppP V.1 k := ⟨_, rfl⟩
  obtain ⟨O, hOd⟩ : ∃ O, O = lwrP V.1 k := ⟨_, rfl⟩
  rw [← hUd] at HU7 HUE HNU HUL HHX HOV2 HSUB hU
  rw [← hOd] at HO7 HNO HOL HHY HSUB
  have HUd := hide hUd
  have HOd := hide hOd
  clear hUd hOd
  obtain ⟨bu, ou, rfl, y0, y1, y2, y3, y4⟩ := RdM.cells HU7.out (Below.refl _ _) 0 (by rw [hU]; simp)
  have ex0 : U[0]'(by rw [hU]; simp) = x0 := by simp [hU]
  rw [ex0] at y0 y3 y4
  have Y0 := hide (show w7.cell? ⟨bu, ou, none⟩ = some (.string (bs x0.1)) by simpa using y0)
  have Y3 := hide (show w7.cell? ⟨bu, ou + 3, none⟩ = some (.string (bs (Mlo x0))) by simpa using y3)
  have Y4 := hide (show w7.cell? ⟨bu, ou + 4, none⟩ = some (.string (bs (Mhi x0))) by simpa using y4)
  have hnu2 : nu ≤ 2000 := by rw [HNU.out]; exact HUL.out
  have hno2 : no ≤ 2000 := by rw [HNO.out]; exact HOL.out
  have hnu1' : (0 : Int) < nu := by omega
  have hnu1n : 0 < nu := by omega
  clear y0 y1 y2 y3 y4 ex0 hU
  go_wp2_with fail
  clear e1 e1' e2 e3 e3' e4 e4' k0 k1 k2
  have hK : Keeps (fun wx => Below w7.heap.size w7 wx) := fun u1 u2 h hb => h.trans (hb.mono h.size)
  have hS0 : Below w7.heap.size w7 w7 := Below.refl _ _
  refine reg_begin hK (by kernel_rfl) hS0 ?_
  intro hS
  clear hS0
  generalize w7.drew = w8 at *
  refine reg_plan [0, 1, 2, 3, 4, 5, 6, 7, 8, 9, 10, 11] (fuel := 0) (a' := ?qaa1) (by kernel_rfl) (by kernel_rfl) (by kernel_rfl) ?qap1 hS ?qan1
  case qap1 =>
    iterate 12 (apply Yl.cons rfl (by kernel_rfl); focus (rintro wx hx; obtain ⟨k0, k1, k2⟩ := (HW7.out.carry hx).cells; have y0 := keeps_cell _ _ _ _ Y0.out hx; have y3 := keeps_cell _ _ _ _ Y3.out hx; have y4 := keeps_cell _ _ _ _ Y4.out hx; go_simp; all_goals (with_reducible rfl)); try simp only [Act.put, List.setIfInBounds_toArray, List.set_cons_zero, List.set_cons_succ])
    exact Yl.nil
  refine wpAnyH_done (by kernel_rfl) ?_ _
  refine NoPanic.normal ?_
  try simp only [Act.put, List.setIfInBounds_toArray, List.set_cons_zero, List.set_cons_succ]
  have HD8 := hide hS
  clear hS hK
  go_wp2_with fail
  clear hlt1 hnu1' hnu1n
  go_loopw [10, 11, 12, 13, 14, 15] (fun lo hi i s1 s2 s3 wr => ∃ q : Nat, q ≤ nu ∧ lo = .string (bs (fmn (Mlo x0) (U.take q))) ∧ hi = .string (bs (fmx (Mhi x0) (U.take q))) ∧ i = .int .i64 q ∧ Hid (Below w7.heap.size w7 wr)) (fun _ _ i _ _ _ _ => nu - (intOf i).toNat)
  case atStart => exact ⟨0, Nat.zero_le _, rfl, rfl, rfl, HD8⟩
  case round =>
    obtain ⟨q, hq, rfl, rfl, rfl, HDr⟩ := hrel
    have hk4 : (k : Int) < 4 := by omega
    have hk5 : (k : Int) + 1 < 4 := by omega
    have hk6 : (0 : Int) ≤ (k : Int) + 1 := by omega
    have hwk : IntKind.i64.wrap ((k : Int) + 1) = (k : Int) + 1 := by rw [IntKind.wrap_i64]; omega
    have HWr := hide (HW7.out.carry HDr.out)
    obtain ⟨k0, k1, k2⟩ := HWr.out.cells
    by_cases hlt : q < nu
    · have hlt' : (q : Int) < nu := by omega
      have hqU : q < U.length := by have := HNU.out; omega
      have HVr := hide (HV7.out.carry HDr.out)
      have HBr := hide (HB7.out.trans (HDr.out.mono HB7.out.size))
      have QR := hide (keeps_cell _ _ _ _ Q0.out HBr.out)
      obtain ⟨bu', ou', eu, hY⟩ := RdM.cells HU7.out HDr.out q hqU
      cases eu
      have HMN := hide (fmn_m (a := Mlo x0) hqU)
      have HMX := hide (fmx_m (a := Mhi x0) hqU)
      have hyU : U[q] ∈ U := List.getElem_mem hqU
      obtain ⟨y, hy⟩ : ∃ y, y = U[q] := ⟨_, rfl⟩
      rw [← hy] at hY HMN HMX hyU
      have HY := hide hY
      have HYU := hide hyU
      clear hy hY hyU
      have CH := hide (HHX.out y HYU.out)
      go_wp2_with fail
      have hK : Keeps (fun wx => Below wr.heap.size wr wx) := fun u1 u2 h hb => h.trans (hb.mono h.size)
      have hS0 : Below wr.heap.size wr wr := Below.refl _ _
      refine reg_begin hK (by kernel_rfl) hS0 ?_
      intro hS
      clear hS0
      generalize wr.drew = wd at *
      refine reg_plan [0, 1, 2, 3, 4, 5, 6, 7, 8, 9, 10] (fuel := 2) (a' := ?qba1) (by kernel_rfl) (by kernel_rfl) (by kernel_rfl) ?qbp1 hS ?qbn1
      case qbp1 =>
        iterate 11 (apply Yl.cons rfl (by kernel_rfl); focus (rintro wx hx; obtain ⟨v0, v1, v2, v3⟩ := (HVr.out.carry hx).cells; obtain ⟨k0, k1, k2⟩ := (HWr.out.carry hx).cells; have qx := keeps_cell _ _ _ _ QR.out hx; obtain ⟨y0, y1, y2, y3, y4⟩ := HY.out.carry hx; go_simp; all_goals (with_reducible rfl)); try simp only [Act.put, List.setIfInBounds_toArray, List.set_cons_zero, List.set_cons_succ])
        exact Yl.nil
      refine reg_callv hK (i := 11) (v := .bool true) rfl (by kernel_rfl) (by kernel_rfl) (by go_simp) hS (CH.out _ (HBr.out.trans (hS.mono HBr.out.size))) ?_
      clear hS
      intro w112 hS
      try simp only [Act.put, List.setIfInBounds_toArray, List.set_cons_zero, List.set_cons_succ]
      refine reg_plan [12] (fuel := 0) (a' := ?qba2) (by kernel_rfl) (by kernel_rfl) (by kernel_rfl) ?qbp2 hS ?qbn2
      case qbp2 =>
        iterate 1 (apply Yl.cons rfl (by kernel_rfl); focus (rintro wx hx; obtain ⟨v0, v1, v2, v3⟩ := (HVr.out.carry hx).cells; obtain ⟨k0, k1, k2⟩ := (HWr.out.carry hx).cells; have qx := keeps_cell _ _ _ _ QR.out hx; obtain ⟨y0, y1, y2, y3, y4⟩ := HY.out.carry hx; go_simp; all_goals (with_reducible rfl)); try simp only [Act.put, List.setIfInBounds_toArray, List.set_cons_zero, List.set_cons_succ])
        exact Yl.nil
      refine wpAnyH_done (by kernel_rfl) ?_ _
      refine NoPanic.normal ?_
      try simp only [Act.put, List.setIfInBounds_toArray, List.set_cons_zero, List.set_cons_succ]
      have HE1 := hide hS
      clear hS hK k0 k1 k2 CH
      obtain ⟨k0, k1, k2⟩ := (HWr.out.carry HE1.out).cells
      obtain ⟨y0, y1, y2, y3, y4⟩ := HY.out.carry HE1.out
      obtain ⟨lo, hlo⟩ : ∃ lo, lo = fmn (Mlo x0) (U.take q) := ⟨_, rfl⟩
      obtain ⟨hi, hhi⟩ : ∃ hi, hi = fmx (Mhi x0) (U.take q) := ⟨_, rfl⟩
      rw [← hlo] at HMN
      rw [← hhi] at HMX
      rw [← hlo, ← hhi]
      clear hlo hhi
      have hmin := fun ts t wx => min_bs lo (Mlo y) ts t wx
      have hmax := fun ts t wx => max_bs hi (Mhi y) ts t wx
      go_wp2_with fail
      rw [← HMN.out, ← HMX.out]
      clear hmin hmax y0 y1 y2 y3 y4 k0 k1 k2 HMN HMX
      have HV9 := hide (HVr.out.carry HE1.out)
      have HW9 := hide (HWr.out.carry HE1.out)
      have HY9 := hide (HY.out.carry HE1.out)
      have HD9 := hide (HDr.out.trans (HE1.out.mono HDr.out.size))
      have HB9 := hide (HBr.out.trans (HE1.out.mono HBr.out.size))
      clear HE1 HVr HWr HY HDr HBr QR
      have hov := HOV2.out y HYU.out
      have CO := hide (fun wx (hb : Below w.heap.size w wx) => (C4.out ((k : Int) + 1) (Mlo y) (Mhi y) wx (HR.out.carry hb)).mono (R' := fun e wy => ∃ v, e = .returned v ∧ ∃ av nv cv, v = .tuple #[.slice av nv cv, .int .i64 0] ∧ OwM wy wx.heap.size (.slice av nv cv) (metM (V.1.getD (k + 1) []) (Mlo y) (Mhi y)) ∧ Below wx.heap.size wx wy) fun e wy ⟨av, nv, cv, h1, h2, h3⟩ => ⟨_, h1, av, nv, cv, by rw [hov.1], by rw [hov.2] at h2; exact h2, h3⟩)
      clear hov
      have hK : Keeps (fun wx => Below w112.heap.size w112 wx) := fun u1 u2 h hb => h.trans (hb.mono h.size)
      have hS0 : Below w112.heap.size w112 w112 := Below.refl _ _
      refine reg_begin hK (by kernel_rfl) hS0 ?_
      intro hS
      clear hS0
      generalize w112.drew = we at *
      refine reg_plan [0, 1, 2, 3, 4, 5, 6, 7, 8, 9, 10, 11, 12, 13, 14, 15] (fuel := 6) (a' := ?qca1) (by kernel_rfl) (by kernel_rfl) (by kernel_rfl) ?qcp1 hS ?qcn1
      case qcp1 =>
        iterate 16 (apply Yl.cons rfl (by kernel_rfl); focus (rintro wx hx; obtain ⟨v0, v1, v2, v3⟩ := (HV9.out.carry hx).cells; obtain ⟨k0, k1, k2⟩ := (HW9.out.carry hx).cells; obtain ⟨y0, y1, y2, y3, y4⟩ := HY9.out.carry hx; go_simp; all_goals (with_reducible rfl)); try simp only [Act.put, List.setIfInBounds_toArray, List.set_cons_zero, List.set_cons_succ])
        exact Yl.nil
      refine reg_callg (i := 16) (R := fun v wy => ∃ av nv cv, v = .tuple #[.slice av nv cv, .int .i64 0] ∧ OwM wy we.heap.size (.slice av nv cv) (metM (V.1.getD (k + 1) []) (Mlo y) (Mhi y)) ∧ Below we.heap.size we wy) rfl (by kernel_rfl) (by kernel_rfl) (by go_simp; try rfl) (CO.out we (HB9.out.trans (hS.mono HB9.out.size))) ?_
      rintro v19 w20 ⟨av, nv, cv, rfl, oL, b20⟩
      have hSN := hK _ _ hS b20
      refine ⟨hSN, ?_⟩
      clear hS b20
      have hS := hSN
      clear hSN
      try simp only [Act.put, List.setIfInBounds_toArray, List.set_cons_zero, List.set_cons_succ]
      refine reg_plan [17, 18, 19, 20, 21] (fuel := 0) (a' := ?qca2) (by kernel_rfl) (by kernel_rfl) (by kernel_rfl) ?qcp2 hS ?qcn2
      case qcp2 =>
        iterate 5 (apply Yl.cons rfl (by kernel_rfl); focus (rintro wx hx; obtain ⟨v0, v1, v2, v3⟩ := (HV9.out.carry hx).cells; obtain ⟨k0, k1, k2⟩ := (HW9.out.carry hx).cells; obtain ⟨y0, y1, y2, y3, y4⟩ := HY9.out.carry hx; go_simp; all_goals (with_reducible rfl)); try simp only [Act.put, List.setIfInBounds_toArray, List.set_cons_zero, List.set_cons_succ])
        exact Yl.nil
      refine wpAnyH_done (by kernel_rfl) ?_ _
      refine NoPanic.normal ?_
      try simp only [Act.put, List.setIfInBounds_toArray, List.set_cons_zero, List.set_cons_succ]
      have HF1 := hide hS
      have HL1 := hide (OwG.rd ecM_len oL)
      clear hS hK CO oL
      have HNV := hide HL1.out.len
      have HD0 := hide (HD9.out.trans (HF1.out.mono HD9.out.size))
      have HB0 := hide (HB9.out.trans (HF1.out.mono HB9.out.size))
      have HW0 := hide (HW9.out.carry HF1.out)
      have hnv : nv ≤ 2000 := by
        rw [HNV.out]
        exact HML.out y
      clear HF1 HD9 HB9 HW9 HV9 HY9
      go_wp2_with fail
      go_loopw [15] (fun i wr => ∃ p : Nat, p ≤ nv ∧ i = .int .i64 p ∧ Hid (Below w20.heap.size w20 wr)) (fun i _ => nv - (intOf i).toNat)
      case atStart => exact ⟨0, Nat.zero_le _, rfl, hide (Below.refl _ _)⟩
      case round =>
        obtain ⟨p, hp, rfl, hL⟩ := hrel
        by_cases plt : p < nv
        · have plt' : (p : Int) < nv := by omega
          have hpl : p < (metM (V.1.getD (k + 1) []) (Mlo y) (Mhi y)).length := by have := HNV.out; omega
          have HWp := hide (HW0.out.carry hL.out)
          have HBp := hide (HB0.out.trans (hL.out.mono HB0.out.size))
          obtain ⟨bl, ol, rfl, hZ⟩ := RdM.cells HL1.out hL.out p hpl
          have hzm := List.getElem_mem hpl
          obtain ⟨z, hz⟩ : ∃ z, z = (metM (V.1.getD (k + 1) []) (Mlo y) (Mhi y))[p] := ⟨_, rfl⟩
          rw [← hz] at hZ hzm
          have HZ := hide hZ
          have HZO := hide (HSUB.out y z HYU.out hzm)
          clear hz hZ hzm
          have CH := hide (fun wx (hb : Below w.heap.size w wx) (ho : RdM wx (.slice ao no co) O) => (has_lk ao no co O z wx ho (by omega)).mono (R' := fun e wy => e = .returned (.bool true) ∧ Below wx.heap.size wx wy) fun e wy ⟨h1, h2⟩ => ⟨by rw [h1, decide_eq_true HZO.out], h2⟩)
          go_wp2_with fail
          have hK : Keeps (fun wx => Below wr.heap.size wr wx) := fun u1 u2 h hb => h.trans (hb.mono h.size)
          have hS0 : Below wr.heap.size wr wr := Below.refl _ _
          refine reg_begin hK (by kernel_rfl) hS0 ?_
          intro hS
          clear hS0
          generalize wr.drew = wf at *
          refine reg_plan [0, 1, 2, 3, 4, 5] (fuel := 2) (a' := ?qda1) (by kernel_rfl) (by kernel_rfl) (by kernel_rfl) ?qdp1 hS ?qdn1
          case qdp1 =>
            iterate 6 (apply Yl.cons rfl (by kernel_rfl); focus (rintro wx hx; obtain ⟨k0, k1, k2⟩ := (HWp.out.carry hx).cells; obtain ⟨y0, y1, y2, y3, y4⟩ := HZ.out.carry hx; go_simp; all_goals (with_reducible rfl)); try simp only [Act.put, List.setIfInBounds_toArray, List.set_cons_zero, List.set_cons_succ])
            exact Yl.nil
          refine reg_callv hK (i := 6) (v := .bool true) rfl (by kernel_rfl) (by kernel_rfl) (by go_simp) hS (CH.out _ (HBp.out.trans (hS.mono HBp.out.size)) (HO7.out.carry (HD0.out.trans ((hL.out.trans (hS.mono hL.out.size)).mono HD0.out.size)))) ?_
          clear hS
          intro w164 hS
          try simp only [Act.put, List.setIfInBounds_toArray, List.set_cons_zero, List.set_cons_succ]
          refine reg_plan [7] (fuel := 0) (a' := ?qda2) (by kernel_rfl) (by kernel_rfl) (by kernel_rfl) ?qdp2 hS ?qdn2
          case qdp2 =>
            iterate 1 (apply Yl.cons rfl (by kernel_rfl); focus (rintro wx hx; obtain ⟨k0, k1, k2⟩ := (HWp.out.carry hx).cells; obtain ⟨y0, y1, y2, y3, y4⟩ := HZ.out.carry hx; go_simp; all_goals (with_reducible rfl)); try simp only [Act.put, List.setIfInBounds_toArray, List.set_cons_zero, List.set_cons_succ])
            exact Yl.nil
          refine wpAnyH_done (by kernel_rfl) ?_ _
          refine NoPanic.normal ?_
          try simp only [Act.put, List.setIfInBounds_toArray, List.set_cons_zero, List.set_cons_succ]
          have HL2 := hide (hL.out.trans (hS.mono hL.out.size))
          clear hS hK CH HWp HBp hL
          go_wp2
          go_roundw
          case rel => exact ⟨p + 1, by omega, by go_num, HL2⟩
          case measure => simp only [intOf]; omega
        · have pd : decide ((p : Int) < nv) = false := by simpa using (by omega : ¬ (p : Int) < nv)
          have HDn := hide (HD0.out.trans (hL.out.mono HD0.out.size))
          clear hL
          go_wp2_with fail
          go_roundw
          case rel => exact ⟨q + 1, by omega, rfl, rfl, by go_num, HDn⟩
          case measure => simp only [intOf]; omega
    have hd : decide ((q : Int) < nu) = false := by simpa using (by omega : ¬ (q : Int) < nu)
    have hUq : U.take q = U := List.take_of_length_le (by have := HNU.out; omega)
    rw [hUq]
    obtain ⟨w30, hw30⟩ : ∃ w30, w30 = wr := ⟨_, rfl⟩
    subst hw30
    clear hUq HWr HHX HOV2 HSUB HML C1 C2 C4 HD8
    go_wp2_with fail
    clear hd k0 k1 k2 hlt
    go_loopw [10, 11, 16] (fun lo hi i wr => ∃ p : Nat, p ≤ no ∧ lo = .string (bs (fmn (Mlo x0) (U ++ O.take p))) ∧ hi = .string (bs (fmx (Mhi x0) (U ++ O.take p))) ∧ i = .int .i64 p ∧ Hid (Below w7.heap.size w7 wr)) (fun _ _ i _ => no - (intOf i).toNat)
    case atStart => exact ⟨0, Nat.zero_le _, by simp, by simp, rfl, HDr⟩
    case round =>
      obtain ⟨p, hp, rfl, rfl, rfl, HDp⟩ := hrel
      have HWp := hide (HW7.out.carry HDp.out)
      obtain ⟨k0, k1, k2⟩ := HWp.out.cells
      have HVp := hide (HV7.out.carry HDp.out)
      have HBp := hide (HB7.out.trans (HDp.out.mono HB7.out.size))
      by_cases hlt : p < no
      · have hlt' : (p : Int) < no := by omega
        have hpO : p < O.length := by have := HNO.out; omega
        have QP := hide (keeps_cell _ _ _ _ Q1.out HBp.out)
        obtain ⟨bo, oo, rfl, hY⟩ := RdM.cells HO7.out HDp.out p hpO
        have HMN := hide (fmn_ma (a := Mlo x0) (k := U) hpO)
        have HMX := hide (fmx_ma (a := Mhi x0) (k := U) hpO)
        have hyO : O[p] ∈ O := List.getElem_mem hpO
        obtain ⟨y, hy⟩ : ∃ y, y = O[p] := ⟨_, rfl⟩
        rw [← hy] at hY HMN HMX hyO
        have HY := hide hY
        have CH := hide (HHY.out y hyO)
        clear hy hY hyO
        go_wp2_with fail
        have hK : Keeps (fun wx => Below wr.heap.size wr wx) := fun u1 u2 h hb => h.trans (hb.mono h.size)
        have hS0 : Below wr.heap.size wr wr := Below.refl _ _
        refine reg_begin hK (by kernel_rfl) hS0 ?_
        intro hS
        clear hS0
        generalize wr.drew = wd at *
        refine reg_plan [0, 1, 2, 3, 4, 5, 6, 7, 8, 9, 10, 11] (fuel := 2) (a' := ?qea1) (by kernel_rfl) (by kernel_rfl) (by kernel_rfl) ?qep1 hS ?qen1
        case qep1 =>
          iterate 12 (apply Yl.cons rfl (by kernel_rfl); focus (rintro wx hx; obtain ⟨v0, v1, v2, v3⟩ := (HVp.out.carry hx).cells; obtain ⟨k0, k1, k2⟩ := (HWp.out.carry hx).cells; have qx := keeps_cell _ _ _ _ QP.out hx; obtain ⟨y0, y1, y2, y3, y4⟩ := HY.out.carry hx; go_simp; all_goals (with_reducible rfl)); try simp only [Act.put, List.setIfInBounds_toArray, List.set_cons_zero, List.set_cons_succ])
          exact Yl.nil
        refine reg_callv hK (i := 12) (v := .bool true) rfl (by kernel_rfl) (by kernel_rfl) (by go_simp) hS (CH.out _ (HBp.out.trans (hS.mono HBp.out.size))) ?_
        clear hS
        intro w185 hS
        try simp only [Act.put, List.setIfInBounds_toArray, List.set_cons_zero, List.set_cons_succ]
        refine reg_plan [13] (fuel := 0) (a' := ?qea2) (by kernel_rfl) (by kernel_rfl) (by kernel_rfl) ?qep2 hS ?qen2
        case qep2 =>
          iterate 1 (apply Yl.cons rfl (by kernel_rfl); focus (rintro wx hx; obtain ⟨v0, v1, v2, v3⟩ := (HVp.out.carry hx).cells; obtain ⟨k0, k1, k2⟩ := (HWp.out.carry hx).cells; have qx := keeps_cell _ _ _ _ QP.out hx; obtain ⟨y0, y1, y2, y3, y4⟩ := HY.out.carry hx; go_simp; all_goals (with_reducible rfl)); try simp only [Act.put, List.setIfInBounds_toArray, List.set_cons_zero, List.set_cons_succ])
          exact Yl.nil
        refine wpAnyH_done (by kernel_rfl) ?_ _
        refine NoPanic.normal ?_
        try simp only [Act.put, List.setIfInBounds_toArray, List.set_cons_zero, List.set_cons_succ]
        have HE1 := hide hS
        clear hS hK k0 k1 k2 CH
        obtain ⟨k0, k1, k2⟩ := (HWp.out.carry HE1.out).cells
        obtain ⟨y0, y1, y2, y3, y4⟩ := HY.out.carry HE1.out
        have HDn := hide (HDp.out.trans (HE1.out.mono HDp.out.size))
        obtain ⟨lo, hlo⟩ : ∃ lo, lo = fmn (Mlo x0) (U ++ O.take p) := ⟨_, rfl⟩
        obtain ⟨hi, hhi⟩ : ∃ hi, hi = fmx (Mhi x0) (U ++ O.take p) := ⟨_, rfl⟩
        rw [← hlo] at HMN
        rw [← hhi] at HMX
        rw [← hlo, ← hhi]
        clear hlo hhi
        have hmin := fun ts t wx => min_bs lo (Mlo y) ts t wx
        have hmax := fun ts t wx => max_bs hi (Mhi y) ts t wx
        go_wp2_with fail
        go_roundw
        case rel => exact ⟨p + 1, by omega, by rw [HMN.out], by rw [HMX.out], by go_num, HDn⟩
        case measure => simp only [intOf]; omega
      have hd : decide ((p : Int) < no) = false := by simpa using (by omega : ¬ (p : Int) < no)
      have hOp : O.take p = O := List.take_of_length_le (by have := HNO.out; omega)
      rw [hOp]
      obtain ⟨w11, hw11⟩ : ∃ w11, w11 = wr := ⟨_, rfl⟩
      subst hw11
      obtain ⟨LO, hLO⟩ : ∃ LO, LO = fmn (Mlo x0) (U ++ O) := ⟨_, rfl⟩
      obtain ⟨HI, hHI⟩ : ∃ HI, HI = fmx (Mhi x0) (U ++ O) := ⟨_, rfl⟩
      have hsw := pick_swap HCK.out HFU.out (x := x0) (r := r) (by rw [← HUd.out, HUE.out])
      rw [← HUd.out, ← HOd.out, show tabP x0 (U ++ O) = (x0.1, 1, 1, LO, HI) by rw [hLO, hHI]; rfl] at hsw
      rw [← HOV.out] at hsw
      rw [← hLO, ← hHI]
      clear hLO hHI hOp
      obtain ⟨V', hV'⟩ : ∃ V', V' = swpV V k U O [(x0.1, 1, 1, LO, HI)] := ⟨_, rfl⟩
      rw [← hV'] at hsw
      obtain ⟨hsE, hck', hless⟩ := hsw
      have h4' := four_pk hck'
      have h32 := (chkV_ok.1 hck').1
      have CS := hide (fun wx (hb : Below w11.heap.size w11 wx) (A1 : Nat) (hl : RdM wx (.slice (some ⟨A1, 0, none⟩) 1 1) [(x0.1, 1, 1, LO, HI)]) => (swap_vn (some ⟨b, off, none⟩) 4 c R nx sq lg k (some ⟨bu, ou, none⟩) nu cu U ao no co O (some ⟨A1, 0, none⟩) 1 1 [(x0.1, 1, 1, LO, HI)] wx (HR.out.carry (HBp.out.trans (hb.mono HBp.out.size))) (by omega) (by have := HF.out; omega) (HU7.out.carry (HDp.out.trans (hb.mono HDp.out.size))) (HO7.out.carry (HDp.out.trans (hb.mono HDp.out.size))) hl (by omega) (by omega) (by omega)).mono (R' := fun e wy => ∃ v, e = .returned v ∧ ∃ a1 c1, v = .tuple #[.agg #[.slice a1 4 c1, .int .i64 V'.2.1, .int .i64 V'.2.2.1, .string (bs V'.2.2.2)], .int .i64 0] ∧ LkT wy a1 c1 V'.1 ∧ Below wx.heap.size wx wy) fun e wy ⟨⟨v, S, h1, h2, h3⟩, h5⟩ => by
        rw [← HVV.out] at h1 h3
        rw [← hV'] at h1 h3
        rw [hsE] at h1
        obtain ⟨a1, c1, ev⟩ := OwG.form h2.1
        have e4 : S.length = 4 := by rw [← lvs_len, h3]; exact h4'
        rw [e4] at ev
        subst ev
        exact ⟨_, h1, a1, c1, rfl, ⟨_, S, h2, h3⟩, h5⟩)
      clear hV'
      obtain ⟨L', nx', sq', lg'⟩ := V'
      simp only at CS hck' hless h4' h32
      have HCK' := hide hck'
      have HLE := hide hless
      have H32 := hide h32
      clear hsE hck' hless h4' h32
      have Y0p := hide (keeps_cell _ _ _ _ Y0.out HDp.out)
      go_wp2_with fail
      clear hd hlt k0 k1 k2
      have hnuz : 0 < nu := by omega
      have hnuz' : (0 : Int) < nu := by omega
      refine region_cut (α := Nat × Nat × Option Addr × Nat) (F := fun bx a => ((((((((((((((((((a.put (some 204) (.agg #[.slice (some ⟨b, off, none⟩) 4 c, .int .i64 nx, .int .i64 sq, .string (bs lg)])).put (some 205) (.agg #[.int .i64 k, .slice (some ⟨bu, ou, none⟩) nu cu, .slice ao no co])).put (some 206) (.pointer (some ⟨D, 1, none⟩))).put (some 207) (.slice (some ⟨bu, ou, none⟩) nu cu)).put (some 208) (.pointer (some ⟨bu, ou, none⟩))).put (some 209) (.pointer (some ⟨bu, ou, none⟩))).put (some 210) (.string (bs x0.1))).put (some 211) (.string (bs LO))).put (some 212) (.string (bs HI))).put (some 213) (.agg #[.string (bs x0.1), .int .i64 1, .int .i64 1, .string (bs LO), .string (bs HI)])).put (some 214) (.slice (some ⟨bx.1, 0, none⟩) 1 1)).put (some 215) (.tuple #[(.agg #[.slice bx.2.2.1 4 bx.2.2.2, .int .i64 nx', .int .i64 sq', .string (bs lg')]), .int .i64 0])).put (some 203) (.tuple #[(.agg #[.slice bx.2.2.1 4 bx.2.2.2, .int .i64 nx', .int .i64 sq', .string (bs lg')]), .int .i64 0])).put (some 216) (.agg #[.slice bx.2.2.1 4 bx.2.2.2, .int .i64 nx', .int .i64 sq', .string (bs lg')])).put (some 217) (.int .i64 0)).put (some 17) (.pointer (some ⟨bx.2.1, 0, none⟩))).put none undef).put (some 18) (.int .i64 0))) (R := fun bx wz => VvAt wz bx.2.1 (.slice bx.2.2.1 4 bx.2.2.2) nx' sq' lg' ∧ LkT wz bx.2.2.1 bx.2.2.2 L' ∧ Below w11.heap.size w11 wz) ?regqf ?impqf
      case regqf =>
        have hK : Keeps (fun wx => Below w11.heap.size w11 wx) := fun w1 w2 h hb => h.trans (hb.mono h.size)
        have hS0 : (fun wx => Below w11.heap.size w11 wx) w11 := Below.refl _ _
        refine reg_begin hK (by kernel_rfl) hS0 ?_
        intro hS
        generalize w11.drew = wd at *
        refine reg_plan [0, 1, 2, 3, 4, 5, 6, 7, 8, 9] (fuel := 8) (a' := ?qf1a) (by kernel_rfl) (by kernel_rfl) (by kernel_rfl) ?qf1p hS ?qf1n
        case qf1p =>
          iterate 10 (apply Yl.cons rfl (by kernel_rfl); focus (rintro wx hx; obtain ⟨v0, v1, v2, v3⟩ := (HVp.out.carry hx).cells; obtain ⟨k0, k1, k2⟩ := (HWp.out.carry hx).cells; have y0 := keeps_cell _ _ _ _ Y0p.out hx; clear hx; go_simp; all_goals (with_reducible rfl)); try simp only [Act.put, List.setIfInBounds_toArray, List.set_cons_zero, List.set_cons_succ])
          exact Yl.nil
        try simp only [Act.put, List.setIfInBounds_toArray, List.set_cons_zero, List.set_cons_succ]
        refine reg_two (i := 10) (j := 15) (by kernel_rfl) ?_ ?_
        · skip
          obtain ⟨wqf2, ewqf2⟩ : ∃ wN, wd.alloc (.cells #[.string (bs x0.1), .int .i64 1, .int .i64 1, .string (bs LO), .string (bs HI)] 28) = wN := ⟨_, rfl⟩
          have hbb : Below wd.heap.size wd wqf2 := by rw [← ewqf2]; exact (Below.refl _ _).alloc (Nat.le_refl _) _
          have hSN := hK _ _ hS hbb
          obtain ⟨Aqf3, hAqf3⟩ : ∃ A, A = wd.heap.size := ⟨_, rfl⟩
          have Hqf3 : RdM wqf2 (.slice (some ⟨Aqf3, 0, none⟩) 1 1) [(x0.1, 1, 1, LO, HI)] := by rw [← ewqf2, hAqf3]; exact one_rd x0.1 LO HI wd
          have Lqf3 : w11.heap.size ≤ Aqf3 := by rw [hAqf3]; exact hS.size
          refine wop_run (v := .slice (some ⟨Aqf3, 0, none⟩) 1 1) (w' := wqf2) rfl (by kernel_rfl) (by rw [← ewqf2, hAqf3]; go_simp) ⟨hSN, ?_⟩
          clear hS hbb ewqf2 hAqf3
          have hS := hSN
          clear hSN
          try simp only [Act.put, List.setIfInBounds_toArray, List.set_cons_zero, List.set_cons_succ]
          refine reg_two (i := 11) (j := 15) (by kernel_rfl) ?_ ?_
          · skip
            refine wop_callg (R := fun v wy => ∃ a1 c1, v = .tuple #[.agg #[.slice a1 4 c1, .int .i64 nx', .int .i64 sq', .string (bs lg')], .int .i64 0] ∧ LkT wy a1 c1 L' ∧ Below wqf2.heap.size wqf2 wy) rfl (by kernel_rfl) (by go_simp; try rfl) (CS.out wqf2 hS _ Hqf3) ?_
            rintro v9 wqf4 ⟨a1, c1, rfl, h7, hbb⟩
            have hSN := hK _ _ hS hbb
            refine ⟨hSN, ?_⟩
            have Hqf5 := Hqf3.carry hbb
            have Hqf6 := h7
            clear h7
            clear hS hbb
            have hS := hSN
            clear hSN
            try simp only [Act.put, List.setIfInBounds_toArray, List.set_cons_zero, List.set_cons_succ]
            refine reg_plan [12, 13, 14] (fuel := 3) (a' := ?qf7a) (by kernel_rfl) (by kernel_rfl) (by kernel_rfl) ?qf7p hS ?qf7n
            case qf7p =>
              iterate 3 (apply Yl.cons rfl (by kernel_rfl); focus (rintro wx hx; obtain ⟨v0, v1, v2, v3⟩ := (HVp.out.carry hx).cells; obtain ⟨k0, k1, k2⟩ := (HWp.out.carry hx).cells; have y0 := keeps_cell _ _ _ _ Y0p.out hx; clear hx; go_simp; all_goals (with_reducible rfl)); try simp only [Act.put, List.setIfInBounds_toArray, List.set_cons_zero, List.set_cons_succ])
              exact Yl.nil
            try simp only [Act.put, List.setIfInBounds_toArray, List.set_cons_zero, List.set_cons_succ]
            obtain ⟨wqf8, ewqf8⟩ : ∃ wN, wqf4.alloc (.cells #[.slice none 0 0, .int .i64 0, .int .i64 0, .string { data := #[] }] 24) = wN := ⟨_, rfl⟩
            have hbb : Below wqf4.heap.size wqf4 wqf8 := by rw [← ewqf8]; exact (Below.refl _ _).alloc (Nat.le_refl _) _
            have hSN := hK _ _ hS hbb
            have Hqf9 := Hqf5.carry hbb
            have Hqf10 := Hqf6.carry hbb
            obtain ⟨Aqf11, hAqf11⟩ : ∃ A, A = wqf4.heap.size := ⟨_, rfl⟩
            have Hqf11 : VzK wqf8 Aqf11 := by rw [← ewqf8, hAqf11]; exact VzK.new wqf4
            have Lqf11 : w11.heap.size ≤ Aqf11 := by rw [hAqf11]; exact hS.size
            refine reg_run (i := 15) (v := .pointer (some ⟨Aqf11, 0, none⟩)) (w' := wqf8) rfl (by kernel_rfl) (by kernel_rfl) (by rw [← ewqf8, hAqf11]; go_simp) hSN ?_
            clear hS hbb ewqf8 hAqf11
            have hS := hSN
            clear hSN
            try simp only [Act.put, List.setIfInBounds_toArray, List.set_cons_zero, List.set_cons_succ]
            obtain ⟨c0', c1', c2', c3'⟩ := Hqf11.at.cells
            have f0 := Hqf11.at.fz 0
            have f1 := Hqf11.at.fz 1
            have f2 := Hqf11.at.fz 2
            have f3 := Hqf11.at.fz 3
            have hat : VvAt (set4v wqf8 Aqf11 (.slice a1 4 c1) (.int .i64 nx') (.int .i64 sq') (.string (bs lg'))) Aqf11 (.slice a1 4 c1) nx' sq' lg' := VvAt.put (v' := (.slice a1 4 c1)) (nx' := nx') (sq' := sq') (lg' := lg') Hqf11.at
            have hSN : Below w11.heap.size w11 (set4v wqf8 Aqf11 (.slice a1 4 c1) (.int .i64 nx') (.int .i64 sq') (.string (bs lg'))) := below_set4v hS Lqf11 _ _ _ _
            have How := LkT.keepV Hqf10 (keep_set4v Hqf11.at (.slice a1 4 c1) nx' sq' lg')
            obtain ⟨wqf12, ewqf12⟩ : ∃ wN, (set4v wqf8 Aqf11 (.slice a1 4 c1) (.int .i64 nx') (.int .i64 sq') (.string (bs lg'))) = wN := ⟨_, rfl⟩
            rw [ewqf12] at hat hSN How
            unfold set4v at ewqf12
            refine reg_unit (i := 16) (w' := wqf12) rfl (by kernel_rfl) (by kernel_rfl) (by rw [← ewqf12]; go_simp) hSN ?_
            clear hS ewqf12 c0' c1' c2' c3' f0 f1 f2 f3
            have hS := hSN
            clear hSN
            try simp only [Act.put, List.setIfInBounds_toArray, List.set_cons_zero, List.set_cons_succ]
            refine reg_plan [17] (fuel := 0) (a' := ?qf13a) (by kernel_rfl) (by kernel_rfl) (by kernel_rfl) ?qf13p hS ?qf13n
            case qf13p =>
              iterate 1 (apply Yl.cons rfl (by kernel_rfl); focus (rintro wx hx; obtain ⟨v0, v1, v2, v3⟩ := (HVp.out.carry hx).cells; obtain ⟨k0, k1, k2⟩ := (HWp.out.carry hx).cells; have y0 := keeps_cell _ _ _ _ Y0p.out hx; clear hx; go_simp; all_goals (with_reducible rfl)); try simp only [Act.put, List.setIfInBounds_toArray, List.set_cons_zero, List.set_cons_succ])
              exact Yl.nil
            try simp only [Act.put, List.setIfInBounds_toArray, List.set_cons_zero, List.set_cons_succ]
            refine wpAnyH_done (by kernel_rfl) ?_ _
            refine NoPanic.normal ?_
            exact ⟨rfl, (Aqf3, Aqf11, a1, c1), by first | rfl | simp only [Act.put, List.setIfInBounds_toArray, List.set_cons_zero, List.set_cons_succ], hat, How, hS⟩
          · skip
            obtain ⟨wqf14, ewqf14⟩ : ∃ wN, wqf2.alloc (.cells #[.slice none 0 0, .int .i64 0, .int .i64 0, .string { data := #[] }] 24) = wN := ⟨_, rfl⟩
            have hbb : Below wqf2.heap.size wqf2 wqf14 := by rw [← ewqf14]; exact (Below.refl _ _).alloc (Nat.le_refl _) _
            have hSN := hK _ _ hS hbb
            have Hqf15 := Hqf3.carry hbb
            obtain ⟨Aqf16, hAqf16⟩ : ∃ A, A = wqf2.heap.size := ⟨_, rfl⟩
            have Hqf16 : VzK wqf14 Aqf16 := by rw [← ewqf14, hAqf16]; exact VzK.new wqf2
            have Lqf16 : w11.heap.size ≤ Aqf16 := by rw [hAqf16]; exact hS.size
            refine wop_run (v := .pointer (some ⟨Aqf16, 0, none⟩)) (w' := wqf14) rfl (by kernel_rfl) (by rw [← ewqf14, hAqf16]; go_simp) ⟨hSN, ?_⟩
            clear hS hbb ewqf14 hAqf16
            have hS := hSN
            clear hSN
            try simp only [Act.put, List.setIfInBounds_toArray, List.set_cons_zero, List.set_cons_succ]
            refine reg_callg (i := 11) (R := fun v wy => ∃ a1 c1, v = .tuple #[.agg #[.slice a1 4 c1, .int .i64 nx', .int .i64 sq', .string (bs lg')], .int .i64 0] ∧ LkT wy a1 c1 L' ∧ Below wqf14.heap.size wqf14 wy) rfl (by kernel_rfl) (by kernel_rfl) (by go_simp; try rfl) (CS.out wqf14 hS _ Hqf15) ?_
            rintro v9 wqf17 ⟨a1, c1, rfl, h7, hbb⟩
            have hSN := hK _ _ hS hbb
            refine ⟨hSN, ?_⟩
            have Hqf18 := Hqf15.carry hbb
            have Hqf19 := Hqf16.carry hbb
            have Hqf20 := h7
            clear h7
            clear hS hbb
            have hS := hSN
            clear hSN
            try simp only [Act.put, List.setIfInBounds_toArray, List.set_cons_zero, List.set_cons_succ]
            refine reg_plan [12, 13, 14] (fuel := 2) (a' := ?qf21a) (by kernel_rfl) (by kernel_rfl) (by kernel_rfl) ?qf21p hS ?qf21n
            case qf21p =>
              iterate 3 (apply Yl.cons rfl (by kernel_rfl); focus (rintro wx hx; obtain ⟨v0, v1, v2, v3⟩ := (HVp.out.carry hx).cells; obtain ⟨k0, k1, k2⟩ := (HWp.out.carry hx).cells; have y0 := keeps_cell _ _ _ _ Y0p.out hx; clear hx; go_simp; all_goals (with_reducible rfl)); try simp only [Act.put, List.setIfInBounds_toArray, List.set_cons_zero, List.set_cons_succ])
              exact Yl.nil
            try simp only [Act.put, List.setIfInBounds_toArray, List.set_cons_zero, List.set_cons_succ]
            obtain ⟨c0', c1', c2', c3'⟩ := Hqf19.at.cells
            have f0 := Hqf19.at.fz 0
            have f1 := Hqf19.at.fz 1
            have f2 := Hqf19.at.fz 2
            have f3 := Hqf19.at.fz 3
            have hat : VvAt (set4v wqf17 Aqf16 (.slice a1 4 c1) (.int .i64 nx') (.int .i64 sq') (.string (bs lg'))) Aqf16 (.slice a1 4 c1) nx' sq' lg' := VvAt.put (v' := (.slice a1 4 c1)) (nx' := nx') (sq' := sq') (lg' := lg') Hqf19.at
            have hSN : Below w11.heap.size w11 (set4v wqf17 Aqf16 (.slice a1 4 c1) (.int .i64 nx') (.int .i64 sq') (.string (bs lg'))) := below_set4v hS Lqf16 _ _ _ _
            have How := LkT.keepV Hqf20 (keep_set4v Hqf19.at (.slice a1 4 c1) nx' sq' lg')
            obtain ⟨wqf22, ewqf22⟩ : ∃ wN, (set4v wqf17 Aqf16 (.slice a1 4 c1) (.int .i64 nx') (.int .i64 sq') (.string (bs lg'))) = wN := ⟨_, rfl⟩
            rw [ewqf22] at hat hSN How
            unfold set4v at ewqf22
            refine reg_unit (i := 16) (w' := wqf22) rfl (by kernel_rfl) (by kernel_rfl) (by rw [← ewqf22]; go_simp) hSN ?_
            clear hS ewqf22 c0' c1' c2' c3' f0 f1 f2 f3
            have hS := hSN
            clear hSN
            try simp only [Act.put, List.setIfInBounds_toArray, List.set_cons_zero, List.set_cons_succ]
            refine reg_plan [17] (fuel := 0) (a' := ?qf23a) (by kernel_rfl) (by kernel_rfl) (by kernel_rfl) ?qf23p hS ?qf23n
            case qf23p =>
              iterate 1 (apply Yl.cons rfl (by kernel_rfl); focus (rintro wx hx; obtain ⟨v0, v1, v2, v3⟩ := (HVp.out.carry hx).cells; obtain ⟨k0, k1, k2⟩ := (HWp.out.carry hx).cells; have y0 := keeps_cell _ _ _ _ Y0p.out hx; clear hx; go_simp; all_goals (with_reducible rfl)); try simp only [Act.put, List.setIfInBounds_toArray, List.set_cons_zero, List.set_cons_succ])
              exact Yl.nil
            try simp only [Act.put, List.setIfInBounds_toArray, List.set_cons_zero, List.set_cons_succ]
            refine wpAnyH_done (by kernel_rfl) ?_ _
            refine NoPanic.normal ?_
            exact ⟨rfl, (Aqf3, Aqf16, a1, c1), by first | rfl | simp only [Act.put, List.setIfInBounds_toArray, List.set_cons_zero, List.set_cons_succ], hat, How, hS⟩
        · skip
          obtain ⟨wqf24, ewqf24⟩ : ∃ wN, wd.alloc (.cells #[.slice none 0 0, .int .i64 0, .int .i64 0, .string { data := #[] }] 24) = wN := ⟨_, rfl⟩
          have hbb : Below wd.heap.size wd wqf24 := by rw [← ewqf24]; exact (Below.refl _ _).alloc (Nat.le_refl _) _
          have hSN := hK _ _ hS hbb
          obtain ⟨Aqf25, hAqf25⟩ : ∃ A, A = wd.heap.size := ⟨_, rfl⟩
          have Hqf25 : VzK wqf24 Aqf25 := by rw [← ewqf24, hAqf25]; exact VzK.new wd
          have Lqf25 : w11.heap.size ≤ Aqf25 := by rw [hAqf25]; exact hS.size
          refine wop_run (v := .pointer (some ⟨Aqf25, 0, none⟩)) (w' := wqf24) rfl (by kernel_rfl) (by rw [← ewqf24, hAqf25]; go_simp) ⟨hSN, ?_⟩
          clear hS hbb ewqf24 hAqf25
          have hS := hSN
          clear hSN
          try simp only [Act.put, List.setIfInBounds_toArray, List.set_cons_zero, List.set_cons_succ]
          obtain ⟨wqf26, ewqf26⟩ : ∃ wN, wqf24.alloc (.cells #[.string (bs x0.1), .int .i64 1, .int .i64 1, .string (bs LO), .string (bs HI)] 28) = wN := ⟨_, rfl⟩
          have hbb : Below wqf24.heap.size wqf24 wqf26 := by rw [← ewqf26]; exact (Below.refl _ _).alloc (Nat.le_refl _) _
          have hSN := hK _ _ hS hbb
          have Hqf27 := Hqf25.carry hbb
          obtain ⟨Aqf28, hAqf28⟩ : ∃ A, A = wqf24.heap.size := ⟨_, rfl⟩
          have Hqf28 : RdM wqf26 (.slice (some ⟨Aqf28, 0, none⟩) 1 1) [(x0.1, 1, 1, LO, HI)] := by rw [← ewqf26, hAqf28]; exact one_rd x0.1 LO HI wqf24
          have Lqf28 : w11.heap.size ≤ Aqf28 := by rw [hAqf28]; exact hS.size
          refine reg_run (i := 10) (v := .slice (some ⟨Aqf28, 0, none⟩) 1 1) (w' := wqf26) rfl (by kernel_rfl) (by kernel_rfl) (by rw [← ewqf26, hAqf28]; go_simp) hSN ?_
          clear hS hbb ewqf26 hAqf28
          have hS := hSN
          clear hSN
          try simp only [Act.put, List.setIfInBounds_toArray, List.set_cons_zero, List.set_cons_succ]
          refine reg_callg (i := 11) (R := fun v wy => ∃ a1 c1, v = .tuple #[.agg #[.slice a1 4 c1, .int .i64 nx', .int .i64 sq', .string (bs lg')], .int .i64 0] ∧ LkT wy a1 c1 L' ∧ Below wqf26.heap.size wqf26 wy) rfl (by kernel_rfl) (by kernel_rfl) (by go_simp; try rfl) (CS.out wqf26 hS _ Hqf28) ?_
          rintro v9 wqf29 ⟨a1, c1, rfl, h7, hbb⟩
          have hSN := hK _ _ hS hbb
          refine ⟨hSN, ?_⟩
          have Hqf30 := Hqf27.carry hbb
          have Hqf31 := Hqf28.carry hbb
          have Hqf32 := h7
          clear h7
          clear hS hbb
          have hS := hSN
          clear hSN
          try simp only [Act.put, List.setIfInBounds_toArray, List.set_cons_zero, List.set_cons_succ]
          refine reg_plan [12, 13, 14] (fuel := 2) (a' := ?qf33a) (by kernel_rfl) (by kernel_rfl) (by kernel_rfl) ?qf33p hS ?qf33n
          case qf33p =>
            iterate 3 (apply Yl.cons rfl (by kernel_rfl); focus (rintro wx hx; obtain ⟨v0, v1, v2, v3⟩ := (HVp.out.carry hx).cells; obtain ⟨k0, k1, k2⟩ := (HWp.out.carry hx).cells; have y0 := keeps_cell _ _ _ _ Y0p.out hx; clear hx; go_simp; all_goals (with_reducible rfl)); try simp only [Act.put, List.setIfInBounds_toArray, List.set_cons_zero, List.set_cons_succ])
            exact Yl.nil
          try simp only [Act.put, List.setIfInBounds_toArray, List.set_cons_zero, List.set_cons_succ]
          obtain ⟨c0', c1', c2', c3'⟩ := Hqf30.at.cells
          have f0 := Hqf30.at.fz 0
          have f1 := Hqf30.at.fz 1
          have f2 := Hqf30.at.fz 2
          have f3 := Hqf30.at.fz 3
          have hat : VvAt (set4v wqf29 Aqf25 (.slice a1 4 c1) (.int .i64 nx') (.int .i64 sq') (.string (bs lg'))) Aqf25 (.slice a1 4 c1) nx' sq' lg' := VvAt.put (v' := (.slice a1 4 c1)) (nx' := nx') (sq' := sq') (lg' := lg') Hqf30.at
          have hSN : Below w11.heap.size w11 (set4v wqf29 Aqf25 (.slice a1 4 c1) (.int .i64 nx') (.int .i64 sq') (.string (bs lg'))) := below_set4v hS Lqf25 _ _ _ _
          have How := LkT.keepV Hqf32 (keep_set4v Hqf30.at (.slice a1 4 c1) nx' sq' lg')
          obtain ⟨wqf34, ewqf34⟩ : ∃ wN, (set4v wqf29 Aqf25 (.slice a1 4 c1) (.int .i64 nx') (.int .i64 sq') (.string (bs lg'))) = wN := ⟨_, rfl⟩
          rw [ewqf34] at hat hSN How
          unfold set4v at ewqf34
          refine reg_unit (i := 16) (w' := wqf34) rfl (by kernel_rfl) (by kernel_rfl) (by rw [← ewqf34]; go_simp) hSN ?_
          clear hS ewqf34 c0' c1' c2' c3' f0 f1 f2 f3
          have hS := hSN
          clear hSN
          try simp only [Act.put, List.setIfInBounds_toArray, List.set_cons_zero, List.set_cons_succ]
          refine reg_plan [17] (fuel := 0) (a' := ?qf35a) (by kernel_rfl) (by kernel_rfl) (by kernel_rfl) ?qf35p hS ?qf35n
          case qf35p =>
            iterate 1 (apply Yl.cons rfl (by kernel_rfl); focus (rintro wx hx; obtain ⟨v0, v1, v2, v3⟩ := (HVp.out.carry hx).cells; obtain ⟨k0, k1, k2⟩ := (HWp.out.carry hx).cells; have y0 := keeps_cell _ _ _ _ Y0p.out hx; clear hx; go_simp; all_goals (with_reducible rfl)); try simp only [Act.put, List.setIfInBounds_toArray, List.set_cons_zero, List.set_cons_succ])
            exact Yl.nil
          try simp only [Act.put, List.setIfInBounds_toArray, List.set_cons_zero, List.set_cons_succ]
          refine wpAnyH_done (by kernel_rfl) ?_ _
          refine NoPanic.normal ?_
          exact ⟨rfl, (Aqf28, Aqf25, a1, c1), by first | rfl | simp only [Act.put, List.setIfInBounds_toArray, List.set_cons_zero, List.set_cons_succ], hat, How, hS⟩
      case impqf =>
      rintro ⟨G7, A4, a1, c1⟩ w12 ⟨hat, hres, hbz⟩
      simp only [Act.put, List.setIfInBounds_toArray, List.set_cons_zero, List.set_cons_succ]
      dsimp only at hat hres
      have HV12 := hide hat
      obtain ⟨base, S, hO, hS⟩ := hres
      have HO12 := hide hO
      have HSL := hide hS
      have HD12 := hide (HDp.out.trans (hbz.mono HDp.out.size))
      have HB12 := hide (HBp.out.trans (hbz.mono HBp.out.size))
      have HW12 := hide (HW7.out.carry HD12.out)
      clear hat hO hS hbz hnuz hnuz' CS HDp HBp HVp HWp Y0p HD12
      have hsE' : scrE (L', nx', sq', lg') k = 0 := by unfold scrE; rw [if_neg (by simpa using HCK'.out), if_neg (by omega)]
      have hsN' : scrN (L', nx', sq', lg') k = (ovrP L' k : Nat) := by unfold scrN; rw [hsE']; simp
      have hc := score_pk a1 4 c1 S nx' sq' lg' k w12 HO12.out.rd (by omega) (by rw [HSL.out]; have := H32.out; omega)
      rw [HSL.out, hsE', hsN'] at hc
      obtain ⟨NV, hNV⟩ : ∃ x, x = ovrP L' k := ⟨_, rfl⟩
      rw [← hNV] at hc HLE
      clear hNV hsE' hsN'
      obtain ⟨v0, v1, v2, v3⟩ := HV12.out.cells
      obtain ⟨k0, k1, k2⟩ := HW12.out.cells
      go_wp2_with fail
      refine hc.mono ?_
      rintro e w13 ⟨rfl, b13⟩
      have HV13 := hide (HV12.out.carry b13)
      have HO13 := hide (HO12.out.carry b13)
      have HB13 := hide (HB12.out.trans (b13.mono HB12.out.size))
      clear hc b13 HV12 HO12 HB12 HW12 v0 v1 v2 v3 k0 k1 k2
      have hc := check_vn a1 4 c1 S nx' sq' lg' w13 HO13.out.rd (by omega) (by rw [HSL.out]; have := H32.out; omega)
      rw [HSL.out, HCK'.out] at hc
      have l1 := HLE.out
      have l2 : (NV : Int) < OV := by omega
      obtain ⟨v0, v1, v2, v3⟩ := HV13.out.cells
      go_wp2_with fail
      refine hc.mono ?_
      rintro e w14 ⟨rfl, b14⟩
      have HB14 := hide (HB13.out.trans (b14.mono HB13.out.size))
      clear hc b14 HV13 HO13 HB13 v0 v1 v2 v3
      go_wp2
      go_ret
      exact ⟨rfl, HB14.out⟩
end Go.Proofs.Ythhlckdglifmeaa

/-
  What the statement VersionGoes answers.
-/
import Derived.Test.YtepfojlclgnicaaRv7
namespace Go.Proofs.Ytepfojlclgnicaa
open Go.RowKit
set_option linter.unusedVariables false
set_option linter.unusedSimpArgs false
set_option synthInstance.maxHeartbeats 400000
set_option synthInstance.maxSize 4000

theorem ckd_lenV (W : Vrs) : (ckdV W).1.length ≤ 4 ∧ (ckdV W).1.flatten.length ≤ 32 := by
  unfold ckdV
  split
  · rename_i h
    have h1 := chkV_ok.1 h
    exact ⟨by rw [(mayV_iff.1 h1.2).1]; exact Nat.le_refl _, h1.1⟩
  · exact ⟨by simp [zerV], by simp [zerV]⟩
theorem zer_lenV : zerV.1.length ≤ 4 ∧ zerV.1.flatten.length ≤ 32 := ⟨by simp [zerV], by simp [zerV]⟩
theorem add_lenV (V : Vrs) (m : Mta) : (addV V m).1.length ≤ 4 ∧ (addV V m).1.flatten.length ≤ 32 := by
  unfold addV
  split
  · exact zer_lenV
  · exact ckd_lenV _
theorem swp_lenV (V : Vrs) (k : Int) (u o l : List Mta) : (swpV V k u o l).1.length ≤ 4 ∧ (swpV V k u o l).1.flatten.length ≤ 32 := by
  unfold swpV
  split
  · exact zer_lenV
  · split
    · exact zer_lenV
    · split
      · split
        · exact zer_lenV
        · exact ckd_lenV _
      · exact zer_lenV
theorem new_lenV (s : List UInt8) : (newV s).1.length ≤ 4 ∧ (newV s).1.flatten.length ≤ 32 := by
  unfold newV
  split
  · exact ⟨by simp, by simp⟩
  · exact zer_lenV
theorem AnsV.anyG {base : Nat} {L : List (List Mta)} {nx sq : Int} {lg : List UInt8} {k : Int} {e : Ending} {w' : World} (h : AnsV base (L, nx, sq, lg) k e w') : ∃ a n c S, e = .returned (.tuple #[.agg #[.slice a n c, .int .i64 nx, .int .i64 sq, .string (bs lg)], .int .i64 k]) ∧ OwVw w' base (.slice a n c) S ∧ lvs S = L ∧ n = L.length := by
  obtain ⟨v, S, rfl, ho, hS⟩ := h
  obtain ⟨a, c, rfl⟩ := OwG.form ho.1
  exact ⟨a, _, c, S, rfl, ho, hS, by rw [← lvs_len, hS]⟩
theorem oneM_rd (w : World) (m : Mta) : RdM (w.alloc (.cells #[.string (bs m.1), .int .i64 m.2.1, .int .i64 m.2.2.1, .string (bs (Mlo m)), .string (bs (Mhi m))] 28)) (.slice (some ⟨w.heap.size, 0, none⟩) 1 1) [m] := by
  have ho := World.ownsRow_lit (base := w.heap.size) (e := 28) (size := 5) w #[.string (bs m.1), .int .i64 m.2.1, .int .i64 m.2.2.1, .string (bs (Mlo m)), .string (bs (Mhi m))] 1 (Nat.le_refl _) (by decide) rfl
  have hO : OwM (w.alloc (.cells #[.string (bs m.1), .int .i64 m.2.1, .int .i64 m.2.2.1, .string (bs (Mlo m)), .string (bs (Mhi m))] 28)) w.heap.size (.slice (some ⟨w.heap.size, 0, none⟩) 1 1) [m] := ho
  exact OwG.rd ecM_len hO

set_option maxHeartbeats 16000000 in
set_option maxRecDepth 100000 in
theorem versionGoes_any (a : Option Addr) (n c : Nat) (R : Lvs) (nx sq : Int) (lg : List UInt8) (a2 : Option Addr) (n2 c2 : Nat) (R2 : Lvs) (nx2 sq2 : Int) (lg2 : List UInt8) (m : Mta) (k : Int) (au : Option Addr) (nu cu : Nat) (U : List Mta) (ao : Option Addr) (no co : Nat) (O : List Mta) (al : Option Addr) (nl cl : Nat) (L : List Mta) (w : World) (hrd : RdVw w (.slice a n c) R) (hrd2 : RdVw w (.slice a2 n2 c2) R2)
    (hru : RdM w (.slice au nu cu) U) (hro : RdM w (.slice ao no co) O) (hrl : RdM w (.slice al nl cl) L) :
    Calls Try.prog 4 #[.agg #[.slice a n c, .int .i64 nx, .int .i64 sq, .string (bs lg)], .agg #[.slice a2 n2 c2, .int .i64 nx2, .int .i64 sq2, .string (bs lg2)], .agg #[.string (bs m.1), .int .i64 m.2.1, .int .i64 m.2.2.1, .string (bs (Mlo m)), .string (bs (Mhi m))], .agg #[.int .i64 k, .slice au nu cu, .slice ao no co], .slice al nl cl] w fun e w' => e = .returned (.bool true) ∧ Below w.heap.size w w' := by
  have HR := hide hrd
  have HR2 := hide hrd2
  have HRU := hide hru
  have HRO := hide hro
  have HRL := hide hrl
  clear hrd hrd2 hru hro hrl
  obtain ⟨w1, hw1⟩ : ∃ w1, w1 = w.alloc (.cells #[.slice a n c, .int .i64 nx, .int .i64 sq, .string (bs lg)] 24) := ⟨_, rfl⟩
  have hb1 : Below w.heap.size w w1 := by rw [hw1]; exact (Below.refl _ _).alloc (Nat.le_refl _) _
  have hs1 : w1.heap.size = w.heap.size + 1 := by rw [hw1]; simp
  obtain ⟨w2, hw2⟩ : ∃ w2, w2 = w1.alloc (.cells #[.slice a2 n2 c2, .int .i64 nx2, .int .i64 sq2, .string (bs lg2)] 24) := ⟨_, rfl⟩
  have hb2 : Below w1.heap.size w1 w2 := by rw [hw2]; exact (Below.refl _ _).alloc (Nat.le_refl _) _
  have hs2 : w2.heap.size = w.heap.size + 2 := by rw [hw2]; simp [hs1]
  obtain ⟨w3, hw3⟩ : ∃ w3, w3 = w2.alloc (.cells #[.string (bs m.1), .int .i64 m.2.1, .int .i64 m.2.2.1, .string (bs (Mlo m)), .string (bs (Mhi m))] 28) := ⟨_, rfl⟩
  have hb3 : Below w2.heap.size w2 w3 := by rw [hw3]; exact (Below.refl _ _).alloc (Nat.le_refl _) _
  have hs3 : w3.heap.size = w.heap.size + 3 := by rw [hw3]; simp [hs2]
  obtain ⟨w4, hw4⟩ : ∃ w4, w4 = w3.alloc (.cells #[.int .i64 k, .slice au nu cu, .slice ao no co] 35) := ⟨_, rfl⟩
  have hb4 : Below w3.heap.size w3 w4 := by rw [hw4]; exact (Below.refl _ _).alloc (Nat.le_refl _) _
  have b24 : Below w2.heap.size w2 w4 := hb3.trans (hb4.mono hb3.size)
  have HV4 := hide ((show VvAt w1 w.heap.size (.slice a n c) nx sq lg by rw [hw1]; exact VvAt.new w _ nx sq lg).carry hb2 |>.carry b24)
  have HO4 := hide ((show VvAt w2 (w.heap.size + 1) (.slice a2 n2 c2) nx2 sq2 lg2 by rw [hw2, ← hs1]; exact VvAt.new w1 _ _ _ _).carry b24)
  have HM4 := hide ((show MvAt w3 (w.heap.size + 2) m by rw [hw3, ← hs2]; exact MvAt.new w2 m).carry hb4)
  have HK4 := hide (show WkAt w4 (w.heap.size + 3) k (.slice au nu cu) (.slice ao no co) by rw [hw4, ← hs3]; exact WkAt.new w3 _ _ _)
  have HB4 := hide ((hb1.trans (hb2.mono hb1.size)).trans (b24.mono (Nat.le_trans hb1.size hb2.size)))
  have HD_w4 := hide (Below.refl w4.heap.size w4)
  clear hb1 hb2 hb3 hb4 b24 hs1 hs2 hs3
  go_enter Try.func4, Try.ntmps4
  obtain ⟨v0, v1, v2, v3⟩ := (HV4.out.carry HD_w4.out).cells
  rw [hw4] at v0 v1 v2 v3
  rw [hw3, hw2, hw1] at v0 v1 v2 v3
  have hc := rgreat_vn a n c R nx sq lg w4 (HR.out.carry (HB4.out.trans (HD_w4.out.mono HB4.out.size)))
  go_wp2_with fail
  rw [← hw1]
  rw [← hw2]
  rw [← hw3]
  rw [← hw4]
  clear hw1 hw2 hw3 hw4
  refine hc.mono ?_
  rintro e w5 ⟨bb, rfl, hbb, b9⟩
  have HD_w5 := hide (HD_w4.out.trans (b9.mono HD_w4.out.size))
  clear hc b9 HD_w4 v0 v1 v2 v3
  cases bb with
  | true =>
    go_wp2
    go_ret
    exact ⟨rfl, (HB4.out.trans (HD_w5.out.mono HB4.out.size))⟩
  | false =>
  obtain ⟨hn20, hF⟩ := hbb.out rfl
  have HF := hide hF
  clear hbb hF
  obtain ⟨o0, o1, o2, o3⟩ := (HO4.out.carry HD_w5.out).cells
  have hc := rgreat_vn a2 n2 c2 R2 nx2 sq2 lg2 w5 (HR2.out.carry (HB4.out.trans (HD_w5.out.mono HB4.out.size)))
  go_wp2_with fail
  refine hc.mono ?_
  rintro e w6 ⟨bb, rfl, hbb, b9⟩
  have HD_w6 := hide (HD_w5.out.trans (b9.mono HD_w5.out.size))
  clear hc b9 HD_w5 o0 o1 o2 o3
  cases bb with
  | true =>
    go_wp2
    go_ret
    exact ⟨rfl, (HB4.out.trans (HD_w6.out.mono HB4.out.size))⟩
  | false =>
  obtain ⟨hn220, hF⟩ := hbb.out rfl
  have HF2 := hide hF
  clear hbb hF
  obtain ⟨wm, hwm⟩ : ∃ wm, wm = w6.alloc (.cells #[.string (bs m.1), .int .i64 m.2.1, .int .i64 m.2.2.1, .string (bs (Mlo m)), .string (bs (Mhi m))] 28) := ⟨_, rfl⟩
  have bm : Below w6.heap.size w6 wm := by rw [hwm]; exact (Below.refl _ _).alloc (Nat.le_refl _) _
  obtain ⟨Am, hAm⟩ : ∃ Am, Am = w6.heap.size := ⟨_, rfl⟩
  have HMR := hide (show RdM wm (.slice (some ⟨Am, 0, none⟩) 1 1) [m] by rw [hwm, hAm]; exact oneM_rd w6 m)
  have HD_wm := hide (HD_w6.out.trans (bm.mono HD_w6.out.size))
  clear bm
  obtain ⟨m0, m1, m2, m3, m4⟩ := (HM4.out.carry HD_w6.out).cells
  have hc := rgreatM_vn (some ⟨Am, 0, none⟩) 1 1 [m] wm HMR.out
  go_wp2_with fail
  rw [← hwm, ← hAm]
  clear hwm hAm HMR HD_w6 m0 m1 m2 m3 m4
  refine hc.mono ?_
  rintro e w7 ⟨bb, rfl, hbb, b9⟩
  have HD_w7 := hide (HD_wm.out.trans (b9.mono HD_wm.out.size))
  clear hc b9 HD_wm hbb
  cases bb with
  | true =>
    go_wp2
    go_ret
    exact ⟨rfl, (HB4.out.trans (HD_w7.out.mono HB4.out.size))⟩
  | false =>
  obtain ⟨k0, k1, k2⟩ := (HK4.out.carry HD_w7.out).cells
  have hc := rgreatM_vn au nu cu U w7 (HRU.out.carry (HB4.out.trans (HD_w7.out.mono HB4.out.size)))
  go_wp2_with fail
  refine hc.mono ?_
  rintro e w8 ⟨bb, rfl, hbb, b9⟩
  have HD_w8 := hide (HD_w7.out.trans (b9.mono HD_w7.out.size))
  clear hc b9 HD_w7 k0 k1 k2
  cases bb with
  | true =>
    go_wp2
    go_ret
    exact ⟨rfl, (HB4.out.trans (HD_w8.out.mono HB4.out.size))⟩
  | false =>
  have hnu := hbb.out rfl
  clear hbb
  obtain ⟨k0, k1, k2⟩ := (HK4.out.carry HD_w8.out).cells
  have hc := rgreatM_vn ao no co O w8 (HRO.out.carry (HB4.out.trans (HD_w8.out.mono HB4.out.size)))
  go_wp2_with fail
  refine hc.mono ?_
  rintro e w9 ⟨bb, rfl, hbb, b9⟩
  have HD_w9 := hide (HD_w8.out.trans (b9.mono HD_w8.out.size))
  clear hc b9 HD_w8 k0 k1 k2
  cases bb with
  | true =>
    go_wp2
    go_ret
    exact ⟨rfl, (HB4.out.trans (HD_w9.out.mono HB4.out.size))⟩
  | false =>
  have hno := hbb.out rfl
  clear hbb
  have hc := rgreatM_vn al nl cl L w9 (HRL.out.carry (HB4.out.trans (HD_w9.out.mono HB4.out.size)))
  go_wp2_with fail
  refine hc.mono ?_
  rintro e w10 ⟨bb, rfl, hbb, b9⟩
  have HD_w10 := hide (HD_w9.out.trans (b9.mono HD_w9.out.size))
  clear hc b9 HD_w9 
  cases bb with
  | true =>
    go_wp2
    go_ret
    exact ⟨rfl, (HB4.out.trans (HD_w10.out.mono HB4.out.size))⟩
  | false =>
  have hnl := hbb.out rfl
  clear hbb
  have hc := rtwin_vn a n c R nx sq lg w10 (HR.out.carry (HB4.out.trans (HD_w10.out.mono HB4.out.size))) (by omega) (by have := HF.out; omega)
  obtain ⟨v0, v1, v2, v3⟩ := (HV4.out.carry HD_w10.out).cells
  go_wp2_with fail
  refine hc.mono ?_
  rintro e w11 ⟨ai, ci, S, rfl, oS, hS, -, b3⟩
  clear v0 v1 v2 v3
  obtain ⟨u, hwb⟩ : ∃ u, u = w11.alloc (.cells #[.slice ai n ci, .int .i64 nx, .int .i64 sq, .string (bs lg)] 24) := ⟨_, rfl⟩
  have hbu : Below w11.heap.size w11 u := by rw [hwb]; exact (Below.refl _ _).alloc (Nat.le_refl _) _
  obtain ⟨B, hA⟩ : ∃ B, B = w11.heap.size := ⟨_, rfl⟩
  have HDu := hide ((HD_w10.out.trans (b3.mono HD_w10.out.size)).trans (hbu.mono (Nat.le_trans HD_w10.out.size b3.size)))
  have HBu := hide (HB4.out.trans (HDu.out.mono HB4.out.size))
  have HXv := hide (HV4.out.carry HDu.out)
  have HXo := hide (HO4.out.carry HDu.out)
  have HXm := hide (HM4.out.carry HDu.out)
  have HXk := hide (HK4.out.carry HDu.out)
  have HXi := hide (show VvAt u B (.slice ai n ci) nx sq lg by rw [hwb, hA]; exact VvAt.new w11 _ nx sq lg)
  have HIi := hide (oS.rd.carry hbu)
  have HRr := hide (HR.out.carry HBu.out)
  have HRo := hide (HR2.out.carry HBu.out)
  have HUu := hide (HRU.out.carry HBu.out)
  have HOo := hide (HRO.out.carry HBu.out)
  have HLl := hide (HRL.out.carry HBu.out)
  have HSR := hide hS
  have HD_u := hide (Below.refl u.heap.size u)
  clear hc oS hS b3 hbu HV4 HO4 HM4 HK4 HB4 HD_w10 HDu HR HR2 HRU HRO HRL
  obtain ⟨V, hV⟩ : ∃ V, V = (lvs R, nx, sq, lg) := ⟨_, rfl⟩
  have HVV := hide hV
  clear hV
  obtain ⟨⟨LA, xA, yA, gA⟩, hXA⟩ : ∃ X, X = addV V m := ⟨_, rfl⟩
  obtain ⟨EA, hEA⟩ : ∃ X, X = addE V m := ⟨_, rfl⟩
  have HVA := hide hXA
  have HEA := hide hEA
  have HLA := hide (show LA.length ≤ 4 ∧ LA.flatten.length ≤ 32 by have := add_lenV V m; rw [← hXA] at this; exact this)
  have hAA : (EA == EA) = true := by simp
  clear hXA hEA
  obtain ⟨⟨LC, xC, yC, gC⟩, hXC⟩ : ∃ X, X = swpV V k U O L := ⟨_, rfl⟩
  obtain ⟨EC, hEC⟩ : ∃ X, X = swpE V k U O L := ⟨_, rfl⟩
  have HVC := hide hXC
  have HEC := hide hEC
  have HLC2 := hide (show LC.length ≤ 4 ∧ LC.flatten.length ≤ 32 by have := swp_lenV V k U O L; rw [← hXC] at this; exact this)
  have hCC : (EC == EC) = true := by simp
  clear hXC hEC
  obtain ⟨⟨LG, xG, yG, gG⟩, hXG⟩ : ∃ X, X = newV m.1 := ⟨_, rfl⟩
  obtain ⟨EG, hEG⟩ : ∃ X, X = newE m.1 := ⟨_, rfl⟩
  have HVG := hide hXG
  have HEG := hide hEG
  have HLG := hide (show LG.length ≤ 4 ∧ LG.flatten.length ≤ 32 by have := new_lenV m.1; rw [← hXG] at this; exact this)
  have hGG : (EG == EG) = true := by simp
  clear hXG hEG
  have hc := add_vn ai n ci S nx sq lg m u (HIi.out.carry HD_u.out) (by omega) (by rw [HSR.out]; have := HF.out; omega)
  rw [HSR.out, ← HVV.out, ← HVA.out, ← HEA.out] at hc
  obtain ⟨i0, i1, i2, i3⟩ := (HXi.out.carry HD_u.out).cells
  obtain ⟨m0, m1, m2, m3, m4⟩ := (HXm.out.carry HD_u.out).cells
  rw [hwb] at i0 i1 i2 i3 m0 m1 m2 m3 m4
  rw [hA] at i0 i1 i2 i3
  go_wp2_with fail
  rw [← hwb]
  try rw [← hA]
  clear hwb hA i0 i1 i2 i3 m0 m1 m2 m3 m4
  refine hc.mono ?_
  rintro e wc0 ⟨hans, b9⟩
  obtain ⟨aa, na, ca, Sa, rfl, oS, hS, hn⟩ := AnsV.anyG hans
  have HSa := hide hS
  have HNa := hide (show na ≤ 4 by have := HLA.out.1; omega)
  obtain ⟨wb0, hwb⟩ : ∃ wb0, wb0 = wc0.alloc (.cells #[.slice aa na ca, .int .i64 xA, .int .i64 yA, .string (bs gA)] 24) := ⟨_, rfl⟩
  have hbu : Below wc0.heap.size wc0 wb0 := by rw [hwb]; exact (Below.refl _ _).alloc (Nat.le_refl _) _
  obtain ⟨Ba, hA⟩ : ∃ Ba, Ba = wc0.heap.size := ⟨_, rfl⟩
  have bt : Below u.heap.size u wb0 := b9.trans (hbu.mono b9.size)
  have HYa_wb0 := hide (show VvAt wb0 Ba (.slice aa na ca) xA yA gA by rw [hwb, hA]; exact VvAt.new wc0 _ _ _ _)
  have HOa_wb0 := hide (OwVw.carry (OwVw.mono oS HD_u.out.size) hbu)
  have HD_wb0 := hide (HD_u.out.trans (bt.mono HD_u.out.size))
  clear hc hans oS hS hn b9 hbu bt HD_u 
  have hc := radd_vn a n c R nx sq lg m wb0 (HRr.out.carry HD_wb0.out) (by omega) (by have := HF.out; omega)
  rw [← HVV.out, ← HVA.out, ← HEA.out] at hc
  obtain ⟨v0, v1, v2, v3⟩ := (HXv.out.carry HD_wb0.out).cells
  obtain ⟨m0, m1, m2, m3, m4⟩ := (HXm.out.carry HD_wb0.out).cells
  rw [hwb] at v0 v1 v2 v3 m0 m1 m2 m3 m4
  go_wp2_with fail
  rw [← hwb]
  try rw [← hA]
  clear hwb hA v0 v1 v2 v3 m0 m1 m2 m3 m4
  refine hc.mono ?_
  rintro e wc1 ⟨hans, b9⟩
  obtain ⟨ab, nb, cb, Sb, rfl, oS, hS, hn⟩ := AnsV.anyG hans
  have HSb := hide hS
  have HNb := hide (show nb ≤ 4 by have := HLA.out.1; omega)
  obtain ⟨wb1, hwb⟩ : ∃ wb1, wb1 = wc1.alloc (.cells #[.slice ab nb cb, .int .i64 xA, .int .i64 yA, .string (bs gA)] 24) := ⟨_, rfl⟩
  have hbu : Below wc1.heap.size wc1 wb1 := by rw [hwb]; exact (Below.refl _ _).alloc (Nat.le_refl _) _
  obtain ⟨Bb, hA⟩ : ∃ Bb, Bb = wc1.heap.size := ⟨_, rfl⟩
  have bt : Below wb0.heap.size wb0 wb1 := b9.trans (hbu.mono b9.size)
  have HYb_wb1 := hide (show VvAt wb1 Bb (.slice ab nb cb) xA yA gA by rw [hwb, hA]; exact VvAt.new wc1 _ _ _ _)
  have HOb_wb1 := hide (OwVw.carry (OwVw.mono oS HD_wb0.out.size) hbu)
  have HD_wb1 := hide (HD_wb0.out.trans (bt.mono HD_wb0.out.size))
  have HYa_wb1 := hide (HYa_wb0.out.carry bt)
  have HOa_wb1 := hide (HOa_wb0.out.carry bt)
  clear hc hans oS hS hn b9 hbu bt HD_wb0 HYa_wb0 HOa_wb0
  have hc := swap_vn ai n ci S nx sq lg k au nu cu U ao no co O al nl cl L wb1 (HIi.out.carry HD_wb1.out) (by omega) (by rw [HSR.out]; have := HF.out; omega) (HUu.out.carry HD_wb1.out) (HOo.out.carry HD_wb1.out) (HLl.out.carry HD_wb1.out) (by omega) (by omega) (by omega)
  rw [HSR.out, ← HVV.out, ← HVC.out, ← HEC.out] at hc
  obtain ⟨i0, i1, i2, i3⟩ := (HXi.out.carry HD_wb1.out).cells
  obtain ⟨k0, k1, k2⟩ := (HXk.out.carry HD_wb1.out).cells
  rw [hwb] at i0 i1 i2 i3 k0 k1 k2
  go_wp2_with fail
  rw [← hwb]
  try rw [← hA]
  clear hwb hA i0 i1 i2 i3 k0 k1 k2
  refine hc.mono ?_
  rintro e wc2 ⟨hans, b9⟩
  obtain ⟨ac, nc, cc, Sc, rfl, oS, hS, hn⟩ := AnsV.anyG hans
  have HSc := hide hS
  have HNc := hide (show nc ≤ 4 by have := HLC2.out.1; omega)
  obtain ⟨wb2, hwb⟩ : ∃ wb2, wb2 = wc2.alloc (.cells #[.slice ac nc cc, .int .i64 xC, .int .i64 yC, .string (bs gC)] 24) := ⟨_, rfl⟩
  have hbu : Below wc2.heap.size wc2 wb2 := by rw [hwb]; exact (Below.refl _ _).alloc (Nat.le_refl _) _
  obtain ⟨Bc, hA⟩ : ∃ Bc, Bc = wc2.heap.size := ⟨_, rfl⟩
  have bt : Below wb1.heap.size wb1 wb2 := b9.trans (hbu.mono b9.size)
  have HYc_wb2 := hide (show VvAt wb2 Bc (.slice ac nc cc) xC yC gC by rw [hwb, hA]; exact VvAt.new wc2 _ _ _ _)
  have HOc_wb2 := hide (OwVw.carry (OwVw.mono oS HD_wb1.out.size) hbu)
  have HD_wb2 := hide (HD_wb1.out.trans (bt.mono HD_wb1.out.size))
  have HYa_wb2 := hide (HYa_wb1.out.carry bt)
  have HOa_wb2 := hide (HOa_wb1.out.carry bt)
  have HYb_wb2 := hide (HYb_wb1.out.carry bt)
  have HOb_wb2 := hide (HOb_wb1.out.carry bt)
  clear hc hans oS hS hn b9 hbu bt HD_wb1 HYa_wb1 HOa_wb1 HYb_wb1 HOb_wb1
  have hc := rswap_vn a n c R nx sq lg k au nu cu U ao no co O al nl cl L wb2 (HRr.out.carry HD_wb2.out) (by omega) (by have := HF.out; omega) (HUu.out.carry HD_wb2.out) (HOo.out.carry HD_wb2.out) (HLl.out.carry HD_wb2.out) (by omega) (by omega) (by omega)
  rw [← HVV.out, ← HVC.out, ← HEC.out] at hc
  obtain ⟨v0, v1, v2, v3⟩ := (HXv.out.carry HD_wb2.out).cells
  obtain ⟨k0, k1, k2⟩ := (HXk.out.carry HD_wb2.out).cells
  rw [hwb] at v0 v1 v2 v3 k0 k1 k2
  go_wp2_with fail
  rw [← hwb]
  try rw [← hA]
  clear hwb hA v0 v1 v2 v3 k0 k1 k2
  refine hc.mono ?_
  rintro e wc3 ⟨hans, b9⟩
  obtain ⟨ad, nd, cd, Sd, rfl, oS, hS, hn⟩ := AnsV.anyG hans
  have HSd := hide hS
  have HNd := hide (show nd ≤ 4 by have := HLC2.out.1; omega)
  obtain ⟨wb3, hwb⟩ : ∃ wb3, wb3 = wc3.alloc (.cells #[.slice ad nd cd, .int .i64 xC, .int .i64 yC, .string (bs gC)] 24) := ⟨_, rfl⟩
  have hbu : Below wc3.heap.size wc3 wb3 := by rw [hwb]; exact (Below.refl _ _).alloc (Nat.le_refl _) _
  obtain ⟨Bd, hA⟩ : ∃ Bd, Bd = wc3.heap.size := ⟨_, rfl⟩
  have bt : Below wb2.heap.size wb2 wb3 := b9.trans (hbu.mono b9.size)
  have HYd_wb3 := hide (show VvAt wb3 Bd (.slice ad nd cd) xC yC gC by rw [hwb, hA]; exact VvAt.new wc3 _ _ _ _)
  have HOd_wb3 := hide (OwVw.carry (OwVw.mono oS HD_wb2.out.size) hbu)
  have HD_wb3 := hide (HD_wb2.out.trans (bt.mono HD_wb2.out.size))
  have HYa_wb3 := hide (HYa_wb2.out.carry bt)
  have HOa_wb3 := hide (HOa_wb2.out.carry bt)
  have HYb_wb3 := hide (HYb_wb2.out.carry bt)
  have HOb_wb3 := hide (HOb_wb2.out.carry bt)
  have HYc_wb3 := hide (HYc_wb2.out.carry bt)
  have HOc_wb3 := hide (HOc_wb2.out.carry bt)
  clear hc hans oS hS hn b9 hbu bt HD_wb2 HYa_wb2 HOa_wb2 HYb_wb2 HOb_wb2 HYc_wb2 HOc_wb2
  have hc := new_vn m.1 wb3
  rw [← HVG.out, ← HEG.out] at hc
  obtain ⟨m0, m1, m2, m3, m4⟩ := (HXm.out.carry HD_wb3.out).cells
  rw [hwb] at m0 m1 m2 m3 m4
  go_wp2_with fail
  rw [← hwb]
  try rw [← hA]
  clear hwb hA m0 m1 m2 m3 m4
  refine hc.mono ?_
  rintro e wc4 ⟨hans, b9⟩
  obtain ⟨ag, ng, cg, Sg, rfl, oS, hS, hn⟩ := AnsV.anyG hans
  have HSg := hide hS
  have HNg := hide (show ng ≤ 4 by have := HLG.out.1; omega)
  obtain ⟨wb4, hwb⟩ : ∃ wb4, wb4 = wc4.alloc (.cells #[.slice ag ng cg, .int .i64 xG, .int .i64 yG, .string (bs gG)] 24) := ⟨_, rfl⟩
  have hbu : Below wc4.heap.size wc4 wb4 := by rw [hwb]; exact (Below.refl _ _).alloc (Nat.le_refl _) _
  obtain ⟨Bg, hA⟩ : ∃ Bg, Bg = wc4.heap.size := ⟨_, rfl⟩
  have bt : Below wb3.heap.size wb3 wb4 := b9.trans (hbu.mono b9.size)
  have HYg_wb4 := hide (show VvAt wb4 Bg (.slice ag ng cg) xG yG gG by rw [hwb, hA]; exact VvAt.new wc4 _ _ _ _)
  have HOg_wb4 := hide (OwVw.carry (OwVw.mono oS HD_wb3.out.size) hbu)
  have HD_wb4 := hide (HD_wb3.out.trans (bt.mono HD_wb3.out.size))
  have HYa_wb4 := hide (HYa_wb3.out.carry bt)
  have HOa_wb4 := hide (HOa_wb3.out.carry bt)
  have HYb_wb4 := hide (HYb_wb3.out.carry bt)
  have HOb_wb4 := hide (HOb_wb3.out.carry bt)
  have HYc_wb4 := hide (HYc_wb3.out.carry bt)
  have HOc_wb4 := hide (HOc_wb3.out.carry bt)
  have HYd_wb4 := hide (HYd_wb3.out.carry bt)
  have HOd_wb4 := hide (HOd_wb3.out.carry bt)
  clear hc hans oS hS hn b9 hbu bt HD_wb3 HYa_wb3 HOa_wb3 HYb_wb3 HOb_wb3 HYc_wb3 HOc_wb3 HYd_wb3 HOd_wb3
  have hc := rnew_vn m.1 wb4
  rw [← HVG.out, ← HEG.out] at hc
  obtain ⟨m0, m1, m2, m3, m4⟩ := (HXm.out.carry HD_wb4.out).cells
  rw [hwb] at m0 m1 m2 m3 m4
  go_wp2_with fail
  rw [← hwb]
  try rw [← hA]
  clear hwb hA m0 m1 m2 m3 m4
  refine hc.mono ?_
  rintro e wc5 ⟨hans, b9⟩
  obtain ⟨ah, nh, ch, Sh, rfl, oS, hS, hn⟩ := AnsV.anyG hans
  have HSh := hide hS
  have HNh := hide (show nh ≤ 4 by have := HLG.out.1; omega)
  obtain ⟨wb5, hwb⟩ : ∃ wb5, wb5 = wc5.alloc (.cells #[.slice ah nh ch, .int .i64 xG, .int .i64 yG, .string (bs gG)] 24) := ⟨_, rfl⟩
  have hbu : Below wc5.heap.size wc5 wb5 := by rw [hwb]; exact (Below.refl _ _).alloc (Nat.le_refl _) _
  obtain ⟨Bh, hA⟩ : ∃ Bh, Bh = wc5.heap.size := ⟨_, rfl⟩
  have bt : Below wb4.heap.size wb4 wb5 := b9.trans (hbu.mono b9.size)
  have HYh_wb5 := hide (show VvAt wb5 Bh (.slice ah nh ch) xG yG gG by rw [hwb, hA]; exact VvAt.new wc5 _ _ _ _)
  have HOh_wb5 := hide (OwVw.carry (OwVw.mono oS HD_wb4.out.size) hbu)
  have HD_wb5 := hide (HD_wb4.out.trans (bt.mono HD_wb4.out.size))
  have HYa_wb5 := hide (HYa_wb4.out.carry bt)
  have HOa_wb5 := hide (HOa_wb4.out.carry bt)
  have HYb_wb5 := hide (HYb_wb4.out.carry bt)
  have HOb_wb5 := hide (HOb_wb4.out.carry bt)
  have HYc_wb5 := hide (HYc_wb4.out.carry bt)
  have HOc_wb5 := hide (HOc_wb4.out.carry bt)
  have HYd_wb5 := hide (HYd_wb4.out.carry bt)
  have HOd_wb5 := hide (HOd_wb4.out.carry bt)
  have HYg_wb5 := hide (HYg_wb4.out.carry bt)
  have HOg_wb5 := hide (HOg_wb4.out.carry bt)
  clear hc hans oS hS hn b9 hbu bt HD_wb4 HYa_wb4 HOa_wb4 HYb_wb4 HOb_wb4 HYc_wb4 HOc_wb4 HYd_wb4 HOd_wb4 HYg_wb4 HOg_wb4
  have hc := same_vn aa na ca Sa xA yA gA ab nb cb Sb xA yA gA wb5 HOa_wb5.out.rd HOb_wb5.out.rd (by have := HNa.out; omega) (by rw [HSa.out]; have := HLA.out.2; omega)
  rw [decide_eq_true (show (lvs Sa, xA, yA, gA) = (lvs Sb, xA, yA, gA) by rw [HSa.out, HSb.out])] at hc
  obtain ⟨p0, p1, p2, p3⟩ := HYa_wb5.out.cells
  obtain ⟨q0, q1, q2, q3⟩ := HYb_wb5.out.cells
  rw [hwb] at p0 p1 p2 p3 q0 q1 q2 q3
  go_wp2_with fail
  rw [← hwb]
  try rw [← hA]
  clear hwb hA
  refine hc.mono ?_
  rintro e wd0 ⟨rfl, b9⟩
  have HD_wd0 := hide (HD_wb5.out.trans (b9.mono HD_wb5.out.size))
  have HYa_wd0 := hide (HYa_wb5.out.carry b9)
  have HOa_wd0 := hide (HOa_wb5.out.carry b9)
  have HYb_wd0 := hide (HYb_wb5.out.carry b9)
  have HOb_wd0 := hide (HOb_wb5.out.carry b9)
  have HYc_wd0 := hide (HYc_wb5.out.carry b9)
  have HOc_wd0 := hide (HOc_wb5.out.carry b9)
  have HYd_wd0 := hide (HYd_wb5.out.carry b9)
  have HOd_wd0 := hide (HOd_wb5.out.carry b9)
  have HYg_wd0 := hide (HYg_wb5.out.carry b9)
  have HOg_wd0 := hide (HOg_wb5.out.carry b9)
  have HYh_wd0 := hide (HYh_wb5.out.carry b9)
  have HOh_wd0 := hide (HOh_wb5.out.carry b9)
  clear hc b9 HD_wb5 p0 p1 p2 p3 q0 q1 q2 q3 HYa_wb5 HOa_wb5 HYb_wb5 HOb_wb5 HYc_wb5 HOc_wb5 HYd_wb5 HOd_wb5 HYg_wb5 HOg_wb5 HYh_wb5 HOh_wb5
  have hc := rsame_vn aa na ca Sa xA yA gA ab nb cb Sb xA yA gA wd0 HOa_wd0.out.rd HOb_wd0.out.rd (by have := HNa.out; omega) (by rw [HSa.out]; have := HLA.out.2; omega)
  rw [decide_eq_true (show (lvs Sa, xA, yA, gA) = (lvs Sb, xA, yA, gA) by rw [HSa.out, HSb.out])] at hc
  obtain ⟨p0, p1, p2, p3⟩ := HYa_wd0.out.cells
  obtain ⟨q0, q1, q2, q3⟩ := HYb_wd0.out.cells
  go_wp2_with fail
  refine hc.mono ?_
  rintro e wd1 ⟨rfl, b9⟩
  have HD_wd1 := hide (HD_wd0.out.trans (b9.mono HD_wd0.out.size))
  have HYa_wd1 := hide (HYa_wd0.out.carry b9)
  have HOa_wd1 := hide (HOa_wd0.out.carry b9)
  have HYb_wd1 := hide (HYb_wd0.out.carry b9)
  have HOb_wd1 := hide (HOb_wd0.out.carry b9)
  have HYc_wd1 := hide (HYc_wd0.out.carry b9)
  have HOc_wd1 := hide (HOc_wd0.out.carry b9)
  have HYd_wd1 := hide (HYd_wd0.out.carry b9)
  have HOd_wd1 := hide (HOd_wd0.out.carry b9)
  have HYg_wd1 := hide (HYg_wd0.out.carry b9)
  have HOg_wd1 := hide (HOg_wd0.out.carry b9)
  have HYh_wd1 := hide (HYh_wd0.out.carry b9)
  have HOh_wd1 := hide (HOh_wd0.out.carry b9)
  clear hc b9 HD_wd0 p0 p1 p2 p3 q0 q1 q2 q3 HYa_wd0 HOa_wd0 HYb_wd0 HOb_wd0 HYc_wd0 HOc_wd0 HYd_wd0 HOd_wd0 HYg_wd0 HOg_wd0 HYh_wd0 HOh_wd0
  have hc := rsame_vn ac nc cc Sc xC yC gC ad nd cd Sd xC yC gC wd1 HOc_wd1.out.rd HOd_wd1.out.rd (by have := HNc.out; omega) (by rw [HSc.out]; have := HLC2.out.2; omega)
  rw [decide_eq_true (show (lvs Sc, xC, yC, gC) = (lvs Sd, xC, yC, gC) by rw [HSc.out, HSd.out])] at hc
  obtain ⟨p0, p1, p2, p3⟩ := HYc_wd1.out.cells
  obtain ⟨q0, q1, q2, q3⟩ := HYd_wd1.out.cells
  go_wp2_with fail
  refine hc.mono ?_
  rintro e wd2 ⟨rfl, b9⟩
  have HD_wd2 := hide (HD_wd1.out.trans (b9.mono HD_wd1.out.size))
  have HYa_wd2 := hide (HYa_wd1.out.carry b9)
  have HOa_wd2 := hide (HOa_wd1.out.carry b9)
  have HYb_wd2 := hide (HYb_wd1.out.carry b9)
  have HOb_wd2 := hide (HOb_wd1.out.carry b9)
  have HYc_wd2 := hide (HYc_wd1.out.carry b9)
  have HOc_wd2 := hide (HOc_wd1.out.carry b9)
  have HYd_wd2 := hide (HYd_wd1.out.carry b9)
  have HOd_wd2 := hide (HOd_wd1.out.carry b9)
  have HYg_wd2 := hide (HYg_wd1.out.carry b9)
  have HOg_wd2 := hide (HOg_wd1.out.carry b9)
  have HYh_wd2 := hide (HYh_wd1.out.carry b9)
  have HOh_wd2 := hide (HOh_wd1.out.carry b9)
  clear hc b9 HD_wd1 p0 p1 p2 p3 q0 q1 q2 q3 HYa_wd1 HOa_wd1 HYb_wd1 HOb_wd1 HYc_wd1 HOc_wd1 HYd_wd1 HOd_wd1 HYg_wd1 HOg_wd1 HYh_wd1 HOh_wd1
  have hc := rsame_vn ag ng cg Sg xG yG gG ah nh ch Sh xG yG gG wd2 HOg_wd2.out.rd HOh_wd2.out.rd (by have := HNg.out; omega) (by rw [HSg.out]; have := HLG.out.2; omega)
  rw [decide_eq_true (show (lvs Sg, xG, yG, gG) = (lvs Sh, xG, yG, gG) by rw [HSg.out, HSh.out])] at hc
  obtain ⟨p0, p1, p2, p3⟩ := HYg_wd2.out.cells
  obtain ⟨q0, q1, q2, q3⟩ := HYh_wd2.out.cells
  go_wp2_with fail
  refine hc.mono ?_
  rintro e wd3 ⟨rfl, b9⟩
  have HD_wd3 := hide (HD_wd2.out.trans (b9.mono HD_wd2.out.size))
  have HYa_wd3 := hide (HYa_wd2.out.carry b9)
  have HOa_wd3 := hide (HOa_wd2.out.carry b9)
  have HYb_wd3 := hide (HYb_wd2.out.carry b9)
  have HOb_wd3 := hide (HOb_wd2.out.carry b9)
  have HYc_wd3 := hide (HYc_wd2.out.carry b9)
  have HOc_wd3 := hide (HOc_wd2.out.carry b9)
  have HYd_wd3 := hide (HYd_wd2.out.carry b9)
  have HOd_wd3 := hide (HOd_wd2.out.carry b9)
  have HYg_wd3 := hide (HYg_wd2.out.carry b9)
  have HOg_wd3 := hide (HOg_wd2.out.carry b9)
  have HYh_wd3 := hide (HYh_wd2.out.carry b9)
  have HOh_wd3 := hide (HOh_wd2.out.carry b9)
  clear hc b9 HD_wd2 p0 p1 p2 p3 q0 q1 q2 q3 HYa_wd2 HOa_wd2 HYb_wd2 HOb_wd2 HYc_wd2 HOc_wd2 HYd_wd2 HOd_wd2 HYg_wd2 HOg_wd2 HYh_wd2 HOh_wd2
  have HC1 := hide (fun wx (hx : Below u.heap.size u wx) => check_vn ai n ci S nx sq lg wx (HIi.out.carry hx) (by omega) (by rw [HSR.out]; have := HF.out; omega))
  have HC2 := hide (fun wx (hx : Below u.heap.size u wx) => rcheck_vn a n c R nx sq lg wx (HRr.out.carry hx) (by omega) (by have := HF.out; omega))
  rw [HSR.out, ← HVV.out] at HC1
  rw [← HVV.out] at HC2
  obtain ⟨K, hKe⟩ : ∃ K, K = chkV V := ⟨_, rfl⟩
  rw [← hKe] at HC1 HC2
  clear hKe
  have HC3 := hide (fun wx (hx : Below u.heap.size u wx) => same_vn a n c R nx sq lg a2 n2 c2 R2 nx2 sq2 lg2 wx (HRr.out.carry hx) (HRo.out.carry hx) (by omega) (by have := HF.out; omega))
  have HC4 := hide (fun wx (hx : Below u.heap.size u wx) => rsame_vn a n c R nx sq lg a2 n2 c2 R2 nx2 sq2 lg2 wx (HRr.out.carry hx) (HRo.out.carry hx) (by omega) (by have := HF.out; omega))
  obtain ⟨z, hze⟩ : ∃ z, z = decide ((lvs R, nx, sq, lg) = (lvs R2, nx2, sq2, lg2)) := ⟨_, rfl⟩
  rw [← hze] at HC3 HC4
  clear hze
  have hKK : (K == K) = true := by simp
  have hzz : (z == z) = true := by simp
  go_wp2_with fail
  clear hAA hCC hGG
  have hK : Keeps (fun wx => Below wd3.heap.size wd3 wx) := fun u1 u2 h hb => h.trans (hb.mono h.size)
  have hS0 : Below wd3.heap.size wd3 wd3 := Below.refl _ _
  refine reg_begin hK (by kernel_rfl) hS0 ?_
  intro hS
  clear hS0
  generalize wd3.drew = wd at *
  refine reg_plan [0, 2] (fuel := 13) (a' := ?qza1) (by kernel_rfl) (by kernel_rfl) (by kernel_rfl) ?qzp1 hS ?qzn1
  case qzp1 =>
    iterate 2 (apply Yl.cons rfl (by kernel_rfl); focus (rintro wx hx; obtain ⟨v0, v1, v2, v3⟩ := (HXv.out.carry (HD_wd3.out.trans (hx.mono HD_wd3.out.size))).cells; obtain ⟨o0, o1, o2, o3⟩ := (HXo.out.carry (HD_wd3.out.trans (hx.mono HD_wd3.out.size))).cells; obtain ⟨i0, i1, i2, i3⟩ := (HXi.out.carry (HD_wd3.out.trans (hx.mono HD_wd3.out.size))).cells; go_simp; all_goals (with_reducible rfl)); try simp only [Act.put, List.setIfInBounds_toArray, List.set_cons_zero, List.set_cons_succ])
    exact Yl.nil
  refine reg_callv hK (i := 1) (v := .int .i64 K) rfl (by kernel_rfl) (by kernel_rfl) (by go_simp) hS (HC1.out _ (HD_wd3.out.trans (hS.mono HD_wd3.out.size))) ?_
  clear hS
  intro w125 hS
  try simp only [Act.put, List.setIfInBounds_toArray, List.set_cons_zero, List.set_cons_succ]
  refine reg_callv hK (i := 3) (v := .int .i64 K) rfl (by kernel_rfl) (by kernel_rfl) (by go_simp) hS (HC2.out _ (HD_wd3.out.trans (hS.mono HD_wd3.out.size))) ?_
  clear hS
  intro w127 hS
  try simp only [Act.put, List.setIfInBounds_toArray, List.set_cons_zero, List.set_cons_succ]
  refine reg_plan [4, 5, 6, 7, 9, 10] (fuel := 5) (a' := ?qza2) (by kernel_rfl) (by kernel_rfl) (by kernel_rfl) ?qzp2 hS ?qzn2
  case qzp2 =>
    iterate 6 (apply Yl.cons rfl (by kernel_rfl); focus (rintro wx hx; obtain ⟨v0, v1, v2, v3⟩ := (HXv.out.carry (HD_wd3.out.trans (hx.mono HD_wd3.out.size))).cells; obtain ⟨o0, o1, o2, o3⟩ := (HXo.out.carry (HD_wd3.out.trans (hx.mono HD_wd3.out.size))).cells; obtain ⟨i0, i1, i2, i3⟩ := (HXi.out.carry (HD_wd3.out.trans (hx.mono HD_wd3.out.size))).cells; go_simp; all_goals (with_reducible rfl)); try simp only [Act.put, List.setIfInBounds_toArray, List.set_cons_zero, List.set_cons_succ])
    exact Yl.nil
  refine reg_callv hK (i := 8) (v := .bool z) rfl (by kernel_rfl) (by kernel_rfl) (by go_simp) hS (HC3.out _ (HD_wd3.out.trans (hS.mono HD_wd3.out.size))) ?_
  clear hS
  intro w132 hS
  try simp only [Act.put, List.setIfInBounds_toArray, List.set_cons_zero, List.set_cons_succ]
  refine reg_callv hK (i := 11) (v := .bool z) rfl (by kernel_rfl) (by kernel_rfl) (by go_simp) hS (HC4.out _ (HD_wd3.out.trans (hS.mono HD_wd3.out.size))) ?_
  clear hS
  intro w135 hS
  try simp only [Act.put, List.setIfInBounds_toArray, List.set_cons_zero, List.set_cons_succ]
  refine reg_plan [12, 13, 14] (fuel := 0) (a' := ?qza3) (by kernel_rfl) (by kernel_rfl) (by kernel_rfl) ?qzp3 hS ?qzn3
  case qzp3 =>
    iterate 3 (apply Yl.cons rfl (by kernel_rfl); focus (rintro wx hx; obtain ⟨v0, v1, v2, v3⟩ := (HXv.out.carry (HD_wd3.out.trans (hx.mono HD_wd3.out.size))).cells; obtain ⟨o0, o1, o2, o3⟩ := (HXo.out.carry (HD_wd3.out.trans (hx.mono HD_wd3.out.size))).cells; obtain ⟨i0, i1, i2, i3⟩ := (HXi.out.carry (HD_wd3.out.trans (hx.mono HD_wd3.out.size))).cells; go_simp; all_goals (with_reducible rfl)); try simp only [Act.put, List.setIfInBounds_toArray, List.set_cons_zero, List.set_cons_succ])
    exact Yl.nil
  refine wpAnyH_done (by kernel_rfl) ?_ _
  refine NoPanic.normal ?_
  try simp only [Act.put, List.setIfInBounds_toArray, List.set_cons_zero, List.set_cons_succ]
  clear hKK hzz HC1 HC2 HC3 HC4 hK
  have hc := True.intro
  have HD_w135 := hide (HD_wd3.out.trans (hS.mono HD_wd3.out.size))
  have HYa_w135 := hide (HYa_wd3.out.carry hS)
  have HOa_w135 := hide (HOa_wd3.out.carry hS)
  have HYb_w135 := hide (HYb_wd3.out.carry hS)
  have HOb_w135 := hide (HOb_wd3.out.carry hS)
  have HYc_w135 := hide (HYc_wd3.out.carry hS)
  have HOc_w135 := hide (HOc_wd3.out.carry hS)
  have HYd_w135 := hide (HYd_wd3.out.carry hS)
  have HOd_w135 := hide (HOd_wd3.out.carry hS)
  have HYg_w135 := hide (HYg_wd3.out.carry hS)
  have HOg_w135 := hide (HOg_wd3.out.carry hS)
  have HYh_w135 := hide (HYh_wd3.out.carry hS)
  have HOh_w135 := hide (HOh_wd3.out.carry hS)
  clear hc hS HD_wd3  HYa_wd3 HOa_wd3 HYb_wd3 HOb_wd3 HYc_wd3 HOc_wd3 HYd_wd3 HOd_wd3 HYg_wd3 HOg_wd3 HYh_wd3 HOh_wd3
  have hc := spoil_lw aa na ca Sa xA yA gA u.heap.size (.slice ac nc cc) Sc w135 (LnVw.of HOa_w135.out) (LnVw.of HOc_w135.out) HD_w135.out.size (by have := HNa.out; omega) (by rw [HSa.out]; have := HLA.out.2; omega)
  obtain ⟨p0, p1, p2, p3⟩ := HYa_w135.out.cells
  go_wp2_with fail
  refine hc.mono ?_
  rintro e wF ⟨rfl, lnC, kC, bF⟩
  have HLC := hide lnC
  have HYF := hide (HYc_w135.out.keep kC (by decide))
  have HD_wF := hide (HD_w135.out.trans bF)
  clear hc lnC kC bF HD_w135 p0 p1 p2 p3 HYa_w135 HOa_w135 HYb_w135 HOb_w135 HYc_w135 HOc_w135 HYd_w135 HOd_w135 HYg_w135 HOg_w135 HYh_w135 HOh_w135
  have hc := spoil_lw ac nc cc Sc xC yC gC u.heap.size (.slice ac nc cc) Sc wF HLC.out HLC.out HD_wF.out.size (by have := HNc.out; omega) (by rw [HSc.out]; have := HLC2.out.2; omega)
  obtain ⟨p0, p1, p2, p3⟩ := HYF.out.cells
  go_wp2_with fail
  refine hc.mono ?_
  rintro e wG ⟨rfl, -, -, bG⟩
  have HD_wG := hide (HD_wF.out.trans bG)
  clear hc bG HLC HYF HD_wF p0 p1 p2 p3
  have hc := rsame_vn ai n ci S nx sq lg a n c R nx sq lg wG (HIi.out.carry HD_wG.out) (HRr.out.carry HD_wG.out) (by omega) (by rw [HSR.out]; have := HF.out; omega)
  rw [decide_eq_true (show (lvs S, nx, sq, lg) = (lvs R, nx, sq, lg) by rw [HSR.out])] at hc
  obtain ⟨v0, v1, v2, v3⟩ := (HXv.out.carry HD_wG.out).cells
  obtain ⟨i0, i1, i2, i3⟩ := (HXi.out.carry HD_wG.out).cells
  go_wp2_with fail
  refine hc.mono ?_
  rintro e wH ⟨rfl, bH⟩
  have HBH := hide ((HBu.out.trans (HD_wG.out.mono HBu.out.size)).trans (bH.mono (Nat.le_trans HBu.out.size HD_wG.out.size)))
  clear hc bH v0 v1 v2 v3 i0 i1 i2 i3
  go_wp2
  go_ret
  exact ⟨rfl, HBH.out⟩
end Go.Proofs.Ytepfojlclgnicaa

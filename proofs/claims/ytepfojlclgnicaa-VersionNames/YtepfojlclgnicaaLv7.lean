/-
  What the statement VersionNames answers.
-/
import Derived.Test.YtepfojlclgnicaaLv3
import Derived.Lib.MinMaxS
import Derived.Test.YtepfojlclgnicaaMathVn2
namespace Go.Proofs.Ytepfojlclgnicaa
open Go.RowKit
set_option linter.unusedVariables false
set_option linter.unusedSimpArgs false
set_option synthInstance.maxHeartbeats 400000
set_option synthInstance.maxSize 4000

def twoC : Mta := ([99], 1, 1, [98], [102])
def twoD : Mta := ([100], 1, 1, [98], [99])
def twoE : Mta := ([101], 1, 1, [99], [102])
def oneC : List Mta := [twoC]
def oneDE : List Mta := [twoD, twoE]
def twoW : Vrs := ([[], [twoC], [], []], 1, 0, logS)
theorem oneC_rd (w : World) : RdM (w.alloc (.cells #[.string (bs [99]), .int .i64 1, .int .i64 1, .string (bs [98]), .string (bs [102])] 28)) (.slice (some ⟨w.heap.size, 0, none⟩) 1 1) oneC := by
  have ho := World.ownsRow_lit (base := w.heap.size) (e := 28) (size := 5) w #[.string (bs [99]), .int .i64 1, .int .i64 1, .string (bs [98]), .string (bs [102])] 1 (Nat.le_refl _) (by decide) rfl
  have hO : OwM (w.alloc (.cells #[.string (bs [99]), .int .i64 1, .int .i64 1, .string (bs [98]), .string (bs [102])] 28)) w.heap.size (.slice (some ⟨w.heap.size, 0, none⟩) 1 1) oneC := ho
  exact OwG.rd ecM_len hO
theorem oneDE_rd (w : World) : RdM (w.alloc (.cells #[.string (bs [100]), .int .i64 1, .int .i64 1, .string (bs [98]), .string (bs [99]), .string (bs [101]), .int .i64 1, .int .i64 1, .string (bs [99]), .string (bs [102])] 28)) (.slice (some ⟨w.heap.size, 0, none⟩) 2 2) oneDE := by
  have ho := World.ownsRow_lit (base := w.heap.size) (e := 28) (size := 5) w #[.string (bs [100]), .int .i64 1, .int .i64 1, .string (bs [98]), .string (bs [99]), .string (bs [101]), .int .i64 1, .int .i64 1, .string (bs [99]), .string (bs [102])] 2 (Nat.le_refl _) (by decide) rfl
  have hO : OwM (w.alloc (.cells #[.string (bs [100]), .int .i64 1, .int .i64 1, .string (bs [98]), .string (bs [99]), .string (bs [101]), .int .i64 1, .int .i64 1, .string (bs [99]), .string (bs [102])] 28)) w.heap.size (.slice (some ⟨w.heap.size, 0, none⟩) 2 2) oneDE := ho
  exact OwG.rd ecM_len hO
theorem vn_s1 : swpE (twoV2.1, 1, 0, logS) 0 [twoA, twoB] [] oneC = 0 ∧ swpV (twoV2.1, 1, 0, logS) 0 [twoA, twoB] [] oneC = (twoW.1, 1, 0, logS) := by decide +kernel
theorem vn_nm : chkV (twoW.1, 1, 0, logS) = 0 ∧ namV (twoW.1, 1, 0, logS) = [[99], logS] := by
  have h : chkV (twoW.1, 1, 0, logS) = 0 := by decide +kernel
  refine ⟨h, ?_⟩
  unfold namV
  rw [if_pos h]
  exact srtS_two (a := logS) (b := [99]) (by decide +kernel)
theorem vn_s3 : swpE (twoW.1, 1, 0, logS) 1 oneC [] oneDE = 8 ∧ swpV (twoW.1, 1, 0, logS) 1 oneC [] oneDE = ([], 0, 0, []) := by decide +kernel
theorem vn_n4 : newE [] = 50 ∧ newV [] = ([], 0, 0, []) := by decide +kernel
theorem vn_a5 : addE (twoV2.1, 1, 0, logS) ([97], 1, 1, [120], [121]) = 8 ∧ addV (twoV2.1, 1, 0, logS) ([97], 1, 1, [120], [121]) = ([], 0, 0, []) := by decide +kernel
theorem vn_s6 : swpE (twoW.1, 1, 0, logS) 0 oneC [] [] = 6 ∧ swpV (twoW.1, 1, 0, logS) 0 oneC [] [] = ([], 0, 0, []) := by decide +kernel
theorem vn_s7 : swpE (twoW.1, 1, 0, logS) 3 [] [] [] = 2 ∧ swpV (twoW.1, 1, 0, logS) 3 [] [] [] = ([], 0, 0, []) := by decide +kernel
theorem vn_z : chkV ([], 0, 0, []) = 8 := by decide +kernel
def LvT (w : World) (a : Option Addr) (n c : Nat) (L : List (List Mta)) : Prop := ∃ S, OwVw w 0 (.slice a n c) S ∧ lvs S = L
theorem LvT.carry {w w' : World} {a : Option Addr} {n c : Nat} {L : List (List Mta)} (h : LvT w a n c L) (hb : Below w.heap.size w w') : LvT w' a n c L := h.elim fun S h => ⟨S, h.1.carry hb, h.2⟩
theorem LvT.keepV {w w' : World} {a : Option Addr} {n c : Nat} {L : List (List Mta)} (h : LvT w a n c L) (hk : KeepG 24 w w') : LvT w' a n c L := h.elim fun S h => ⟨S, h.1.keepV hk, h.2⟩
theorem AnsV.lt {base : Nat} {L : List (List Mta)} {nx sq : Int} {lg : List UInt8} {k : Int} {e : Ending} {w' : World} {N : Nat} (h : AnsV base (L, nx, sq, lg) k e w') (hN : L.length = N) : ∃ a c, e = .returned (.tuple #[.agg #[.slice a N c, .int .i64 nx, .int .i64 sq, .string (bs lg)], .int .i64 k]) ∧ LvT w' a N c L := by
  obtain ⟨v, S, rfl, ho, hS⟩ := h
  obtain ⟨a, c, rfl⟩ := OwG.form ho.1
  have : S.length = N := by rw [← lvs_len, hS]; exact hN
  rw [this] at ho ⊢
  exact ⟨a, c, rfl, S, ho.mono (Nat.zero_le _), hS⟩
def VzB (w : World) (A : Nat) : Prop := VvAt w A (.slice none 0 0) 0 0 []
theorem VzB.carry {w w' : World} {A : Nat} (h : VzB w A) (hb : Below w.heap.size w w') : VzB w' A := VvAt.carry h hb
theorem VzB.new (w : World) : VzB (w.alloc (.cells #[.slice none 0 0, .int .i64 0, .int .i64 0, .string { data := #[] }] 24)) w.heap.size := VvAt.new w (.slice none 0 0) 0 0 []
theorem VzB.at {w : World} {A : Nat} (h : VzB w A) : VvAt w A (.slice none 0 0) 0 0 [] := h
theorem swp_lw {w : World} {a : Option Addr} {c : Nat} {L L' : List (List Mta)} {nx sq k E : Int} {lg : List UInt8} {N : Nat} {au : Option Addr} {nu cu : Nat} {U : List Mta} {al : Option Addr} {nl cl : Nat} {M : List Mta} (h : LvT w a 4 c L) (hu : RdM w (.slice au nu cu) U) (hl : RdM w (.slice al nl cl) M) (hT : L.flatten.length ≤ 100000) (hnu : nu ≤ 100000) (hnl : nl ≤ 100000) (hE : swpE (L, 1, 0, logS) k U [] M = E ∧ swpV (L, 1, 0, logS) k U [] M = (L', nx, sq, lg)) (hN : L'.length = N) :
    Calls Try.prog 10 #[.agg #[.slice a 4 c, .int .i64 1, .int .i64 0, .string (bs logS)], .agg #[.int .i64 k, .slice au nu cu, .slice none 0 0], .slice al nl cl] w fun e w' => ∃ v, e = .returned v ∧ ∃ a1 c1, v = .tuple #[.agg #[.slice a1 N c1, .int .i64 nx, .int .i64 sq, .string (bs lg)], .int .i64 E] ∧ LvT w' a1 N c1 L' ∧ Below w.heap.size w w' := by
  obtain ⟨S, ho, hS⟩ := h
  have hc := swap_vn a 4 c S 1 0 logS k au nu cu U none 0 0 [] al nl cl M w ho.rd (by omega) (by rw [hS]; exact hT) hu (RdG.nil w) hl hnu (by omega) hnl
  rw [hS, hE.1, hE.2] at hc
  refine hc.mono ?_
  rintro e w' ⟨ha, hb⟩
  obtain ⟨a1, c1, rfl, ht⟩ := ha.lt hN
  exact ⟨_, rfl, a1, c1, rfl, ht, hb⟩
theorem addx_lw {w : World} {a : Option Addr} {c : Nat} {L L' : List (List Mta)} {nx sq E : Int} {lg : List UInt8} {N : Nat} (h : LvT w a 4 c L) (m : Mta) (hT : L.flatten.length ≤ 100000) (hE : addE (L, 1, 0, logS) m = E ∧ addV (L, 1, 0, logS) m = (L', nx, sq, lg)) (hN : L'.length = N) :
    Calls Try.prog 13 #[.agg #[.slice a 4 c, .int .i64 1, .int .i64 0, .string (bs logS)], .agg #[.string (bs m.1), .int .i64 m.2.1, .int .i64 m.2.2.1, .string (bs (Mlo m)), .string (bs (Mhi m))]] w fun e w' => ∃ v, e = .returned v ∧ ∃ a1 c1, v = .tuple #[.agg #[.slice a1 N c1, .int .i64 nx, .int .i64 sq, .string (bs lg)], .int .i64 E] ∧ LvT w' a1 N c1 L' ∧ Below w.heap.size w w' := by
  obtain ⟨S, ho, hS⟩ := h
  have hc := add_vn a 4 c S 1 0 logS m w ho.rd (by omega) (by rw [hS]; exact hT)
  rw [hS, hE.1, hE.2] at hc
  refine hc.mono ?_
  rintro e w' ⟨ha, hb⟩
  obtain ⟨a1, c1, rfl, ht⟩ := ha.lt hN
  exact ⟨_, rfl, a1, c1, rfl, ht, hb⟩
theorem newx_lw (w : World) : Calls Try.prog 12 #[.string (bs [])] w fun e w' => ∃ a1 c1, e = .returned (.tuple #[.agg #[.slice a1 0 c1, .int .i64 0, .int .i64 0, .string (bs [])], .int .i64 50]) ∧ Below w.heap.size w w' := by
  have hc := new_vn [] w
  rw [vn_n4.1, vn_n4.2] at hc
  refine hc.mono ?_
  rintro e w' ⟨ha, hb⟩
  obtain ⟨a1, c1, rfl, ht⟩ := ha.lt (N := 0) rfl
  exact ⟨a1, c1, rfl, hb⟩
theorem nms_lw {w : World} {a : Option Addr} {c : Nat} (h : LvT w a 4 c twoW.1) :
    Calls Try.prog 11 #[.agg #[.slice a 4 c, .int .i64 1, .int .i64 0, .string (bs logS)]] w fun e w' => ∃ av cv, e = .returned (.tuple #[.slice av 2 cv, .int .i64 0]) ∧ RdTx w' (.slice av 2 cv) [[99], logS] ∧ Below w.heap.size w w' := by
  obtain ⟨S, ho, hS⟩ := h
  have hc := Names_vn a 4 c S 1 0 logS w ho.rd (by omega) (by rw [hS]; decide)
  rw [hS, vn_nm.1, vn_nm.2] at hc
  refine hc.mono ?_
  rintro e w' ⟨av, nv, cv, rfl, hown, hb⟩
  have hr := hown.rd
  obtain rfl : nv = 2 := hr.len
  exact ⟨av, cv, rfl, hr, hb⟩
theorem chz_lw (w : World) : Calls Try.prog 15 #[.agg #[.slice none 0 0, .int .i64 0, .int .i64 0, .string (bs [])]] w fun e w' => e = .returned (.int .i64 8) ∧ Below w.heap.size w w' := by
  have hc := check_vn none 0 0 [] 0 0 [] w (RdVw.nil w) (by omega) (by simp)
  rw [show lvs [] = [] from rfl, vn_z] at hc
  exact hc
theorem LvT.v2 {w : World} {a : Option Addr} {c : Nat} (h : LvT w a 4 c twoV2.1) : ∃ b off ax cx, a = some ⟨b, off, none⟩ ∧ w.cell? ⟨b, off, none⟩ = some (.slice ax 2 cx) ∧ RdM w (.slice ax 2 cx) [twoA, twoB] := by
  obtain ⟨S, h1, h2⟩ := h
  have h4 : S.length = 4 := by rw [← lvs_len, h2]; rfl
  obtain ⟨b, off, ax, nx', cx, e, q, hr, hn⟩ := h1.rd.cells (Below.refl _ _) 0 (by omega)
  have h5 : (S[0]'(by omega)).2 = [twoA, twoB] := by
    have h6 : (lvs S)[0]? = (twoV2.1)[0]? := by rw [h2]
    rw [List.getElem?_eq_getElem (by rw [lvs_len]; omega), lvs_get (by omega)] at h6
    simpa [twoV2] using h6
  rw [h5] at hn hr
  have hn2 : nx' = 2 := hn
  subst hn2
  exact ⟨b, off, ax, cx, e, by simpa using q, hr⟩
theorem LvT.w2 {w : World} {a : Option Addr} {c : Nat} (h : LvT w a 4 c twoW.1) : ∃ b off ax cx b1 o1 cy, a = some ⟨b, off, none⟩ ∧ w.cell? ⟨b, off, none⟩ = some (.slice ax 0 cx) ∧ w.cell? ⟨b, off + 1, none⟩ = some (.slice (some ⟨b1, o1, none⟩) 1 cy) ∧ CellsM w b1 o1 twoC := by
  obtain ⟨S, h1, h2⟩ := h
  have h4 : S.length = 4 := by rw [← lvs_len, h2]; rfl
  obtain ⟨b, off, ax, nx', cx, e, q, hr, hn⟩ := h1.rd.cells (Below.refl _ _) 0 (by omega)
  obtain ⟨b', off', ay, ny', cy, e', q', hr', hn'⟩ := h1.rd.cells (Below.refl _ _) 1 (by omega)
  subst e
  cases e'
  have h5 : (S[0]'(by omega)).2 = [] := by
    have h6 : (lvs S)[0]? = (twoW.1)[0]? := by rw [h2]
    rw [List.getElem?_eq_getElem (by rw [lvs_len]; omega), lvs_get (by omega)] at h6
    simpa [twoW] using h6
  have h7 : (S[1]'(by omega)).2 = [twoC] := by
    have h6 : (lvs S)[1]? = (twoW.1)[1]? := by rw [h2]
    rw [List.getElem?_eq_getElem (by rw [lvs_len]; omega), lvs_get (by omega)] at h6
    simpa [twoW] using h6
  rw [h5] at hn
  rw [h7] at hn' hr'
  have hn2 : nx' = 0 := hn
  have hn3 : ny' = 1 := hn'
  subst hn2 hn3
  obtain ⟨b1, o1, e1, q1⟩ := hr'.cells (Below.refl _ _) 0 (by decide)
  subst e1
  exact ⟨b, off, ax, cx, b1, o1, cy, rfl, by simpa using q, q', by simpa using q1⟩

set_option maxHeartbeats 16000000 in
set_option maxRecDepth 100000 in
theorem versionNames_any (w : World) : Calls Try.prog 3 #[] w fun e w' => e = .returned (.bool true) ∧ Below w.heap.size w w' := by
  have hc := two_lw w
  go_enter Try.func3, Try.ntmps3
  go_wp2_with fail
  refine hc.mono ?_
  rintro e w1 ⟨a, c, rfl, hT, b1⟩
  have hT1 : LvT w1 a 4 c twoV2.1 := by
    obtain ⟨S, h1, h2⟩ := hT
    exact ⟨S, h1.mono (Nat.zero_le _), h2⟩
  obtain ⟨b, off, ax, cx, rfl, q0, hr0⟩ := hT1.v2
  have HT1 := hide hT1
  have HU1 := hide hr0
  have HQ := hide (show ∀ wx, Below w1.heap.size w1 wx → wx.cell? ⟨b, off, none⟩ = some (.slice ax 2 cx) from fun wx hb => by
    rw [hb.cell (World.block_lt_of_cell? w1 _ q0)]; exact q0)
  have HB1 := hide b1
  clear hc hT hT1 b1 q0 hr0
  obtain ⟨w2, hw2⟩ : ∃ w2, w2 = w1.alloc (.cells #[.slice (some ⟨b, off, none⟩) 4 c, .int .i64 1, .int .i64 0, .string (bs logS)] 24) := ⟨_, rfl⟩
  have hb2 : Below w1.heap.size w1 w2 := by rw [hw2]; exact (Below.refl _ _).alloc (Nat.le_refl _) _
  obtain ⟨A1, hA1⟩ : ∃ A1, A1 = w1.heap.size := ⟨_, rfl⟩
  have HV2 := hide (show VvAt w2 A1 (.slice (some ⟨b, off, none⟩) 4 c) 1 0 logS by rw [hw2, hA1]; exact VvAt.new w1 _ _ _ _)
  have HD2 := hide (show Below w1.heap.size w1 w2 from hb2)
  have HB2 := hide (HB1.out.trans (hb2.mono HB1.out.size))
  clear hb2
  have hc := table_lw [99] [98] [102] w2
  go_wp2_with fail
  rw [← hw2, ← hA1]
  clear hw2 hA1
  refine hc.mono ?_
  rintro e w3 ⟨rfl, b3⟩
  clear hc
  obtain ⟨w4, hw4⟩ : ∃ w4, w4 = w3.alloc (.cells #[.string (bs [99]), .int .i64 1, .int .i64 1, .string (bs [98]), .string (bs [102])] 28) := ⟨_, rfl⟩
  have hb4 : Below w3.heap.size w3 w4 := by rw [hw4]; exact (Below.refl _ _).alloc (Nat.le_refl _) _
  have hb24 := b3.trans (hb4.mono b3.size)
  obtain ⟨A3, hA3⟩ : ∃ A3, A3 = w3.heap.size := ⟨_, rfl⟩
  have HM4 := hide (show MvAt w4 A3 twoC by rw [hw4, hA3]; exact MvAt.new w3 twoC)
  have HV4 := hide (HV2.out.carry hb24)
  have HD4 := hide (HD2.out.trans (hb24.mono HD2.out.size))
  have HB4 := hide (HB2.out.trans (hb24.mono HB2.out.size))
  clear hb4 b3 hb24 HV2 HD2 HB2
  go_wp2_with fail
  rw [← hw4, ← hA3]
  clear hw4 hA3
  refine region_cut (α := Nat × Nat × Option Addr × Nat) (F := fun bx a => (((((((((((((((a.put (some 27) (.agg #[.slice (some ⟨b, off, none⟩) 4 c, .int .i64 1, .int .i64 0, .string (bs logS)])).put (some 28) (.pointer (some ⟨A1, 0, none⟩))).put (some 29) (.slice (some ⟨b, off, none⟩) 4 c)).put (some 30) (.pointer (some ⟨b, off, none⟩))).put (some 31) (.slice ax 2 cx)).put (some 32) (.agg #[.int .i64 0, .slice ax 2 cx, .slice none 0 0])).put (some 33) (.agg #[.string (bs [99]), .int .i64 1, .int .i64 1, .string (bs [98]), .string (bs [102])])).put (some 34) (.slice (some ⟨bx.1, 0, none⟩) 1 1)).put (some 35) (.tuple #[(.agg #[.slice bx.2.2.1 4 bx.2.2.2, .int .i64 1, .int .i64 0, .string (bs logS)]), .int .i64 0])).put (some 26) (.tuple #[(.agg #[.slice bx.2.2.1 4 bx.2.2.2, .int .i64 1, .int .i64 0, .string (bs logS)]), .int .i64 0])).put (some 36) (.agg #[.slice bx.2.2.1 4 bx.2.2.2, .int .i64 1, .int .i64 0, .string (bs logS)])).put (some 37) (.int .i64 0)).put (some 4) (.pointer (some ⟨bx.2.1, 0, none⟩))).put none undef).put (some 5) (.int .i64 0))) (R := fun bx wz => VvAt wz bx.2.1 (.slice bx.2.2.1 4 bx.2.2.2) 1 0 logS ∧ LvT wz bx.2.2.1 4 bx.2.2.2 twoW.1 ∧ Below w4.heap.size w4 wz) ?regqa ?impqa
  case regqa =>
    have hK : Keeps (fun wx => Below w4.heap.size w4 wx) := fun w1 w2 h hb => h.trans (hb.mono h.size)
    have hS0 : (fun wx => Below w4.heap.size w4 wx) w4 := Below.refl _ _
    refine reg_begin hK (by kernel_rfl) hS0 ?_
    intro hS
    generalize w4.drew = wd at *
    refine reg_plan [0, 1, 2, 3, 4, 5, 6] (fuel := 8) (a' := ?qa1a) (by kernel_rfl) (by kernel_rfl) (by kernel_rfl) ?qa1p hS ?qa1n
    case qa1p =>
      iterate 7 (apply Yl.cons rfl (by kernel_rfl); focus (rintro wx hx; obtain ⟨v0, v1, v2, v3⟩ := (HV4.out.carry hx).cells; have q0 := HQ.out wx (HD4.out.trans (hx.mono HD4.out.size)); obtain ⟨m0, m1, m2, m3, m4⟩ := (HM4.out.carry hx).cells; simp only [Mlo, Mhi, twoC] at m0 m1 m2 m3 m4; clear hx; go_simp; all_goals (with_reducible rfl)); try simp only [Act.put, List.setIfInBounds_toArray, List.set_cons_zero, List.set_cons_succ])
      exact Yl.nil
    try simp only [Act.put, List.setIfInBounds_toArray, List.set_cons_zero, List.set_cons_succ]
    refine reg_two (i := 7) (j := 12) (by kernel_rfl) ?_ ?_
    · skip
      obtain ⟨wqa2, ewqa2⟩ : ∃ wN, wd.alloc (.cells #[.string (bs [99]), .int .i64 1, .int .i64 1, .string (bs [98]), .string (bs [102])] 28) = wN := ⟨_, rfl⟩
      have hbb : Below wd.heap.size wd wqa2 := by rw [← ewqa2]; exact (Below.refl _ _).alloc (Nat.le_refl _) _
      have hSN := hK _ _ hS hbb
      obtain ⟨Aqa3, hAqa3⟩ : ∃ A, A = wd.heap.size := ⟨_, rfl⟩
      have Hqa3 : RdM wqa2 (.slice (some ⟨Aqa3, 0, none⟩) 1 1) oneC := by rw [← ewqa2, hAqa3]; exact oneC_rd wd
      have Lqa3 : w4.heap.size ≤ Aqa3 := by rw [hAqa3]; exact hS.size
      refine wop_run (v := .slice (some ⟨Aqa3, 0, none⟩) 1 1) (w' := wqa2) rfl (by kernel_rfl) (by rw [← ewqa2, hAqa3]; go_simp) ⟨hSN, ?_⟩
      clear hS hbb ewqa2 hAqa3
      have hS := hSN
      clear hSN
      try simp only [Act.put, List.setIfInBounds_toArray, List.set_cons_zero, List.set_cons_succ]
      refine reg_two (i := 8) (j := 12) (by kernel_rfl) ?_ ?_
      · skip
        refine wop_callg (R := fun v wy => ∃ a1 c1, v = .tuple #[.agg #[.slice a1 4 c1, .int .i64 1, .int .i64 0, .string (bs logS)], .int .i64 0] ∧ LvT wy a1 4 c1 twoW.1 ∧ Below wqa2.heap.size wqa2 wy) rfl (by kernel_rfl) (by go_simp; try rfl) (swp_lw (k := 0) (HT1.out.carry (HD4.out.trans (hS.mono HD4.out.size))) (HU1.out.carry (HD4.out.trans (hS.mono HD4.out.size))) Hqa3 (by decide) (by omega) (by omega) vn_s1 rfl) ?_
        rintro v9 wqa4 ⟨a1, c1, rfl, h7, hbb⟩
        have hSN := hK _ _ hS hbb
        refine ⟨hSN, ?_⟩
        have Hqa5 := Hqa3.carry hbb
        have Hqa6 := h7
        clear h7
        clear hS hbb
        have hS := hSN
        clear hSN
        try simp only [Act.put, List.setIfInBounds_toArray, List.set_cons_zero, List.set_cons_succ]
        refine reg_plan [9, 10, 11] (fuel := 3) (a' := ?qa7a) (by kernel_rfl) (by kernel_rfl) (by kernel_rfl) ?qa7p hS ?qa7n
        case qa7p =>
          iterate 3 (apply Yl.cons rfl (by kernel_rfl); focus (rintro wx hx; obtain ⟨v0, v1, v2, v3⟩ := (HV4.out.carry hx).cells; have q0 := HQ.out wx (HD4.out.trans (hx.mono HD4.out.size)); obtain ⟨m0, m1, m2, m3, m4⟩ := (HM4.out.carry hx).cells; simp only [Mlo, Mhi, twoC] at m0 m1 m2 m3 m4; clear hx; go_simp; all_goals (with_reducible rfl)); try simp only [Act.put, List.setIfInBounds_toArray, List.set_cons_zero, List.set_cons_succ])
          exact Yl.nil
        try simp only [Act.put, List.setIfInBounds_toArray, List.set_cons_zero, List.set_cons_succ]
        obtain ⟨wqa8, ewqa8⟩ : ∃ wN, wqa4.alloc (.cells #[.slice none 0 0, .int .i64 0, .int .i64 0, .string { data := #[] }] 24) = wN := ⟨_, rfl⟩
        have hbb : Below wqa4.heap.size wqa4 wqa8 := by rw [← ewqa8]; exact (Below.refl _ _).alloc (Nat.le_refl _) _
        have hSN := hK _ _ hS hbb
        have Hqa9 := Hqa5.carry hbb
        have Hqa10 := Hqa6.carry hbb
        obtain ⟨Aqa11, hAqa11⟩ : ∃ A, A = wqa4.heap.size := ⟨_, rfl⟩
        have Hqa11 : VzB wqa8 Aqa11 := by rw [← ewqa8, hAqa11]; exact VzB.new wqa4
        have Lqa11 : w4.heap.size ≤ Aqa11 := by rw [hAqa11]; exact hS.size
        refine reg_run (i := 12) (v := .pointer (some ⟨Aqa11, 0, none⟩)) (w' := wqa8) rfl (by kernel_rfl) (by kernel_rfl) (by rw [← ewqa8, hAqa11]; go_simp) hSN ?_
        clear hS hbb ewqa8 hAqa11
        have hS := hSN
        clear hSN
        try simp only [Act.put, List.setIfInBounds_toArray, List.set_cons_zero, List.set_cons_succ]
        obtain ⟨c0', c1', c2', c3'⟩ := Hqa11.at.cells
        have f0 := Hqa11.at.fz 0
        have f1 := Hqa11.at.fz 1
        have f2 := Hqa11.at.fz 2
        have f3 := Hqa11.at.fz 3
        have hat : VvAt (set4v wqa8 Aqa11 (.slice a1 4 c1) (.int .i64 1) (.int .i64 0) (.string (bs logS))) Aqa11 (.slice a1 4 c1) 1 0 logS := VvAt.put (v' := (.slice a1 4 c1)) (nx' := 1) (sq' := 0) (lg' := logS) Hqa11.at
        have hSN : Below w4.heap.size w4 (set4v wqa8 Aqa11 (.slice a1 4 c1) (.int .i64 1) (.int .i64 0) (.string (bs logS))) := below_set4v hS Lqa11 _ _ _ _
        have How := LvT.keepV Hqa10 (keep_set4v Hqa11.at (.slice a1 4 c1) 1 0 logS)
        obtain ⟨wqa12, ewqa12⟩ : ∃ wN, (set4v wqa8 Aqa11 (.slice a1 4 c1) (.int .i64 1) (.int .i64 0) (.string (bs logS))) = wN := ⟨_, rfl⟩
        rw [ewqa12] at hat hSN How
        unfold set4v at ewqa12
        refine reg_unit (i := 13) (w' := wqa12) rfl (by kernel_rfl) (by kernel_rfl) (by rw [← ewqa12]; go_simp) hSN ?_
        clear hS ewqa12 c0' c1' c2' c3' f0 f1 f2 f3
        have hS := hSN
        clear hSN
        try simp only [Act.put, List.setIfInBounds_toArray, List.set_cons_zero, List.set_cons_succ]
        refine reg_plan [14] (fuel := 0) (a' := ?qa13a) (by kernel_rfl) (by kernel_rfl) (by kernel_rfl) ?qa13p hS ?qa13n
        case qa13p =>
          iterate 1 (apply Yl.cons rfl (by kernel_rfl); focus (rintro wx hx; obtain ⟨v0, v1, v2, v3⟩ := (HV4.out.carry hx).cells; have q0 := HQ.out wx (HD4.out.trans (hx.mono HD4.out.size)); obtain ⟨m0, m1, m2, m3, m4⟩ := (HM4.out.carry hx).cells; simp only [Mlo, Mhi, twoC] at m0 m1 m2 m3 m4; clear hx; go_simp; all_goals (with_reducible rfl)); try simp only [Act.put, List.setIfInBounds_toArray, List.set_cons_zero, List.set_cons_succ])
          exact Yl.nil
        try simp only [Act.put, List.setIfInBounds_toArray, List.set_cons_zero, List.set_cons_succ]
        refine wpAnyH_done (by kernel_rfl) ?_ _
        refine NoPanic.normal ?_
        exact ⟨rfl, (Aqa3, Aqa11, a1, c1), by first | rfl | simp only [Act.put, List.setIfInBounds_toArray, List.set_cons_zero, List.set_cons_succ], hat, How, hS⟩
      · skip
        obtain ⟨wqa14, ewqa14⟩ : ∃ wN, wqa2.alloc (.cells #[.slice none 0 0, .int .i64 0, .int .i64 0, .string { data := #[] }] 24) = wN := ⟨_, rfl⟩
        have hbb : Below wqa2.heap.size wqa2 wqa14 := by rw [← ewqa14]; exact (Below.refl _ _).alloc (Nat.le_refl _) _
        have hSN := hK _ _ hS hbb
        have Hqa15 := Hqa3.carry hbb
        obtain ⟨Aqa16, hAqa16⟩ : ∃ A, A = wqa2.heap.size := ⟨_, rfl⟩
        have Hqa16 : VzB wqa14 Aqa16 := by rw [← ewqa14, hAqa16]; exact VzB.new wqa2
        have Lqa16 : w4.heap.size ≤ Aqa16 := by rw [hAqa16]; exact hS.size
        refine wop_run (v := .pointer (some ⟨Aqa16, 0, none⟩)) (w' := wqa14) rfl (by kernel_rfl) (by rw [← ewqa14, hAqa16]; go_simp) ⟨hSN, ?_⟩
        clear hS hbb ewqa14 hAqa16
        have hS := hSN
        clear hSN
        try simp only [Act.put, List.setIfInBounds_toArray, List.set_cons_zero, List.set_cons_succ]
        refine reg_callg (i := 8) (R := fun v wy => ∃ a1 c1, v = .tuple #[.agg #[.slice a1 4 c1, .int .i64 1, .int .i64 0, .string (bs logS)], .int .i64 0] ∧ LvT wy a1 4 c1 twoW.1 ∧ Below wqa14.heap.size wqa14 wy) rfl (by kernel_rfl) (by kernel_rfl) (by go_simp; try rfl) (swp_lw (k := 0) (HT1.out.carry (HD4.out.trans (hS.mono HD4.out.size))) (HU1.out.carry (HD4.out.trans (hS.mono HD4.out.size))) Hqa15 (by decide) (by omega) (by omega) vn_s1 rfl) ?_
        rintro v9 wqa17 ⟨a1, c1, rfl, h7, hbb⟩
        have hSN := hK _ _ hS hbb
        refine ⟨hSN, ?_⟩
        have Hqa18 := Hqa15.carry hbb
        have Hqa19 := Hqa16.carry hbb
        have Hqa20 := h7
        clear h7
        clear hS hbb
        have hS := hSN
        clear hSN
        try simp only [Act.put, List.setIfInBounds_toArray, List.set_cons_zero, List.set_cons_succ]
        refine reg_plan [9, 10, 11] (fuel := 2) (a' := ?qa21a) (by kernel_rfl) (by kernel_rfl) (by kernel_rfl) ?qa21p hS ?qa21n
        case qa21p =>
          iterate 3 (apply Yl.cons rfl (by kernel_rfl); focus (rintro wx hx; obtain ⟨v0, v1, v2, v3⟩ := (HV4.out.carry hx).cells; have q0 := HQ.out wx (HD4.out.trans (hx.mono HD4.out.size)); obtain ⟨m0, m1, m2, m3, m4⟩ := (HM4.out.carry hx).cells; simp only [Mlo, Mhi, twoC] at m0 m1 m2 m3 m4; clear hx; go_simp; all_goals (with_reducible rfl)); try simp only [Act.put, List.setIfInBounds_toArray, List.set_cons_zero, List.set_cons_succ])
          exact Yl.nil
        try simp only [Act.put, List.setIfInBounds_toArray, List.set_cons_zero, List.set_cons_succ]
        obtain ⟨c0', c1', c2', c3'⟩ := Hqa19.at.cells
        have f0 := Hqa19.at.fz 0
        have f1 := Hqa19.at.fz 1
        have f2 := Hqa19.at.fz 2
        have f3 := Hqa19.at.fz 3
        have hat : VvAt (set4v wqa17 Aqa16 (.slice a1 4 c1) (.int .i64 1) (.int .i64 0) (.string (bs logS))) Aqa16 (.slice a1 4 c1) 1 0 logS := VvAt.put (v' := (.slice a1 4 c1)) (nx' := 1) (sq' := 0) (lg' := logS) Hqa19.at
        have hSN : Below w4.heap.size w4 (set4v wqa17 Aqa16 (.slice a1 4 c1) (.int .i64 1) (.int .i64 0) (.string (bs logS))) := below_set4v hS Lqa16 _ _ _ _
        have How := LvT.keepV Hqa20 (keep_set4v Hqa19.at (.slice a1 4 c1) 1 0 logS)
        obtain ⟨wqa22, ewqa22⟩ : ∃ wN, (set4v wqa17 Aqa16 (.slice a1 4 c1) (.int .i64 1) (.int .i64 0) (.string (bs logS))) = wN := ⟨_, rfl⟩
        rw [ewqa22] at hat hSN How
        unfold set4v at ewqa22
        refine reg_unit (i := 13) (w' := wqa22) rfl (by kernel_rfl) (by kernel_rfl) (by rw [← ewqa22]; go_simp) hSN ?_
        clear hS ewqa22 c0' c1' c2' c3' f0 f1 f2 f3
        have hS := hSN
        clear hSN
        try simp only [Act.put, List.setIfInBounds_toArray, List.set_cons_zero, List.set_cons_succ]
        refine reg_plan [14] (fuel := 0) (a' := ?qa23a) (by kernel_rfl) (by kernel_rfl) (by kernel_rfl) ?qa23p hS ?qa23n
        case qa23p =>
          iterate 1 (apply Yl.cons rfl (by kernel_rfl); focus (rintro wx hx; obtain ⟨v0, v1, v2, v3⟩ := (HV4.out.carry hx).cells; have q0 := HQ.out wx (HD4.out.trans (hx.mono HD4.out.size)); obtain ⟨m0, m1, m2, m3, m4⟩ := (HM4.out.carry hx).cells; simp only [Mlo, Mhi, twoC] at m0 m1 m2 m3 m4; clear hx; go_simp; all_goals (with_reducible rfl)); try simp only [Act.put, List.setIfInBounds_toArray, List.set_cons_zero, List.set_cons_succ])
          exact Yl.nil
        try simp only [Act.put, List.setIfInBounds_toArray, List.set_cons_zero, List.set_cons_succ]
        refine wpAnyH_done (by kernel_rfl) ?_ _
        refine NoPanic.normal ?_
        exact ⟨rfl, (Aqa3, Aqa16, a1, c1), by first | rfl | simp only [Act.put, List.setIfInBounds_toArray, List.set_cons_zero, List.set_cons_succ], hat, How, hS⟩
    · skip
      obtain ⟨wqa24, ewqa24⟩ : ∃ wN, wd.alloc (.cells #[.slice none 0 0, .int .i64 0, .int .i64 0, .string { data := #[] }] 24) = wN := ⟨_, rfl⟩
      have hbb : Below wd.heap.size wd wqa24 := by rw [← ewqa24]; exact (Below.refl _ _).alloc (Nat.le_refl _) _
      have hSN := hK _ _ hS hbb
      obtain ⟨Aqa25, hAqa25⟩ : ∃ A, A = wd.heap.size := ⟨_, rfl⟩
      have Hqa25 : VzB wqa24 Aqa25 := by rw [← ewqa24, hAqa25]; exact VzB.new wd
      have Lqa25 : w4.heap.size ≤ Aqa25 := by rw [hAqa25]; exact hS.size
      refine wop_run (v := .pointer (some ⟨Aqa25, 0, none⟩)) (w' := wqa24) rfl (by kernel_rfl) (by rw [← ewqa24, hAqa25]; go_simp) ⟨hSN, ?_⟩
      clear hS hbb ewqa24 hAqa25
      have hS := hSN
      clear hSN
      try simp only [Act.put, List.setIfInBounds_toArray, List.set_cons_zero, List.set_cons_succ]
      obtain ⟨wqa26, ewqa26⟩ : ∃ wN, wqa24.alloc (.cells #[.string (bs [99]), .int .i64 1, .int .i64 1, .string (bs [98]), .string (bs [102])] 28) = wN := ⟨_, rfl⟩
      have hbb : Below wqa24.heap.size wqa24 wqa26 := by rw [← ewqa26]; exact (Below.refl _ _).alloc (Nat.le_refl _) _
      have hSN := hK _ _ hS hbb
      have Hqa27 := Hqa25.carry hbb
      obtain ⟨Aqa28, hAqa28⟩ : ∃ A, A = wqa24.heap.size := ⟨_, rfl⟩
      have Hqa28 : RdM wqa26 (.slice (some ⟨Aqa28, 0, none⟩) 1 1) oneC := by rw [← ewqa26, hAqa28]; exact oneC_rd wqa24
      have Lqa28 : w4.heap.size ≤ Aqa28 := by rw [hAqa28]; exact hS.size
      refine reg_run (i := 7) (v := .slice (some ⟨Aqa28, 0, none⟩) 1 1) (w' := wqa26) rfl (by kernel_rfl) (by kernel_rfl) (by rw [← ewqa26, hAqa28]; go_simp) hSN ?_
      clear hS hbb ewqa26 hAqa28
      have hS := hSN
      clear hSN
      try simp only [Act.put, List.setIfInBounds_toArray, List.set_cons_zero, List.set_cons_succ]
      refine reg_callg (i := 8) (R := fun v wy => ∃ a1 c1, v = .tuple #[.agg #[.slice a1 4 c1, .int .i64 1, .int .i64 0, .string (bs logS)], .int .i64 0] ∧ LvT wy a1 4 c1 twoW.1 ∧ Below wqa26.heap.size wqa26 wy) rfl (by kernel_rfl) (by kernel_rfl) (by go_simp; try rfl) (swp_lw (k := 0) (HT1.out.carry (HD4.out.trans (hS.mono HD4.out.size))) (HU1.out.carry (HD4.out.trans (hS.mono HD4.out.size))) Hqa28 (by decide) (by omega) (by omega) vn_s1 rfl) ?_
      rintro v9 wqa29 ⟨a1, c1, rfl, h7, hbb⟩
      have hSN := hK _ _ hS hbb
      refine ⟨hSN, ?_⟩
      have Hqa30 := Hqa27.carry hbb
      have Hqa31 := Hqa28.carry hbb
      have Hqa32 := h7
      clear h7
      clear hS hbb
      have hS := hSN
      clear hSN
      try simp only [Act.put, List.setIfInBounds_toArray, List.set_cons_zero, List.set_cons_succ]
      refine reg_plan [9, 10, 11] (fuel := 2) (a' := ?qa33a) (by kernel_rfl) (by kernel_rfl) (by kernel_rfl) ?qa33p hS ?qa33n
      case qa33p =>
        iterate 3 (apply Yl.cons rfl (by kernel_rfl); focus (rintro wx hx; obtain ⟨v0, v1, v2, v3⟩ := (HV4.out.carry hx).cells; have q0 := HQ.out wx (HD4.out.trans (hx.mono HD4.out.size)); obtain ⟨m0, m1, m2, m3, m4⟩ := (HM4.out.carry hx).cells; simp only [Mlo, Mhi, twoC] at m0 m1 m2 m3 m4; clear hx; go_simp; all_goals (with_reducible rfl)); try simp only [Act.put, List.setIfInBounds_toArray, List.set_cons_zero, List.set_cons_succ])
        exact Yl.nil
      try simp only [Act.put, List.setIfInBounds_toArray, List.set_cons_zero, List.set_cons_succ]
      obtain ⟨c0', c1', c2', c3'⟩ := Hqa30.at.cells
      have f0 := Hqa30.at.fz 0
      have f1 := Hqa30.at.fz 1
      have f2 := Hqa30.at.fz 2
      have f3 := Hqa30.at.fz 3
      have hat : VvAt (set4v wqa29 Aqa25 (.slice a1 4 c1) (.int .i64 1) (.int .i64 0) (.string (bs logS))) Aqa25 (.slice a1 4 c1) 1 0 logS := VvAt.put (v' := (.slice a1 4 c1)) (nx' := 1) (sq' := 0) (lg' := logS) Hqa30.at
      have hSN : Below w4.heap.size w4 (set4v wqa29 Aqa25 (.slice a1 4 c1) (.int .i64 1) (.int .i64 0) (.string (bs logS))) := below_set4v hS Lqa25 _ _ _ _
      have How := LvT.keepV Hqa32 (keep_set4v Hqa30.at (.slice a1 4 c1) 1 0 logS)
      obtain ⟨wqa34, ewqa34⟩ : ∃ wN, (set4v wqa29 Aqa25 (.slice a1 4 c1) (.int .i64 1) (.int .i64 0) (.string (bs logS))) = wN := ⟨_, rfl⟩
      rw [ewqa34] at hat hSN How
      unfold set4v at ewqa34
      refine reg_unit (i := 13) (w' := wqa34) rfl (by kernel_rfl) (by kernel_rfl) (by rw [← ewqa34]; go_simp) hSN ?_
      clear hS ewqa34 c0' c1' c2' c3' f0 f1 f2 f3
      have hS := hSN
      clear hSN
      try simp only [Act.put, List.setIfInBounds_toArray, List.set_cons_zero, List.set_cons_succ]
      refine reg_plan [14] (fuel := 0) (a' := ?qa35a) (by kernel_rfl) (by kernel_rfl) (by kernel_rfl) ?qa35p hS ?qa35n
      case qa35p =>
        iterate 1 (apply Yl.cons rfl (by kernel_rfl); focus (rintro wx hx; obtain ⟨v0, v1, v2, v3⟩ := (HV4.out.carry hx).cells; have q0 := HQ.out wx (HD4.out.trans (hx.mono HD4.out.size)); obtain ⟨m0, m1, m2, m3, m4⟩ := (HM4.out.carry hx).cells; simp only [Mlo, Mhi, twoC] at m0 m1 m2 m3 m4; clear hx; go_simp; all_goals (with_reducible rfl)); try simp only [Act.put, List.setIfInBounds_toArray, List.set_cons_zero, List.set_cons_succ])
        exact Yl.nil
      try simp only [Act.put, List.setIfInBounds_toArray, List.set_cons_zero, List.set_cons_succ]
      refine wpAnyH_done (by kernel_rfl) ?_ _
      refine NoPanic.normal ?_
      exact ⟨rfl, (Aqa28, Aqa25, a1, c1), by first | rfl | simp only [Act.put, List.setIfInBounds_toArray, List.set_cons_zero, List.set_cons_succ], hat, How, hS⟩
  case impqa =>
  rintro ⟨G7, A4, aw, cw⟩ w5 ⟨hat, hres, hbz⟩
  simp only [Act.put, List.setIfInBounds_toArray, List.set_cons_zero, List.set_cons_succ]
  dsimp only at hat hres
  have HW5 := hide hat
  have HR5 := hide hres
  have HV5 := hide (HV4.out.carry hbz)
  have HM5 := hide (HM4.out.carry hbz)
  have HD5 := hide (HD4.out.trans (hbz.mono HD4.out.size))
  have HB5 := hide (HB4.out.trans (hbz.mono HB4.out.size))
  clear hat hres hbz HV4 HM4 HD4 HB4
  have hc := nms_lw HR5.out
  obtain ⟨u0, u1, u2, u3⟩ := HW5.out.cells
  go_wp2_with fail
  refine hc.mono ?_
  rintro e w6 ⟨an, cn, rfl, hN, b6⟩
  have HN6 := hide hN
  clear hN u0 u1 u2 u3
  have HW6 := hide (HW5.out.carry b6)
  have HR6 := hide (HR5.out.carry b6)
  have HV6 := hide (HV5.out.carry b6)
  have HM6 := hide (HM5.out.carry b6)
  have HD6 := hide (HD5.out.trans (b6.mono HD5.out.size))
  have HB6 := hide (HB5.out.trans (b6.mono HB5.out.size))
  clear HW5 HR5 HV5 HM5 HD5 HB5
  clear hc b6
  go_wp2_with fail
  refine region_cut (α := Nat × Nat × Nat × Option Addr × Nat) (F := fun bx a => ((((((((((((((a.put (some 44) (.agg #[.slice aw 4 cw, .int .i64 1, .int .i64 0, .string (bs logS)])).put (some 45) (.agg #[.string (bs [99]), .int .i64 1, .int .i64 1, .string (bs [98]), .string (bs [102])])).put (some 46) (.slice (some ⟨bx.1, 0, none⟩) 1 1)).put (some 47) (.agg #[.int .i64 1, .slice (some ⟨bx.1, 0, none⟩) 1 1, .slice none 0 0])).put (some 48) (.agg #[.string (bs [100]), .int .i64 1, .int .i64 1, .string (bs [98]), .string (bs [99])])).put (some 49) (.agg #[.string (bs [101]), .int .i64 1, .int .i64 1, .string (bs [99]), .string (bs [102])])).put (some 50) (.slice (some ⟨bx.2.1, 0, none⟩) 2 2)).put (some 51) (.tuple #[(.agg #[.slice bx.2.2.2.1 0 bx.2.2.2.2, .int .i64 0, .int .i64 0, .string (bs [])]), .int .i64 8])).put (some 43) (.tuple #[(.agg #[.slice bx.2.2.2.1 0 bx.2.2.2.2, .int .i64 0, .int .i64 0, .string (bs [])]), .int .i64 8])).put (some 52) (.agg #[.slice bx.2.2.2.1 0 bx.2.2.2.2, .int .i64 0, .int .i64 0, .string (bs [])])).put (some 53) (.int .i64 8)).put (some 8) (.pointer (some ⟨bx.2.2.1, 0, none⟩))).put none undef).put (some 9) (.int .i64 8))) (R := fun bx wz => Below w6.heap.size w6 wz) ?regqb ?impqb
  case regqb =>
    have hK : Keeps (fun wx => Below w6.heap.size w6 wx) := fun w1 w2 h hb => h.trans (hb.mono h.size)
    have hS0 : (fun wx => Below w6.heap.size w6 wx) w6 := Below.refl _ _
    refine reg_begin hK (by kernel_rfl) hS0 ?_
    intro hS
    generalize w6.drew = wd at *
    refine reg_plan [0, 1] (fuel := 12) (a' := ?qb1a) (by kernel_rfl) (by kernel_rfl) (by kernel_rfl) ?qb1p hS ?qb1n
    case qb1p =>
      iterate 2 (apply Yl.cons rfl (by kernel_rfl); focus (rintro wx hx; obtain ⟨v0, v1, v2, v3⟩ := (HV6.out.carry hx).cells; have q0 := HQ.out wx (HD6.out.trans (hx.mono HD6.out.size)); obtain ⟨m0, m1, m2, m3, m4⟩ := (HM6.out.carry hx).cells; simp only [Mlo, Mhi, twoC] at m0 m1 m2 m3 m4; obtain ⟨u0, u1, u2, u3⟩ := (HW6.out.carry hx).cells; clear hx; go_simp; all_goals (with_reducible rfl)); try simp only [Act.put, List.setIfInBounds_toArray, List.set_cons_zero, List.set_cons_succ])
      exact Yl.nil
    try simp only [Act.put, List.setIfInBounds_toArray, List.set_cons_zero, List.set_cons_succ]
    refine reg_three (i := 2) (j := 4) (k := 11) (by kernel_rfl) ?_ ?_ ?_
    · skip
      obtain ⟨wqb2, ewqb2⟩ : ∃ wN, wd.alloc (.cells #[.string (bs [99]), .int .i64 1, .int .i64 1, .string (bs [98]), .string (bs [102])] 28) = wN := ⟨_, rfl⟩
      have hbb : Below wd.heap.size wd wqb2 := by rw [← ewqb2]; exact (Below.refl _ _).alloc (Nat.le_refl _) _
      have hSN := hK _ _ hS hbb
      obtain ⟨Aqb3, hAqb3⟩ : ∃ A, A = wd.heap.size := ⟨_, rfl⟩
      have Hqb3 : RdM wqb2 (.slice (some ⟨Aqb3, 0, none⟩) 1 1) oneC := by rw [← ewqb2, hAqb3]; exact oneC_rd wd
      have Lqb3 : w6.heap.size ≤ Aqb3 := by rw [hAqb3]; exact hS.size
      refine wop_run (v := .slice (some ⟨Aqb3, 0, none⟩) 1 1) (w' := wqb2) rfl (by kernel_rfl) (by rw [← ewqb2, hAqb3]; go_simp) ⟨hSN, ?_⟩
      clear hS hbb ewqb2 hAqb3
      have hS := hSN
      clear hSN
      try simp only [Act.put, List.setIfInBounds_toArray, List.set_cons_zero, List.set_cons_succ]
      refine reg_plan [3] (fuel := 10) (a' := ?qb4a) (by kernel_rfl) (by kernel_rfl) (by kernel_rfl) ?qb4p hS ?qb4n
      case qb4p =>
        iterate 1 (apply Yl.cons rfl (by kernel_rfl); focus (rintro wx hx; obtain ⟨v0, v1, v2, v3⟩ := (HV6.out.carry hx).cells; have q0 := HQ.out wx (HD6.out.trans (hx.mono HD6.out.size)); obtain ⟨m0, m1, m2, m3, m4⟩ := (HM6.out.carry hx).cells; simp only [Mlo, Mhi, twoC] at m0 m1 m2 m3 m4; obtain ⟨u0, u1, u2, u3⟩ := (HW6.out.carry hx).cells; clear hx; go_simp; all_goals (with_reducible rfl)); try simp only [Act.put, List.setIfInBounds_toArray, List.set_cons_zero, List.set_cons_succ])
        exact Yl.nil
      try simp only [Act.put, List.setIfInBounds_toArray, List.set_cons_zero, List.set_cons_succ]
      refine reg_two (i := 4) (j := 11) (by kernel_rfl) ?_ ?_
      · skip
        refine wop_callg (R := fun v wy => v = .agg #[.string (bs [100]), .int .i64 1, .int .i64 1, .string (bs [98]), .string (bs [99])] ∧ Below wqb2.heap.size wqb2 wy) rfl (by kernel_rfl) (by go_simp; first | done | ((repeat' apply And.intro) <;> rfl)) ((table_lw [100] [98] [99] wqb2).mono fun e wy h => ⟨_, h.1, rfl, h.2⟩) ?_
        rintro v9 wqb5 ⟨rfl, hbb⟩
        have hSN := hK _ _ hS hbb
        refine ⟨hSN, ?_⟩
        have Hqb6 := Hqb3.carry hbb
        clear hS hbb
        have hS := hSN
        clear hSN
        try simp only [Act.put, List.setIfInBounds_toArray, List.set_cons_zero, List.set_cons_succ]
        refine reg_two (i := 5) (j := 11) (by kernel_rfl) ?_ ?_
        · skip
          refine wop_callg (R := fun v wy => v = .agg #[.string (bs [101]), .int .i64 1, .int .i64 1, .string (bs [99]), .string (bs [102])] ∧ Below wqb5.heap.size wqb5 wy) rfl (by kernel_rfl) (by go_simp; first | done | ((repeat' apply And.intro) <;> rfl)) ((table_lw [101] [99] [102] wqb5).mono fun e wy h => ⟨_, h.1, rfl, h.2⟩) ?_
          rintro v9 wqb7 ⟨rfl, hbb⟩
          have hSN := hK _ _ hS hbb
          refine ⟨hSN, ?_⟩
          have Hqb8 := Hqb6.carry hbb
          clear hS hbb
          have hS := hSN
          clear hSN
          try simp only [Act.put, List.setIfInBounds_toArray, List.set_cons_zero, List.set_cons_succ]
          refine reg_two (i := 6) (j := 11) (by kernel_rfl) ?_ ?_
          · skip
            obtain ⟨wqb9, ewqb9⟩ : ∃ wN, wqb7.alloc (.cells #[.string (bs [100]), .int .i64 1, .int .i64 1, .string (bs [98]), .string (bs [99]), .string (bs [101]), .int .i64 1, .int .i64 1, .string (bs [99]), .string (bs [102])] 28) = wN := ⟨_, rfl⟩
            have hbb : Below wqb7.heap.size wqb7 wqb9 := by rw [← ewqb9]; exact (Below.refl _ _).alloc (Nat.le_refl _) _
            have hSN := hK _ _ hS hbb
            have Hqb10 := Hqb8.carry hbb
            obtain ⟨Aqb11, hAqb11⟩ : ∃ A, A = wqb7.heap.size := ⟨_, rfl⟩
            have Hqb11 : RdM wqb9 (.slice (some ⟨Aqb11, 0, none⟩) 2 2) oneDE := by rw [← ewqb9, hAqb11]; exact oneDE_rd wqb7
            have Lqb11 : w6.heap.size ≤ Aqb11 := by rw [hAqb11]; exact hS.size
            refine wop_run (v := .slice (some ⟨Aqb11, 0, none⟩) 2 2) (w' := wqb9) rfl (by kernel_rfl) (by rw [← ewqb9, hAqb11]; go_simp) ⟨hSN, ?_⟩
            clear hS hbb ewqb9 hAqb11
            have hS := hSN
            clear hSN
            try simp only [Act.put, List.setIfInBounds_toArray, List.set_cons_zero, List.set_cons_succ]
            refine reg_two (i := 7) (j := 11) (by kernel_rfl) ?_ ?_
            · skip
              refine wop_callg (R := fun v wy => ∃ a1 c1, v = .tuple #[.agg #[.slice a1 0 c1, .int .i64 0, .int .i64 0, .string (bs [])], .int .i64 8] ∧ LvT wy a1 0 c1 [] ∧ Below wqb9.heap.size wqb9 wy) rfl (by kernel_rfl) (by go_simp; try rfl) (swp_lw (k := 1) (HR6.out.carry hS) Hqb10 Hqb11 (by decide) (by omega) (by omega) vn_s3 rfl) ?_
              rintro v9 wqb12 ⟨a1, c1, rfl, h7, hbb⟩
              have hSN := hK _ _ hS hbb
              refine ⟨hSN, ?_⟩
              have Hqb13 := Hqb10.carry hbb
              have Hqb14 := Hqb11.carry hbb
              clear h7
              clear hS hbb
              have hS := hSN
              clear hSN
              try simp only [Act.put, List.setIfInBounds_toArray, List.set_cons_zero, List.set_cons_succ]
              refine reg_plan [8, 9, 10] (fuel := 3) (a' := ?qb15a) (by kernel_rfl) (by kernel_rfl) (by kernel_rfl) ?qb15p hS ?qb15n
              case qb15p =>
                iterate 3 (apply Yl.cons rfl (by kernel_rfl); focus (rintro wx hx; obtain ⟨v0, v1, v2, v3⟩ := (HV6.out.carry hx).cells; have q0 := HQ.out wx (HD6.out.trans (hx.mono HD6.out.size)); obtain ⟨m0, m1, m2, m3, m4⟩ := (HM6.out.carry hx).cells; simp only [Mlo, Mhi, twoC] at m0 m1 m2 m3 m4; obtain ⟨u0, u1, u2, u3⟩ := (HW6.out.carry hx).cells; clear hx; go_simp; all_goals (with_reducible rfl)); try simp only [Act.put, List.setIfInBounds_toArray, List.set_cons_zero, List.set_cons_succ])
                exact Yl.nil
              try simp only [Act.put, List.setIfInBounds_toArray, List.set_cons_zero, List.set_cons_succ]
              obtain ⟨wqb16, ewqb16⟩ : ∃ wN, wqb12.alloc (.cells #[.slice none 0 0, .int .i64 0, .int .i64 0, .string { data := #[] }] 24) = wN := ⟨_, rfl⟩
              have hbb : Below wqb12.heap.size wqb12 wqb16 := by rw [← ewqb16]; exact (Below.refl _ _).alloc (Nat.le_refl _) _
              have hSN := hK _ _ hS hbb
              have Hqb17 := Hqb13.carry hbb
              have Hqb18 := Hqb14.carry hbb
              obtain ⟨Aqb19, hAqb19⟩ : ∃ A, A = wqb12.heap.size := ⟨_, rfl⟩
              have Hqb19 : VzB wqb16 Aqb19 := by rw [← ewqb16, hAqb19]; exact VzB.new wqb12
              have Lqb19 : w6.heap.size ≤ Aqb19 := by rw [hAqb19]; exact hS.size
              refine reg_run (i := 11) (v := .pointer (some ⟨Aqb19, 0, none⟩)) (w' := wqb16) rfl (by kernel_rfl) (by kernel_rfl) (by rw [← ewqb16, hAqb19]; go_simp) hSN ?_
              clear hS hbb ewqb16 hAqb19
              have hS := hSN
              clear hSN
              try simp only [Act.put, List.setIfInBounds_toArray, List.set_cons_zero, List.set_cons_succ]
              obtain ⟨c0', c1', c2', c3'⟩ := Hqb19.at.cells
              have f0 := Hqb19.at.fz 0
              have f1 := Hqb19.at.fz 1
              have f2 := Hqb19.at.fz 2
              have f3 := Hqb19.at.fz 3
              have hat : VvAt (set4v wqb16 Aqb19 (.slice a1 0 c1) (.int .i64 0) (.int .i64 0) (.string (bs []))) Aqb19 (.slice a1 0 c1) 0 0 [] := VvAt.put (v' := (.slice a1 0 c1)) (nx' := 0) (sq' := 0) (lg' := []) Hqb19.at
              have hSN : Below w6.heap.size w6 (set4v wqb16 Aqb19 (.slice a1 0 c1) (.int .i64 0) (.int .i64 0) (.string (bs []))) := below_set4v hS Lqb19 _ _ _ _
              obtain ⟨wqb20, ewqb20⟩ : ∃ wN, (set4v wqb16 Aqb19 (.slice a1 0 c1) (.int .i64 0) (.int .i64 0) (.string (bs []))) = wN := ⟨_, rfl⟩
              rw [ewqb20] at hat hSN
              unfold set4v at ewqb20
              refine reg_unit (i := 12) (w' := wqb20) rfl (by kernel_rfl) (by kernel_rfl) (by rw [← ewqb20]; go_simp) hSN ?_
              clear hS ewqb20 c0' c1' c2' c3' f0 f1 f2 f3
              have hS := hSN
              clear hSN
              try simp only [Act.put, List.setIfInBounds_toArray, List.set_cons_zero, List.set_cons_succ]
              refine reg_plan [13] (fuel := 0) (a' := ?qb21a) (by kernel_rfl) (by kernel_rfl) (by kernel_rfl) ?qb21p hS ?qb21n
              case qb21p =>
                iterate 1 (apply Yl.cons rfl (by kernel_rfl); focus (rintro wx hx; obtain ⟨v0, v1, v2, v3⟩ := (HV6.out.carry hx).cells; have q0 := HQ.out wx (HD6.out.trans (hx.mono HD6.out.size)); obtain ⟨m0, m1, m2, m3, m4⟩ := (HM6.out.carry hx).cells; simp only [Mlo, Mhi, twoC] at m0 m1 m2 m3 m4; obtain ⟨u0, u1, u2, u3⟩ := (HW6.out.carry hx).cells; clear hx; go_simp; all_goals (with_reducible rfl)); try simp only [Act.put, List.setIfInBounds_toArray, List.set_cons_zero, List.set_cons_succ])
                exact Yl.nil
              try simp only [Act.put, List.setIfInBounds_toArray, List.set_cons_zero, List.set_cons_succ]
              refine wpAnyH_done (by kernel_rfl) ?_ _
              refine NoPanic.normal ?_
              exact ⟨rfl, (Aqb3, Aqb11, Aqb19, a1, c1), by first | rfl | simp only [Act.put, List.setIfInBounds_toArray, List.set_cons_zero, List.set_cons_succ], hS⟩
            · skip
              obtain ⟨wqb22, ewqb22⟩ : ∃ wN, wqb9.alloc (.cells #[.slice none 0 0, .int .i64 0, .int .i64 0, .string { data := #[] }] 24) = wN := ⟨_, rfl⟩
              have hbb : Below wqb9.heap.size wqb9 wqb22 := by rw [← ewqb22]; exact (Below.refl _ _).alloc (Nat.le_refl _) _
              have hSN := hK _ _ hS hbb
              have Hqb23 := Hqb10.carry hbb
              have Hqb24 := Hqb11.carry hbb
              obtain ⟨Aqb25, hAqb25⟩ : ∃ A, A = wqb9.heap.size := ⟨_, rfl⟩
              have Hqb25 : VzB wqb22 Aqb25 := by rw [← ewqb22, hAqb25]; exact VzB.new wqb9
              have Lqb25 : w6.heap.size ≤ Aqb25 := by rw [hAqb25]; exact hS.size
              refine wop_run (v := .pointer (some ⟨Aqb25, 0, none⟩)) (w' := wqb22) rfl (by kernel_rfl) (by rw [← ewqb22, hAqb25]; go_simp) ⟨hSN, ?_⟩
              clear hS hbb ewqb22 hAqb25
              have hS := hSN
              clear hSN
              try simp only [Act.put, List.setIfInBounds_toArray, List.set_cons_zero, List.set_cons_succ]
              refine reg_callg (i := 7) (R := fun v wy => ∃ a1 c1, v = .tuple #[.agg #[.slice a1 0 c1, .int .i64 0, .int .i64 0, .string (bs [])], .int .i64 8] ∧ LvT wy a1 0 c1 [] ∧ Below wqb22.heap.size wqb22 wy) rfl (by kernel_rfl) (by kernel_rfl) (by go_simp; try rfl) (swp_lw (k := 1) (HR6.out.carry hS) Hqb23 Hqb24 (by decide) (by omega) (by omega) vn_s3 rfl) ?_
              rintro v9 wqb26 ⟨a1, c1, rfl, h7, hbb⟩
              have hSN := hK _ _ hS hbb
              refine ⟨hSN, ?_⟩
              have Hqb27 := Hqb23.carry hbb
              have Hqb28 := Hqb24.carry hbb
              have Hqb29 := Hqb25.carry hbb
              clear h7
              clear hS hbb
              have hS := hSN
              clear hSN
              try simp only [Act.put, List.setIfInBounds_toArray, List.set_cons_zero, List.set_cons_succ]
              refine reg_plan [8, 9, 10] (fuel := 2) (a' := ?qb30a) (by kernel_rfl) (by kernel_rfl) (by kernel_rfl) ?qb30p hS ?qb30n
              case qb30p =>
                iterate 3 (apply Yl.cons rfl (by kernel_rfl); focus (rintro wx hx; obtain ⟨v0, v1, v2, v3⟩ := (HV6.out.carry hx).cells; have q0 := HQ.out wx (HD6.out.trans (hx.mono HD6.out.size)); obtain ⟨m0, m1, m2, m3, m4⟩ := (HM6.out.carry hx).cells; simp only [Mlo, Mhi, twoC] at m0 m1 m2 m3 m4; obtain ⟨u0, u1, u2, u3⟩ := (HW6.out.carry hx).cells; clear hx; go_simp; all_goals (with_reducible rfl)); try simp only [Act.put, List.setIfInBounds_toArray, List.set_cons_zero, List.set_cons_succ])
                exact Yl.nil
              try simp only [Act.put, List.setIfInBounds_toArray, List.set_cons_zero, List.set_cons_succ]
              obtain ⟨c0', c1', c2', c3'⟩ := Hqb29.at.cells
              have f0 := Hqb29.at.fz 0
              have f1 := Hqb29.at.fz 1
              have f2 := Hqb29.at.fz 2
              have f3 := Hqb29.at.fz 3
              have hat : VvAt (set4v wqb26 Aqb25 (.slice a1 0 c1) (.int .i64 0) (.int .i64 0) (.string (bs []))) Aqb25 (.slice a1 0 c1) 0 0 [] := VvAt.put (v' := (.slice a1 0 c1)) (nx' := 0) (sq' := 0) (lg' := []) Hqb29.at
              have hSN : Below w6.heap.size w6 (set4v wqb26 Aqb25 (.slice a1 0 c1) (.int .i64 0) (.int .i64 0) (.string (bs []))) := below_set4v hS Lqb25 _ _ _ _
              obtain ⟨wqb31, ewqb31⟩ : ∃ wN, (set4v wqb26 Aqb25 (.slice a1 0 c1) (.int .i64 0) (.int .i64 0) (.string (bs []))) = wN := ⟨_, rfl⟩
              rw [ewqb31] at hat hSN
              unfold set4v at ewqb31
              refine reg_unit (i := 12) (w' := wqb31) rfl (by kernel_rfl) (by kernel_rfl) (by rw [← ewqb31]; go_simp) hSN ?_
              clear hS ewqb31 c0' c1' c2' c3' f0 f1 f2 f3
              have hS := hSN
              clear hSN
              try simp only [Act.put, List.setIfInBounds_toArray, List.set_cons_zero, List.set_cons_succ]
              refine reg_plan [13] (fuel := 0) (a' := ?qb32a) (by kernel_rfl) (by kernel_rfl) (by kernel_rfl) ?qb32p hS ?qb32n
              case qb32p =>
                iterate 1 (apply Yl.cons rfl (by kernel_rfl); focus (rintro wx hx; obtain ⟨v0, v1, v2, v3⟩ := (HV6.out.carry hx).cells; have q0 := HQ.out wx (HD6.out.trans (hx.mono HD6.out.size)); obtain ⟨m0, m1, m2, m3, m4⟩ := (HM6.out.carry hx).cells; simp only [Mlo, Mhi, twoC] at m0 m1 m2 m3 m4; obtain ⟨u0, u1, u2, u3⟩ := (HW6.out.carry hx).cells; clear hx; go_simp; all_goals (with_reducible rfl)); try simp only [Act.put, List.setIfInBounds_toArray, List.set_cons_zero, List.set_cons_succ])
                exact Yl.nil
              try simp only [Act.put, List.setIfInBounds_toArray, List.set_cons_zero, List.set_cons_succ]
              refine wpAnyH_done (by kernel_rfl) ?_ _
              refine NoPanic.normal ?_
              exact ⟨rfl, (Aqb3, Aqb11, Aqb25, a1, c1), by first | rfl | simp only [Act.put, List.setIfInBounds_toArray, List.set_cons_zero, List.set_cons_succ], hS⟩
          · skip
            obtain ⟨wqb33, ewqb33⟩ : ∃ wN, wqb7.alloc (.cells #[.slice none 0 0, .int .i64 0, .int .i64 0, .string { data := #[] }] 24) = wN := ⟨_, rfl⟩
            have hbb : Below wqb7.heap.size wqb7 wqb33 := by rw [← ewqb33]; exact (Below.refl _ _).alloc (Nat.le_refl _) _
            have hSN := hK _ _ hS hbb
            have Hqb34 := Hqb8.carry hbb
            obtain ⟨Aqb35, hAqb35⟩ : ∃ A, A = wqb7.heap.size := ⟨_, rfl⟩
            have Hqb35 : VzB wqb33 Aqb35 := by rw [← ewqb33, hAqb35]; exact VzB.new wqb7
            have Lqb35 : w6.heap.size ≤ Aqb35 := by rw [hAqb35]; exact hS.size
            refine wop_run (v := .pointer (some ⟨Aqb35, 0, none⟩)) (w' := wqb33) rfl (by kernel_rfl) (by rw [← ewqb33, hAqb35]; go_simp) ⟨hSN, ?_⟩
            clear hS hbb ewqb33 hAqb35
            have hS := hSN
            clear hSN
            try simp only [Act.put, List.setIfInBounds_toArray, List.set_cons_zero, List.set_cons_succ]
            obtain ⟨wqb36, ewqb36⟩ : ∃ wN, wqb33.alloc (.cells #[.string (bs [100]), .int .i64 1, .int .i64 1, .string (bs [98]), .string (bs [99]), .string (bs [101]), .int .i64 1, .int .i64 1, .string (bs [99]), .string (bs [102])] 28) = wN := ⟨_, rfl⟩
            have hbb : Below wqb33.heap.size wqb33 wqb36 := by rw [← ewqb36]; exact (Below.refl _ _).alloc (Nat.le_refl _) _
            have hSN := hK _ _ hS hbb
            have Hqb37 := Hqb34.carry hbb
            have Hqb38 := Hqb35.carry hbb
            obtain ⟨Aqb39, hAqb39⟩ : ∃ A, A = wqb33.heap.size := ⟨_, rfl⟩
            have Hqb39 : RdM wqb36 (.slice (some ⟨Aqb39, 0, none⟩) 2 2) oneDE := by rw [← ewqb36, hAqb39]; exact oneDE_rd wqb33
            have Lqb39 : w6.heap.size ≤ Aqb39 := by rw [hAqb39]; exact hS.size
            refine reg_run (i := 6) (v := .slice (some ⟨Aqb39, 0, none⟩) 2 2) (w' := wqb36) rfl (by kernel_rfl) (by kernel_rfl) (by rw [← ewqb36, hAqb39]; go_simp) hSN ?_
            clear hS hbb ewqb36 hAqb39
            have hS := hSN
            clear hSN
            try simp only [Act.put, List.setIfInBounds_toArray, List.set_cons_zero, List.set_cons_succ]
            refine reg_callg (i := 7) (R := fun v wy => ∃ a1 c1, v = .tuple #[.agg #[.slice a1 0 c1, .int .i64 0, .int .i64 0, .string (bs [])], .int .i64 8] ∧ LvT wy a1 0 c1 [] ∧ Below wqb36.heap.size wqb36 wy) rfl (by kernel_rfl) (by kernel_rfl) (by go_simp; try rfl) (swp_lw (k := 1) (HR6.out.carry hS) Hqb37 Hqb39 (by decide) (by omega) (by omega) vn_s3 rfl) ?_
            rintro v9 wqb40 ⟨a1, c1, rfl, h7, hbb⟩
            have hSN := hK _ _ hS hbb
            refine ⟨hSN, ?_⟩
            have Hqb41 := Hqb37.carry hbb
            have Hqb42 := Hqb38.carry hbb
            have Hqb43 := Hqb39.carry hbb
            clear h7
            clear hS hbb
            have hS := hSN
            clear hSN
            try simp only [Act.put, List.setIfInBounds_toArray, List.set_cons_zero, List.set_cons_succ]
            refine reg_plan [8, 9, 10] (fuel := 2) (a' := ?qb44a) (by kernel_rfl) (by kernel_rfl) (by kernel_rfl) ?qb44p hS ?qb44n
            case qb44p =>
              iterate 3 (apply Yl.cons rfl (by kernel_rfl); focus (rintro wx hx; obtain ⟨v0, v1, v2, v3⟩ := (HV6.out.carry hx).cells; have q0 := HQ.out wx (HD6.out.trans (hx.mono HD6.out.size)); obtain ⟨m0, m1, m2, m3, m4⟩ := (HM6.out.carry hx).cells; simp only [Mlo, Mhi, twoC] at m0 m1 m2 m3 m4; obtain ⟨u0, u1, u2, u3⟩ := (HW6.out.carry hx).cells; clear hx; go_simp; all_goals (with_reducible rfl)); try simp only [Act.put, List.setIfInBounds_toArray, List.set_cons_zero, List.set_cons_succ])
              exact Yl.nil
            try simp only [Act.put, List.setIfInBounds_toArray, List.set_cons_zero, List.set_cons_succ]
            obtain ⟨c0', c1', c2', c3'⟩ := Hqb42.at.cells
            have f0 := Hqb42.at.fz 0
            have f1 := Hqb42.at.fz 1
            have f2 := Hqb42.at.fz 2
            have f3 := Hqb42.at.fz 3
            have hat : VvAt (set4v wqb40 Aqb35 (.slice a1 0 c1) (.int .i64 0) (.int .i64 0) (.string (bs []))) Aqb35 (.slice a1 0 c1) 0 0 [] := VvAt.put (v' := (.slice a1 0 c1)) (nx' := 0) (sq' := 0) (lg' := []) Hqb42.at
            have hSN : Below w6.heap.size w6 (set4v wqb40 Aqb35 (.slice a1 0 c1) (.int .i64 0) (.int .i64 0) (.string (bs []))) := below_set4v hS Lqb35 _ _ _ _
            obtain ⟨wqb45, ewqb45⟩ : ∃ wN, (set4v wqb40 Aqb35 (.slice a1 0 c1) (.int .i64 0) (.int .i64 0) (.string (bs []))) = wN := ⟨_, rfl⟩
            rw [ewqb45] at hat hSN
            unfold set4v at ewqb45
            refine reg_unit (i := 12) (w' := wqb45) rfl (by kernel_rfl) (by kernel_rfl) (by rw [← ewqb45]; go_simp) hSN ?_
            clear hS ewqb45 c0' c1' c2' c3' f0 f1 f2 f3
            have hS := hSN
            clear hSN
            try simp only [Act.put, List.setIfInBounds_toArray, List.set_cons_zero, List.set_cons_succ]
            refine reg_plan [13] (fuel := 0) (a' := ?qb46a) (by kernel_rfl) (by kernel_rfl) (by kernel_rfl) ?qb46p hS ?qb46n
            case qb46p =>
              iterate 1 (apply Yl.cons rfl (by kernel_rfl); focus (rintro wx hx; obtain ⟨v0, v1, v2, v3⟩ := (HV6.out.carry hx).cells; have q0 := HQ.out wx (HD6.out.trans (hx.mono HD6.out.size)); obtain ⟨m0, m1, m2, m3, m4⟩ := (HM6.out.carry hx).cells; simp only [Mlo, Mhi, twoC] at m0 m1 m2 m3 m4; obtain ⟨u0, u1, u2, u3⟩ := (HW6.out.carry hx).cells; clear hx; go_simp; all_goals (with_reducible rfl)); try simp only [Act.put, List.setIfInBounds_toArray, List.set_cons_zero, List.set_cons_succ])
              exact Yl.nil
            try simp only [Act.put, List.setIfInBounds_toArray, List.set_cons_zero, List.set_cons_succ]
            refine wpAnyH_done (by kernel_rfl) ?_ _
            refine NoPanic.normal ?_
            exact ⟨rfl, (Aqb3, Aqb39, Aqb35, a1, c1), by first | rfl | simp only [Act.put, List.setIfInBounds_toArray, List.set_cons_zero, List.set_cons_succ], hS⟩
        · skip
          obtain ⟨wqb47, ewqb47⟩ : ∃ wN, wqb5.alloc (.cells #[.slice none 0 0, .int .i64 0, .int .i64 0, .string { data := #[] }] 24) = wN := ⟨_, rfl⟩
          have hbb : Below wqb5.heap.size wqb5 wqb47 := by rw [← ewqb47]; exact (Below.refl _ _).alloc (Nat.le_refl _) _
          have hSN := hK _ _ hS hbb
          have Hqb48 := Hqb6.carry hbb
          obtain ⟨Aqb49, hAqb49⟩ : ∃ A, A = wqb5.heap.size := ⟨_, rfl⟩
          have Hqb49 : VzB wqb47 Aqb49 := by rw [← ewqb47, hAqb49]; exact VzB.new wqb5
          have Lqb49 : w6.heap.size ≤ Aqb49 := by rw [hAqb49]; exact hS.size
          refine wop_run (v := .pointer (some ⟨Aqb49, 0, none⟩)) (w' := wqb47) rfl (by kernel_rfl) (by rw [← ewqb47, hAqb49]; go_simp) ⟨hSN, ?_⟩
          clear hS hbb ewqb47 hAqb49
          have hS := hSN
          clear hSN
          try simp only [Act.put, List.setIfInBounds_toArray, List.set_cons_zero, List.set_cons_succ]
          refine reg_callg (i := 5) (R := fun v wy => v = .agg #[.string (bs [101]), .int .i64 1, .int .i64 1, .string (bs [99]), .string (bs [102])] ∧ Below wqb47.heap.size wqb47 wy) rfl (by kernel_rfl) (by kernel_rfl) (by go_simp; first | done | ((repeat' apply And.intro) <;> rfl)) ((table_lw [101] [99] [102] wqb47).mono fun e wy h => ⟨_, h.1, rfl, h.2⟩) ?_
          rintro v9 wqb50 ⟨rfl, hbb⟩
          have hSN := hK _ _ hS hbb
          refine ⟨hSN, ?_⟩
          have Hqb51 := Hqb48.carry hbb
          have Hqb52 := Hqb49.carry hbb
          clear hS hbb
          have hS := hSN
          clear hSN
          try simp only [Act.put, List.setIfInBounds_toArray, List.set_cons_zero, List.set_cons_succ]
          obtain ⟨wqb53, ewqb53⟩ : ∃ wN, wqb50.alloc (.cells #[.string (bs [100]), .int .i64 1, .int .i64 1, .string (bs [98]), .string (bs [99]), .string (bs [101]), .int .i64 1, .int .i64 1, .string (bs [99]), .string (bs [102])] 28) = wN := ⟨_, rfl⟩
          have hbb : Below wqb50.heap.size wqb50 wqb53 := by rw [← ewqb53]; exact (Below.refl _ _).alloc (Nat.le_refl _) _
          have hSN := hK _ _ hS hbb
          have Hqb54 := Hqb51.carry hbb
          have Hqb55 := Hqb52.carry hbb
          obtain ⟨Aqb56, hAqb56⟩ : ∃ A, A = wqb50.heap.size := ⟨_, rfl⟩
          have Hqb56 : RdM wqb53 (.slice (some ⟨Aqb56, 0, none⟩) 2 2) oneDE := by rw [← ewqb53, hAqb56]; exact oneDE_rd wqb50
          have Lqb56 : w6.heap.size ≤ Aqb56 := by rw [hAqb56]; exact hS.size
          refine reg_run (i := 6) (v := .slice (some ⟨Aqb56, 0, none⟩) 2 2) (w' := wqb53) rfl (by kernel_rfl) (by kernel_rfl) (by rw [← ewqb53, hAqb56]; go_simp) hSN ?_
          clear hS hbb ewqb53 hAqb56
          have hS := hSN
          clear hSN
          try simp only [Act.put, List.setIfInBounds_toArray, List.set_cons_zero, List.set_cons_succ]
          refine reg_callg (i := 7) (R := fun v wy => ∃ a1 c1, v = .tuple #[.agg #[.slice a1 0 c1, .int .i64 0, .int .i64 0, .string (bs [])], .int .i64 8] ∧ LvT wy a1 0 c1 [] ∧ Below wqb53.heap.size wqb53 wy) rfl (by kernel_rfl) (by kernel_rfl) (by go_simp; try rfl) (swp_lw (k := 1) (HR6.out.carry hS) Hqb54 Hqb56 (by decide) (by omega) (by omega) vn_s3 rfl) ?_
          rintro v9 wqb57 ⟨a1, c1, rfl, h7, hbb⟩
          have hSN := hK _ _ hS hbb
          refine ⟨hSN, ?_⟩
          have Hqb58 := Hqb54.carry hbb
          have Hqb59 := Hqb55.carry hbb
          have Hqb60 := Hqb56.carry hbb
          clear h7
          clear hS hbb
          have hS := hSN
          clear hSN
          try simp only [Act.put, List.setIfInBounds_toArray, List.set_cons_zero, List.set_cons_succ]
          refine reg_plan [8, 9, 10] (fuel := 2) (a' := ?qb61a) (by kernel_rfl) (by kernel_rfl) (by kernel_rfl) ?qb61p hS ?qb61n
          case qb61p =>
            iterate 3 (apply Yl.cons rfl (by kernel_rfl); focus (rintro wx hx; obtain ⟨v0, v1, v2, v3⟩ := (HV6.out.carry hx).cells; have q0 := HQ.out wx (HD6.out.trans (hx.mono HD6.out.size)); obtain ⟨m0, m1, m2, m3, m4⟩ := (HM6.out.carry hx).cells; simp only [Mlo, Mhi, twoC] at m0 m1 m2 m3 m4; obtain ⟨u0, u1, u2, u3⟩ := (HW6.out.carry hx).cells; clear hx; go_simp; all_goals (with_reducible rfl)); try simp only [Act.put, List.setIfInBounds_toArray, List.set_cons_zero, List.set_cons_succ])
            exact Yl.nil
          try simp only [Act.put, List.setIfInBounds_toArray, List.set_cons_zero, List.set_cons_succ]
          obtain ⟨c0', c1', c2', c3'⟩ := Hqb59.at.cells
          have f0 := Hqb59.at.fz 0
          have f1 := Hqb59.at.fz 1
          have f2 := Hqb59.at.fz 2
          have f3 := Hqb59.at.fz 3
          have hat : VvAt (set4v wqb57 Aqb49 (.slice a1 0 c1) (.int .i64 0) (.int .i64 0) (.string (bs []))) Aqb49 (.slice a1 0 c1) 0 0 [] := VvAt.put (v' := (.slice a1 0 c1)) (nx' := 0) (sq' := 0) (lg' := []) Hqb59.at
          have hSN : Below w6.heap.size w6 (set4v wqb57 Aqb49 (.slice a1 0 c1) (.int .i64 0) (.int .i64 0) (.string (bs []))) := below_set4v hS Lqb49 _ _ _ _
          obtain ⟨wqb62, ewqb62⟩ : ∃ wN, (set4v wqb57 Aqb49 (.slice a1 0 c1) (.int .i64 0) (.int .i64 0) (.string (bs []))) = wN := ⟨_, rfl⟩
          rw [ewqb62] at hat hSN
          unfold set4v at ewqb62
          refine reg_unit (i := 12) (w' := wqb62) rfl (by kernel_rfl) (by kernel_rfl) (by rw [← ewqb62]; go_simp) hSN ?_
          clear hS ewqb62 c0' c1' c2' c3' f0 f1 f2 f3
          have hS := hSN
          clear hSN
          try simp only [Act.put, List.setIfInBounds_toArray, List.set_cons_zero, List.set_cons_succ]
          refine reg_plan [13] (fuel := 0) (a' := ?qb63a) (by kernel_rfl) (by kernel_rfl) (by kernel_rfl) ?qb63p hS ?qb63n
          case qb63p =>
            iterate 1 (apply Yl.cons rfl (by kernel_rfl); focus (rintro wx hx; obtain ⟨v0, v1, v2, v3⟩ := (HV6.out.carry hx).cells; have q0 := HQ.out wx (HD6.out.trans (hx.mono HD6.out.size)); obtain ⟨m0, m1, m2, m3, m4⟩ := (HM6.out.carry hx).cells; simp only [Mlo, Mhi, twoC] at m0 m1 m2 m3 m4; obtain ⟨u0, u1, u2, u3⟩ := (HW6.out.carry hx).cells; clear hx; go_simp; all_goals (with_reducible rfl)); try simp only [Act.put, List.setIfInBounds_toArray, List.set_cons_zero, List.set_cons_succ])
            exact Yl.nil
          try simp only [Act.put, List.setIfInBounds_toArray, List.set_cons_zero, List.set_cons_succ]
          refine wpAnyH_done (by kernel_rfl) ?_ _
          refine NoPanic.normal ?_
          exact ⟨rfl, (Aqb3, Aqb56, Aqb49, a1, c1), by first | rfl | simp only [Act.put, List.setIfInBounds_toArray, List.set_cons_zero, List.set_cons_succ], hS⟩
      · skip
        obtain ⟨wqb64, ewqb64⟩ : ∃ wN, wqb2.alloc (.cells #[.slice none 0 0, .int .i64 0, .int .i64 0, .string { data := #[] }] 24) = wN := ⟨_, rfl⟩
        have hbb : Below wqb2.heap.size wqb2 wqb64 := by rw [← ewqb64]; exact (Below.refl _ _).alloc (Nat.le_refl _) _
        have hSN := hK _ _ hS hbb
        have Hqb65 := Hqb3.carry hbb
        obtain ⟨Aqb66, hAqb66⟩ : ∃ A, A = wqb2.heap.size := ⟨_, rfl⟩
        have Hqb66 : VzB wqb64 Aqb66 := by rw [← ewqb64, hAqb66]; exact VzB.new wqb2
        have Lqb66 : w6.heap.size ≤ Aqb66 := by rw [hAqb66]; exact hS.size
        refine wop_run (v := .pointer (some ⟨Aqb66, 0, none⟩)) (w' := wqb64) rfl (by kernel_rfl) (by rw [← ewqb64, hAqb66]; go_simp) ⟨hSN, ?_⟩
        clear hS hbb ewqb64 hAqb66
        have hS := hSN
        clear hSN
        try simp only [Act.put, List.setIfInBounds_toArray, List.set_cons_zero, List.set_cons_succ]
        refine reg_callg (i := 4) (R := fun v wy => v = .agg #[.string (bs [100]), .int .i64 1, .int .i64 1, .string (bs [98]), .string (bs [99])] ∧ Below wqb64.heap.size wqb64 wy) rfl (by kernel_rfl) (by kernel_rfl) (by go_simp; first | done | ((repeat' apply And.intro) <;> rfl)) ((table_lw [100] [98] [99] wqb64).mono fun e wy h => ⟨_, h.1, rfl, h.2⟩) ?_
        rintro v9 wqb67 ⟨rfl, hbb⟩
        have hSN := hK _ _ hS hbb
        refine ⟨hSN, ?_⟩
        have Hqb68 := Hqb65.carry hbb
        have Hqb69 := Hqb66.carry hbb
        clear hS hbb
        have hS := hSN
        clear hSN
        try simp only [Act.put, List.setIfInBounds_toArray, List.set_cons_zero, List.set_cons_succ]
        refine reg_callg (i := 5) (R := fun v wy => v = .agg #[.string (bs [101]), .int .i64 1, .int .i64 1, .string (bs [99]), .string (bs [102])] ∧ Below wqb67.heap.size wqb67 wy) rfl (by kernel_rfl) (by kernel_rfl) (by go_simp; first | done | ((repeat' apply And.intro) <;> rfl)) ((table_lw [101] [99] [102] wqb67).mono fun e wy h => ⟨_, h.1, rfl, h.2⟩) ?_
        rintro v9 wqb70 ⟨rfl, hbb⟩
        have hSN := hK _ _ hS hbb
        refine ⟨hSN, ?_⟩
        have Hqb71 := Hqb68.carry hbb
        have Hqb72 := Hqb69.carry hbb
        clear hS hbb
        have hS := hSN
        clear hSN
        try simp only [Act.put, List.setIfInBounds_toArray, List.set_cons_zero, List.set_cons_succ]
        obtain ⟨wqb73, ewqb73⟩ : ∃ wN, wqb70.alloc (.cells #[.string (bs [100]), .int .i64 1, .int .i64 1, .string (bs [98]), .string (bs [99]), .string (bs [101]), .int .i64 1, .int .i64 1, .string (bs [99]), .string (bs [102])] 28) = wN := ⟨_, rfl⟩
        have hbb : Below wqb70.heap.size wqb70 wqb73 := by rw [← ewqb73]; exact (Below.refl _ _).alloc (Nat.le_refl _) _
        have hSN := hK _ _ hS hbb
        have Hqb74 := Hqb71.carry hbb
        have Hqb75 := Hqb72.carry hbb
        obtain ⟨Aqb76, hAqb76⟩ : ∃ A, A = wqb70.heap.size := ⟨_, rfl⟩
        have Hqb76 : RdM wqb73 (.slice (some ⟨Aqb76, 0, none⟩) 2 2) oneDE := by rw [← ewqb73, hAqb76]; exact oneDE_rd wqb70
        have Lqb76 : w6.heap.size ≤ Aqb76 := by rw [hAqb76]; exact hS.size
        refine reg_run (i := 6) (v := .slice (some ⟨Aqb76, 0, none⟩) 2 2) (w' := wqb73) rfl (by kernel_rfl) (by kernel_rfl) (by rw [← ewqb73, hAqb76]; go_simp) hSN ?_
        clear hS hbb ewqb73 hAqb76
        have hS := hSN
        clear hSN
        try simp only [Act.put, List.setIfInBounds_toArray, List.set_cons_zero, List.set_cons_succ]
        refine reg_callg (i := 7) (R := fun v wy => ∃ a1 c1, v = .tuple #[.agg #[.slice a1 0 c1, .int .i64 0, .int .i64 0, .string (bs [])], .int .i64 8] ∧ LvT wy a1 0 c1 [] ∧ Below wqb73.heap.size wqb73 wy) rfl (by kernel_rfl) (by kernel_rfl) (by go_simp; try rfl) (swp_lw (k := 1) (HR6.out.carry hS) Hqb74 Hqb76 (by decide) (by omega) (by omega) vn_s3 rfl) ?_
        rintro v9 wqb77 ⟨a1, c1, rfl, h7, hbb⟩
        have hSN := hK _ _ hS hbb
        refine ⟨hSN, ?_⟩
        have Hqb78 := Hqb74.carry hbb
        have Hqb79 := Hqb75.carry hbb
        have Hqb80 := Hqb76.carry hbb
        clear h7
        clear hS hbb
        have hS := hSN
        clear hSN
        try simp only [Act.put, List.setIfInBounds_toArray, List.set_cons_zero, List.set_cons_succ]
        refine reg_plan [8, 9, 10] (fuel := 2) (a' := ?qb81a) (by kernel_rfl) (by kernel_rfl) (by kernel_rfl) ?qb81p hS ?qb81n
        case qb81p =>
          iterate 3 (apply Yl.cons rfl (by kernel_rfl); focus (rintro wx hx; obtain ⟨v0, v1, v2, v3⟩ := (HV6.out.carry hx).cells; have q0 := HQ.out wx (HD6.out.trans (hx.mono HD6.out.size)); obtain ⟨m0, m1, m2, m3, m4⟩ := (HM6.out.carry hx).cells; simp only [Mlo, Mhi, twoC] at m0 m1 m2 m3 m4; obtain ⟨u0, u1, u2, u3⟩ := (HW6.out.carry hx).cells; clear hx; go_simp; all_goals (with_reducible rfl)); try simp only [Act.put, List.setIfInBounds_toArray, List.set_cons_zero, List.set_cons_succ])
          exact Yl.nil
        try simp only [Act.put, List.setIfInBounds_toArray, List.set_cons_zero, List.set_cons_succ]
        obtain ⟨c0', c1', c2', c3'⟩ := Hqb79.at.cells
        have f0 := Hqb79.at.fz 0
        have f1 := Hqb79.at.fz 1
        have f2 := Hqb79.at.fz 2
        have f3 := Hqb79.at.fz 3
        have hat : VvAt (set4v wqb77 Aqb66 (.slice a1 0 c1) (.int .i64 0) (.int .i64 0) (.string (bs []))) Aqb66 (.slice a1 0 c1) 0 0 [] := VvAt.put (v' := (.slice a1 0 c1)) (nx' := 0) (sq' := 0) (lg' := []) Hqb79.at
        have hSN : Below w6.heap.size w6 (set4v wqb77 Aqb66 (.slice a1 0 c1) (.int .i64 0) (.int .i64 0) (.string (bs []))) := below_set4v hS Lqb66 _ _ _ _
        obtain ⟨wqb82, ewqb82⟩ : ∃ wN, (set4v wqb77 Aqb66 (.slice a1 0 c1) (.int .i64 0) (.int .i64 0) (.string (bs []))) = wN := ⟨_, rfl⟩
        rw [ewqb82] at hat hSN
        unfold set4v at ewqb82
        refine reg_unit (i := 12) (w' := wqb82) rfl (by kernel_rfl) (by kernel_rfl) (by rw [← ewqb82]; go_simp) hSN ?_
        clear hS ewqb82 c0' c1' c2' c3' f0 f1 f2 f3
        have hS := hSN
        clear hSN
        try simp only [Act.put, List.setIfInBounds_toArray, List.set_cons_zero, List.set_cons_succ]
        refine reg_plan [13] (fuel := 0) (a' := ?qb83a) (by kernel_rfl) (by kernel_rfl) (by kernel_rfl) ?qb83p hS ?qb83n
        case qb83p =>
          iterate 1 (apply Yl.cons rfl (by kernel_rfl); focus (rintro wx hx; obtain ⟨v0, v1, v2, v3⟩ := (HV6.out.carry hx).cells; have q0 := HQ.out wx (HD6.out.trans (hx.mono HD6.out.size)); obtain ⟨m0, m1, m2, m3, m4⟩ := (HM6.out.carry hx).cells; simp only [Mlo, Mhi, twoC] at m0 m1 m2 m3 m4; obtain ⟨u0, u1, u2, u3⟩ := (HW6.out.carry hx).cells; clear hx; go_simp; all_goals (with_reducible rfl)); try simp only [Act.put, List.setIfInBounds_toArray, List.set_cons_zero, List.set_cons_succ])
          exact Yl.nil
        try simp only [Act.put, List.setIfInBounds_toArray, List.set_cons_zero, List.set_cons_succ]
        refine wpAnyH_done (by kernel_rfl) ?_ _
        refine NoPanic.normal ?_
        exact ⟨rfl, (Aqb3, Aqb76, Aqb66, a1, c1), by first | rfl | simp only [Act.put, List.setIfInBounds_toArray, List.set_cons_zero, List.set_cons_succ], hS⟩
    · skip
      refine wop_callg (R := fun v wy => v = .agg #[.string (bs [100]), .int .i64 1, .int .i64 1, .string (bs [98]), .string (bs [99])] ∧ Below wd.heap.size wd wy) rfl (by kernel_rfl) (by go_simp; first | done | ((repeat' apply And.intro) <;> rfl)) ((table_lw [100] [98] [99] wd).mono fun e wy h => ⟨_, h.1, rfl, h.2⟩) ?_
      rintro v9 wqb84 ⟨rfl, hbb⟩
      have hSN := hK _ _ hS hbb
      refine ⟨hSN, ?_⟩
      clear hS hbb
      have hS := hSN
      clear hSN
      try simp only [Act.put, List.setIfInBounds_toArray, List.set_cons_zero, List.set_cons_succ]
      refine reg_three (i := 2) (j := 5) (k := 11) (by kernel_rfl) ?_ ?_ ?_
      · skip
        obtain ⟨wqb85, ewqb85⟩ : ∃ wN, wqb84.alloc (.cells #[.string (bs [99]), .int .i64 1, .int .i64 1, .string (bs [98]), .string (bs [102])] 28) = wN := ⟨_, rfl⟩
        have hbb : Below wqb84.heap.size wqb84 wqb85 := by rw [← ewqb85]; exact (Below.refl _ _).alloc (Nat.le_refl _) _
        have hSN := hK _ _ hS hbb
        obtain ⟨Aqb86, hAqb86⟩ : ∃ A, A = wqb84.heap.size := ⟨_, rfl⟩
        have Hqb86 : RdM wqb85 (.slice (some ⟨Aqb86, 0, none⟩) 1 1) oneC := by rw [← ewqb85, hAqb86]; exact oneC_rd wqb84
        have Lqb86 : w6.heap.size ≤ Aqb86 := by rw [hAqb86]; exact hS.size
        refine wop_run (v := .slice (some ⟨Aqb86, 0, none⟩) 1 1) (w' := wqb85) rfl (by kernel_rfl) (by rw [← ewqb85, hAqb86]; go_simp) ⟨hSN, ?_⟩
        clear hS hbb ewqb85 hAqb86
        have hS := hSN
        clear hSN
        try simp only [Act.put, List.setIfInBounds_toArray, List.set_cons_zero, List.set_cons_succ]
        refine reg_plan [3] (fuel := 9) (a' := ?qb87a) (by kernel_rfl) (by kernel_rfl) (by kernel_rfl) ?qb87p hS ?qb87n
        case qb87p =>
          iterate 1 (apply Yl.cons rfl (by kernel_rfl); focus (rintro wx hx; obtain ⟨v0, v1, v2, v3⟩ := (HV6.out.carry hx).cells; have q0 := HQ.out wx (HD6.out.trans (hx.mono HD6.out.size)); obtain ⟨m0, m1, m2, m3, m4⟩ := (HM6.out.carry hx).cells; simp only [Mlo, Mhi, twoC] at m0 m1 m2 m3 m4; obtain ⟨u0, u1, u2, u3⟩ := (HW6.out.carry hx).cells; clear hx; go_simp; all_goals (with_reducible rfl)); try simp only [Act.put, List.setIfInBounds_toArray, List.set_cons_zero, List.set_cons_succ])
          exact Yl.nil
        try simp only [Act.put, List.setIfInBounds_toArray, List.set_cons_zero, List.set_cons_succ]
        refine reg_two (i := 5) (j := 11) (by kernel_rfl) ?_ ?_
        · skip
          refine wop_callg (R := fun v wy => v = .agg #[.string (bs [101]), .int .i64 1, .int .i64 1, .string (bs [99]), .string (bs [102])] ∧ Below wqb85.heap.size wqb85 wy) rfl (by kernel_rfl) (by go_simp; first | done | ((repeat' apply And.intro) <;> rfl)) ((table_lw [101] [99] [102] wqb85).mono fun e wy h => ⟨_, h.1, rfl, h.2⟩) ?_
          rintro v9 wqb88 ⟨rfl, hbb⟩
          have hSN := hK _ _ hS hbb
          refine ⟨hSN, ?_⟩
          have Hqb89 := Hqb86.carry hbb
          clear hS hbb
          have hS := hSN
          clear hSN
          try simp only [Act.put, List.setIfInBounds_toArray, List.set_cons_zero, List.set_cons_succ]
          refine reg_two (i := 6) (j := 11) (by kernel_rfl) ?_ ?_
          · skip
            obtain ⟨wqb90, ewqb90⟩ : ∃ wN, wqb88.alloc (.cells #[.string (bs [100]), .int .i64 1, .int .i64 1, .string (bs [98]), .string (bs [99]), .string (bs [101]), .int .i64 1, .int .i64 1, .string (bs [99]), .string (bs [102])] 28) = wN := ⟨_, rfl⟩
            have hbb : Below wqb88.heap.size wqb88 wqb90 := by rw [← ewqb90]; exact (Below.refl _ _).alloc (Nat.le_refl _) _
            have hSN := hK _ _ hS hbb
            have Hqb91 := Hqb89.carry hbb
            obtain ⟨Aqb92, hAqb92⟩ : ∃ A, A = wqb88.heap.size := ⟨_, rfl⟩
            have Hqb92 : RdM wqb90 (.slice (some ⟨Aqb92, 0, none⟩) 2 2) oneDE := by rw [← ewqb90, hAqb92]; exact oneDE_rd wqb88
            have Lqb92 : w6.heap.size ≤ Aqb92 := by rw [hAqb92]; exact hS.size
            refine wop_run (v := .slice (some ⟨Aqb92, 0, none⟩) 2 2) (w' := wqb90) rfl (by kernel_rfl) (by rw [← ewqb90, hAqb92]; go_simp) ⟨hSN, ?_⟩
            clear hS hbb ewqb90 hAqb92
            have hS := hSN
            clear hSN
            try simp only [Act.put, List.setIfInBounds_toArray, List.set_cons_zero, List.set_cons_succ]
            refine reg_two (i := 7) (j := 11) (by kernel_rfl) ?_ ?_
            · skip
              refine wop_callg (R := fun v wy => ∃ a1 c1, v = .tuple #[.agg #[.slice a1 0 c1, .int .i64 0, .int .i64 0, .string (bs [])], .int .i64 8] ∧ LvT wy a1 0 c1 [] ∧ Below wqb90.heap.size wqb90 wy) rfl (by kernel_rfl) (by go_simp; try rfl) (swp_lw (k := 1) (HR6.out.carry hS) Hqb91 Hqb92 (by decide) (by omega) (by omega) vn_s3 rfl) ?_
              rintro v9 wqb93 ⟨a1, c1, rfl, h7, hbb⟩
              have hSN := hK _ _ hS hbb
              refine ⟨hSN, ?_⟩
              have Hqb94 := Hqb91.carry hbb
              have Hqb95 := Hqb92.carry hbb
              clear h7
              clear hS hbb
              have hS := hSN
              clear hSN
              try simp only [Act.put, List.setIfInBounds_toArray, List.set_cons_zero, List.set_cons_succ]
              refine reg_plan [8, 9, 10] (fuel := 3) (a' := ?qb96a) (by kernel_rfl) (by kernel_rfl) (by kernel_rfl) ?qb96p hS ?qb96n
              case qb96p =>
                iterate 3 (apply Yl.cons rfl (by kernel_rfl); focus (rintro wx hx; obtain ⟨v0, v1, v2, v3⟩ := (HV6.out.carry hx).cells; have q0 := HQ.out wx (HD6.out.trans (hx.mono HD6.out.size)); obtain ⟨m0, m1, m2, m3, m4⟩ := (HM6.out.carry hx).cells; simp only [Mlo, Mhi, twoC] at m0 m1 m2 m3 m4; obtain ⟨u0, u1, u2, u3⟩ := (HW6.out.carry hx).cells; clear hx; go_simp; all_goals (with_reducible rfl)); try simp only [Act.put, List.setIfInBounds_toArray, List.set_cons_zero, List.set_cons_succ])
                exact Yl.nil
              try simp only [Act.put, List.setIfInBounds_toArray, List.set_cons_zero, List.set_cons_succ]
              obtain ⟨wqb97, ewqb97⟩ : ∃ wN, wqb93.alloc (.cells #[.slice none 0 0, .int .i64 0, .int .i64 0, .string { data := #[] }] 24) = wN := ⟨_, rfl⟩
              have hbb : Below wqb93.heap.size wqb93 wqb97 := by rw [← ewqb97]; exact (Below.refl _ _).alloc (Nat.le_refl _) _
              have hSN := hK _ _ hS hbb
              have Hqb98 := Hqb94.carry hbb
              have Hqb99 := Hqb95.carry hbb
              obtain ⟨Aqb100, hAqb100⟩ : ∃ A, A = wqb93.heap.size := ⟨_, rfl⟩
              have Hqb100 : VzB wqb97 Aqb100 := by rw [← ewqb97, hAqb100]; exact VzB.new wqb93
              have Lqb100 : w6.heap.size ≤ Aqb100 := by rw [hAqb100]; exact hS.size
              refine reg_run (i := 11) (v := .pointer (some ⟨Aqb100, 0, none⟩)) (w' := wqb97) rfl (by kernel_rfl) (by kernel_rfl) (by rw [← ewqb97, hAqb100]; go_simp) hSN ?_
              clear hS hbb ewqb97 hAqb100
              have hS := hSN
              clear hSN
              try simp only [Act.put, List.setIfInBounds_toArray, List.set_cons_zero, List.set_cons_succ]
              obtain ⟨c0', c1', c2', c3'⟩ := Hqb100.at.cells
              have f0 := Hqb100.at.fz 0
              have f1 := Hqb100.at.fz 1
              have f2 := Hqb100.at.fz 2
              have f3 := Hqb100.at.fz 3
              have hat : VvAt (set4v wqb97 Aqb100 (.slice a1 0 c1) (.int .i64 0) (.int .i64 0) (.string (bs []))) Aqb100 (.slice a1 0 c1) 0 0 [] := VvAt.put (v' := (.slice a1 0 c1)) (nx' := 0) (sq' := 0) (lg' := []) Hqb100.at
              have hSN : Below w6.heap.size w6 (set4v wqb97 Aqb100 (.slice a1 0 c1) (.int .i64 0) (.int .i64 0) (.string (bs []))) := below_set4v hS Lqb100 _ _ _ _
              obtain ⟨wqb101, ewqb101⟩ : ∃ wN, (set4v wqb97 Aqb100 (.slice a1 0 c1) (.int .i64 0) (.int .i64 0) (.string (bs []))) = wN := ⟨_, rfl⟩
              rw [ewqb101] at hat hSN
              unfold set4v at ewqb101
              refine reg_unit (i := 12) (w' := wqb101) rfl (by kernel_rfl) (by kernel_rfl) (by rw [← ewqb101]; go_simp) hSN ?_
              clear hS ewqb101 c0' c1' c2' c3' f0 f1 f2 f3
              have hS := hSN
              clear hSN
              try simp only [Act.put, List.setIfInBounds_toArray, List.set_cons_zero, List.set_cons_succ]
              refine reg_plan [13] (fuel := 0) (a' := ?qb102a) (by kernel_rfl) (by kernel_rfl) (by kernel_rfl) ?qb102p hS ?qb102n
              case qb102p =>
                iterate 1 (apply Yl.cons rfl (by kernel_rfl); focus (rintro wx hx; obtain ⟨v0, v1, v2, v3⟩ := (HV6.out.carry hx).cells; have q0 := HQ.out wx (HD6.out.trans (hx.mono HD6.out.size)); obtain ⟨m0, m1, m2, m3, m4⟩ := (HM6.out.carry hx).cells; simp only [Mlo, Mhi, twoC] at m0 m1 m2 m3 m4; obtain ⟨u0, u1, u2, u3⟩ := (HW6.out.carry hx).cells; clear hx; go_simp; all_goals (with_reducible rfl)); try simp only [Act.put, List.setIfInBounds_toArray, List.set_cons_zero, List.set_cons_succ])
                exact Yl.nil
              try simp only [Act.put, List.setIfInBounds_toArray, List.set_cons_zero, List.set_cons_succ]
              refine wpAnyH_done (by kernel_rfl) ?_ _
              refine NoPanic.normal ?_
              exact ⟨rfl, (Aqb86, Aqb92, Aqb100, a1, c1), by first | rfl | simp only [Act.put, List.setIfInBounds_toArray, List.set_cons_zero, List.set_cons_succ], hS⟩
            · skip
              obtain ⟨wqb103, ewqb103⟩ : ∃ wN, wqb90.alloc (.cells #[.slice none 0 0, .int .i64 0, .int .i64 0, .string { data := #[] }] 24) = wN := ⟨_, rfl⟩
              have hbb : Below wqb90.heap.size wqb90 wqb103 := by rw [← ewqb103]; exact (Below.refl _ _).alloc (Nat.le_refl _) _
              have hSN := hK _ _ hS hbb
              have Hqb104 := Hqb91.carry hbb
              have Hqb105 := Hqb92.carry hbb
              obtain ⟨Aqb106, hAqb106⟩ : ∃ A, A = wqb90.heap.size := ⟨_, rfl⟩
              have Hqb106 : VzB wqb103 Aqb106 := by rw [← ewqb103, hAqb106]; exact VzB.new wqb90
              have Lqb106 : w6.heap.size ≤ Aqb106 := by rw [hAqb106]; exact hS.size
              refine wop_run (v := .pointer (some ⟨Aqb106, 0, none⟩)) (w' := wqb103) rfl (by kernel_rfl) (by rw [← ewqb103, hAqb106]; go_simp) ⟨hSN, ?_⟩
              clear hS hbb ewqb103 hAqb106
              have hS := hSN
              clear hSN
              try simp only [Act.put, List.setIfInBounds_toArray, List.set_cons_zero, List.set_cons_succ]
              refine reg_callg (i := 7) (R := fun v wy => ∃ a1 c1, v = .tuple #[.agg #[.slice a1 0 c1, .int .i64 0, .int .i64 0, .string (bs [])], .int .i64 8] ∧ LvT wy a1 0 c1 [] ∧ Below wqb103.heap.size wqb103 wy) rfl (by kernel_rfl) (by kernel_rfl) (by go_simp; try rfl) (swp_lw (k := 1) (HR6.out.carry hS) Hqb104 Hqb105 (by decide) (by omega) (by omega) vn_s3 rfl) ?_
              rintro v9 wqb107 ⟨a1, c1, rfl, h7, hbb⟩
              have hSN := hK _ _ hS hbb
              refine ⟨hSN, ?_⟩
              have Hqb108 := Hqb104.carry hbb
              have Hqb109 := Hqb105.carry hbb
              have Hqb110 := Hqb106.carry hbb
              clear h7
              clear hS hbb
              have hS := hSN
              clear hSN
              try simp only [Act.put, List.setIfInBounds_toArray, List.set_cons_zero, List.set_cons_succ]
              refine reg_plan [8, 9, 10] (fuel := 2) (a' := ?qb111a) (by kernel_rfl) (by kernel_rfl) (by kernel_rfl) ?qb111p hS ?qb111n
              case qb111p =>
                iterate 3 (apply Yl.cons rfl (by kernel_rfl); focus (rintro wx hx; obtain ⟨v0, v1, v2, v3⟩ := (HV6.out.carry hx).cells; have q0 := HQ.out wx (HD6.out.trans (hx.mono HD6.out.size)); obtain ⟨m0, m1, m2, m3, m4⟩ := (HM6.out.carry hx).cells; simp only [Mlo, Mhi, twoC] at m0 m1 m2 m3 m4; obtain ⟨u0, u1, u2, u3⟩ := (HW6.out.carry hx).cells; clear hx; go_simp; all_goals (with_reducible rfl)); try simp only [Act.put, List.setIfInBounds_toArray, List.set_cons_zero, List.set_cons_succ])
                exact Yl.nil
              try simp only [Act.put, List.setIfInBounds_toArray, List.set_cons_zero, List.set_cons_succ]
              obtain ⟨c0', c1', c2', c3'⟩ := Hqb110.at.cells
              have f0 := Hqb110.at.fz 0
              have f1 := Hqb110.at.fz 1
              have f2 := Hqb110.at.fz 2
              have f3 := Hqb110.at.fz 3
              have hat : VvAt (set4v wqb107 Aqb106 (.slice a1 0 c1) (.int .i64 0) (.int .i64 0) (.string (bs []))) Aqb106 (.slice a1 0 c1) 0 0 [] := VvAt.put (v' := (.slice a1 0 c1)) (nx' := 0) (sq' := 0) (lg' := []) Hqb110.at
              have hSN : Below w6.heap.size w6 (set4v wqb107 Aqb106 (.slice a1 0 c1) (.int .i64 0) (.int .i64 0) (.string (bs []))) := below_set4v hS Lqb106 _ _ _ _
              obtain ⟨wqb112, ewqb112⟩ : ∃ wN, (set4v wqb107 Aqb106 (.slice a1 0 c1) (.int .i64 0) (.int .i64 0) (.string (bs []))) = wN := ⟨_, rfl⟩
              rw [ewqb112] at hat hSN
              unfold set4v at ewqb112
              refine reg_unit (i := 12) (w' := wqb112) rfl (by kernel_rfl) (by kernel_rfl) (by rw [← ewqb112]; go_simp) hSN ?_
              clear hS ewqb112 c0' c1' c2' c3' f0 f1 f2 f3
              have hS := hSN
              clear hSN
              try simp only [Act.put, List.setIfInBounds_toArray, List.set_cons_zero, List.set_cons_succ]
              refine reg_plan [13] (fuel := 0) (a' := ?qb113a) (by kernel_rfl) (by kernel_rfl) (by kernel_rfl) ?qb113p hS ?qb113n
              case qb113p =>
                iterate 1 (apply Yl.cons rfl (by kernel_rfl); focus (rintro wx hx; obtain ⟨v0, v1, v2, v3⟩ := (HV6.out.carry hx).cells; have q0 := HQ.out wx (HD6.out.trans (hx.mono HD6.out.size)); obtain ⟨m0, m1, m2, m3, m4⟩ := (HM6.out.carry hx).cells; simp only [Mlo, Mhi, twoC] at m0 m1 m2 m3 m4; obtain ⟨u0, u1, u2, u3⟩ := (HW6.out.carry hx).cells; clear hx; go_simp; all_goals (with_reducible rfl)); try simp only [Act.put, List.setIfInBounds_toArray, List.set_cons_zero, List.set_cons_succ])
                exact Yl.nil
              try simp only [Act.put, List.setIfInBounds_toArray, List.set_cons_zero, List.set_cons_succ]
              refine wpAnyH_done (by kernel_rfl) ?_ _
              refine NoPanic.normal ?_
              exact ⟨rfl, (Aqb86, Aqb92, Aqb106, a1, c1), by first | rfl | simp only [Act.put, List.setIfInBounds_toArray, List.set_cons_zero, List.set_cons_succ], hS⟩
          · skip
            obtain ⟨wqb114, ewqb114⟩ : ∃ wN, wqb88.alloc (.cells #[.slice none 0 0, .int .i64 0, .int .i64 0, .string { data := #[] }] 24) = wN := ⟨_, rfl⟩
            have hbb : Below wqb88.heap.size wqb88 wqb114 := by rw [← ewqb114]; exact (Below.refl _ _).alloc (Nat.le_refl _) _
            have hSN := hK _ _ hS hbb
            have Hqb115 := Hqb89.carry hbb
            obtain ⟨Aqb116, hAqb116⟩ : ∃ A, A = wqb88.heap.size := ⟨_, rfl⟩
            have Hqb116 : VzB wqb114 Aqb116 := by rw [← ewqb114, hAqb116]; exact VzB.new wqb88
            have Lqb116 : w6.heap.size ≤ Aqb116 := by rw [hAqb116]; exact hS.size
            refine wop_run (v := .pointer (some ⟨Aqb116, 0, none⟩)) (w' := wqb114) rfl (by kernel_rfl) (by rw [← ewqb114, hAqb116]; go_simp) ⟨hSN, ?_⟩
            clear hS hbb ewqb114 hAqb116
            have hS := hSN
            clear hSN
            try simp only [Act.put, List.setIfInBounds_toArray, List.set_cons_zero, List.set_cons_succ]
            obtain ⟨wqb117, ewqb117⟩ : ∃ wN, wqb114.alloc (.cells #[.string (bs [100]), .int .i64 1, .int .i64 1, .string (bs [98]), .string (bs [99]), .string (bs [101]), .int .i64 1, .int .i64 1, .string (bs [99]), .string (bs [102])] 28) = wN := ⟨_, rfl⟩
            have hbb : Below wqb114.heap.size wqb114 wqb117 := by rw [← ewqb117]; exact (Below.refl _ _).alloc (Nat.le_refl _) _
            have hSN := hK _ _ hS hbb
            have Hqb118 := Hqb115.carry hbb
            have Hqb119 := Hqb116.carry hbb
            obtain ⟨Aqb120, hAqb120⟩ : ∃ A, A = wqb114.heap.size := ⟨_, rfl⟩
            have Hqb120 : RdM wqb117 (.slice (some ⟨Aqb120, 0, none⟩) 2 2) oneDE := by rw [← ewqb117, hAqb120]; exact oneDE_rd wqb114
            have Lqb120 : w6.heap.size ≤ Aqb120 := by rw [hAqb120]; exact hS.size
            refine reg_run (i := 6) (v := .slice (some ⟨Aqb120, 0, none⟩) 2 2) (w' := wqb117) rfl (by kernel_rfl) (by kernel_rfl) (by rw [← ewqb117, hAqb120]; go_simp) hSN ?_
            clear hS hbb ewqb117 hAqb120
            have hS := hSN
            clear hSN
            try simp only [Act.put, List.setIfInBounds_toArray, List.set_cons_zero, List.set_cons_succ]
            refine reg_callg (i := 7) (R := fun v wy => ∃ a1 c1, v = .tuple #[.agg #[.slice a1 0 c1, .int .i64 0, .int .i64 0, .string (bs [])], .int .i64 8] ∧ LvT wy a1 0 c1 [] ∧ Below wqb117.heap.size wqb117 wy) rfl (by kernel_rfl) (by kernel_rfl) (by go_simp; try rfl) (swp_lw (k := 1) (HR6.out.carry hS) Hqb118 Hqb120 (by decide) (by omega) (by omega) vn_s3 rfl) ?_
            rintro v9 wqb121 ⟨a1, c1, rfl, h7, hbb⟩
            have hSN := hK _ _ hS hbb
            refine ⟨hSN, ?_⟩
            have Hqb122 := Hqb118.carry hbb
            have Hqb123 := Hqb119.carry hbb
            have Hqb124 := Hqb120.carry hbb
            clear h7
            clear hS hbb
            have hS := hSN
            clear hSN
            try simp only [Act.put, List.setIfInBounds_toArray, List.set_cons_zero, List.set_cons_succ]
            refine reg_plan [8, 9, 10] (fuel := 2) (a' := ?qb125a) (by kernel_rfl) (by kernel_rfl) (by kernel_rfl) ?qb125p hS ?qb125n
            case qb125p =>
              iterate 3 (apply Yl.cons rfl (by kernel_rfl); focus (rintro wx hx; obtain ⟨v0, v1, v2, v3⟩ := (HV6.out.carry hx).cells; have q0 := HQ.out wx (HD6.out.trans (hx.mono HD6.out.size)); obtain ⟨m0, m1, m2, m3, m4⟩ := (HM6.out.carry hx).cells; simp only [Mlo, Mhi, twoC] at m0 m1 m2 m3 m4; obtain ⟨u0, u1, u2, u3⟩ := (HW6.out.carry hx).cells; clear hx; go_simp; all_goals (with_reducible rfl)); try simp only [Act.put, List.setIfInBounds_toArray, List.set_cons_zero, List.set_cons_succ])
              exact Yl.nil
            try simp only [Act.put, List.setIfInBounds_toArray, List.set_cons_zero, List.set_cons_succ]
            obtain ⟨c0', c1', c2', c3'⟩ := Hqb123.at.cells
            have f0 := Hqb123.at.fz 0
            have f1 := Hqb123.at.fz 1
            have f2 := Hqb123.at.fz 2
            have f3 := Hqb123.at.fz 3
            have hat : VvAt (set4v wqb121 Aqb116 (.slice a1 0 c1) (.int .i64 0) (.int .i64 0) (.string (bs []))) Aqb116 (.slice a1 0 c1) 0 0 [] := VvAt.put (v' := (.slice a1 0 c1)) (nx' := 0) (sq' := 0) (lg' := []) Hqb123.at
            have hSN : Below w6.heap.size w6 (set4v wqb121 Aqb116 (.slice a1 0 c1) (.int .i64 0) (.int .i64 0) (.string (bs []))) := below_set4v hS Lqb116 _ _ _ _
            obtain ⟨wqb126, ewqb126⟩ : ∃ wN, (set4v wqb121 Aqb116 (.slice a1 0 c1) (.int .i64 0) (.int .i64 0) (.string (bs []))) = wN := ⟨_, rfl⟩
            rw [ewqb126] at hat hSN
            unfold set4v at ewqb126
            refine reg_unit (i := 12) (w' := wqb126) rfl (by kernel_rfl) (by kernel_rfl) (by rw [← ewqb126]; go_simp) hSN ?_
            clear hS ewqb126 c0' c1' c2' c3' f0 f1 f2 f3
            have hS := hSN
            clear hSN
            try simp only [Act.put, List.setIfInBounds_toArray, List.set_cons_zero, List.set_cons_succ]
            refine reg_plan [13] (fuel := 0) (a' := ?qb127a) (by kernel_rfl) (by kernel_rfl) (by kernel_rfl) ?qb127p hS ?qb127n
            case qb127p =>
              iterate 1 (apply Yl.cons rfl (by kernel_rfl); focus (rintro wx hx; obtain ⟨v0, v1, v2, v3⟩ := (HV6.out.carry hx).cells; have q0 := HQ.out wx (HD6.out.trans (hx.mono HD6.out.size)); obtain ⟨m0, m1, m2, m3, m4⟩ := (HM6.out.carry hx).cells; simp only [Mlo, Mhi, twoC] at m0 m1 m2 m3 m4; obtain ⟨u0, u1, u2, u3⟩ := (HW6.out.carry hx).cells; clear hx; go_simp; all_goals (with_reducible rfl)); try simp only [Act.put, List.setIfInBounds_toArray, List.set_cons_zero, List.set_cons_succ])
              exact Yl.nil
            try simp only [Act.put, List.setIfInBounds_toArray, List.set_cons_zero, List.set_cons_succ]
            refine wpAnyH_done (by kernel_rfl) ?_ _
            refine NoPanic.normal ?_
            exact ⟨rfl, (Aqb86, Aqb120, Aqb116, a1, c1), by first | rfl | simp only [Act.put, List.setIfInBounds_toArray, List.set_cons_zero, List.set_cons_succ], hS⟩
        · skip
          obtain ⟨wqb128, ewqb128⟩ : ∃ wN, wqb85.alloc (.cells #[.slice none 0 0, .int .i64 0, .int .i64 0, .string { data := #[] }] 24) = wN := ⟨_, rfl⟩
          have hbb : Below wqb85.heap.size wqb85 wqb128 := by rw [← ewqb128]; exact (Below.refl _ _).alloc (Nat.le_refl _) _
          have hSN := hK _ _ hS hbb
          have Hqb129 := Hqb86.carry hbb
          obtain ⟨Aqb130, hAqb130⟩ : ∃ A, A = wqb85.heap.size := ⟨_, rfl⟩
          have Hqb130 : VzB wqb128 Aqb130 := by rw [← ewqb128, hAqb130]; exact VzB.new wqb85
          have Lqb130 : w6.heap.size ≤ Aqb130 := by rw [hAqb130]; exact hS.size
          refine wop_run (v := .pointer (some ⟨Aqb130, 0, none⟩)) (w' := wqb128) rfl (by kernel_rfl) (by rw [← ewqb128, hAqb130]; go_simp) ⟨hSN, ?_⟩
          clear hS hbb ewqb128 hAqb130
          have hS := hSN
          clear hSN
          try simp only [Act.put, List.setIfInBounds_toArray, List.set_cons_zero, List.set_cons_succ]
          refine reg_callg (i := 5) (R := fun v wy => v = .agg #[.string (bs [101]), .int .i64 1, .int .i64 1, .string (bs [99]), .string (bs [102])] ∧ Below wqb128.heap.size wqb128 wy) rfl (by kernel_rfl) (by kernel_rfl) (by go_simp; first | done | ((repeat' apply And.intro) <;> rfl)) ((table_lw [101] [99] [102] wqb128).mono fun e wy h => ⟨_, h.1, rfl, h.2⟩) ?_
          rintro v9 wqb131 ⟨rfl, hbb⟩
          have hSN := hK _ _ hS hbb
          refine ⟨hSN, ?_⟩
          have Hqb132 := Hqb129.carry hbb
          have Hqb133 := Hqb130.carry hbb
          clear hS hbb
          have hS := hSN
          clear hSN
          try simp only [Act.put, List.setIfInBounds_toArray, List.set_cons_zero, List.set_cons_succ]
          obtain ⟨wqb134, ewqb134⟩ : ∃ wN, wqb131.alloc (.cells #[.string (bs [100]), .int .i64 1, .int .i64 1, .string (bs [98]), .string (bs [99]), .string (bs [101]), .int .i64 1, .int .i64 1, .string (bs [99]), .string (bs [102])] 28) = wN := ⟨_, rfl⟩
          have hbb : Below wqb131.heap.size wqb131 wqb134 := by rw [← ewqb134]; exact (Below.refl _ _).alloc (Nat.le_refl _) _
          have hSN := hK _ _ hS hbb
          have Hqb135 := Hqb132.carry hbb
          have Hqb136 := Hqb133.carry hbb
          obtain ⟨Aqb137, hAqb137⟩ : ∃ A, A = wqb131.heap.size := ⟨_, rfl⟩
          have Hqb137 : RdM wqb134 (.slice (some ⟨Aqb137, 0, none⟩) 2 2) oneDE := by rw [← ewqb134, hAqb137]; exact oneDE_rd wqb131
          have Lqb137 : w6.heap.size ≤ Aqb137 := by rw [hAqb137]; exact hS.size
          refine reg_run (i := 6) (v := .slice (some ⟨Aqb137, 0, none⟩) 2 2) (w' := wqb134) rfl (by kernel_rfl) (by kernel_rfl) (by rw [← ewqb134, hAqb137]; go_simp) hSN ?_
          clear hS hbb ewqb134 hAqb137
          have hS := hSN
          clear hSN
          try simp only [Act.put, List.setIfInBounds_toArray, List.set_cons_zero, List.set_cons_succ]
          refine reg_callg (i := 7) (R := fun v wy => ∃ a1 c1, v = .tuple #[.agg #[.slice a1 0 c1, .int .i64 0, .int .i64 0, .string (bs [])], .int .i64 8] ∧ LvT wy a1 0 c1 [] ∧ Below wqb134.heap.size wqb134 wy) rfl (by kernel_rfl) (by kernel_rfl) (by go_simp; try rfl) (swp_lw (k := 1) (HR6.out.carry hS) Hqb135 Hqb137 (by decide) (by omega) (by omega) vn_s3 rfl) ?_
          rintro v9 wqb138 ⟨a1, c1, rfl, h7, hbb⟩
          have hSN := hK _ _ hS hbb
          refine ⟨hSN, ?_⟩
          have Hqb139 := Hqb135.carry hbb
          have Hqb140 := Hqb136.carry hbb
          have Hqb141 := Hqb137.carry hbb
          clear h7
          clear hS hbb
          have hS := hSN
          clear hSN
          try simp only [Act.put, List.setIfInBounds_toArray, List.set_cons_zero, List.set_cons_succ]
          refine reg_plan [8, 9, 10] (fuel := 2) (a' := ?qb142a) (by kernel_rfl) (by kernel_rfl) (by kernel_rfl) ?qb142p hS ?qb142n
          case qb142p =>
            iterate 3 (apply Yl.cons rfl (by kernel_rfl); focus (rintro wx hx; obtain ⟨v0, v1, v2, v3⟩ := (HV6.out.carry hx).cells; have q0 := HQ.out wx (HD6.out.trans (hx.mono HD6.out.size)); obtain ⟨m0, m1, m2, m3, m4⟩ := (HM6.out.carry hx).cells; simp only [Mlo, Mhi, twoC] at m0 m1 m2 m3 m4; obtain ⟨u0, u1, u2, u3⟩ := (HW6.out.carry hx).cells; clear hx; go_simp; all_goals (with_reducible rfl)); try simp only [Act.put, List.setIfInBounds_toArray, List.set_cons_zero, List.set_cons_succ])
            exact Yl.nil
          try simp only [Act.put, List.setIfInBounds_toArray, List.set_cons_zero, List.set_cons_succ]
          obtain ⟨c0', c1', c2', c3'⟩ := Hqb140.at.cells
          have f0 := Hqb140.at.fz 0
          have f1 := Hqb140.at.fz 1
          have f2 := Hqb140.at.fz 2
          have f3 := Hqb140.at.fz 3
          have hat : VvAt (set4v wqb138 Aqb130 (.slice a1 0 c1) (.int .i64 0) (.int .i64 0) (.string (bs []))) Aqb130 (.slice a1 0 c1) 0 0 [] := VvAt.put (v' := (.slice a1 0 c1)) (nx' := 0) (sq' := 0) (lg' := []) Hqb140.at
          have hSN : Below w6.heap.size w6 (set4v wqb138 Aqb130 (.slice a1 0 c1) (.int .i64 0) (.int .i64 0) (.string (bs []))) := below_set4v hS Lqb130 _ _ _ _
          obtain ⟨wqb143, ewqb143⟩ : ∃ wN, (set4v wqb138 Aqb130 (.slice a1 0 c1) (.int .i64 0) (.int .i64 0) (.string (bs []))) = wN := ⟨_, rfl⟩
          rw [ewqb143] at hat hSN
          unfold set4v at ewqb143
          refine reg_unit (i := 12) (w' := wqb143) rfl (by kernel_rfl) (by kernel_rfl) (by rw [← ewqb143]; go_simp) hSN ?_
          clear hS ewqb143 c0' c1' c2' c3' f0 f1 f2 f3
          have hS := hSN
          clear hSN
          try simp only [Act.put, List.setIfInBounds_toArray, List.set_cons_zero, List.set_cons_succ]
          refine reg_plan [13] (fuel := 0) (a' := ?qb144a) (by kernel_rfl) (by kernel_rfl) (by kernel_rfl) ?qb144p hS ?qb144n
          case qb144p =>
            iterate 1 (apply Yl.cons rfl (by kernel_rfl); focus (rintro wx hx; obtain ⟨v0, v1, v2, v3⟩ := (HV6.out.carry hx).cells; have q0 := HQ.out wx (HD6.out.trans (hx.mono HD6.out.size)); obtain ⟨m0, m1, m2, m3, m4⟩ := (HM6.out.carry hx).cells; simp only [Mlo, Mhi, twoC] at m0 m1 m2 m3 m4; obtain ⟨u0, u1, u2, u3⟩ := (HW6.out.carry hx).cells; clear hx; go_simp; all_goals (with_reducible rfl)); try simp only [Act.put, List.setIfInBounds_toArray, List.set_cons_zero, List.set_cons_succ])
            exact Yl.nil
          try simp only [Act.put, List.setIfInBounds_toArray, List.set_cons_zero, List.set_cons_succ]
          refine wpAnyH_done (by kernel_rfl) ?_ _
          refine NoPanic.normal ?_
          exact ⟨rfl, (Aqb86, Aqb137, Aqb130, a1, c1), by first | rfl | simp only [Act.put, List.setIfInBounds_toArray, List.set_cons_zero, List.set_cons_succ], hS⟩
      · skip
        refine wop_callg (R := fun v wy => v = .agg #[.string (bs [101]), .int .i64 1, .int .i64 1, .string (bs [99]), .string (bs [102])] ∧ Below wqb84.heap.size wqb84 wy) rfl (by kernel_rfl) (by go_simp; first | done | ((repeat' apply And.intro) <;> rfl)) ((table_lw [101] [99] [102] wqb84).mono fun e wy h => ⟨_, h.1, rfl, h.2⟩) ?_
        rintro v9 wqb145 ⟨rfl, hbb⟩
        have hSN := hK _ _ hS hbb
        refine ⟨hSN, ?_⟩
        clear hS hbb
        have hS := hSN
        clear hSN
        try simp only [Act.put, List.setIfInBounds_toArray, List.set_cons_zero, List.set_cons_succ]
        refine reg_three (i := 2) (j := 6) (k := 11) (by kernel_rfl) ?_ ?_ ?_
        · skip
          obtain ⟨wqb146, ewqb146⟩ : ∃ wN, wqb145.alloc (.cells #[.string (bs [99]), .int .i64 1, .int .i64 1, .string (bs [98]), .string (bs [102])] 28) = wN := ⟨_, rfl⟩
          have hbb : Below wqb145.heap.size wqb145 wqb146 := by rw [← ewqb146]; exact (Below.refl _ _).alloc (Nat.le_refl _) _
          have hSN := hK _ _ hS hbb
          obtain ⟨Aqb147, hAqb147⟩ : ∃ A, A = wqb145.heap.size := ⟨_, rfl⟩
          have Hqb147 : RdM wqb146 (.slice (some ⟨Aqb147, 0, none⟩) 1 1) oneC := by rw [← ewqb146, hAqb147]; exact oneC_rd wqb145
          have Lqb147 : w6.heap.size ≤ Aqb147 := by rw [hAqb147]; exact hS.size
          refine wop_run (v := .slice (some ⟨Aqb147, 0, none⟩) 1 1) (w' := wqb146) rfl (by kernel_rfl) (by rw [← ewqb146, hAqb147]; go_simp) ⟨hSN, ?_⟩
          clear hS hbb ewqb146 hAqb147
          have hS := hSN
          clear hSN
          try simp only [Act.put, List.setIfInBounds_toArray, List.set_cons_zero, List.set_cons_succ]
          refine reg_plan [3] (fuel := 8) (a' := ?qb148a) (by kernel_rfl) (by kernel_rfl) (by kernel_rfl) ?qb148p hS ?qb148n
          case qb148p =>
            iterate 1 (apply Yl.cons rfl (by kernel_rfl); focus (rintro wx hx; obtain ⟨v0, v1, v2, v3⟩ := (HV6.out.carry hx).cells; have q0 := HQ.out wx (HD6.out.trans (hx.mono HD6.out.size)); obtain ⟨m0, m1, m2, m3, m4⟩ := (HM6.out.carry hx).cells; simp only [Mlo, Mhi, twoC] at m0 m1 m2 m3 m4; obtain ⟨u0, u1, u2, u3⟩ := (HW6.out.carry hx).cells; clear hx; go_simp; all_goals (with_reducible rfl)); try simp only [Act.put, List.setIfInBounds_toArray, List.set_cons_zero, List.set_cons_succ])
            exact Yl.nil
          try simp only [Act.put, List.setIfInBounds_toArray, List.set_cons_zero, List.set_cons_succ]
          refine reg_two (i := 6) (j := 11) (by kernel_rfl) ?_ ?_
          · skip
            obtain ⟨wqb149, ewqb149⟩ : ∃ wN, wqb146.alloc (.cells #[.string (bs [100]), .int .i64 1, .int .i64 1, .string (bs [98]), .string (bs [99]), .string (bs [101]), .int .i64 1, .int .i64 1, .string (bs [99]), .string (bs [102])] 28) = wN := ⟨_, rfl⟩
            have hbb : Below wqb146.heap.size wqb146 wqb149 := by rw [← ewqb149]; exact (Below.refl _ _).alloc (Nat.le_refl _) _
            have hSN := hK _ _ hS hbb
            have Hqb150 := Hqb147.carry hbb
            obtain ⟨Aqb151, hAqb151⟩ : ∃ A, A = wqb146.heap.size := ⟨_, rfl⟩
            have Hqb151 : RdM wqb149 (.slice (some ⟨Aqb151, 0, none⟩) 2 2) oneDE := by rw [← ewqb149, hAqb151]; exact oneDE_rd wqb146
            have Lqb151 : w6.heap.size ≤ Aqb151 := by rw [hAqb151]; exact hS.size
            refine wop_run (v := .slice (some ⟨Aqb151, 0, none⟩) 2 2) (w' := wqb149) rfl (by kernel_rfl) (by rw [← ewqb149, hAqb151]; go_simp) ⟨hSN, ?_⟩
            clear hS hbb ewqb149 hAqb151
            have hS := hSN
            clear hSN
            try simp only [Act.put, List.setIfInBounds_toArray, List.set_cons_zero, List.set_cons_succ]
            refine reg_two (i := 7) (j := 11) (by kernel_rfl) ?_ ?_
            · skip
              refine wop_callg (R := fun v wy => ∃ a1 c1, v = .tuple #[.agg #[.slice a1 0 c1, .int .i64 0, .int .i64 0, .string (bs [])], .int .i64 8] ∧ LvT wy a1 0 c1 [] ∧ Below wqb149.heap.size wqb149 wy) rfl (by kernel_rfl) (by go_simp; try rfl) (swp_lw (k := 1) (HR6.out.carry hS) Hqb150 Hqb151 (by decide) (by omega) (by omega) vn_s3 rfl) ?_
              rintro v9 wqb152 ⟨a1, c1, rfl, h7, hbb⟩
              have hSN := hK _ _ hS hbb
              refine ⟨hSN, ?_⟩
              have Hqb153 := Hqb150.carry hbb
              have Hqb154 := Hqb151.carry hbb
              clear h7
              clear hS hbb
              have hS := hSN
              clear hSN
              try simp only [Act.put, List.setIfInBounds_toArray, List.set_cons_zero, List.set_cons_succ]
              refine reg_plan [8, 9, 10] (fuel := 3) (a' := ?qb155a) (by kernel_rfl) (by kernel_rfl) (by kernel_rfl) ?qb155p hS ?qb155n
              case qb155p =>
                iterate 3 (apply Yl.cons rfl (by kernel_rfl); focus (rintro wx hx; obtain ⟨v0, v1, v2, v3⟩ := (HV6.out.carry hx).cells; have q0 := HQ.out wx (HD6.out.trans (hx.mono HD6.out.size)); obtain ⟨m0, m1, m2, m3, m4⟩ := (HM6.out.carry hx).cells; simp only [Mlo, Mhi, twoC] at m0 m1 m2 m3 m4; obtain ⟨u0, u1, u2, u3⟩ := (HW6.out.carry hx).cells; clear hx; go_simp; all_goals (with_reducible rfl)); try simp only [Act.put, List.setIfInBounds_toArray, List.set_cons_zero, List.set_cons_succ])
                exact Yl.nil
              try simp only [Act.put, List.setIfInBounds_toArray, List.set_cons_zero, List.set_cons_succ]
              obtain ⟨wqb156, ewqb156⟩ : ∃ wN, wqb152.alloc (.cells #[.slice none 0 0, .int .i64 0, .int .i64 0, .string { data := #[] }] 24) = wN := ⟨_, rfl⟩
              have hbb : Below wqb152.heap.size wqb152 wqb156 := by rw [← ewqb156]; exact (Below.refl _ _).alloc (Nat.le_refl _) _
              have hSN := hK _ _ hS hbb
              have Hqb157 := Hqb153.carry hbb
              have Hqb158 := Hqb154.carry hbb
              obtain ⟨Aqb159, hAqb159⟩ : ∃ A, A = wqb152.heap.size := ⟨_, rfl⟩
              have Hqb159 : VzB wqb156 Aqb159 := by rw [← ewqb156, hAqb159]; exact VzB.new wqb152
              have Lqb159 : w6.heap.size ≤ Aqb159 := by rw [hAqb159]; exact hS.size
              refine reg_run (i := 11) (v := .pointer (some ⟨Aqb159, 0, none⟩)) (w' := wqb156) rfl (by kernel_rfl) (by kernel_rfl) (by rw [← ewqb156, hAqb159]; go_simp) hSN ?_
              clear hS hbb ewqb156 hAqb159
              have hS := hSN
              clear hSN
              try simp only [Act.put, List.setIfInBounds_toArray, List.set_cons_zero, List.set_cons_succ]
              obtain ⟨c0', c1', c2', c3'⟩ := Hqb159.at.cells
              have f0 := Hqb159.at.fz 0
              have f1 := Hqb159.at.fz 1
              have f2 := Hqb159.at.fz 2
              have f3 := Hqb159.at.fz 3
              have hat : VvAt (set4v wqb156 Aqb159 (.slice a1 0 c1) (.int .i64 0) (.int .i64 0) (.string (bs []))) Aqb159 (.slice a1 0 c1) 0 0 [] := VvAt.put (v' := (.slice a1 0 c1)) (nx' := 0) (sq' := 0) (lg' := []) Hqb159.at
              have hSN : Below w6.heap.size w6 (set4v wqb156 Aqb159 (.slice a1 0 c1) (.int .i64 0) (.int .i64 0) (.string (bs []))) := below_set4v hS Lqb159 _ _ _ _
              obtain ⟨wqb160, ewqb160⟩ : ∃ wN, (set4v wqb156 Aqb159 (.slice a1 0 c1) (.int .i64 0) (.int .i64 0) (.string (bs []))) = wN := ⟨_, rfl⟩
              rw [ewqb160] at hat hSN
              unfold set4v at ewqb160
              refine reg_unit (i := 12) (w' := wqb160) rfl (by kernel_rfl) (by kernel_rfl) (by rw [← ewqb160]; go_simp) hSN ?_
              clear hS ewqb160 c0' c1' c2' c3' f0 f1 f2 f3
              have hS := hSN
              clear hSN
              try simp only [Act.put, List.setIfInBounds_toArray, List.set_cons_zero, List.set_cons_succ]
              refine reg_plan [13] (fuel := 0) (a' := ?qb161a) (by kernel_rfl) (by kernel_rfl) (by kernel_rfl) ?qb161p hS ?qb161n
              case qb161p =>
                iterate 1 (apply Yl.cons rfl (by kernel_rfl); focus (rintro wx hx; obtain ⟨v0, v1, v2, v3⟩ := (HV6.out.carry hx).cells; have q0 := HQ.out wx (HD6.out.trans (hx.mono HD6.out.size)); obtain ⟨m0, m1, m2, m3, m4⟩ := (HM6.out.carry hx).cells; simp only [Mlo, Mhi, twoC] at m0 m1 m2 m3 m4; obtain ⟨u0, u1, u2, u3⟩ := (HW6.out.carry hx).cells; clear hx; go_simp; all_goals (with_reducible rfl)); try simp only [Act.put, List.setIfInBounds_toArray, List.set_cons_zero, List.set_cons_succ])
                exact Yl.nil
              try simp only [Act.put, List.setIfInBounds_toArray, List.set_cons_zero, List.set_cons_succ]
              refine wpAnyH_done (by kernel_rfl) ?_ _
              refine NoPanic.normal ?_
              exact ⟨rfl, (Aqb147, Aqb151, Aqb159, a1, c1), by first | rfl | simp only [Act.put, List.setIfInBounds_toArray, List.set_cons_zero, List.set_cons_succ], hS⟩
            · skip
              obtain ⟨wqb162, ewqb162⟩ : ∃ wN, wqb149.alloc (.cells #[.slice none 0 0, .int .i64 0, .int .i64 0, .string { data := #[] }] 24) = wN := ⟨_, rfl⟩
              have hbb : Below wqb149.heap.size wqb149 wqb162 := by rw [← ewqb162]; exact (Below.refl _ _).alloc (Nat.le_refl _) _
              have hSN := hK _ _ hS hbb
              have Hqb163 := Hqb150.carry hbb
              have Hqb164 := Hqb151.carry hbb
              obtain ⟨Aqb165, hAqb165⟩ : ∃ A, A = wqb149.heap.size := ⟨_, rfl⟩
              have Hqb165 : VzB wqb162 Aqb165 := by rw [← ewqb162, hAqb165]; exact VzB.new wqb149
              have Lqb165 : w6.heap.size ≤ Aqb165 := by rw [hAqb165]; exact hS.size
              refine wop_run (v := .pointer (some ⟨Aqb165, 0, none⟩)) (w' := wqb162) rfl (by kernel_rfl) (by rw [← ewqb162, hAqb165]; go_simp) ⟨hSN, ?_⟩
              clear hS hbb ewqb162 hAqb165
              have hS := hSN
              clear hSN
              try simp only [Act.put, List.setIfInBounds_toArray, List.set_cons_zero, List.set_cons_succ]
              refine reg_callg (i := 7) (R := fun v wy => ∃ a1 c1, v = .tuple #[.agg #[.slice a1 0 c1, .int .i64 0, .int .i64 0, .string (bs [])], .int .i64 8] ∧ LvT wy a1 0 c1 [] ∧ Below wqb162.heap.size wqb162 wy) rfl (by kernel_rfl) (by kernel_rfl) (by go_simp; try rfl) (swp_lw (k := 1) (HR6.out.carry hS) Hqb163 Hqb164 (by decide) (by omega) (by omega) vn_s3 rfl) ?_
              rintro v9 wqb166 ⟨a1, c1, rfl, h7, hbb⟩
              have hSN := hK _ _ hS hbb
              refine ⟨hSN, ?_⟩
              have Hqb167 := Hqb163.carry hbb
              have Hqb168 := Hqb164.carry hbb
              have Hqb169 := Hqb165.carry hbb
              clear h7
              clear hS hbb
              have hS := hSN
              clear hSN
              try simp only [Act.put, List.setIfInBounds_toArray, List.set_cons_zero, List.set_cons_succ]
              refine reg_plan [8, 9, 10] (fuel := 2) (a' := ?qb170a) (by kernel_rfl) (by kernel_rfl) (by kernel_rfl) ?qb170p hS ?qb170n
              case qb170p =>
                iterate 3 (apply Yl.cons rfl (by kernel_rfl); focus (rintro wx hx; obtain ⟨v0, v1, v2, v3⟩ := (HV6.out.carry hx).cells; have q0 := HQ.out wx (HD6.out.trans (hx.mono HD6.out.size)); obtain ⟨m0, m1, m2, m3, m4⟩ := (HM6.out.carry hx).cells; simp only [Mlo, Mhi, twoC] at m0 m1 m2 m3 m4; obtain ⟨u0, u1, u2, u3⟩ := (HW6.out.carry hx).cells; clear hx; go_simp; all_goals (with_reducible rfl)); try simp only [Act.put, List.setIfInBounds_toArray, List.set_cons_zero, List.set_cons_succ])
                exact Yl.nil
              try simp only [Act.put, List.setIfInBounds_toArray, List.set_cons_zero, List.set_cons_succ]
              obtain ⟨c0', c1', c2', c3'⟩ := Hqb169.at.cells
              have f0 := Hqb169.at.fz 0
              have f1 := Hqb169.at.fz 1
              have f2 := Hqb169.at.fz 2
              have f3 := Hqb169.at.fz 3
              have hat : VvAt (set4v wqb166 Aqb165 (.slice a1 0 c1) (.int .i64 0) (.int .i64 0) (.string (bs []))) Aqb165 (.slice a1 0 c1) 0 0 [] := VvAt.put (v' := (.slice a1 0 c1)) (nx' := 0) (sq' := 0) (lg' := []) Hqb169.at
              have hSN : Below w6.heap.size w6 (set4v wqb166 Aqb165 (.slice a1 0 c1) (.int .i64 0) (.int .i64 0) (.string (bs []))) := below_set4v hS Lqb165 _ _ _ _
              obtain ⟨wqb171, ewqb171⟩ : ∃ wN, (set4v wqb166 Aqb165 (.slice a1 0 c1) (.int .i64 0) (.int .i64 0) (.string (bs []))) = wN := ⟨_, rfl⟩
              rw [ewqb171] at hat hSN
              unfold set4v at ewqb171
              refine reg_unit (i := 12) (w' := wqb171) rfl (by kernel_rfl) (by kernel_rfl) (by rw [← ewqb171]; go_simp) hSN ?_
              clear hS ewqb171 c0' c1' c2' c3' f0 f1 f2 f3
              have hS := hSN
              clear hSN
              try simp only [Act.put, List.setIfInBounds_toArray, List.set_cons_zero, List.set_cons_succ]
              refine reg_plan [13] (fuel := 0) (a' := ?qb172a) (by kernel_rfl) (by kernel_rfl) (by kernel_rfl) ?qb172p hS ?qb172n
              case qb172p =>
                iterate 1 (apply Yl.cons rfl (by kernel_rfl); focus (rintro wx hx; obtain ⟨v0, v1, v2, v3⟩ := (HV6.out.carry hx).cells; have q0 := HQ.out wx (HD6.out.trans (hx.mono HD6.out.size)); obtain ⟨m0, m1, m2, m3, m4⟩ := (HM6.out.carry hx).cells; simp only [Mlo, Mhi, twoC] at m0 m1 m2 m3 m4; obtain ⟨u0, u1, u2, u3⟩ := (HW6.out.carry hx).cells; clear hx; go_simp; all_goals (with_reducible rfl)); try simp only [Act.put, List.setIfInBounds_toArray, List.set_cons_zero, List.set_cons_succ])
                exact Yl.nil
              try simp only [Act.put, List.setIfInBounds_toArray, List.set_cons_zero, List.set_cons_succ]
              refine wpAnyH_done (by kernel_rfl) ?_ _
              refine NoPanic.normal ?_
              exact ⟨rfl, (Aqb147, Aqb151, Aqb165, a1, c1), by first | rfl | simp only [Act.put, List.setIfInBounds_toArray, List.set_cons_zero, List.set_cons_succ], hS⟩
          · skip
            obtain ⟨wqb173, ewqb173⟩ : ∃ wN, wqb146.alloc (.cells #[.slice none 0 0, .int .i64 0, .int .i64 0, .string { data := #[] }] 24) = wN := ⟨_, rfl⟩
            have hbb : Below wqb146.heap.size wqb146 wqb173 := by rw [← ewqb173]; exact (Below.refl _ _).alloc (Nat.le_refl _) _
            have hSN := hK _ _ hS hbb
            have Hqb174 := Hqb147.carry hbb
            obtain ⟨Aqb175, hAqb175⟩ : ∃ A, A = wqb146.heap.size := ⟨_, rfl⟩
            have Hqb175 : VzB wqb173 Aqb175 := by rw [← ewqb173, hAqb175]; exact VzB.new wqb146
            have Lqb175 : w6.heap.size ≤ Aqb175 := by rw [hAqb175]; exact hS.size
            refine wop_run (v := .pointer (some ⟨Aqb175, 0, none⟩)) (w' := wqb173) rfl (by kernel_rfl) (by rw [← ewqb173, hAqb175]; go_simp) ⟨hSN, ?_⟩
            clear hS hbb ewqb173 hAqb175
            have hS := hSN
            clear hSN
            try simp only [Act.put, List.setIfInBounds_toArray, List.set_cons_zero, List.set_cons_succ]
            obtain ⟨wqb176, ewqb176⟩ : ∃ wN, wqb173.alloc (.cells #[.string (bs [100]), .int .i64 1, .int .i64 1, .string (bs [98]), .string (bs [99]), .string (bs [101]), .int .i64 1, .int .i64 1, .string (bs [99]), .string (bs [102])] 28) = wN := ⟨_, rfl⟩
            have hbb : Below wqb173.heap.size wqb173 wqb176 := by rw [← ewqb176]; exact (Below.refl _ _).alloc (Nat.le_refl _) _
            have hSN := hK _ _ hS hbb
            have Hqb177 := Hqb174.carry hbb
            have Hqb178 := Hqb175.carry hbb
            obtain ⟨Aqb179, hAqb179⟩ : ∃ A, A = wqb173.heap.size := ⟨_, rfl⟩
            have Hqb179 : RdM wqb176 (.slice (some ⟨Aqb179, 0, none⟩) 2 2) oneDE := by rw [← ewqb176, hAqb179]; exact oneDE_rd wqb173
            have Lqb179 : w6.heap.size ≤ Aqb179 := by rw [hAqb179]; exact hS.size
            refine reg_run (i := 6) (v := .slice (some ⟨Aqb179, 0, none⟩) 2 2) (w' := wqb176) rfl (by kernel_rfl) (by kernel_rfl) (by rw [← ewqb176, hAqb179]; go_simp) hSN ?_
            clear hS hbb ewqb176 hAqb179
            have hS := hSN
            clear hSN
            try simp only [Act.put, List.setIfInBounds_toArray, List.set_cons_zero, List.set_cons_succ]
            refine reg_callg (i := 7) (R := fun v wy => ∃ a1 c1, v = .tuple #[.agg #[.slice a1 0 c1, .int .i64 0, .int .i64 0, .string (bs [])], .int .i64 8] ∧ LvT wy a1 0 c1 [] ∧ Below wqb176.heap.size wqb176 wy) rfl (by kernel_rfl) (by kernel_rfl) (by go_simp; try rfl) (swp_lw (k := 1) (HR6.out.carry hS) Hqb177 Hqb179 (by decide) (by omega) (by omega) vn_s3 rfl) ?_
            rintro v9 wqb180 ⟨a1, c1, rfl, h7, hbb⟩
            have hSN := hK _ _ hS hbb
            refine ⟨hSN, ?_⟩
            have Hqb181 := Hqb177.carry hbb
            have Hqb182 := Hqb178.carry hbb
            have Hqb183 := Hqb179.carry hbb
            clear h7
            clear hS hbb
            have hS := hSN
            clear hSN
            try simp only [Act.put, List.setIfInBounds_toArray, List.set_cons_zero, List.set_cons_succ]
            refine reg_plan [8, 9, 10] (fuel := 2) (a' := ?qb184a) (by kernel_rfl) (by kernel_rfl) (by kernel_rfl) ?qb184p hS ?qb184n
            case qb184p =>
              iterate 3 (apply Yl.cons rfl (by kernel_rfl); focus (rintro wx hx; obtain ⟨v0, v1, v2, v3⟩ := (HV6.out.carry hx).cells; have q0 := HQ.out wx (HD6.out.trans (hx.mono HD6.out.size)); obtain ⟨m0, m1, m2, m3, m4⟩ := (HM6.out.carry hx).cells; simp only [Mlo, Mhi, twoC] at m0 m1 m2 m3 m4; obtain ⟨u0, u1, u2, u3⟩ := (HW6.out.carry hx).cells; clear hx; go_simp; all_goals (with_reducible rfl)); try simp only [Act.put, List.setIfInBounds_toArray, List.set_cons_zero, List.set_cons_succ])
              exact Yl.nil
            try simp only [Act.put, List.setIfInBounds_toArray, List.set_cons_zero, List.set_cons_succ]
            obtain ⟨c0', c1', c2', c3'⟩ := Hqb182.at.cells
            have f0 := Hqb182.at.fz 0
            have f1 := Hqb182.at.fz 1
            have f2 := Hqb182.at.fz 2
            have f3 := Hqb182.at.fz 3
            have hat : VvAt (set4v wqb180 Aqb175 (.slice a1 0 c1) (.int .i64 0) (.int .i64 0) (.string (bs []))) Aqb175 (.slice a1 0 c1) 0 0 [] := VvAt.put (v' := (.slice a1 0 c1)) (nx' := 0) (sq' := 0) (lg' := []) Hqb182.at
            have hSN : Below w6.heap.size w6 (set4v wqb180 Aqb175 (.slice a1 0 c1) (.int .i64 0) (.int .i64 0) (.string (bs []))) := below_set4v hS Lqb175 _ _ _ _
            obtain ⟨wqb185, ewqb185⟩ : ∃ wN, (set4v wqb180 Aqb175 (.slice a1 0 c1) (.int .i64 0) (.int .i64 0) (.string (bs []))) = wN := ⟨_, rfl⟩
            rw [ewqb185] at hat hSN
            unfold set4v at ewqb185
            refine reg_unit (i := 12) (w' := wqb185) rfl (by kernel_rfl) (by kernel_rfl) (by rw [← ewqb185]; go_simp) hSN ?_
            clear hS ewqb185 c0' c1' c2' c3' f0 f1 f2 f3
            have hS := hSN
            clear hSN
            try simp only [Act.put, List.setIfInBounds_toArray, List.set_cons_zero, List.set_cons_succ]
            refine reg_plan [13] (fuel := 0) (a' := ?qb186a) (by kernel_rfl) (by kernel_rfl) (by kernel_rfl) ?qb186p hS ?qb186n
            case qb186p =>
              iterate 1 (apply Yl.cons rfl (by kernel_rfl); focus (rintro wx hx; obtain ⟨v0, v1, v2, v3⟩ := (HV6.out.carry hx).cells; have q0 := HQ.out wx (HD6.out.trans (hx.mono HD6.out.size)); obtain ⟨m0, m1, m2, m3, m4⟩ := (HM6.out.carry hx).cells; simp only [Mlo, Mhi, twoC] at m0 m1 m2 m3 m4; obtain ⟨u0, u1, u2, u3⟩ := (HW6.out.carry hx).cells; clear hx; go_simp; all_goals (with_reducible rfl)); try simp only [Act.put, List.setIfInBounds_toArray, List.set_cons_zero, List.set_cons_succ])
              exact Yl.nil
            try simp only [Act.put, List.setIfInBounds_toArray, List.set_cons_zero, List.set_cons_succ]
            refine wpAnyH_done (by kernel_rfl) ?_ _
            refine NoPanic.normal ?_
            exact ⟨rfl, (Aqb147, Aqb179, Aqb175, a1, c1), by first | rfl | simp only [Act.put, List.setIfInBounds_toArray, List.set_cons_zero, List.set_cons_succ], hS⟩
        · skip
          obtain ⟨wqb187, ewqb187⟩ : ∃ wN, wqb145.alloc (.cells #[.string (bs [100]), .int .i64 1, .int .i64 1, .string (bs [98]), .string (bs [99]), .string (bs [101]), .int .i64 1, .int .i64 1, .string (bs [99]), .string (bs [102])] 28) = wN := ⟨_, rfl⟩
          have hbb : Below wqb145.heap.size wqb145 wqb187 := by rw [← ewqb187]; exact (Below.refl _ _).alloc (Nat.le_refl _) _
          have hSN := hK _ _ hS hbb
          obtain ⟨Aqb188, hAqb188⟩ : ∃ A, A = wqb145.heap.size := ⟨_, rfl⟩
          have Hqb188 : RdM wqb187 (.slice (some ⟨Aqb188, 0, none⟩) 2 2) oneDE := by rw [← ewqb187, hAqb188]; exact oneDE_rd wqb145
          have Lqb188 : w6.heap.size ≤ Aqb188 := by rw [hAqb188]; exact hS.size
          refine wop_run (v := .slice (some ⟨Aqb188, 0, none⟩) 2 2) (w' := wqb187) rfl (by kernel_rfl) (by rw [← ewqb187, hAqb188]; go_simp) ⟨hSN, ?_⟩
          clear hS hbb ewqb187 hAqb188
          have hS := hSN
          clear hSN
          try simp only [Act.put, List.setIfInBounds_toArray, List.set_cons_zero, List.set_cons_succ]
          refine reg_two (i := 2) (j := 11) (by kernel_rfl) ?_ ?_
          · skip
            obtain ⟨wqb189, ewqb189⟩ : ∃ wN, wqb187.alloc (.cells #[.string (bs [99]), .int .i64 1, .int .i64 1, .string (bs [98]), .string (bs [102])] 28) = wN := ⟨_, rfl⟩
            have hbb : Below wqb187.heap.size wqb187 wqb189 := by rw [← ewqb189]; exact (Below.refl _ _).alloc (Nat.le_refl _) _
            have hSN := hK _ _ hS hbb
            have Hqb190 := Hqb188.carry hbb
            obtain ⟨Aqb191, hAqb191⟩ : ∃ A, A = wqb187.heap.size := ⟨_, rfl⟩
            have Hqb191 : RdM wqb189 (.slice (some ⟨Aqb191, 0, none⟩) 1 1) oneC := by rw [← ewqb189, hAqb191]; exact oneC_rd wqb187
            have Lqb191 : w6.heap.size ≤ Aqb191 := by rw [hAqb191]; exact hS.size
            refine wop_run (v := .slice (some ⟨Aqb191, 0, none⟩) 1 1) (w' := wqb189) rfl (by kernel_rfl) (by rw [← ewqb189, hAqb191]; go_simp) ⟨hSN, ?_⟩
            clear hS hbb ewqb189 hAqb191
            have hS := hSN
            clear hSN
            try simp only [Act.put, List.setIfInBounds_toArray, List.set_cons_zero, List.set_cons_succ]
            refine reg_plan [3] (fuel := 7) (a' := ?qb192a) (by kernel_rfl) (by kernel_rfl) (by kernel_rfl) ?qb192p hS ?qb192n
            case qb192p =>
              iterate 1 (apply Yl.cons rfl (by kernel_rfl); focus (rintro wx hx; obtain ⟨v0, v1, v2, v3⟩ := (HV6.out.carry hx).cells; have q0 := HQ.out wx (HD6.out.trans (hx.mono HD6.out.size)); obtain ⟨m0, m1, m2, m3, m4⟩ := (HM6.out.carry hx).cells; simp only [Mlo, Mhi, twoC] at m0 m1 m2 m3 m4; obtain ⟨u0, u1, u2, u3⟩ := (HW6.out.carry hx).cells; clear hx; go_simp; all_goals (with_reducible rfl)); try simp only [Act.put, List.setIfInBounds_toArray, List.set_cons_zero, List.set_cons_succ])
              exact Yl.nil
            try simp only [Act.put, List.setIfInBounds_toArray, List.set_cons_zero, List.set_cons_succ]
            refine reg_two (i := 7) (j := 11) (by kernel_rfl) ?_ ?_
            · skip
              refine wop_callg (R := fun v wy => ∃ a1 c1, v = .tuple #[.agg #[.slice a1 0 c1, .int .i64 0, .int .i64 0, .string (bs [])], .int .i64 8] ∧ LvT wy a1 0 c1 [] ∧ Below wqb189.heap.size wqb189 wy) rfl (by kernel_rfl) (by go_simp; try rfl) (swp_lw (k := 1) (HR6.out.carry hS) Hqb191 Hqb190 (by decide) (by omega) (by omega) vn_s3 rfl) ?_
              rintro v9 wqb193 ⟨a1, c1, rfl, h7, hbb⟩
              have hSN := hK _ _ hS hbb
              refine ⟨hSN, ?_⟩
              have Hqb194 := Hqb190.carry hbb
              have Hqb195 := Hqb191.carry hbb
              clear h7
              clear hS hbb
              have hS := hSN
              clear hSN
              try simp only [Act.put, List.setIfInBounds_toArray, List.set_cons_zero, List.set_cons_succ]
              refine reg_plan [8, 9, 10] (fuel := 3) (a' := ?qb196a) (by kernel_rfl) (by kernel_rfl) (by kernel_rfl) ?qb196p hS ?qb196n
              case qb196p =>
                iterate 3 (apply Yl.cons rfl (by kernel_rfl); focus (rintro wx hx; obtain ⟨v0, v1, v2, v3⟩ := (HV6.out.carry hx).cells; have q0 := HQ.out wx (HD6.out.trans (hx.mono HD6.out.size)); obtain ⟨m0, m1, m2, m3, m4⟩ := (HM6.out.carry hx).cells; simp only [Mlo, Mhi, twoC] at m0 m1 m2 m3 m4; obtain ⟨u0, u1, u2, u3⟩ := (HW6.out.carry hx).cells; clear hx; go_simp; all_goals (with_reducible rfl)); try simp only [Act.put, List.setIfInBounds_toArray, List.set_cons_zero, List.set_cons_succ])
                exact Yl.nil
              try simp only [Act.put, List.setIfInBounds_toArray, List.set_cons_zero, List.set_cons_succ]
              obtain ⟨wqb197, ewqb197⟩ : ∃ wN, wqb193.alloc (.cells #[.slice none 0 0, .int .i64 0, .int .i64 0, .string { data := #[] }] 24) = wN := ⟨_, rfl⟩
              have hbb : Below wqb193.heap.size wqb193 wqb197 := by rw [← ewqb197]; exact (Below.refl _ _).alloc (Nat.le_refl _) _
              have hSN := hK _ _ hS hbb
              have Hqb198 := Hqb194.carry hbb
              have Hqb199 := Hqb195.carry hbb
              obtain ⟨Aqb200, hAqb200⟩ : ∃ A, A = wqb193.heap.size := ⟨_, rfl⟩
              have Hqb200 : VzB wqb197 Aqb200 := by rw [← ewqb197, hAqb200]; exact VzB.new wqb193
              have Lqb200 : w6.heap.size ≤ Aqb200 := by rw [hAqb200]; exact hS.size
              refine reg_run (i := 11) (v := .pointer (some ⟨Aqb200, 0, none⟩)) (w' := wqb197) rfl (by kernel_rfl) (by kernel_rfl) (by rw [← ewqb197, hAqb200]; go_simp) hSN ?_
              clear hS hbb ewqb197 hAqb200
              have hS := hSN
              clear hSN
              try simp only [Act.put, List.setIfInBounds_toArray, List.set_cons_zero, List.set_cons_succ]
              obtain ⟨c0', c1', c2', c3'⟩ := Hqb200.at.cells
              have f0 := Hqb200.at.fz 0
              have f1 := Hqb200.at.fz 1
              have f2 := Hqb200.at.fz 2
              have f3 := Hqb200.at.fz 3
              have hat : VvAt (set4v wqb197 Aqb200 (.slice a1 0 c1) (.int .i64 0) (.int .i64 0) (.string (bs []))) Aqb200 (.slice a1 0 c1) 0 0 [] := VvAt.put (v' := (.slice a1 0 c1)) (nx' := 0) (sq' := 0) (lg' := []) Hqb200.at
              have hSN : Below w6.heap.size w6 (set4v wqb197 Aqb200 (.slice a1 0 c1) (.int .i64 0) (.int .i64 0) (.string (bs []))) := below_set4v hS Lqb200 _ _ _ _
              obtain ⟨wqb201, ewqb201⟩ : ∃ wN, (set4v wqb197 Aqb200 (.slice a1 0 c1) (.int .i64 0) (.int .i64 0) (.string (bs []))) = wN := ⟨_, rfl⟩
              rw [ewqb201] at hat hSN
              unfold set4v at ewqb201
              refine reg_unit (i := 12) (w' := wqb201) rfl (by kernel_rfl) (by kernel_rfl) (by rw [← ewqb201]; go_simp) hSN ?_
              clear hS ewqb201 c0' c1' c2' c3' f0 f1 f2 f3
              have hS := hSN
              clear hSN
              try simp only [Act.put, List.setIfInBounds_toArray, List.set_cons_zero, List.set_cons_succ]
              refine reg_plan [13] (fuel := 0) (a' := ?qb202a) (by kernel_rfl) (by kernel_rfl) (by kernel_rfl) ?qb202p hS ?qb202n
              case qb202p =>
                iterate 1 (apply Yl.cons rfl (by kernel_rfl); focus (rintro wx hx; obtain ⟨v0, v1, v2, v3⟩ := (HV6.out.carry hx).cells; have q0 := HQ.out wx (HD6.out.trans (hx.mono HD6.out.size)); obtain ⟨m0, m1, m2, m3, m4⟩ := (HM6.out.carry hx).cells; simp only [Mlo, Mhi, twoC] at m0 m1 m2 m3 m4; obtain ⟨u0, u1, u2, u3⟩ := (HW6.out.carry hx).cells; clear hx; go_simp; all_goals (with_reducible rfl)); try simp only [Act.put, List.setIfInBounds_toArray, List.set_cons_zero, List.set_cons_succ])
                exact Yl.nil
              try simp only [Act.put, List.setIfInBounds_toArray, List.set_cons_zero, List.set_cons_succ]
              refine wpAnyH_done (by kernel_rfl) ?_ _
              refine NoPanic.normal ?_
              exact ⟨rfl, (Aqb191, Aqb188, Aqb200, a1, c1), by first | rfl | simp only [Act.put, List.setIfInBounds_toArray, List.set_cons_zero, List.set_cons_succ], hS⟩
            · skip
              obtain ⟨wqb203, ewqb203⟩ : ∃ wN, wqb189.alloc (.cells #[.slice none 0 0, .int .i64 0, .int .i64 0, .string { data := #[] }] 24) = wN := ⟨_, rfl⟩
              have hbb : Below wqb189.heap.size wqb189 wqb203 := by rw [← ewqb203]; exact (Below.refl _ _).alloc (Nat.le_refl _) _
              have hSN := hK _ _ hS hbb
              have Hqb204 := Hqb190.carry hbb
              have Hqb205 := Hqb191.carry hbb
              obtain ⟨Aqb206, hAqb206⟩ : ∃ A, A = wqb189.heap.size := ⟨_, rfl⟩
              have Hqb206 : VzB wqb203 Aqb206 := by rw [← ewqb203, hAqb206]; exact VzB.new wqb189
              have Lqb206 : w6.heap.size ≤ Aqb206 := by rw [hAqb206]; exact hS.size
              refine wop_run (v := .pointer (some ⟨Aqb206, 0, none⟩)) (w' := wqb203) rfl (by kernel_rfl) (by rw [← ewqb203, hAqb206]; go_simp) ⟨hSN, ?_⟩
              clear hS hbb ewqb203 hAqb206
              have hS := hSN
              clear hSN
              try simp only [Act.put, List.setIfInBounds_toArray, List.set_cons_zero, List.set_cons_succ]
              refine reg_callg (i := 7) (R := fun v wy => ∃ a1 c1, v = .tuple #[.agg #[.slice a1 0 c1, .int .i64 0, .int .i64 0, .string (bs [])], .int .i64 8] ∧ LvT wy a1 0 c1 [] ∧ Below wqb203.heap.size wqb203 wy) rfl (by kernel_rfl) (by kernel_rfl) (by go_simp; try rfl) (swp_lw (k := 1) (HR6.out.carry hS) Hqb205 Hqb204 (by decide) (by omega) (by omega) vn_s3 rfl) ?_
              rintro v9 wqb207 ⟨a1, c1, rfl, h7, hbb⟩
              have hSN := hK _ _ hS hbb
              refine ⟨hSN, ?_⟩
              have Hqb208 := Hqb204.carry hbb
              have Hqb209 := Hqb205.carry hbb
              have Hqb210 := Hqb206.carry hbb
              clear h7
              clear hS hbb
              have hS := hSN
              clear hSN
              try simp only [Act.put, List.setIfInBounds_toArray, List.set_cons_zero, List.set_cons_succ]
              refine reg_plan [8, 9, 10] (fuel := 2) (a' := ?qb211a) (by kernel_rfl) (by kernel_rfl) (by kernel_rfl) ?qb211p hS ?qb211n
              case qb211p =>
                iterate 3 (apply Yl.cons rfl (by kernel_rfl); focus (rintro wx hx; obtain ⟨v0, v1, v2, v3⟩ := (HV6.out.carry hx).cells; have q0 := HQ.out wx (HD6.out.trans (hx.mono HD6.out.size)); obtain ⟨m0, m1, m2, m3, m4⟩ := (HM6.out.carry hx).cells; simp only [Mlo, Mhi, twoC] at m0 m1 m2 m3 m4; obtain ⟨u0, u1, u2, u3⟩ := (HW6.out.carry hx).cells; clear hx; go_simp; all_goals (with_reducible rfl)); try simp only [Act.put, List.setIfInBounds_toArray, List.set_cons_zero, List.set_cons_succ])
                exact Yl.nil
              try simp only [Act.put, List.setIfInBounds_toArray, List.set_cons_zero, List.set_cons_succ]
              obtain ⟨c0', c1', c2', c3'⟩ := Hqb210.at.cells
              have f0 := Hqb210.at.fz 0
              have f1 := Hqb210.at.fz 1
              have f2 := Hqb210.at.fz 2
              have f3 := Hqb210.at.fz 3
              have hat : VvAt (set4v wqb207 Aqb206 (.slice a1 0 c1) (.int .i64 0) (.int .i64 0) (.string (bs []))) Aqb206 (.slice a1 0 c1) 0 0 [] := VvAt.put (v' := (.slice a1 0 c1)) (nx' := 0) (sq' := 0) (lg' := []) Hqb210.at
              have hSN : Below w6.heap.size w6 (set4v wqb207 Aqb206 (.slice a1 0 c1) (.int .i64 0) (.int .i64 0) (.string (bs []))) := below_set4v hS Lqb206 _ _ _ _
              obtain ⟨wqb212, ewqb212⟩ : ∃ wN, (set4v wqb207 Aqb206 (.slice a1 0 c1) (.int .i64 0) (.int .i64 0) (.string (bs []))) = wN := ⟨_, rfl⟩
              rw [ewqb212] at hat hSN
              unfold set4v at ewqb212
              refine reg_unit (i := 12) (w' := wqb212) rfl (by kernel_rfl) (by kernel_rfl) (by rw [← ewqb212]; go_simp) hSN ?_
              clear hS ewqb212 c0' c1' c2' c3' f0 f1 f2 f3
              have hS := hSN
              clear hSN
              try simp only [Act.put, List.setIfInBounds_toArray, List.set_cons_zero, List.set_cons_succ]
              refine reg_plan [13] (fuel := 0) (a' := ?qb213a) (by kernel_rfl) (by kernel_rfl) (by kernel_rfl) ?qb213p hS ?qb213n
              case qb213p =>
                iterate 1 (apply Yl.cons rfl (by kernel_rfl); focus (rintro wx hx; obtain ⟨v0, v1, v2, v3⟩ := (HV6.out.carry hx).cells; have q0 := HQ.out wx (HD6.out.trans (hx.mono HD6.out.size)); obtain ⟨m0, m1, m2, m3, m4⟩ := (HM6.out.carry hx).cells; simp only [Mlo, Mhi, twoC] at m0 m1 m2 m3 m4; obtain ⟨u0, u1, u2, u3⟩ := (HW6.out.carry hx).cells; clear hx; go_simp; all_goals (with_reducible rfl)); try simp only [Act.put, List.setIfInBounds_toArray, List.set_cons_zero, List.set_cons_succ])
                exact Yl.nil
              try simp only [Act.put, List.setIfInBounds_toArray, List.set_cons_zero, List.set_cons_succ]
              refine wpAnyH_done (by kernel_rfl) ?_ _
              refine NoPanic.normal ?_
              exact ⟨rfl, (Aqb191, Aqb188, Aqb206, a1, c1), by first | rfl | simp only [Act.put, List.setIfInBounds_toArray, List.set_cons_zero, List.set_cons_succ], hS⟩
          · skip
            obtain ⟨wqb214, ewqb214⟩ : ∃ wN, wqb187.alloc (.cells #[.slice none 0 0, .int .i64 0, .int .i64 0, .string { data := #[] }] 24) = wN := ⟨_, rfl⟩
            have hbb : Below wqb187.heap.size wqb187 wqb214 := by rw [← ewqb214]; exact (Below.refl _ _).alloc (Nat.le_refl _) _
            have hSN := hK _ _ hS hbb
            have Hqb215 := Hqb188.carry hbb
            obtain ⟨Aqb216, hAqb216⟩ : ∃ A, A = wqb187.heap.size := ⟨_, rfl⟩
            have Hqb216 : VzB wqb214 Aqb216 := by rw [← ewqb214, hAqb216]; exact VzB.new wqb187
            have Lqb216 : w6.heap.size ≤ Aqb216 := by rw [hAqb216]; exact hS.size
            refine wop_run (v := .pointer (some ⟨Aqb216, 0, none⟩)) (w' := wqb214) rfl (by kernel_rfl) (by rw [← ewqb214, hAqb216]; go_simp) ⟨hSN, ?_⟩
            clear hS hbb ewqb214 hAqb216
            have hS := hSN
            clear hSN
            try simp only [Act.put, List.setIfInBounds_toArray, List.set_cons_zero, List.set_cons_succ]
            obtain ⟨wqb217, ewqb217⟩ : ∃ wN, wqb214.alloc (.cells #[.string (bs [99]), .int .i64 1, .int .i64 1, .string (bs [98]), .string (bs [102])] 28) = wN := ⟨_, rfl⟩
            have hbb : Below wqb214.heap.size wqb214 wqb217 := by rw [← ewqb217]; exact (Below.refl _ _).alloc (Nat.le_refl _) _
            have hSN := hK _ _ hS hbb
            have Hqb218 := Hqb215.carry hbb
            have Hqb219 := Hqb216.carry hbb
            obtain ⟨Aqb220, hAqb220⟩ : ∃ A, A = wqb214.heap.size := ⟨_, rfl⟩
            have Hqb220 : RdM wqb217 (.slice (some ⟨Aqb220, 0, none⟩) 1 1) oneC := by rw [← ewqb217, hAqb220]; exact oneC_rd wqb214
            have Lqb220 : w6.heap.size ≤ Aqb220 := by rw [hAqb220]; exact hS.size
            refine reg_run (i := 2) (v := .slice (some ⟨Aqb220, 0, none⟩) 1 1) (w' := wqb217) rfl (by kernel_rfl) (by kernel_rfl) (by rw [← ewqb217, hAqb220]; go_simp) hSN ?_
            clear hS hbb ewqb217 hAqb220
            have hS := hSN
            clear hSN
            try simp only [Act.put, List.setIfInBounds_toArray, List.set_cons_zero, List.set_cons_succ]
            refine reg_plan [3] (fuel := 6) (a' := ?qb221a) (by kernel_rfl) (by kernel_rfl) (by kernel_rfl) ?qb221p hS ?qb221n
            case qb221p =>
              iterate 1 (apply Yl.cons rfl (by kernel_rfl); focus (rintro wx hx; obtain ⟨v0, v1, v2, v3⟩ := (HV6.out.carry hx).cells; have q0 := HQ.out wx (HD6.out.trans (hx.mono HD6.out.size)); obtain ⟨m0, m1, m2, m3, m4⟩ := (HM6.out.carry hx).cells; simp only [Mlo, Mhi, twoC] at m0 m1 m2 m3 m4; obtain ⟨u0, u1, u2, u3⟩ := (HW6.out.carry hx).cells; clear hx; go_simp; all_goals (with_reducible rfl)); try simp only [Act.put, List.setIfInBounds_toArray, List.set_cons_zero, List.set_cons_succ])
              exact Yl.nil
            try simp only [Act.put, List.setIfInBounds_toArray, List.set_cons_zero, List.set_cons_succ]
            refine reg_callg (i := 7) (R := fun v wy => ∃ a1 c1, v = .tuple #[.agg #[.slice a1 0 c1, .int .i64 0, .int .i64 0, .string (bs [])], .int .i64 8] ∧ LvT wy a1 0 c1 [] ∧ Below wqb217.heap.size wqb217 wy) rfl (by kernel_rfl) (by kernel_rfl) (by go_simp; try rfl) (swp_lw (k := 1) (HR6.out.carry hS) Hqb220 Hqb218 (by decide) (by omega) (by omega) vn_s3 rfl) ?_
            rintro v9 wqb222 ⟨a1, c1, rfl, h7, hbb⟩
            have hSN := hK _ _ hS hbb
            refine ⟨hSN, ?_⟩
            have Hqb223 := Hqb218.carry hbb
            have Hqb224 := Hqb219.carry hbb
            have Hqb225 := Hqb220.carry hbb
            clear h7
            clear hS hbb
            have hS := hSN
            clear hSN
            try simp only [Act.put, List.setIfInBounds_toArray, List.set_cons_zero, List.set_cons_succ]
            refine reg_plan [8, 9, 10] (fuel := 2) (a' := ?qb226a) (by kernel_rfl) (by kernel_rfl) (by kernel_rfl) ?qb226p hS ?qb226n
            case qb226p =>
              iterate 3 (apply Yl.cons rfl (by kernel_rfl); focus (rintro wx hx; obtain ⟨v0, v1, v2, v3⟩ := (HV6.out.carry hx).cells; have q0 := HQ.out wx (HD6.out.trans (hx.mono HD6.out.size)); obtain ⟨m0, m1, m2, m3, m4⟩ := (HM6.out.carry hx).cells; simp only [Mlo, Mhi, twoC] at m0 m1 m2 m3 m4; obtain ⟨u0, u1, u2, u3⟩ := (HW6.out.carry hx).cells; clear hx; go_simp; all_goals (with_reducible rfl)); try simp only [Act.put, List.setIfInBounds_toArray, List.set_cons_zero, List.set_cons_succ])
              exact Yl.nil
            try simp only [Act.put, List.setIfInBounds_toArray, List.set_cons_zero, List.set_cons_succ]
            obtain ⟨c0', c1', c2', c3'⟩ := Hqb224.at.cells
            have f0 := Hqb224.at.fz 0
            have f1 := Hqb224.at.fz 1
            have f2 := Hqb224.at.fz 2
            have f3 := Hqb224.at.fz 3
            have hat : VvAt (set4v wqb222 Aqb216 (.slice a1 0 c1) (.int .i64 0) (.int .i64 0) (.string (bs []))) Aqb216 (.slice a1 0 c1) 0 0 [] := VvAt.put (v' := (.slice a1 0 c1)) (nx' := 0) (sq' := 0) (lg' := []) Hqb224.at
            have hSN : Below w6.heap.size w6 (set4v wqb222 Aqb216 (.slice a1 0 c1) (.int .i64 0) (.int .i64 0) (.string (bs []))) := below_set4v hS Lqb216 _ _ _ _
            obtain ⟨wqb227, ewqb227⟩ : ∃ wN, (set4v wqb222 Aqb216 (.slice a1 0 c1) (.int .i64 0) (.int .i64 0) (.string (bs []))) = wN := ⟨_, rfl⟩
            rw [ewqb227] at hat hSN
            unfold set4v at ewqb227
            refine reg_unit (i := 12) (w' := wqb227) rfl (by kernel_rfl) (by kernel_rfl) (by rw [← ewqb227]; go_simp) hSN ?_
            clear hS ewqb227 c0' c1' c2' c3' f0 f1 f2 f3
            have hS := hSN
            clear hSN
            try simp only [Act.put, List.setIfInBounds_toArray, List.set_cons_zero, List.set_cons_succ]
            refine reg_plan [13] (fuel := 0) (a' := ?qb228a) (by kernel_rfl) (by kernel_rfl) (by kernel_rfl) ?qb228p hS ?qb228n
            case qb228p =>
              iterate 1 (apply Yl.cons rfl (by kernel_rfl); focus (rintro wx hx; obtain ⟨v0, v1, v2, v3⟩ := (HV6.out.carry hx).cells; have q0 := HQ.out wx (HD6.out.trans (hx.mono HD6.out.size)); obtain ⟨m0, m1, m2, m3, m4⟩ := (HM6.out.carry hx).cells; simp only [Mlo, Mhi, twoC] at m0 m1 m2 m3 m4; obtain ⟨u0, u1, u2, u3⟩ := (HW6.out.carry hx).cells; clear hx; go_simp; all_goals (with_reducible rfl)); try simp only [Act.put, List.setIfInBounds_toArray, List.set_cons_zero, List.set_cons_succ])
              exact Yl.nil
            try simp only [Act.put, List.setIfInBounds_toArray, List.set_cons_zero, List.set_cons_succ]
            refine wpAnyH_done (by kernel_rfl) ?_ _
            refine NoPanic.normal ?_
            exact ⟨rfl, (Aqb220, Aqb188, Aqb216, a1, c1), by first | rfl | simp only [Act.put, List.setIfInBounds_toArray, List.set_cons_zero, List.set_cons_succ], hS⟩
        · skip
          obtain ⟨wqb229, ewqb229⟩ : ∃ wN, wqb145.alloc (.cells #[.slice none 0 0, .int .i64 0, .int .i64 0, .string { data := #[] }] 24) = wN := ⟨_, rfl⟩
          have hbb : Below wqb145.heap.size wqb145 wqb229 := by rw [← ewqb229]; exact (Below.refl _ _).alloc (Nat.le_refl _) _
          have hSN := hK _ _ hS hbb
          obtain ⟨Aqb230, hAqb230⟩ : ∃ A, A = wqb145.heap.size := ⟨_, rfl⟩
          have Hqb230 : VzB wqb229 Aqb230 := by rw [← ewqb229, hAqb230]; exact VzB.new wqb145
          have Lqb230 : w6.heap.size ≤ Aqb230 := by rw [hAqb230]; exact hS.size
          refine wop_run (v := .pointer (some ⟨Aqb230, 0, none⟩)) (w' := wqb229) rfl (by kernel_rfl) (by rw [← ewqb229, hAqb230]; go_simp) ⟨hSN, ?_⟩
          clear hS hbb ewqb229 hAqb230
          have hS := hSN
          clear hSN
          try simp only [Act.put, List.setIfInBounds_toArray, List.set_cons_zero, List.set_cons_succ]
          refine reg_two (i := 2) (j := 6) (by kernel_rfl) ?_ ?_
          · skip
            obtain ⟨wqb231, ewqb231⟩ : ∃ wN, wqb229.alloc (.cells #[.string (bs [99]), .int .i64 1, .int .i64 1, .string (bs [98]), .string (bs [102])] 28) = wN := ⟨_, rfl⟩
            have hbb : Below wqb229.heap.size wqb229 wqb231 := by rw [← ewqb231]; exact (Below.refl _ _).alloc (Nat.le_refl _) _
            have hSN := hK _ _ hS hbb
            have Hqb232 := Hqb230.carry hbb
            obtain ⟨Aqb233, hAqb233⟩ : ∃ A, A = wqb229.heap.size := ⟨_, rfl⟩
            have Hqb233 : RdM wqb231 (.slice (some ⟨Aqb233, 0, none⟩) 1 1) oneC := by rw [← ewqb231, hAqb233]; exact oneC_rd wqb229
            have Lqb233 : w6.heap.size ≤ Aqb233 := by rw [hAqb233]; exact hS.size
            refine wop_run (v := .slice (some ⟨Aqb233, 0, none⟩) 1 1) (w' := wqb231) rfl (by kernel_rfl) (by rw [← ewqb231, hAqb233]; go_simp) ⟨hSN, ?_⟩
            clear hS hbb ewqb231 hAqb233
            have hS := hSN
            clear hSN
            try simp only [Act.put, List.setIfInBounds_toArray, List.set_cons_zero, List.set_cons_succ]
            refine reg_plan [3] (fuel := 7) (a' := ?qb234a) (by kernel_rfl) (by kernel_rfl) (by kernel_rfl) ?qb234p hS ?qb234n
            case qb234p =>
              iterate 1 (apply Yl.cons rfl (by kernel_rfl); focus (rintro wx hx; obtain ⟨v0, v1, v2, v3⟩ := (HV6.out.carry hx).cells; have q0 := HQ.out wx (HD6.out.trans (hx.mono HD6.out.size)); obtain ⟨m0, m1, m2, m3, m4⟩ := (HM6.out.carry hx).cells; simp only [Mlo, Mhi, twoC] at m0 m1 m2 m3 m4; obtain ⟨u0, u1, u2, u3⟩ := (HW6.out.carry hx).cells; clear hx; go_simp; all_goals (with_reducible rfl)); try simp only [Act.put, List.setIfInBounds_toArray, List.set_cons_zero, List.set_cons_succ])
              exact Yl.nil
            try simp only [Act.put, List.setIfInBounds_toArray, List.set_cons_zero, List.set_cons_succ]
            obtain ⟨wqb235, ewqb235⟩ : ∃ wN, wqb231.alloc (.cells #[.string (bs [100]), .int .i64 1, .int .i64 1, .string (bs [98]), .string (bs [99]), .string (bs [101]), .int .i64 1, .int .i64 1, .string (bs [99]), .string (bs [102])] 28) = wN := ⟨_, rfl⟩
            have hbb : Below wqb231.heap.size wqb231 wqb235 := by rw [← ewqb235]; exact (Below.refl _ _).alloc (Nat.le_refl _) _
            have hSN := hK _ _ hS hbb
            have Hqb236 := Hqb232.carry hbb
            have Hqb237 := Hqb233.carry hbb
            obtain ⟨Aqb238, hAqb238⟩ : ∃ A, A = wqb231.heap.size := ⟨_, rfl⟩
            have Hqb238 : RdM wqb235 (.slice (some ⟨Aqb238, 0, none⟩) 2 2) oneDE := by rw [← ewqb235, hAqb238]; exact oneDE_rd wqb231
            have Lqb238 : w6.heap.size ≤ Aqb238 := by rw [hAqb238]; exact hS.size
            refine reg_run (i := 6) (v := .slice (some ⟨Aqb238, 0, none⟩) 2 2) (w' := wqb235) rfl (by kernel_rfl) (by kernel_rfl) (by rw [← ewqb235, hAqb238]; go_simp) hSN ?_
            clear hS hbb ewqb235 hAqb238
            have hS := hSN
            clear hSN
            try simp only [Act.put, List.setIfInBounds_toArray, List.set_cons_zero, List.set_cons_succ]
            refine reg_callg (i := 7) (R := fun v wy => ∃ a1 c1, v = .tuple #[.agg #[.slice a1 0 c1, .int .i64 0, .int .i64 0, .string (bs [])], .int .i64 8] ∧ LvT wy a1 0 c1 [] ∧ Below wqb235.heap.size wqb235 wy) rfl (by kernel_rfl) (by kernel_rfl) (by go_simp; try rfl) (swp_lw (k := 1) (HR6.out.carry hS) Hqb237 Hqb238 (by decide) (by omega) (by omega) vn_s3 rfl) ?_
            rintro v9 wqb239 ⟨a1, c1, rfl, h7, hbb⟩
            have hSN := hK _ _ hS hbb
            refine ⟨hSN, ?_⟩
            have Hqb240 := Hqb236.carry hbb
            have Hqb241 := Hqb237.carry hbb
            have Hqb242 := Hqb238.carry hbb
            clear h7
            clear hS hbb
            have hS := hSN
            clear hSN
            try simp only [Act.put, List.setIfInBounds_toArray, List.set_cons_zero, List.set_cons_succ]
            refine reg_plan [8, 9, 10] (fuel := 2) (a' := ?qb243a) (by kernel_rfl) (by kernel_rfl) (by kernel_rfl) ?qb243p hS ?qb243n
            case qb243p =>
              iterate 3 (apply Yl.cons rfl (by kernel_rfl); focus (rintro wx hx; obtain ⟨v0, v1, v2, v3⟩ := (HV6.out.carry hx).cells; have q0 := HQ.out wx (HD6.out.trans (hx.mono HD6.out.size)); obtain ⟨m0, m1, m2, m3, m4⟩ := (HM6.out.carry hx).cells; simp only [Mlo, Mhi, twoC] at m0 m1 m2 m3 m4; obtain ⟨u0, u1, u2, u3⟩ := (HW6.out.carry hx).cells; clear hx; go_simp; all_goals (with_reducible rfl)); try simp only [Act.put, List.setIfInBounds_toArray, List.set_cons_zero, List.set_cons_succ])
              exact Yl.nil
            try simp only [Act.put, List.setIfInBounds_toArray, List.set_cons_zero, List.set_cons_succ]
            obtain ⟨c0', c1', c2', c3'⟩ := Hqb240.at.cells
            have f0 := Hqb240.at.fz 0
            have f1 := Hqb240.at.fz 1
            have f2 := Hqb240.at.fz 2
            have f3 := Hqb240.at.fz 3
            have hat : VvAt (set4v wqb239 Aqb230 (.slice a1 0 c1) (.int .i64 0) (.int .i64 0) (.string (bs []))) Aqb230 (.slice a1 0 c1) 0 0 [] := VvAt.put (v' := (.slice a1 0 c1)) (nx' := 0) (sq' := 0) (lg' := []) Hqb240.at
            have hSN : Below w6.heap.size w6 (set4v wqb239 Aqb230 (.slice a1 0 c1) (.int .i64 0) (.int .i64 0) (.string (bs []))) := below_set4v hS Lqb230 _ _ _ _
            obtain ⟨wqb244, ewqb244⟩ : ∃ wN, (set4v wqb239 Aqb230 (.slice a1 0 c1) (.int .i64 0) (.int .i64 0) (.string (bs []))) = wN := ⟨_, rfl⟩
            rw [ewqb244] at hat hSN
            unfold set4v at ewqb244
            refine reg_unit (i := 12) (w' := wqb244) rfl (by kernel_rfl) (by kernel_rfl) (by rw [← ewqb244]; go_simp) hSN ?_
            clear hS ewqb244 c0' c1' c2' c3' f0 f1 f2 f3
            have hS := hSN
            clear hSN
            try simp only [Act.put, List.setIfInBounds_toArray, List.set_cons_zero, List.set_cons_succ]
            refine reg_plan [13] (fuel := 0) (a' := ?qb245a) (by kernel_rfl) (by kernel_rfl) (by kernel_rfl) ?qb245p hS ?qb245n
            case qb245p =>
              iterate 1 (apply Yl.cons rfl (by kernel_rfl); focus (rintro wx hx; obtain ⟨v0, v1, v2, v3⟩ := (HV6.out.carry hx).cells; have q0 := HQ.out wx (HD6.out.trans (hx.mono HD6.out.size)); obtain ⟨m0, m1, m2, m3, m4⟩ := (HM6.out.carry hx).cells; simp only [Mlo, Mhi, twoC] at m0 m1 m2 m3 m4; obtain ⟨u0, u1, u2, u3⟩ := (HW6.out.carry hx).cells; clear hx; go_simp; all_goals (with_reducible rfl)); try simp only [Act.put, List.setIfInBounds_toArray, List.set_cons_zero, List.set_cons_succ])
              exact Yl.nil
            try simp only [Act.put, List.setIfInBounds_toArray, List.set_cons_zero, List.set_cons_succ]
            refine wpAnyH_done (by kernel_rfl) ?_ _
            refine NoPanic.normal ?_
            exact ⟨rfl, (Aqb233, Aqb238, Aqb230, a1, c1), by first | rfl | simp only [Act.put, List.setIfInBounds_toArray, List.set_cons_zero, List.set_cons_succ], hS⟩
          · skip
            obtain ⟨wqb246, ewqb246⟩ : ∃ wN, wqb229.alloc (.cells #[.string (bs [100]), .int .i64 1, .int .i64 1, .string (bs [98]), .string (bs [99]), .string (bs [101]), .int .i64 1, .int .i64 1, .string (bs [99]), .string (bs [102])] 28) = wN := ⟨_, rfl⟩
            have hbb : Below wqb229.heap.size wqb229 wqb246 := by rw [← ewqb246]; exact (Below.refl _ _).alloc (Nat.le_refl _) _
            have hSN := hK _ _ hS hbb
            have Hqb247 := Hqb230.carry hbb
            obtain ⟨Aqb248, hAqb248⟩ : ∃ A, A = wqb229.heap.size := ⟨_, rfl⟩
            have Hqb248 : RdM wqb246 (.slice (some ⟨Aqb248, 0, none⟩) 2 2) oneDE := by rw [← ewqb246, hAqb248]; exact oneDE_rd wqb229
            have Lqb248 : w6.heap.size ≤ Aqb248 := by rw [hAqb248]; exact hS.size
            refine wop_run (v := .slice (some ⟨Aqb248, 0, none⟩) 2 2) (w' := wqb246) rfl (by kernel_rfl) (by rw [← ewqb246, hAqb248]; go_simp) ⟨hSN, ?_⟩
            clear hS hbb ewqb246 hAqb248
            have hS := hSN
            clear hSN
            try simp only [Act.put, List.setIfInBounds_toArray, List.set_cons_zero, List.set_cons_succ]
            obtain ⟨wqb249, ewqb249⟩ : ∃ wN, wqb246.alloc (.cells #[.string (bs [99]), .int .i64 1, .int .i64 1, .string (bs [98]), .string (bs [102])] 28) = wN := ⟨_, rfl⟩
            have hbb : Below wqb246.heap.size wqb246 wqb249 := by rw [← ewqb249]; exact (Below.refl _ _).alloc (Nat.le_refl _) _
            have hSN := hK _ _ hS hbb
            have Hqb250 := Hqb247.carry hbb
            have Hqb251 := Hqb248.carry hbb
            obtain ⟨Aqb252, hAqb252⟩ : ∃ A, A = wqb246.heap.size := ⟨_, rfl⟩
            have Hqb252 : RdM wqb249 (.slice (some ⟨Aqb252, 0, none⟩) 1 1) oneC := by rw [← ewqb249, hAqb252]; exact oneC_rd wqb246
            have Lqb252 : w6.heap.size ≤ Aqb252 := by rw [hAqb252]; exact hS.size
            refine reg_run (i := 2) (v := .slice (some ⟨Aqb252, 0, none⟩) 1 1) (w' := wqb249) rfl (by kernel_rfl) (by kernel_rfl) (by rw [← ewqb249, hAqb252]; go_simp) hSN ?_
            clear hS hbb ewqb249 hAqb252
            have hS := hSN
            clear hSN
            try simp only [Act.put, List.setIfInBounds_toArray, List.set_cons_zero, List.set_cons_succ]
            refine reg_plan [3] (fuel := 6) (a' := ?qb253a) (by kernel_rfl) (by kernel_rfl) (by kernel_rfl) ?qb253p hS ?qb253n
            case qb253p =>
              iterate 1 (apply Yl.cons rfl (by kernel_rfl); focus (rintro wx hx; obtain ⟨v0, v1, v2, v3⟩ := (HV6.out.carry hx).cells; have q0 := HQ.out wx (HD6.out.trans (hx.mono HD6.out.size)); obtain ⟨m0, m1, m2, m3, m4⟩ := (HM6.out.carry hx).cells; simp only [Mlo, Mhi, twoC] at m0 m1 m2 m3 m4; obtain ⟨u0, u1, u2, u3⟩ := (HW6.out.carry hx).cells; clear hx; go_simp; all_goals (with_reducible rfl)); try simp only [Act.put, List.setIfInBounds_toArray, List.set_cons_zero, List.set_cons_succ])
              exact Yl.nil
            try simp only [Act.put, List.setIfInBounds_toArray, List.set_cons_zero, List.set_cons_succ]
            refine reg_callg (i := 7) (R := fun v wy => ∃ a1 c1, v = .tuple #[.agg #[.slice a1 0 c1, .int .i64 0, .int .i64 0, .string (bs [])], .int .i64 8] ∧ LvT wy a1 0 c1 [] ∧ Below wqb249.heap.size wqb249 wy) rfl (by kernel_rfl) (by kernel_rfl) (by go_simp; try rfl) (swp_lw (k := 1) (HR6.out.carry hS) Hqb252 Hqb251 (by decide) (by omega) (by omega) vn_s3 rfl) ?_
            rintro v9 wqb254 ⟨a1, c1, rfl, h7, hbb⟩
            have hSN := hK _ _ hS hbb
            refine ⟨hSN, ?_⟩
            have Hqb255 := Hqb250.carry hbb
            have Hqb256 := Hqb251.carry hbb
            have Hqb257 := Hqb252.carry hbb
            clear h7
            clear hS hbb
            have hS := hSN
            clear hSN
            try simp only [Act.put, List.setIfInBounds_toArray, List.set_cons_zero, List.set_cons_succ]
            refine reg_plan [8, 9, 10] (fuel := 2) (a' := ?qb258a) (by kernel_rfl) (by kernel_rfl) (by kernel_rfl) ?qb258p hS ?qb258n
            case qb258p =>
              iterate 3 (apply Yl.cons rfl (by kernel_rfl); focus (rintro wx hx; obtain ⟨v0, v1, v2, v3⟩ := (HV6.out.carry hx).cells; have q0 := HQ.out wx (HD6.out.trans (hx.mono HD6.out.size)); obtain ⟨m0, m1, m2, m3, m4⟩ := (HM6.out.carry hx).cells; simp only [Mlo, Mhi, twoC] at m0 m1 m2 m3 m4; obtain ⟨u0, u1, u2, u3⟩ := (HW6.out.carry hx).cells; clear hx; go_simp; all_goals (with_reducible rfl)); try simp only [Act.put, List.setIfInBounds_toArray, List.set_cons_zero, List.set_cons_succ])
              exact Yl.nil
            try simp only [Act.put, List.setIfInBounds_toArray, List.set_cons_zero, List.set_cons_succ]
            obtain ⟨c0', c1', c2', c3'⟩ := Hqb255.at.cells
            have f0 := Hqb255.at.fz 0
            have f1 := Hqb255.at.fz 1
            have f2 := Hqb255.at.fz 2
            have f3 := Hqb255.at.fz 3
            have hat : VvAt (set4v wqb254 Aqb230 (.slice a1 0 c1) (.int .i64 0) (.int .i64 0) (.string (bs []))) Aqb230 (.slice a1 0 c1) 0 0 [] := VvAt.put (v' := (.slice a1 0 c1)) (nx' := 0) (sq' := 0) (lg' := []) Hqb255.at
            have hSN : Below w6.heap.size w6 (set4v wqb254 Aqb230 (.slice a1 0 c1) (.int .i64 0) (.int .i64 0) (.string (bs []))) := below_set4v hS Lqb230 _ _ _ _
            obtain ⟨wqb259, ewqb259⟩ : ∃ wN, (set4v wqb254 Aqb230 (.slice a1 0 c1) (.int .i64 0) (.int .i64 0) (.string (bs []))) = wN := ⟨_, rfl⟩
            rw [ewqb259] at hat hSN
            unfold set4v at ewqb259
            refine reg_unit (i := 12) (w' := wqb259) rfl (by kernel_rfl) (by kernel_rfl) (by rw [← ewqb259]; go_simp) hSN ?_
            clear hS ewqb259 c0' c1' c2' c3' f0 f1 f2 f3
            have hS := hSN
            clear hSN
            try simp only [Act.put, List.setIfInBounds_toArray, List.set_cons_zero, List.set_cons_succ]
            refine reg_plan [13] (fuel := 0) (a' := ?qb260a) (by kernel_rfl) (by kernel_rfl) (by kernel_rfl) ?qb260p hS ?qb260n
            case qb260p =>
              iterate 1 (apply Yl.cons rfl (by kernel_rfl); focus (rintro wx hx; obtain ⟨v0, v1, v2, v3⟩ := (HV6.out.carry hx).cells; have q0 := HQ.out wx (HD6.out.trans (hx.mono HD6.out.size)); obtain ⟨m0, m1, m2, m3, m4⟩ := (HM6.out.carry hx).cells; simp only [Mlo, Mhi, twoC] at m0 m1 m2 m3 m4; obtain ⟨u0, u1, u2, u3⟩ := (HW6.out.carry hx).cells; clear hx; go_simp; all_goals (with_reducible rfl)); try simp only [Act.put, List.setIfInBounds_toArray, List.set_cons_zero, List.set_cons_succ])
              exact Yl.nil
            try simp only [Act.put, List.setIfInBounds_toArray, List.set_cons_zero, List.set_cons_succ]
            refine wpAnyH_done (by kernel_rfl) ?_ _
            refine NoPanic.normal ?_
            exact ⟨rfl, (Aqb252, Aqb248, Aqb230, a1, c1), by first | rfl | simp only [Act.put, List.setIfInBounds_toArray, List.set_cons_zero, List.set_cons_succ], hS⟩
      · skip
        obtain ⟨wqb261, ewqb261⟩ : ∃ wN, wqb84.alloc (.cells #[.slice none 0 0, .int .i64 0, .int .i64 0, .string { data := #[] }] 24) = wN := ⟨_, rfl⟩
        have hbb : Below wqb84.heap.size wqb84 wqb261 := by rw [← ewqb261]; exact (Below.refl _ _).alloc (Nat.le_refl _) _
        have hSN := hK _ _ hS hbb
        obtain ⟨Aqb262, hAqb262⟩ : ∃ A, A = wqb84.heap.size := ⟨_, rfl⟩
        have Hqb262 : VzB wqb261 Aqb262 := by rw [← ewqb261, hAqb262]; exact VzB.new wqb84
        have Lqb262 : w6.heap.size ≤ Aqb262 := by rw [hAqb262]; exact hS.size
        refine wop_run (v := .pointer (some ⟨Aqb262, 0, none⟩)) (w' := wqb261) rfl (by kernel_rfl) (by rw [← ewqb261, hAqb262]; go_simp) ⟨hSN, ?_⟩
        clear hS hbb ewqb261 hAqb262
        have hS := hSN
        clear hSN
        try simp only [Act.put, List.setIfInBounds_toArray, List.set_cons_zero, List.set_cons_succ]
        refine reg_two (i := 2) (j := 5) (by kernel_rfl) ?_ ?_
        · skip
          obtain ⟨wqb263, ewqb263⟩ : ∃ wN, wqb261.alloc (.cells #[.string (bs [99]), .int .i64 1, .int .i64 1, .string (bs [98]), .string (bs [102])] 28) = wN := ⟨_, rfl⟩
          have hbb : Below wqb261.heap.size wqb261 wqb263 := by rw [← ewqb263]; exact (Below.refl _ _).alloc (Nat.le_refl _) _
          have hSN := hK _ _ hS hbb
          have Hqb264 := Hqb262.carry hbb
          obtain ⟨Aqb265, hAqb265⟩ : ∃ A, A = wqb261.heap.size := ⟨_, rfl⟩
          have Hqb265 : RdM wqb263 (.slice (some ⟨Aqb265, 0, none⟩) 1 1) oneC := by rw [← ewqb263, hAqb265]; exact oneC_rd wqb261
          have Lqb265 : w6.heap.size ≤ Aqb265 := by rw [hAqb265]; exact hS.size
          refine wop_run (v := .slice (some ⟨Aqb265, 0, none⟩) 1 1) (w' := wqb263) rfl (by kernel_rfl) (by rw [← ewqb263, hAqb265]; go_simp) ⟨hSN, ?_⟩
          clear hS hbb ewqb263 hAqb265
          have hS := hSN
          clear hSN
          try simp only [Act.put, List.setIfInBounds_toArray, List.set_cons_zero, List.set_cons_succ]
          refine reg_plan [3] (fuel := 8) (a' := ?qb266a) (by kernel_rfl) (by kernel_rfl) (by kernel_rfl) ?qb266p hS ?qb266n
          case qb266p =>
            iterate 1 (apply Yl.cons rfl (by kernel_rfl); focus (rintro wx hx; obtain ⟨v0, v1, v2, v3⟩ := (HV6.out.carry hx).cells; have q0 := HQ.out wx (HD6.out.trans (hx.mono HD6.out.size)); obtain ⟨m0, m1, m2, m3, m4⟩ := (HM6.out.carry hx).cells; simp only [Mlo, Mhi, twoC] at m0 m1 m2 m3 m4; obtain ⟨u0, u1, u2, u3⟩ := (HW6.out.carry hx).cells; clear hx; go_simp; all_goals (with_reducible rfl)); try simp only [Act.put, List.setIfInBounds_toArray, List.set_cons_zero, List.set_cons_succ])
            exact Yl.nil
          try simp only [Act.put, List.setIfInBounds_toArray, List.set_cons_zero, List.set_cons_succ]
          refine reg_callg (i := 5) (R := fun v wy => v = .agg #[.string (bs [101]), .int .i64 1, .int .i64 1, .string (bs [99]), .string (bs [102])] ∧ Below wqb263.heap.size wqb263 wy) rfl (by kernel_rfl) (by kernel_rfl) (by go_simp; first | done | ((repeat' apply And.intro) <;> rfl)) ((table_lw [101] [99] [102] wqb263).mono fun e wy h => ⟨_, h.1, rfl, h.2⟩) ?_
          rintro v9 wqb267 ⟨rfl, hbb⟩
          have hSN := hK _ _ hS hbb
          refine ⟨hSN, ?_⟩
          have Hqb268 := Hqb264.carry hbb
          have Hqb269 := Hqb265.carry hbb
          clear hS hbb
          have hS := hSN
          clear hSN
          try simp only [Act.put, List.setIfInBounds_toArray, List.set_cons_zero, List.set_cons_succ]
          obtain ⟨wqb270, ewqb270⟩ : ∃ wN, wqb267.alloc (.cells #[.string (bs [100]), .int .i64 1, .int .i64 1, .string (bs [98]), .string (bs [99]), .string (bs [101]), .int .i64 1, .int .i64 1, .string (bs [99]), .string (bs [102])] 28) = wN := ⟨_, rfl⟩
          have hbb : Below wqb267.heap.size wqb267 wqb270 := by rw [← ewqb270]; exact (Below.refl _ _).alloc (Nat.le_refl _) _
          have hSN := hK _ _ hS hbb
          have Hqb271 := Hqb268.carry hbb
          have Hqb272 := Hqb269.carry hbb
          obtain ⟨Aqb273, hAqb273⟩ : ∃ A, A = wqb267.heap.size := ⟨_, rfl⟩
          have Hqb273 : RdM wqb270 (.slice (some ⟨Aqb273, 0, none⟩) 2 2) oneDE := by rw [← ewqb270, hAqb273]; exact oneDE_rd wqb267
          have Lqb273 : w6.heap.size ≤ Aqb273 := by rw [hAqb273]; exact hS.size
          refine reg_run (i := 6) (v := .slice (some ⟨Aqb273, 0, none⟩) 2 2) (w' := wqb270) rfl (by kernel_rfl) (by kernel_rfl) (by rw [← ewqb270, hAqb273]; go_simp) hSN ?_
          clear hS hbb ewqb270 hAqb273
          have hS := hSN
          clear hSN
          try simp only [Act.put, List.setIfInBounds_toArray, List.set_cons_zero, List.set_cons_succ]
          refine reg_callg (i := 7) (R := fun v wy => ∃ a1 c1, v = .tuple #[.agg #[.slice a1 0 c1, .int .i64 0, .int .i64 0, .string (bs [])], .int .i64 8] ∧ LvT wy a1 0 c1 [] ∧ Below wqb270.heap.size wqb270 wy) rfl (by kernel_rfl) (by kernel_rfl) (by go_simp; try rfl) (swp_lw (k := 1) (HR6.out.carry hS) Hqb272 Hqb273 (by decide) (by omega) (by omega) vn_s3 rfl) ?_
          rintro v9 wqb274 ⟨a1, c1, rfl, h7, hbb⟩
          have hSN := hK _ _ hS hbb
          refine ⟨hSN, ?_⟩
          have Hqb275 := Hqb271.carry hbb
          have Hqb276 := Hqb272.carry hbb
          have Hqb277 := Hqb273.carry hbb
          clear h7
          clear hS hbb
          have hS := hSN
          clear hSN
          try simp only [Act.put, List.setIfInBounds_toArray, List.set_cons_zero, List.set_cons_succ]
          refine reg_plan [8, 9, 10] (fuel := 2) (a' := ?qb278a) (by kernel_rfl) (by kernel_rfl) (by kernel_rfl) ?qb278p hS ?qb278n
          case qb278p =>
            iterate 3 (apply Yl.cons rfl (by kernel_rfl); focus (rintro wx hx; obtain ⟨v0, v1, v2, v3⟩ := (HV6.out.carry hx).cells; have q0 := HQ.out wx (HD6.out.trans (hx.mono HD6.out.size)); obtain ⟨m0, m1, m2, m3, m4⟩ := (HM6.out.carry hx).cells; simp only [Mlo, Mhi, twoC] at m0 m1 m2 m3 m4; obtain ⟨u0, u1, u2, u3⟩ := (HW6.out.carry hx).cells; clear hx; go_simp; all_goals (with_reducible rfl)); try simp only [Act.put, List.setIfInBounds_toArray, List.set_cons_zero, List.set_cons_succ])
            exact Yl.nil
          try simp only [Act.put, List.setIfInBounds_toArray, List.set_cons_zero, List.set_cons_succ]
          obtain ⟨c0', c1', c2', c3'⟩ := Hqb275.at.cells
          have f0 := Hqb275.at.fz 0
          have f1 := Hqb275.at.fz 1
          have f2 := Hqb275.at.fz 2
          have f3 := Hqb275.at.fz 3
          have hat : VvAt (set4v wqb274 Aqb262 (.slice a1 0 c1) (.int .i64 0) (.int .i64 0) (.string (bs []))) Aqb262 (.slice a1 0 c1) 0 0 [] := VvAt.put (v' := (.slice a1 0 c1)) (nx' := 0) (sq' := 0) (lg' := []) Hqb275.at
          have hSN : Below w6.heap.size w6 (set4v wqb274 Aqb262 (.slice a1 0 c1) (.int .i64 0) (.int .i64 0) (.string (bs []))) := below_set4v hS Lqb262 _ _ _ _
          obtain ⟨wqb279, ewqb279⟩ : ∃ wN, (set4v wqb274 Aqb262 (.slice a1 0 c1) (.int .i64 0) (.int .i64 0) (.string (bs []))) = wN := ⟨_, rfl⟩
          rw [ewqb279] at hat hSN
          unfold set4v at ewqb279
          refine reg_unit (i := 12) (w' := wqb279) rfl (by kernel_rfl) (by kernel_rfl) (by rw [← ewqb279]; go_simp) hSN ?_
          clear hS ewqb279 c0' c1' c2' c3' f0 f1 f2 f3
          have hS := hSN
          clear hSN
          try simp only [Act.put, List.setIfInBounds_toArray, List.set_cons_zero, List.set_cons_succ]
          refine reg_plan [13] (fuel := 0) (a' := ?qb280a) (by kernel_rfl) (by kernel_rfl) (by kernel_rfl) ?qb280p hS ?qb280n
          case qb280p =>
            iterate 1 (apply Yl.cons rfl (by kernel_rfl); focus (rintro wx hx; obtain ⟨v0, v1, v2, v3⟩ := (HV6.out.carry hx).cells; have q0 := HQ.out wx (HD6.out.trans (hx.mono HD6.out.size)); obtain ⟨m0, m1, m2, m3, m4⟩ := (HM6.out.carry hx).cells; simp only [Mlo, Mhi, twoC] at m0 m1 m2 m3 m4; obtain ⟨u0, u1, u2, u3⟩ := (HW6.out.carry hx).cells; clear hx; go_simp; all_goals (with_reducible rfl)); try simp only [Act.put, List.setIfInBounds_toArray, List.set_cons_zero, List.set_cons_succ])
            exact Yl.nil
          try simp only [Act.put, List.setIfInBounds_toArray, List.set_cons_zero, List.set_cons_succ]
          refine wpAnyH_done (by kernel_rfl) ?_ _
          refine NoPanic.normal ?_
          exact ⟨rfl, (Aqb265, Aqb273, Aqb262, a1, c1), by first | rfl | simp only [Act.put, List.setIfInBounds_toArray, List.set_cons_zero, List.set_cons_succ], hS⟩
        · skip
          refine wop_callg (R := fun v wy => v = .agg #[.string (bs [101]), .int .i64 1, .int .i64 1, .string (bs [99]), .string (bs [102])] ∧ Below wqb261.heap.size wqb261 wy) rfl (by kernel_rfl) (by go_simp; first | done | ((repeat' apply And.intro) <;> rfl)) ((table_lw [101] [99] [102] wqb261).mono fun e wy h => ⟨_, h.1, rfl, h.2⟩) ?_
          rintro v9 wqb281 ⟨rfl, hbb⟩
          have hSN := hK _ _ hS hbb
          refine ⟨hSN, ?_⟩
          have Hqb282 := Hqb262.carry hbb
          clear hS hbb
          have hS := hSN
          clear hSN
          try simp only [Act.put, List.setIfInBounds_toArray, List.set_cons_zero, List.set_cons_succ]
          refine reg_two (i := 2) (j := 6) (by kernel_rfl) ?_ ?_
          · skip
            obtain ⟨wqb283, ewqb283⟩ : ∃ wN, wqb281.alloc (.cells #[.string (bs [99]), .int .i64 1, .int .i64 1, .string (bs [98]), .string (bs [102])] 28) = wN := ⟨_, rfl⟩
            have hbb : Below wqb281.heap.size wqb281 wqb283 := by rw [← ewqb283]; exact (Below.refl _ _).alloc (Nat.le_refl _) _
            have hSN := hK _ _ hS hbb
            have Hqb284 := Hqb282.carry hbb
            obtain ⟨Aqb285, hAqb285⟩ : ∃ A, A = wqb281.heap.size := ⟨_, rfl⟩
            have Hqb285 : RdM wqb283 (.slice (some ⟨Aqb285, 0, none⟩) 1 1) oneC := by rw [← ewqb283, hAqb285]; exact oneC_rd wqb281
            have Lqb285 : w6.heap.size ≤ Aqb285 := by rw [hAqb285]; exact hS.size
            refine wop_run (v := .slice (some ⟨Aqb285, 0, none⟩) 1 1) (w' := wqb283) rfl (by kernel_rfl) (by rw [← ewqb283, hAqb285]; go_simp) ⟨hSN, ?_⟩
            clear hS hbb ewqb283 hAqb285
            have hS := hSN
            clear hSN
            try simp only [Act.put, List.setIfInBounds_toArray, List.set_cons_zero, List.set_cons_succ]
            refine reg_plan [3] (fuel := 7) (a' := ?qb286a) (by kernel_rfl) (by kernel_rfl) (by kernel_rfl) ?qb286p hS ?qb286n
            case qb286p =>
              iterate 1 (apply Yl.cons rfl (by kernel_rfl); focus (rintro wx hx; obtain ⟨v0, v1, v2, v3⟩ := (HV6.out.carry hx).cells; have q0 := HQ.out wx (HD6.out.trans (hx.mono HD6.out.size)); obtain ⟨m0, m1, m2, m3, m4⟩ := (HM6.out.carry hx).cells; simp only [Mlo, Mhi, twoC] at m0 m1 m2 m3 m4; obtain ⟨u0, u1, u2, u3⟩ := (HW6.out.carry hx).cells; clear hx; go_simp; all_goals (with_reducible rfl)); try simp only [Act.put, List.setIfInBounds_toArray, List.set_cons_zero, List.set_cons_succ])
              exact Yl.nil
            try simp only [Act.put, List.setIfInBounds_toArray, List.set_cons_zero, List.set_cons_succ]
            obtain ⟨wqb287, ewqb287⟩ : ∃ wN, wqb283.alloc (.cells #[.string (bs [100]), .int .i64 1, .int .i64 1, .string (bs [98]), .string (bs [99]), .string (bs [101]), .int .i64 1, .int .i64 1, .string (bs [99]), .string (bs [102])] 28) = wN := ⟨_, rfl⟩
            have hbb : Below wqb283.heap.size wqb283 wqb287 := by rw [← ewqb287]; exact (Below.refl _ _).alloc (Nat.le_refl _) _
            have hSN := hK _ _ hS hbb
            have Hqb288 := Hqb284.carry hbb
            have Hqb289 := Hqb285.carry hbb
            obtain ⟨Aqb290, hAqb290⟩ : ∃ A, A = wqb283.heap.size := ⟨_, rfl⟩
            have Hqb290 : RdM wqb287 (.slice (some ⟨Aqb290, 0, none⟩) 2 2) oneDE := by rw [← ewqb287, hAqb290]; exact oneDE_rd wqb283
            have Lqb290 : w6.heap.size ≤ Aqb290 := by rw [hAqb290]; exact hS.size
            refine reg_run (i := 6) (v := .slice (some ⟨Aqb290, 0, none⟩) 2 2) (w' := wqb287) rfl (by kernel_rfl) (by kernel_rfl) (by rw [← ewqb287, hAqb290]; go_simp) hSN ?_
            clear hS hbb ewqb287 hAqb290
            have hS := hSN
            clear hSN
            try simp only [Act.put, List.setIfInBounds_toArray, List.set_cons_zero, List.set_cons_succ]
            refine reg_callg (i := 7) (R := fun v wy => ∃ a1 c1, v = .tuple #[.agg #[.slice a1 0 c1, .int .i64 0, .int .i64 0, .string (bs [])], .int .i64 8] ∧ LvT wy a1 0 c1 [] ∧ Below wqb287.heap.size wqb287 wy) rfl (by kernel_rfl) (by kernel_rfl) (by go_simp; try rfl) (swp_lw (k := 1) (HR6.out.carry hS) Hqb289 Hqb290 (by decide) (by omega) (by omega) vn_s3 rfl) ?_
            rintro v9 wqb291 ⟨a1, c1, rfl, h7, hbb⟩
            have hSN := hK _ _ hS hbb
            refine ⟨hSN, ?_⟩
            have Hqb292 := Hqb288.carry hbb
            have Hqb293 := Hqb289.carry hbb
            have Hqb294 := Hqb290.carry hbb
            clear h7
            clear hS hbb
            have hS := hSN
            clear hSN
            try simp only [Act.put, List.setIfInBounds_toArray, List.set_cons_zero, List.set_cons_succ]
            refine reg_plan [8, 9, 10] (fuel := 2) (a' := ?qb295a) (by kernel_rfl) (by kernel_rfl) (by kernel_rfl) ?qb295p hS ?qb295n
            case qb295p =>
              iterate 3 (apply Yl.cons rfl (by kernel_rfl); focus (rintro wx hx; obtain ⟨v0, v1, v2, v3⟩ := (HV6.out.carry hx).cells; have q0 := HQ.out wx (HD6.out.trans (hx.mono HD6.out.size)); obtain ⟨m0, m1, m2, m3, m4⟩ := (HM6.out.carry hx).cells; simp only [Mlo, Mhi, twoC] at m0 m1 m2 m3 m4; obtain ⟨u0, u1, u2, u3⟩ := (HW6.out.carry hx).cells; clear hx; go_simp; all_goals (with_reducible rfl)); try simp only [Act.put, List.setIfInBounds_toArray, List.set_cons_zero, List.set_cons_succ])
              exact Yl.nil
            try simp only [Act.put, List.setIfInBounds_toArray, List.set_cons_zero, List.set_cons_succ]
            obtain ⟨c0', c1', c2', c3'⟩ := Hqb292.at.cells
            have f0 := Hqb292.at.fz 0
            have f1 := Hqb292.at.fz 1
            have f2 := Hqb292.at.fz 2
            have f3 := Hqb292.at.fz 3
            have hat : VvAt (set4v wqb291 Aqb262 (.slice a1 0 c1) (.int .i64 0) (.int .i64 0) (.string (bs []))) Aqb262 (.slice a1 0 c1) 0 0 [] := VvAt.put (v' := (.slice a1 0 c1)) (nx' := 0) (sq' := 0) (lg' := []) Hqb292.at
            have hSN : Below w6.heap.size w6 (set4v wqb291 Aqb262 (.slice a1 0 c1) (.int .i64 0) (.int .i64 0) (.string (bs []))) := below_set4v hS Lqb262 _ _ _ _
            obtain ⟨wqb296, ewqb296⟩ : ∃ wN, (set4v wqb291 Aqb262 (.slice a1 0 c1) (.int .i64 0) (.int .i64 0) (.string (bs []))) = wN := ⟨_, rfl⟩
            rw [ewqb296] at hat hSN
            unfold set4v at ewqb296
            refine reg_unit (i := 12) (w' := wqb296) rfl (by kernel_rfl) (by kernel_rfl) (by rw [← ewqb296]; go_simp) hSN ?_
            clear hS ewqb296 c0' c1' c2' c3' f0 f1 f2 f3
            have hS := hSN
            clear hSN
            try simp only [Act.put, List.setIfInBounds_toArray, List.set_cons_zero, List.set_cons_succ]
            refine reg_plan [13] (fuel := 0) (a' := ?qb297a) (by kernel_rfl) (by kernel_rfl) (by kernel_rfl) ?qb297p hS ?qb297n
            case qb297p =>
              iterate 1 (apply Yl.cons rfl (by kernel_rfl); focus (rintro wx hx; obtain ⟨v0, v1, v2, v3⟩ := (HV6.out.carry hx).cells; have q0 := HQ.out wx (HD6.out.trans (hx.mono HD6.out.size)); obtain ⟨m0, m1, m2, m3, m4⟩ := (HM6.out.carry hx).cells; simp only [Mlo, Mhi, twoC] at m0 m1 m2 m3 m4; obtain ⟨u0, u1, u2, u3⟩ := (HW6.out.carry hx).cells; clear hx; go_simp; all_goals (with_reducible rfl)); try simp only [Act.put, List.setIfInBounds_toArray, List.set_cons_zero, List.set_cons_succ])
              exact Yl.nil
            try simp only [Act.put, List.setIfInBounds_toArray, List.set_cons_zero, List.set_cons_succ]
            refine wpAnyH_done (by kernel_rfl) ?_ _
            refine NoPanic.normal ?_
            exact ⟨rfl, (Aqb285, Aqb290, Aqb262, a1, c1), by first | rfl | simp only [Act.put, List.setIfInBounds_toArray, List.set_cons_zero, List.set_cons_succ], hS⟩
          · skip
            obtain ⟨wqb298, ewqb298⟩ : ∃ wN, wqb281.alloc (.cells #[.string (bs [100]), .int .i64 1, .int .i64 1, .string (bs [98]), .string (bs [99]), .string (bs [101]), .int .i64 1, .int .i64 1, .string (bs [99]), .string (bs [102])] 28) = wN := ⟨_, rfl⟩
            have hbb : Below wqb281.heap.size wqb281 wqb298 := by rw [← ewqb298]; exact (Below.refl _ _).alloc (Nat.le_refl _) _
            have hSN := hK _ _ hS hbb
            have Hqb299 := Hqb282.carry hbb
            obtain ⟨Aqb300, hAqb300⟩ : ∃ A, A = wqb281.heap.size := ⟨_, rfl⟩
            have Hqb300 : RdM wqb298 (.slice (some ⟨Aqb300, 0, none⟩) 2 2) oneDE := by rw [← ewqb298, hAqb300]; exact oneDE_rd wqb281
            have Lqb300 : w6.heap.size ≤ Aqb300 := by rw [hAqb300]; exact hS.size
            refine wop_run (v := .slice (some ⟨Aqb300, 0, none⟩) 2 2) (w' := wqb298) rfl (by kernel_rfl) (by rw [← ewqb298, hAqb300]; go_simp) ⟨hSN, ?_⟩
            clear hS hbb ewqb298 hAqb300
            have hS := hSN
            clear hSN
            try simp only [Act.put, List.setIfInBounds_toArray, List.set_cons_zero, List.set_cons_succ]
            obtain ⟨wqb301, ewqb301⟩ : ∃ wN, wqb298.alloc (.cells #[.string (bs [99]), .int .i64 1, .int .i64 1, .string (bs [98]), .string (bs [102])] 28) = wN := ⟨_, rfl⟩
            have hbb : Below wqb298.heap.size wqb298 wqb301 := by rw [← ewqb301]; exact (Below.refl _ _).alloc (Nat.le_refl _) _
            have hSN := hK _ _ hS hbb
            have Hqb302 := Hqb299.carry hbb
            have Hqb303 := Hqb300.carry hbb
            obtain ⟨Aqb304, hAqb304⟩ : ∃ A, A = wqb298.heap.size := ⟨_, rfl⟩
            have Hqb304 : RdM wqb301 (.slice (some ⟨Aqb304, 0, none⟩) 1 1) oneC := by rw [← ewqb301, hAqb304]; exact oneC_rd wqb298
            have Lqb304 : w6.heap.size ≤ Aqb304 := by rw [hAqb304]; exact hS.size
            refine reg_run (i := 2) (v := .slice (some ⟨Aqb304, 0, none⟩) 1 1) (w' := wqb301) rfl (by kernel_rfl) (by kernel_rfl) (by rw [← ewqb301, hAqb304]; go_simp) hSN ?_
            clear hS hbb ewqb301 hAqb304
            have hS := hSN
            clear hSN
            try simp only [Act.put, List.setIfInBounds_toArray, List.set_cons_zero, List.set_cons_succ]
            refine reg_plan [3] (fuel := 6) (a' := ?qb305a) (by kernel_rfl) (by kernel_rfl) (by kernel_rfl) ?qb305p hS ?qb305n
            case qb305p =>
              iterate 1 (apply Yl.cons rfl (by kernel_rfl); focus (rintro wx hx; obtain ⟨v0, v1, v2, v3⟩ := (HV6.out.carry hx).cells; have q0 := HQ.out wx (HD6.out.trans (hx.mono HD6.out.size)); obtain ⟨m0, m1, m2, m3, m4⟩ := (HM6.out.carry hx).cells; simp only [Mlo, Mhi, twoC] at m0 m1 m2 m3 m4; obtain ⟨u0, u1, u2, u3⟩ := (HW6.out.carry hx).cells; clear hx; go_simp; all_goals (with_reducible rfl)); try simp only [Act.put, List.setIfInBounds_toArray, List.set_cons_zero, List.set_cons_succ])
              exact Yl.nil
            try simp only [Act.put, List.setIfInBounds_toArray, List.set_cons_zero, List.set_cons_succ]
            refine reg_callg (i := 7) (R := fun v wy => ∃ a1 c1, v = .tuple #[.agg #[.slice a1 0 c1, .int .i64 0, .int .i64 0, .string (bs [])], .int .i64 8] ∧ LvT wy a1 0 c1 [] ∧ Below wqb301.heap.size wqb301 wy) rfl (by kernel_rfl) (by kernel_rfl) (by go_simp; try rfl) (swp_lw (k := 1) (HR6.out.carry hS) Hqb304 Hqb303 (by decide) (by omega) (by omega) vn_s3 rfl) ?_
            rintro v9 wqb306 ⟨a1, c1, rfl, h7, hbb⟩
            have hSN := hK _ _ hS hbb
            refine ⟨hSN, ?_⟩
            have Hqb307 := Hqb302.carry hbb
            have Hqb308 := Hqb303.carry hbb
            have Hqb309 := Hqb304.carry hbb
            clear h7
            clear hS hbb
            have hS := hSN
            clear hSN
            try simp only [Act.put, List.setIfInBounds_toArray, List.set_cons_zero, List.set_cons_succ]
            refine reg_plan [8, 9, 10] (fuel := 2) (a' := ?qb310a) (by kernel_rfl) (by kernel_rfl) (by kernel_rfl) ?qb310p hS ?qb310n
            case qb310p =>
              iterate 3 (apply Yl.cons rfl (by kernel_rfl); focus (rintro wx hx; obtain ⟨v0, v1, v2, v3⟩ := (HV6.out.carry hx).cells; have q0 := HQ.out wx (HD6.out.trans (hx.mono HD6.out.size)); obtain ⟨m0, m1, m2, m3, m4⟩ := (HM6.out.carry hx).cells; simp only [Mlo, Mhi, twoC] at m0 m1 m2 m3 m4; obtain ⟨u0, u1, u2, u3⟩ := (HW6.out.carry hx).cells; clear hx; go_simp; all_goals (with_reducible rfl)); try simp only [Act.put, List.setIfInBounds_toArray, List.set_cons_zero, List.set_cons_succ])
              exact Yl.nil
            try simp only [Act.put, List.setIfInBounds_toArray, List.set_cons_zero, List.set_cons_succ]
            obtain ⟨c0', c1', c2', c3'⟩ := Hqb307.at.cells
            have f0 := Hqb307.at.fz 0
            have f1 := Hqb307.at.fz 1
            have f2 := Hqb307.at.fz 2
            have f3 := Hqb307.at.fz 3
            have hat : VvAt (set4v wqb306 Aqb262 (.slice a1 0 c1) (.int .i64 0) (.int .i64 0) (.string (bs []))) Aqb262 (.slice a1 0 c1) 0 0 [] := VvAt.put (v' := (.slice a1 0 c1)) (nx' := 0) (sq' := 0) (lg' := []) Hqb307.at
            have hSN : Below w6.heap.size w6 (set4v wqb306 Aqb262 (.slice a1 0 c1) (.int .i64 0) (.int .i64 0) (.string (bs []))) := below_set4v hS Lqb262 _ _ _ _
            obtain ⟨wqb311, ewqb311⟩ : ∃ wN, (set4v wqb306 Aqb262 (.slice a1 0 c1) (.int .i64 0) (.int .i64 0) (.string (bs []))) = wN := ⟨_, rfl⟩
            rw [ewqb311] at hat hSN
            unfold set4v at ewqb311
            refine reg_unit (i := 12) (w' := wqb311) rfl (by kernel_rfl) (by kernel_rfl) (by rw [← ewqb311]; go_simp) hSN ?_
            clear hS ewqb311 c0' c1' c2' c3' f0 f1 f2 f3
            have hS := hSN
            clear hSN
            try simp only [Act.put, List.setIfInBounds_toArray, List.set_cons_zero, List.set_cons_succ]
            refine reg_plan [13] (fuel := 0) (a' := ?qb312a) (by kernel_rfl) (by kernel_rfl) (by kernel_rfl) ?qb312p hS ?qb312n
            case qb312p =>
              iterate 1 (apply Yl.cons rfl (by kernel_rfl); focus (rintro wx hx; obtain ⟨v0, v1, v2, v3⟩ := (HV6.out.carry hx).cells; have q0 := HQ.out wx (HD6.out.trans (hx.mono HD6.out.size)); obtain ⟨m0, m1, m2, m3, m4⟩ := (HM6.out.carry hx).cells; simp only [Mlo, Mhi, twoC] at m0 m1 m2 m3 m4; obtain ⟨u0, u1, u2, u3⟩ := (HW6.out.carry hx).cells; clear hx; go_simp; all_goals (with_reducible rfl)); try simp only [Act.put, List.setIfInBounds_toArray, List.set_cons_zero, List.set_cons_succ])
              exact Yl.nil
            try simp only [Act.put, List.setIfInBounds_toArray, List.set_cons_zero, List.set_cons_succ]
            refine wpAnyH_done (by kernel_rfl) ?_ _
            refine NoPanic.normal ?_
            exact ⟨rfl, (Aqb304, Aqb300, Aqb262, a1, c1), by first | rfl | simp only [Act.put, List.setIfInBounds_toArray, List.set_cons_zero, List.set_cons_succ], hS⟩
    · skip
      obtain ⟨wqb313, ewqb313⟩ : ∃ wN, wd.alloc (.cells #[.slice none 0 0, .int .i64 0, .int .i64 0, .string { data := #[] }] 24) = wN := ⟨_, rfl⟩
      have hbb : Below wd.heap.size wd wqb313 := by rw [← ewqb313]; exact (Below.refl _ _).alloc (Nat.le_refl _) _
      have hSN := hK _ _ hS hbb
      obtain ⟨Aqb314, hAqb314⟩ : ∃ A, A = wd.heap.size := ⟨_, rfl⟩
      have Hqb314 : VzB wqb313 Aqb314 := by rw [← ewqb313, hAqb314]; exact VzB.new wd
      have Lqb314 : w6.heap.size ≤ Aqb314 := by rw [hAqb314]; exact hS.size
      refine wop_run (v := .pointer (some ⟨Aqb314, 0, none⟩)) (w' := wqb313) rfl (by kernel_rfl) (by rw [← ewqb313, hAqb314]; go_simp) ⟨hSN, ?_⟩
      clear hS hbb ewqb313 hAqb314
      have hS := hSN
      clear hSN
      try simp only [Act.put, List.setIfInBounds_toArray, List.set_cons_zero, List.set_cons_succ]
      refine reg_two (i := 2) (j := 4) (by kernel_rfl) ?_ ?_
      · skip
        obtain ⟨wqb315, ewqb315⟩ : ∃ wN, wqb313.alloc (.cells #[.string (bs [99]), .int .i64 1, .int .i64 1, .string (bs [98]), .string (bs [102])] 28) = wN := ⟨_, rfl⟩
        have hbb : Below wqb313.heap.size wqb313 wqb315 := by rw [← ewqb315]; exact (Below.refl _ _).alloc (Nat.le_refl _) _
        have hSN := hK _ _ hS hbb
        have Hqb316 := Hqb314.carry hbb
        obtain ⟨Aqb317, hAqb317⟩ : ∃ A, A = wqb313.heap.size := ⟨_, rfl⟩
        have Hqb317 : RdM wqb315 (.slice (some ⟨Aqb317, 0, none⟩) 1 1) oneC := by rw [← ewqb315, hAqb317]; exact oneC_rd wqb313
        have Lqb317 : w6.heap.size ≤ Aqb317 := by rw [hAqb317]; exact hS.size
        refine wop_run (v := .slice (some ⟨Aqb317, 0, none⟩) 1 1) (w' := wqb315) rfl (by kernel_rfl) (by rw [← ewqb315, hAqb317]; go_simp) ⟨hSN, ?_⟩
        clear hS hbb ewqb315 hAqb317
        have hS := hSN
        clear hSN
        try simp only [Act.put, List.setIfInBounds_toArray, List.set_cons_zero, List.set_cons_succ]
        refine reg_plan [3] (fuel := 9) (a' := ?qb318a) (by kernel_rfl) (by kernel_rfl) (by kernel_rfl) ?qb318p hS ?qb318n
        case qb318p =>
          iterate 1 (apply Yl.cons rfl (by kernel_rfl); focus (rintro wx hx; obtain ⟨v0, v1, v2, v3⟩ := (HV6.out.carry hx).cells; have q0 := HQ.out wx (HD6.out.trans (hx.mono HD6.out.size)); obtain ⟨m0, m1, m2, m3, m4⟩ := (HM6.out.carry hx).cells; simp only [Mlo, Mhi, twoC] at m0 m1 m2 m3 m4; obtain ⟨u0, u1, u2, u3⟩ := (HW6.out.carry hx).cells; clear hx; go_simp; all_goals (with_reducible rfl)); try simp only [Act.put, List.setIfInBounds_toArray, List.set_cons_zero, List.set_cons_succ])
          exact Yl.nil
        try simp only [Act.put, List.setIfInBounds_toArray, List.set_cons_zero, List.set_cons_succ]
        refine reg_callg (i := 4) (R := fun v wy => v = .agg #[.string (bs [100]), .int .i64 1, .int .i64 1, .string (bs [98]), .string (bs [99])] ∧ Below wqb315.heap.size wqb315 wy) rfl (by kernel_rfl) (by kernel_rfl) (by go_simp; first | done | ((repeat' apply And.intro) <;> rfl)) ((table_lw [100] [98] [99] wqb315).mono fun e wy h => ⟨_, h.1, rfl, h.2⟩) ?_
        rintro v9 wqb319 ⟨rfl, hbb⟩
        have hSN := hK _ _ hS hbb
        refine ⟨hSN, ?_⟩
        have Hqb320 := Hqb316.carry hbb
        have Hqb321 := Hqb317.carry hbb
        clear hS hbb
        have hS := hSN
        clear hSN
        try simp only [Act.put, List.setIfInBounds_toArray, List.set_cons_zero, List.set_cons_succ]
        refine reg_callg (i := 5) (R := fun v wy => v = .agg #[.string (bs [101]), .int .i64 1, .int .i64 1, .string (bs [99]), .string (bs [102])] ∧ Below wqb319.heap.size wqb319 wy) rfl (by kernel_rfl) (by kernel_rfl) (by go_simp; first | done | ((repeat' apply And.intro) <;> rfl)) ((table_lw [101] [99] [102] wqb319).mono fun e wy h => ⟨_, h.1, rfl, h.2⟩) ?_
        rintro v9 wqb322 ⟨rfl, hbb⟩
        have hSN := hK _ _ hS hbb
        refine ⟨hSN, ?_⟩
        have Hqb323 := Hqb320.carry hbb
        have Hqb324 := Hqb321.carry hbb
        clear hS hbb
        have hS := hSN
        clear hSN
        try simp only [Act.put, List.setIfInBounds_toArray, List.set_cons_zero, List.set_cons_succ]
        obtain ⟨wqb325, ewqb325⟩ : ∃ wN, wqb322.alloc (.cells #[.string (bs [100]), .int .i64 1, .int .i64 1, .string (bs [98]), .string (bs [99]), .string (bs [101]), .int .i64 1, .int .i64 1, .string (bs [99]), .string (bs [102])] 28) = wN := ⟨_, rfl⟩
        have hbb : Below wqb322.heap.size wqb322 wqb325 := by rw [← ewqb325]; exact (Below.refl _ _).alloc (Nat.le_refl _) _
        have hSN := hK _ _ hS hbb
        have Hqb326 := Hqb323.carry hbb
        have Hqb327 := Hqb324.carry hbb
        obtain ⟨Aqb328, hAqb328⟩ : ∃ A, A = wqb322.heap.size := ⟨_, rfl⟩
        have Hqb328 : RdM wqb325 (.slice (some ⟨Aqb328, 0, none⟩) 2 2) oneDE := by rw [← ewqb325, hAqb328]; exact oneDE_rd wqb322
        have Lqb328 : w6.heap.size ≤ Aqb328 := by rw [hAqb328]; exact hS.size
        refine reg_run (i := 6) (v := .slice (some ⟨Aqb328, 0, none⟩) 2 2) (w' := wqb325) rfl (by kernel_rfl) (by kernel_rfl) (by rw [← ewqb325, hAqb328]; go_simp) hSN ?_
        clear hS hbb ewqb325 hAqb328
        have hS := hSN
        clear hSN
        try simp only [Act.put, List.setIfInBounds_toArray, List.set_cons_zero, List.set_cons_succ]
        refine reg_callg (i := 7) (R := fun v wy => ∃ a1 c1, v = .tuple #[.agg #[.slice a1 0 c1, .int .i64 0, .int .i64 0, .string (bs [])], .int .i64 8] ∧ LvT wy a1 0 c1 [] ∧ Below wqb325.heap.size wqb325 wy) rfl (by kernel_rfl) (by kernel_rfl) (by go_simp; try rfl) (swp_lw (k := 1) (HR6.out.carry hS) Hqb327 Hqb328 (by decide) (by omega) (by omega) vn_s3 rfl) ?_
        rintro v9 wqb329 ⟨a1, c1, rfl, h7, hbb⟩
        have hSN := hK _ _ hS hbb
        refine ⟨hSN, ?_⟩
        have Hqb330 := Hqb326.carry hbb
        have Hqb331 := Hqb327.carry hbb
        have Hqb332 := Hqb328.carry hbb
        clear h7
        clear hS hbb
        have hS := hSN
        clear hSN
        try simp only [Act.put, List.setIfInBounds_toArray, List.set_cons_zero, List.set_cons_succ]
        refine reg_plan [8, 9, 10] (fuel := 2) (a' := ?qb333a) (by kernel_rfl) (by kernel_rfl) (by kernel_rfl) ?qb333p hS ?qb333n
        case qb333p =>
          iterate 3 (apply Yl.cons rfl (by kernel_rfl); focus (rintro wx hx; obtain ⟨v0, v1, v2, v3⟩ := (HV6.out.carry hx).cells; have q0 := HQ.out wx (HD6.out.trans (hx.mono HD6.out.size)); obtain ⟨m0, m1, m2, m3, m4⟩ := (HM6.out.carry hx).cells; simp only [Mlo, Mhi, twoC] at m0 m1 m2 m3 m4; obtain ⟨u0, u1, u2, u3⟩ := (HW6.out.carry hx).cells; clear hx; go_simp; all_goals (with_reducible rfl)); try simp only [Act.put, List.setIfInBounds_toArray, List.set_cons_zero, List.set_cons_succ])
          exact Yl.nil
        try simp only [Act.put, List.setIfInBounds_toArray, List.set_cons_zero, List.set_cons_succ]
        obtain ⟨c0', c1', c2', c3'⟩ := Hqb330.at.cells
        have f0 := Hqb330.at.fz 0
        have f1 := Hqb330.at.fz 1
        have f2 := Hqb330.at.fz 2
        have f3 := Hqb330.at.fz 3
        have hat : VvAt (set4v wqb329 Aqb314 (.slice a1 0 c1) (.int .i64 0) (.int .i64 0) (.string (bs []))) Aqb314 (.slice a1 0 c1) 0 0 [] := VvAt.put (v' := (.slice a1 0 c1)) (nx' := 0) (sq' := 0) (lg' := []) Hqb330.at
        have hSN : Below w6.heap.size w6 (set4v wqb329 Aqb314 (.slice a1 0 c1) (.int .i64 0) (.int .i64 0) (.string (bs []))) := below_set4v hS Lqb314 _ _ _ _
        obtain ⟨wqb334, ewqb334⟩ : ∃ wN, (set4v wqb329 Aqb314 (.slice a1 0 c1) (.int .i64 0) (.int .i64 0) (.string (bs []))) = wN := ⟨_, rfl⟩
        rw [ewqb334] at hat hSN
        unfold set4v at ewqb334
        refine reg_unit (i := 12) (w' := wqb334) rfl (by kernel_rfl) (by kernel_rfl) (by rw [← ewqb334]; go_simp) hSN ?_
        clear hS ewqb334 c0' c1' c2' c3' f0 f1 f2 f3
        have hS := hSN
        clear hSN
        try simp only [Act.put, List.setIfInBounds_toArray, List.set_cons_zero, List.set_cons_succ]
        refine reg_plan [13] (fuel := 0) (a' := ?qb335a) (by kernel_rfl) (by kernel_rfl) (by kernel_rfl) ?qb335p hS ?qb335n
        case qb335p =>
          iterate 1 (apply Yl.cons rfl (by kernel_rfl); focus (rintro wx hx; obtain ⟨v0, v1, v2, v3⟩ := (HV6.out.carry hx).cells; have q0 := HQ.out wx (HD6.out.trans (hx.mono HD6.out.size)); obtain ⟨m0, m1, m2, m3, m4⟩ := (HM6.out.carry hx).cells; simp only [Mlo, Mhi, twoC] at m0 m1 m2 m3 m4; obtain ⟨u0, u1, u2, u3⟩ := (HW6.out.carry hx).cells; clear hx; go_simp; all_goals (with_reducible rfl)); try simp only [Act.put, List.setIfInBounds_toArray, List.set_cons_zero, List.set_cons_succ])
          exact Yl.nil
        try simp only [Act.put, List.setIfInBounds_toArray, List.set_cons_zero, List.set_cons_succ]
        refine wpAnyH_done (by kernel_rfl) ?_ _
        refine NoPanic.normal ?_
        exact ⟨rfl, (Aqb317, Aqb328, Aqb314, a1, c1), by first | rfl | simp only [Act.put, List.setIfInBounds_toArray, List.set_cons_zero, List.set_cons_succ], hS⟩
      · skip
        refine wop_callg (R := fun v wy => v = .agg #[.string (bs [100]), .int .i64 1, .int .i64 1, .string (bs [98]), .string (bs [99])] ∧ Below wqb313.heap.size wqb313 wy) rfl (by kernel_rfl) (by go_simp; first | done | ((repeat' apply And.intro) <;> rfl)) ((table_lw [100] [98] [99] wqb313).mono fun e wy h => ⟨_, h.1, rfl, h.2⟩) ?_
        rintro v9 wqb336 ⟨rfl, hbb⟩
        have hSN := hK _ _ hS hbb
        refine ⟨hSN, ?_⟩
        have Hqb337 := Hqb314.carry hbb
        clear hS hbb
        have hS := hSN
        clear hSN
        try simp only [Act.put, List.setIfInBounds_toArray, List.set_cons_zero, List.set_cons_succ]
        refine reg_two (i := 2) (j := 5) (by kernel_rfl) ?_ ?_
        · skip
          obtain ⟨wqb338, ewqb338⟩ : ∃ wN, wqb336.alloc (.cells #[.string (bs [99]), .int .i64 1, .int .i64 1, .string (bs [98]), .string (bs [102])] 28) = wN := ⟨_, rfl⟩
          have hbb : Below wqb336.heap.size wqb336 wqb338 := by rw [← ewqb338]; exact (Below.refl _ _).alloc (Nat.le_refl _) _
          have hSN := hK _ _ hS hbb
          have Hqb339 := Hqb337.carry hbb
          obtain ⟨Aqb340, hAqb340⟩ : ∃ A, A = wqb336.heap.size := ⟨_, rfl⟩
          have Hqb340 : RdM wqb338 (.slice (some ⟨Aqb340, 0, none⟩) 1 1) oneC := by rw [← ewqb338, hAqb340]; exact oneC_rd wqb336
          have Lqb340 : w6.heap.size ≤ Aqb340 := by rw [hAqb340]; exact hS.size
          refine wop_run (v := .slice (some ⟨Aqb340, 0, none⟩) 1 1) (w' := wqb338) rfl (by kernel_rfl) (by rw [← ewqb338, hAqb340]; go_simp) ⟨hSN, ?_⟩
          clear hS hbb ewqb338 hAqb340
          have hS := hSN
          clear hSN
          try simp only [Act.put, List.setIfInBounds_toArray, List.set_cons_zero, List.set_cons_succ]
          refine reg_plan [3] (fuel := 8) (a' := ?qb341a) (by kernel_rfl) (by kernel_rfl) (by kernel_rfl) ?qb341p hS ?qb341n
          case qb341p =>
            iterate 1 (apply Yl.cons rfl (by kernel_rfl); focus (rintro wx hx; obtain ⟨v0, v1, v2, v3⟩ := (HV6.out.carry hx).cells; have q0 := HQ.out wx (HD6.out.trans (hx.mono HD6.out.size)); obtain ⟨m0, m1, m2, m3, m4⟩ := (HM6.out.carry hx).cells; simp only [Mlo, Mhi, twoC] at m0 m1 m2 m3 m4; obtain ⟨u0, u1, u2, u3⟩ := (HW6.out.carry hx).cells; clear hx; go_simp; all_goals (with_reducible rfl)); try simp only [Act.put, List.setIfInBounds_toArray, List.set_cons_zero, List.set_cons_succ])
            exact Yl.nil
          try simp only [Act.put, List.setIfInBounds_toArray, List.set_cons_zero, List.set_cons_succ]
          refine reg_callg (i := 5) (R := fun v wy => v = .agg #[.string (bs [101]), .int .i64 1, .int .i64 1, .string (bs [99]), .string (bs [102])] ∧ Below wqb338.heap.size wqb338 wy) rfl (by kernel_rfl) (by kernel_rfl) (by go_simp; first | done | ((repeat' apply And.intro) <;> rfl)) ((table_lw [101] [99] [102] wqb338).mono fun e wy h => ⟨_, h.1, rfl, h.2⟩) ?_
          rintro v9 wqb342 ⟨rfl, hbb⟩
          have hSN := hK _ _ hS hbb
          refine ⟨hSN, ?_⟩
          have Hqb343 := Hqb339.carry hbb
          have Hqb344 := Hqb340.carry hbb
          clear hS hbb
          have hS := hSN
          clear hSN
          try simp only [Act.put, List.setIfInBounds_toArray, List.set_cons_zero, List.set_cons_succ]
          obtain ⟨wqb345, ewqb345⟩ : ∃ wN, wqb342.alloc (.cells #[.string (bs [100]), .int .i64 1, .int .i64 1, .string (bs [98]), .string (bs [99]), .string (bs [101]), .int .i64 1, .int .i64 1, .string (bs [99]), .string (bs [102])] 28) = wN := ⟨_, rfl⟩
          have hbb : Below wqb342.heap.size wqb342 wqb345 := by rw [← ewqb345]; exact (Below.refl _ _).alloc (Nat.le_refl _) _
          have hSN := hK _ _ hS hbb
          have Hqb346 := Hqb343.carry hbb
          have Hqb347 := Hqb344.carry hbb
          obtain ⟨Aqb348, hAqb348⟩ : ∃ A, A = wqb342.heap.size := ⟨_, rfl⟩
          have Hqb348 : RdM wqb345 (.slice (some ⟨Aqb348, 0, none⟩) 2 2) oneDE := by rw [← ewqb345, hAqb348]; exact oneDE_rd wqb342
          have Lqb348 : w6.heap.size ≤ Aqb348 := by rw [hAqb348]; exact hS.size
          refine reg_run (i := 6) (v := .slice (some ⟨Aqb348, 0, none⟩) 2 2) (w' := wqb345) rfl (by kernel_rfl) (by kernel_rfl) (by rw [← ewqb345, hAqb348]; go_simp) hSN ?_
          clear hS hbb ewqb345 hAqb348
          have hS := hSN
          clear hSN
          try simp only [Act.put, List.setIfInBounds_toArray, List.set_cons_zero, List.set_cons_succ]
          refine reg_callg (i := 7) (R := fun v wy => ∃ a1 c1, v = .tuple #[.agg #[.slice a1 0 c1, .int .i64 0, .int .i64 0, .string (bs [])], .int .i64 8] ∧ LvT wy a1 0 c1 [] ∧ Below wqb345.heap.size wqb345 wy) rfl (by kernel_rfl) (by kernel_rfl) (by go_simp; try rfl) (swp_lw (k := 1) (HR6.out.carry hS) Hqb347 Hqb348 (by decide) (by omega) (by omega) vn_s3 rfl) ?_
          rintro v9 wqb349 ⟨a1, c1, rfl, h7, hbb⟩
          have hSN := hK _ _ hS hbb
          refine ⟨hSN, ?_⟩
          have Hqb350 := Hqb346.carry hbb
          have Hqb351 := Hqb347.carry hbb
          have Hqb352 := Hqb348.carry hbb
          clear h7
          clear hS hbb
          have hS := hSN
          clear hSN
          try simp only [Act.put, List.setIfInBounds_toArray, List.set_cons_zero, List.set_cons_succ]
          refine reg_plan [8, 9, 10] (fuel := 2) (a' := ?qb353a) (by kernel_rfl) (by kernel_rfl) (by kernel_rfl) ?qb353p hS ?qb353n
          case qb353p =>
            iterate 3 (apply Yl.cons rfl (by kernel_rfl); focus (rintro wx hx; obtain ⟨v0, v1, v2, v3⟩ := (HV6.out.carry hx).cells; have q0 := HQ.out wx (HD6.out.trans (hx.mono HD6.out.size)); obtain ⟨m0, m1, m2, m3, m4⟩ := (HM6.out.carry hx).cells; simp only [Mlo, Mhi, twoC] at m0 m1 m2 m3 m4; obtain ⟨u0, u1, u2, u3⟩ := (HW6.out.carry hx).cells; clear hx; go_simp; all_goals (with_reducible rfl)); try simp only [Act.put, List.setIfInBounds_toArray, List.set_cons_zero, List.set_cons_succ])
            exact Yl.nil
          try simp only [Act.put, List.setIfInBounds_toArray, List.set_cons_zero, List.set_cons_succ]
          obtain ⟨c0', c1', c2', c3'⟩ := Hqb350.at.cells
          have f0 := Hqb350.at.fz 0
          have f1 := Hqb350.at.fz 1
          have f2 := Hqb350.at.fz 2
          have f3 := Hqb350.at.fz 3
          have hat : VvAt (set4v wqb349 Aqb314 (.slice a1 0 c1) (.int .i64 0) (.int .i64 0) (.string (bs []))) Aqb314 (.slice a1 0 c1) 0 0 [] := VvAt.put (v' := (.slice a1 0 c1)) (nx' := 0) (sq' := 0) (lg' := []) Hqb350.at
          have hSN : Below w6.heap.size w6 (set4v wqb349 Aqb314 (.slice a1 0 c1) (.int .i64 0) (.int .i64 0) (.string (bs []))) := below_set4v hS Lqb314 _ _ _ _
          obtain ⟨wqb354, ewqb354⟩ : ∃ wN, (set4v wqb349 Aqb314 (.slice a1 0 c1) (.int .i64 0) (.int .i64 0) (.string (bs []))) = wN := ⟨_, rfl⟩
          rw [ewqb354] at hat hSN
          unfold set4v at ewqb354
          refine reg_unit (i := 12) (w' := wqb354) rfl (by kernel_rfl) (by kernel_rfl) (by rw [← ewqb354]; go_simp) hSN ?_
          clear hS ewqb354 c0' c1' c2' c3' f0 f1 f2 f3
          have hS := hSN
          clear hSN
          try simp only [Act.put, List.setIfInBounds_toArray, List.set_cons_zero, List.set_cons_succ]
          refine reg_plan [13] (fuel := 0) (a' := ?qb355a) (by kernel_rfl) (by kernel_rfl) (by kernel_rfl) ?qb355p hS ?qb355n
          case qb355p =>
            iterate 1 (apply Yl.cons rfl (by kernel_rfl); focus (rintro wx hx; obtain ⟨v0, v1, v2, v3⟩ := (HV6.out.carry hx).cells; have q0 := HQ.out wx (HD6.out.trans (hx.mono HD6.out.size)); obtain ⟨m0, m1, m2, m3, m4⟩ := (HM6.out.carry hx).cells; simp only [Mlo, Mhi, twoC] at m0 m1 m2 m3 m4; obtain ⟨u0, u1, u2, u3⟩ := (HW6.out.carry hx).cells; clear hx; go_simp; all_goals (with_reducible rfl)); try simp only [Act.put, List.setIfInBounds_toArray, List.set_cons_zero, List.set_cons_succ])
            exact Yl.nil
          try simp only [Act.put, List.setIfInBounds_toArray, List.set_cons_zero, List.set_cons_succ]
          refine wpAnyH_done (by kernel_rfl) ?_ _
          refine NoPanic.normal ?_
          exact ⟨rfl, (Aqb340, Aqb348, Aqb314, a1, c1), by first | rfl | simp only [Act.put, List.setIfInBounds_toArray, List.set_cons_zero, List.set_cons_succ], hS⟩
        · skip
          refine wop_callg (R := fun v wy => v = .agg #[.string (bs [101]), .int .i64 1, .int .i64 1, .string (bs [99]), .string (bs [102])] ∧ Below wqb336.heap.size wqb336 wy) rfl (by kernel_rfl) (by go_simp; first | done | ((repeat' apply And.intro) <;> rfl)) ((table_lw [101] [99] [102] wqb336).mono fun e wy h => ⟨_, h.1, rfl, h.2⟩) ?_
          rintro v9 wqb356 ⟨rfl, hbb⟩
          have hSN := hK _ _ hS hbb
          refine ⟨hSN, ?_⟩
          have Hqb357 := Hqb337.carry hbb
          clear hS hbb
          have hS := hSN
          clear hSN
          try simp only [Act.put, List.setIfInBounds_toArray, List.set_cons_zero, List.set_cons_succ]
          refine reg_two (i := 2) (j := 6) (by kernel_rfl) ?_ ?_
          · skip
            obtain ⟨wqb358, ewqb358⟩ : ∃ wN, wqb356.alloc (.cells #[.string (bs [99]), .int .i64 1, .int .i64 1, .string (bs [98]), .string (bs [102])] 28) = wN := ⟨_, rfl⟩
            have hbb : Below wqb356.heap.size wqb356 wqb358 := by rw [← ewqb358]; exact (Below.refl _ _).alloc (Nat.le_refl _) _
            have hSN := hK _ _ hS hbb
            have Hqb359 := Hqb357.carry hbb
            obtain ⟨Aqb360, hAqb360⟩ : ∃ A, A = wqb356.heap.size := ⟨_, rfl⟩
            have Hqb360 : RdM wqb358 (.slice (some ⟨Aqb360, 0, none⟩) 1 1) oneC := by rw [← ewqb358, hAqb360]; exact oneC_rd wqb356
            have Lqb360 : w6.heap.size ≤ Aqb360 := by rw [hAqb360]; exact hS.size
            refine wop_run (v := .slice (some ⟨Aqb360, 0, none⟩) 1 1) (w' := wqb358) rfl (by kernel_rfl) (by rw [← ewqb358, hAqb360]; go_simp) ⟨hSN, ?_⟩
            clear hS hbb ewqb358 hAqb360
            have hS := hSN
            clear hSN
            try simp only [Act.put, List.setIfInBounds_toArray, List.set_cons_zero, List.set_cons_succ]
            refine reg_plan [3] (fuel := 7) (a' := ?qb361a) (by kernel_rfl) (by kernel_rfl) (by kernel_rfl) ?qb361p hS ?qb361n
            case qb361p =>
              iterate 1 (apply Yl.cons rfl (by kernel_rfl); focus (rintro wx hx; obtain ⟨v0, v1, v2, v3⟩ := (HV6.out.carry hx).cells; have q0 := HQ.out wx (HD6.out.trans (hx.mono HD6.out.size)); obtain ⟨m0, m1, m2, m3, m4⟩ := (HM6.out.carry hx).cells; simp only [Mlo, Mhi, twoC] at m0 m1 m2 m3 m4; obtain ⟨u0, u1, u2, u3⟩ := (HW6.out.carry hx).cells; clear hx; go_simp; all_goals (with_reducible rfl)); try simp only [Act.put, List.setIfInBounds_toArray, List.set_cons_zero, List.set_cons_succ])
              exact Yl.nil
            try simp only [Act.put, List.setIfInBounds_toArray, List.set_cons_zero, List.set_cons_succ]
            obtain ⟨wqb362, ewqb362⟩ : ∃ wN, wqb358.alloc (.cells #[.string (bs [100]), .int .i64 1, .int .i64 1, .string (bs [98]), .string (bs [99]), .string (bs [101]), .int .i64 1, .int .i64 1, .string (bs [99]), .string (bs [102])] 28) = wN := ⟨_, rfl⟩
            have hbb : Below wqb358.heap.size wqb358 wqb362 := by rw [← ewqb362]; exact (Below.refl _ _).alloc (Nat.le_refl _) _
            have hSN := hK _ _ hS hbb
            have Hqb363 := Hqb359.carry hbb
            have Hqb364 := Hqb360.carry hbb
            obtain ⟨Aqb365, hAqb365⟩ : ∃ A, A = wqb358.heap.size := ⟨_, rfl⟩
            have Hqb365 : RdM wqb362 (.slice (some ⟨Aqb365, 0, none⟩) 2 2) oneDE := by rw [← ewqb362, hAqb365]; exact oneDE_rd wqb358
            have Lqb365 : w6.heap.size ≤ Aqb365 := by rw [hAqb365]; exact hS.size
            refine reg_run (i := 6) (v := .slice (some ⟨Aqb365, 0, none⟩) 2 2) (w' := wqb362) rfl (by kernel_rfl) (by kernel_rfl) (by rw [← ewqb362, hAqb365]; go_simp) hSN ?_
            clear hS hbb ewqb362 hAqb365
            have hS := hSN
            clear hSN
            try simp only [Act.put, List.setIfInBounds_toArray, List.set_cons_zero, List.set_cons_succ]
            refine reg_callg (i := 7) (R := fun v wy => ∃ a1 c1, v = .tuple #[.agg #[.slice a1 0 c1, .int .i64 0, .int .i64 0, .string (bs [])], .int .i64 8] ∧ LvT wy a1 0 c1 [] ∧ Below wqb362.heap.size wqb362 wy) rfl (by kernel_rfl) (by kernel_rfl) (by go_simp; try rfl) (swp_lw (k := 1) (HR6.out.carry hS) Hqb364 Hqb365 (by decide) (by omega) (by omega) vn_s3 rfl) ?_
            rintro v9 wqb366 ⟨a1, c1, rfl, h7, hbb⟩
            have hSN := hK _ _ hS hbb
            refine ⟨hSN, ?_⟩
            have Hqb367 := Hqb363.carry hbb
            have Hqb368 := Hqb364.carry hbb
            have Hqb369 := Hqb365.carry hbb
            clear h7
            clear hS hbb
            have hS := hSN
            clear hSN
            try simp only [Act.put, List.setIfInBounds_toArray, List.set_cons_zero, List.set_cons_succ]
            refine reg_plan [8, 9, 10] (fuel := 2) (a' := ?qb370a) (by kernel_rfl) (by kernel_rfl) (by kernel_rfl) ?qb370p hS ?qb370n
            case qb370p =>
              iterate 3 (apply Yl.cons rfl (by kernel_rfl); focus (rintro wx hx; obtain ⟨v0, v1, v2, v3⟩ := (HV6.out.carry hx).cells; have q0 := HQ.out wx (HD6.out.trans (hx.mono HD6.out.size)); obtain ⟨m0, m1, m2, m3, m4⟩ := (HM6.out.carry hx).cells; simp only [Mlo, Mhi, twoC] at m0 m1 m2 m3 m4; obtain ⟨u0, u1, u2, u3⟩ := (HW6.out.carry hx).cells; clear hx; go_simp; all_goals (with_reducible rfl)); try simp only [Act.put, List.setIfInBounds_toArray, List.set_cons_zero, List.set_cons_succ])
              exact Yl.nil
            try simp only [Act.put, List.setIfInBounds_toArray, List.set_cons_zero, List.set_cons_succ]
            obtain ⟨c0', c1', c2', c3'⟩ := Hqb367.at.cells
            have f0 := Hqb367.at.fz 0
            have f1 := Hqb367.at.fz 1
            have f2 := Hqb367.at.fz 2
            have f3 := Hqb367.at.fz 3
            have hat : VvAt (set4v wqb366 Aqb314 (.slice a1 0 c1) (.int .i64 0) (.int .i64 0) (.string (bs []))) Aqb314 (.slice a1 0 c1) 0 0 [] := VvAt.put (v' := (.slice a1 0 c1)) (nx' := 0) (sq' := 0) (lg' := []) Hqb367.at
            have hSN : Below w6.heap.size w6 (set4v wqb366 Aqb314 (.slice a1 0 c1) (.int .i64 0) (.int .i64 0) (.string (bs []))) := below_set4v hS Lqb314 _ _ _ _
            obtain ⟨wqb371, ewqb371⟩ : ∃ wN, (set4v wqb366 Aqb314 (.slice a1 0 c1) (.int .i64 0) (.int .i64 0) (.string (bs []))) = wN := ⟨_, rfl⟩
            rw [ewqb371] at hat hSN
            unfold set4v at ewqb371
            refine reg_unit (i := 12) (w' := wqb371) rfl (by kernel_rfl) (by kernel_rfl) (by rw [← ewqb371]; go_simp) hSN ?_
            clear hS ewqb371 c0' c1' c2' c3' f0 f1 f2 f3
            have hS := hSN
            clear hSN
            try simp only [Act.put, List.setIfInBounds_toArray, List.set_cons_zero, List.set_cons_succ]
            refine reg_plan [13] (fuel := 0) (a' := ?qb372a) (by kernel_rfl) (by kernel_rfl) (by kernel_rfl) ?qb372p hS ?qb372n
            case qb372p =>
              iterate 1 (apply Yl.cons rfl (by kernel_rfl); focus (rintro wx hx; obtain ⟨v0, v1, v2, v3⟩ := (HV6.out.carry hx).cells; have q0 := HQ.out wx (HD6.out.trans (hx.mono HD6.out.size)); obtain ⟨m0, m1, m2, m3, m4⟩ := (HM6.out.carry hx).cells; simp only [Mlo, Mhi, twoC] at m0 m1 m2 m3 m4; obtain ⟨u0, u1, u2, u3⟩ := (HW6.out.carry hx).cells; clear hx; go_simp; all_goals (with_reducible rfl)); try simp only [Act.put, List.setIfInBounds_toArray, List.set_cons_zero, List.set_cons_succ])
              exact Yl.nil
            try simp only [Act.put, List.setIfInBounds_toArray, List.set_cons_zero, List.set_cons_succ]
            refine wpAnyH_done (by kernel_rfl) ?_ _
            refine NoPanic.normal ?_
            exact ⟨rfl, (Aqb360, Aqb365, Aqb314, a1, c1), by first | rfl | simp only [Act.put, List.setIfInBounds_toArray, List.set_cons_zero, List.set_cons_succ], hS⟩
          · skip
            obtain ⟨wqb373, ewqb373⟩ : ∃ wN, wqb356.alloc (.cells #[.string (bs [100]), .int .i64 1, .int .i64 1, .string (bs [98]), .string (bs [99]), .string (bs [101]), .int .i64 1, .int .i64 1, .string (bs [99]), .string (bs [102])] 28) = wN := ⟨_, rfl⟩
            have hbb : Below wqb356.heap.size wqb356 wqb373 := by rw [← ewqb373]; exact (Below.refl _ _).alloc (Nat.le_refl _) _
            have hSN := hK _ _ hS hbb
            have Hqb374 := Hqb357.carry hbb
            obtain ⟨Aqb375, hAqb375⟩ : ∃ A, A = wqb356.heap.size := ⟨_, rfl⟩
            have Hqb375 : RdM wqb373 (.slice (some ⟨Aqb375, 0, none⟩) 2 2) oneDE := by rw [← ewqb373, hAqb375]; exact oneDE_rd wqb356
            have Lqb375 : w6.heap.size ≤ Aqb375 := by rw [hAqb375]; exact hS.size
            refine wop_run (v := .slice (some ⟨Aqb375, 0, none⟩) 2 2) (w' := wqb373) rfl (by kernel_rfl) (by rw [← ewqb373, hAqb375]; go_simp) ⟨hSN, ?_⟩
            clear hS hbb ewqb373 hAqb375
            have hS := hSN
            clear hSN
            try simp only [Act.put, List.setIfInBounds_toArray, List.set_cons_zero, List.set_cons_succ]
            obtain ⟨wqb376, ewqb376⟩ : ∃ wN, wqb373.alloc (.cells #[.string (bs [99]), .int .i64 1, .int .i64 1, .string (bs [98]), .string (bs [102])] 28) = wN := ⟨_, rfl⟩
            have hbb : Below wqb373.heap.size wqb373 wqb376 := by rw [← ewqb376]; exact (Below.refl _ _).alloc (Nat.le_refl _) _
            have hSN := hK _ _ hS hbb
            have Hqb377 := Hqb374.carry hbb
            have Hqb378 := Hqb375.carry hbb
            obtain ⟨Aqb379, hAqb379⟩ : ∃ A, A = wqb373.heap.size := ⟨_, rfl⟩
            have Hqb379 : RdM wqb376 (.slice (some ⟨Aqb379, 0, none⟩) 1 1) oneC := by rw [← ewqb376, hAqb379]; exact oneC_rd wqb373
            have Lqb379 : w6.heap.size ≤ Aqb379 := by rw [hAqb379]; exact hS.size
            refine reg_run (i := 2) (v := .slice (some ⟨Aqb379, 0, none⟩) 1 1) (w' := wqb376) rfl (by kernel_rfl) (by kernel_rfl) (by rw [← ewqb376, hAqb379]; go_simp) hSN ?_
            clear hS hbb ewqb376 hAqb379
            have hS := hSN
            clear hSN
            try simp only [Act.put, List.setIfInBounds_toArray, List.set_cons_zero, List.set_cons_succ]
            refine reg_plan [3] (fuel := 6) (a' := ?qb380a) (by kernel_rfl) (by kernel_rfl) (by kernel_rfl) ?qb380p hS ?qb380n
            case qb380p =>
              iterate 1 (apply Yl.cons rfl (by kernel_rfl); focus (rintro wx hx; obtain ⟨v0, v1, v2, v3⟩ := (HV6.out.carry hx).cells; have q0 := HQ.out wx (HD6.out.trans (hx.mono HD6.out.size)); obtain ⟨m0, m1, m2, m3, m4⟩ := (HM6.out.carry hx).cells; simp only [Mlo, Mhi, twoC] at m0 m1 m2 m3 m4; obtain ⟨u0, u1, u2, u3⟩ := (HW6.out.carry hx).cells; clear hx; go_simp; all_goals (with_reducible rfl)); try simp only [Act.put, List.setIfInBounds_toArray, List.set_cons_zero, List.set_cons_succ])
              exact Yl.nil
            try simp only [Act.put, List.setIfInBounds_toArray, List.set_cons_zero, List.set_cons_succ]
            refine reg_callg (i := 7) (R := fun v wy => ∃ a1 c1, v = .tuple #[.agg #[.slice a1 0 c1, .int .i64 0, .int .i64 0, .string (bs [])], .int .i64 8] ∧ LvT wy a1 0 c1 [] ∧ Below wqb376.heap.size wqb376 wy) rfl (by kernel_rfl) (by kernel_rfl) (by go_simp; try rfl) (swp_lw (k := 1) (HR6.out.carry hS) Hqb379 Hqb378 (by decide) (by omega) (by omega) vn_s3 rfl) ?_
            rintro v9 wqb381 ⟨a1, c1, rfl, h7, hbb⟩
            have hSN := hK _ _ hS hbb
            refine ⟨hSN, ?_⟩
            have Hqb382 := Hqb377.carry hbb
            have Hqb383 := Hqb378.carry hbb
            have Hqb384 := Hqb379.carry hbb
            clear h7
            clear hS hbb
            have hS := hSN
            clear hSN
            try simp only [Act.put, List.setIfInBounds_toArray, List.set_cons_zero, List.set_cons_succ]
            refine reg_plan [8, 9, 10] (fuel := 2) (a' := ?qb385a) (by kernel_rfl) (by kernel_rfl) (by kernel_rfl) ?qb385p hS ?qb385n
            case qb385p =>
              iterate 3 (apply Yl.cons rfl (by kernel_rfl); focus (rintro wx hx; obtain ⟨v0, v1, v2, v3⟩ := (HV6.out.carry hx).cells; have q0 := HQ.out wx (HD6.out.trans (hx.mono HD6.out.size)); obtain ⟨m0, m1, m2, m3, m4⟩ := (HM6.out.carry hx).cells; simp only [Mlo, Mhi, twoC] at m0 m1 m2 m3 m4; obtain ⟨u0, u1, u2, u3⟩ := (HW6.out.carry hx).cells; clear hx; go_simp; all_goals (with_reducible rfl)); try simp only [Act.put, List.setIfInBounds_toArray, List.set_cons_zero, List.set_cons_succ])
              exact Yl.nil
            try simp only [Act.put, List.setIfInBounds_toArray, List.set_cons_zero, List.set_cons_succ]
            obtain ⟨c0', c1', c2', c3'⟩ := Hqb382.at.cells
            have f0 := Hqb382.at.fz 0
            have f1 := Hqb382.at.fz 1
            have f2 := Hqb382.at.fz 2
            have f3 := Hqb382.at.fz 3
            have hat : VvAt (set4v wqb381 Aqb314 (.slice a1 0 c1) (.int .i64 0) (.int .i64 0) (.string (bs []))) Aqb314 (.slice a1 0 c1) 0 0 [] := VvAt.put (v' := (.slice a1 0 c1)) (nx' := 0) (sq' := 0) (lg' := []) Hqb382.at
            have hSN : Below w6.heap.size w6 (set4v wqb381 Aqb314 (.slice a1 0 c1) (.int .i64 0) (.int .i64 0) (.string (bs []))) := below_set4v hS Lqb314 _ _ _ _
            obtain ⟨wqb386, ewqb386⟩ : ∃ wN, (set4v wqb381 Aqb314 (.slice a1 0 c1) (.int .i64 0) (.int .i64 0) (.string (bs []))) = wN := ⟨_, rfl⟩
            rw [ewqb386] at hat hSN
            unfold set4v at ewqb386
            refine reg_unit (i := 12) (w' := wqb386) rfl (by kernel_rfl) (by kernel_rfl) (by rw [← ewqb386]; go_simp) hSN ?_
            clear hS ewqb386 c0' c1' c2' c3' f0 f1 f2 f3
            have hS := hSN
            clear hSN
            try simp only [Act.put, List.setIfInBounds_toArray, List.set_cons_zero, List.set_cons_succ]
            refine reg_plan [13] (fuel := 0) (a' := ?qb387a) (by kernel_rfl) (by kernel_rfl) (by kernel_rfl) ?qb387p hS ?qb387n
            case qb387p =>
              iterate 1 (apply Yl.cons rfl (by kernel_rfl); focus (rintro wx hx; obtain ⟨v0, v1, v2, v3⟩ := (HV6.out.carry hx).cells; have q0 := HQ.out wx (HD6.out.trans (hx.mono HD6.out.size)); obtain ⟨m0, m1, m2, m3, m4⟩ := (HM6.out.carry hx).cells; simp only [Mlo, Mhi, twoC] at m0 m1 m2 m3 m4; obtain ⟨u0, u1, u2, u3⟩ := (HW6.out.carry hx).cells; clear hx; go_simp; all_goals (with_reducible rfl)); try simp only [Act.put, List.setIfInBounds_toArray, List.set_cons_zero, List.set_cons_succ])
              exact Yl.nil
            try simp only [Act.put, List.setIfInBounds_toArray, List.set_cons_zero, List.set_cons_succ]
            refine wpAnyH_done (by kernel_rfl) ?_ _
            refine NoPanic.normal ?_
            exact ⟨rfl, (Aqb379, Aqb375, Aqb314, a1, c1), by first | rfl | simp only [Act.put, List.setIfInBounds_toArray, List.set_cons_zero, List.set_cons_succ], hS⟩
  case impqb =>
  rintro ⟨G2, G6, A8, a8, c8⟩ w7 hbz
  simp only [Act.put, List.setIfInBounds_toArray, List.set_cons_zero, List.set_cons_succ]
  have HW7 := hide (HW6.out.carry hbz)
  have HR7 := hide (HR6.out.carry hbz)
  have HV7 := hide (HV6.out.carry hbz)
  have HM7 := hide (HM6.out.carry hbz)
  have HN7 := hide (HN6.out.carry hbz)
  have HD7 := hide (HD6.out.trans (hbz.mono HD6.out.size))
  have HB7 := hide (HB6.out.trans (hbz.mono HB6.out.size))
  clear HW6 HR6 HV6 HM6 HN6 HD6 HB6
  clear hbz
  have hc := newx_lw w7
  go_wp2_with fail
  refine hc.mono ?_
  rintro e w8 ⟨a10, c10, rfl, b8⟩
  clear hc
  have HW8 := hide (HW7.out.carry b8)
  have HR8 := hide (HR7.out.carry b8)
  have HV8 := hide (HV7.out.carry b8)
  have HM8 := hide (HM7.out.carry b8)
  have HN8 := hide (HN7.out.carry b8)
  have HD8 := hide (HD7.out.trans (b8.mono HD7.out.size))
  have HB8 := hide (HB7.out.trans (b8.mono HB7.out.size))
  clear HW7 HR7 HV7 HM7 HN7 HD7 HB7
  clear b8
  obtain ⟨w9, hw9⟩ : ∃ w9, w9 = w8.alloc (.cells #[.slice a10 0 c10, .int .i64 0, .int .i64 0, .string (bs [])] 24) := ⟨_, rfl⟩
  have hb9 : Below w8.heap.size w8 w9 := by rw [hw9]; exact (Below.refl _ _).alloc (Nat.le_refl _) _
  obtain ⟨P9, hP9⟩ : ∃ P, P = w8.heap.size := ⟨_, rfl⟩
  have HW9 := hide (HW8.out.carry hb9)
  have HR9 := hide (HR8.out.carry hb9)
  have HV9 := hide (HV8.out.carry hb9)
  have HM9 := hide (HM8.out.carry hb9)
  have HN9 := hide (HN8.out.carry hb9)
  have HD9 := hide (HD8.out.trans (hb9.mono HD8.out.size))
  have HB9 := hide (HB8.out.trans (hb9.mono HB8.out.size))
  clear HW8 HR8 HV8 HM8 HN8 HD8 HB8
  clear hb9
  go_wp2_with fail
  rw [← hw9, ← hP9]
  clear hw9 hP9
  refine region_cut (α := Nat × Option Addr × Nat) (F := fun bx a => (((((((((a.put (some 59) (.agg #[.slice (some ⟨b, off, none⟩) 4 c, .int .i64 1, .int .i64 0, .string (bs logS)])).put (some 60) (.agg #[.string (bs [97]), .int .i64 1, .int .i64 1, .string (bs [120]), .string (bs [121])])).put (some 61) (.tuple #[(.agg #[.slice bx.2.1 0 bx.2.2, .int .i64 0, .int .i64 0, .string (bs [])]), .int .i64 8])).put (some 58) (.tuple #[(.agg #[.slice bx.2.1 0 bx.2.2, .int .i64 0, .int .i64 0, .string (bs [])]), .int .i64 8])).put (some 62) (.agg #[.slice bx.2.1 0 bx.2.2, .int .i64 0, .int .i64 0, .string (bs [])])).put (some 63) (.int .i64 8)).put (some 12) (.pointer (some ⟨bx.1, 0, none⟩))).put none undef).put (some 13) (.int .i64 8))) (R := fun bx wz => Below w9.heap.size w9 wz) ?regqc ?impqc
  case regqc =>
    have hK : Keeps (fun wx => Below w9.heap.size w9 wx) := fun w1 w2 h hb => h.trans (hb.mono h.size)
    have hS0 : (fun wx => Below w9.heap.size w9 wx) w9 := Below.refl _ _
    refine reg_begin hK (by kernel_rfl) hS0 ?_
    intro hS
    generalize w9.drew = wd at *
    refine reg_plan [0] (fuel := 8) (a' := ?qc1a) (by kernel_rfl) (by kernel_rfl) (by kernel_rfl) ?qc1p hS ?qc1n
    case qc1p =>
      iterate 1 (apply Yl.cons rfl (by kernel_rfl); focus (rintro wx hx; obtain ⟨v0, v1, v2, v3⟩ := (HV9.out.carry hx).cells; have q0 := HQ.out wx (HD9.out.trans (hx.mono HD9.out.size)); obtain ⟨m0, m1, m2, m3, m4⟩ := (HM9.out.carry hx).cells; simp only [Mlo, Mhi, twoC] at m0 m1 m2 m3 m4; obtain ⟨u0, u1, u2, u3⟩ := (HW9.out.carry hx).cells; clear hx; go_simp; all_goals (with_reducible rfl)); try simp only [Act.put, List.setIfInBounds_toArray, List.set_cons_zero, List.set_cons_succ])
      exact Yl.nil
    try simp only [Act.put, List.setIfInBounds_toArray, List.set_cons_zero, List.set_cons_succ]
    refine reg_two (i := 1) (j := 6) (by kernel_rfl) ?_ ?_
    · skip
      refine wop_callg (R := fun v wy => v = .agg #[.string (bs [97]), .int .i64 1, .int .i64 1, .string (bs [120]), .string (bs [121])] ∧ Below wd.heap.size wd wy) rfl (by kernel_rfl) (by go_simp; first | done | ((repeat' apply And.intro) <;> rfl)) ((table_lw [97] [120] [121] wd).mono fun e wy h => ⟨_, h.1, rfl, h.2⟩) ?_
      rintro v9 wqc2 ⟨rfl, hbb⟩
      have hSN := hK _ _ hS hbb
      refine ⟨hSN, ?_⟩
      clear hS hbb
      have hS := hSN
      clear hSN
      try simp only [Act.put, List.setIfInBounds_toArray, List.set_cons_zero, List.set_cons_succ]
      refine reg_two (i := 2) (j := 6) (by kernel_rfl) ?_ ?_
      · skip
        refine wop_callg (R := fun v wy => ∃ a1 c1, v = .tuple #[.agg #[.slice a1 0 c1, .int .i64 0, .int .i64 0, .string (bs [])], .int .i64 8] ∧ LvT wy a1 0 c1 [] ∧ Below wqc2.heap.size wqc2 wy) rfl (by kernel_rfl) (by go_simp; first | done | ((repeat' apply And.intro) <;> rfl)) (addx_lw (HT1.out.carry (HD9.out.trans (hS.mono HD9.out.size))) ([97], 1, 1, [120], [121]) (by decide) vn_a5 rfl) ?_
        rintro v9 wqc3 ⟨a1, c1, rfl, h7, hbb⟩
        have hSN := hK _ _ hS hbb
        refine ⟨hSN, ?_⟩
        clear h7
        clear hS hbb
        have hS := hSN
        clear hSN
        try simp only [Act.put, List.setIfInBounds_toArray, List.set_cons_zero, List.set_cons_succ]
        refine reg_plan [3, 4, 5] (fuel := 3) (a' := ?qc4a) (by kernel_rfl) (by kernel_rfl) (by kernel_rfl) ?qc4p hS ?qc4n
        case qc4p =>
          iterate 3 (apply Yl.cons rfl (by kernel_rfl); focus (rintro wx hx; obtain ⟨v0, v1, v2, v3⟩ := (HV9.out.carry hx).cells; have q0 := HQ.out wx (HD9.out.trans (hx.mono HD9.out.size)); obtain ⟨m0, m1, m2, m3, m4⟩ := (HM9.out.carry hx).cells; simp only [Mlo, Mhi, twoC] at m0 m1 m2 m3 m4; obtain ⟨u0, u1, u2, u3⟩ := (HW9.out.carry hx).cells; clear hx; go_simp; all_goals (with_reducible rfl)); try simp only [Act.put, List.setIfInBounds_toArray, List.set_cons_zero, List.set_cons_succ])
          exact Yl.nil
        try simp only [Act.put, List.setIfInBounds_toArray, List.set_cons_zero, List.set_cons_succ]
        obtain ⟨wqc5, ewqc5⟩ : ∃ wN, wqc3.alloc (.cells #[.slice none 0 0, .int .i64 0, .int .i64 0, .string { data := #[] }] 24) = wN := ⟨_, rfl⟩
        have hbb : Below wqc3.heap.size wqc3 wqc5 := by rw [← ewqc5]; exact (Below.refl _ _).alloc (Nat.le_refl _) _
        have hSN := hK _ _ hS hbb
        obtain ⟨Aqc6, hAqc6⟩ : ∃ A, A = wqc3.heap.size := ⟨_, rfl⟩
        have Hqc6 : VzB wqc5 Aqc6 := by rw [← ewqc5, hAqc6]; exact VzB.new wqc3
        have Lqc6 : w9.heap.size ≤ Aqc6 := by rw [hAqc6]; exact hS.size
        refine reg_run (i := 6) (v := .pointer (some ⟨Aqc6, 0, none⟩)) (w' := wqc5) rfl (by kernel_rfl) (by kernel_rfl) (by rw [← ewqc5, hAqc6]; go_simp) hSN ?_
        clear hS hbb ewqc5 hAqc6
        have hS := hSN
        clear hSN
        try simp only [Act.put, List.setIfInBounds_toArray, List.set_cons_zero, List.set_cons_succ]
        obtain ⟨c0', c1', c2', c3'⟩ := Hqc6.at.cells
        have f0 := Hqc6.at.fz 0
        have f1 := Hqc6.at.fz 1
        have f2 := Hqc6.at.fz 2
        have f3 := Hqc6.at.fz 3
        have hat : VvAt (set4v wqc5 Aqc6 (.slice a1 0 c1) (.int .i64 0) (.int .i64 0) (.string (bs []))) Aqc6 (.slice a1 0 c1) 0 0 [] := VvAt.put (v' := (.slice a1 0 c1)) (nx' := 0) (sq' := 0) (lg' := []) Hqc6.at
        have hSN : Below w9.heap.size w9 (set4v wqc5 Aqc6 (.slice a1 0 c1) (.int .i64 0) (.int .i64 0) (.string (bs []))) := below_set4v hS Lqc6 _ _ _ _
        obtain ⟨wqc7, ewqc7⟩ : ∃ wN, (set4v wqc5 Aqc6 (.slice a1 0 c1) (.int .i64 0) (.int .i64 0) (.string (bs []))) = wN := ⟨_, rfl⟩
        rw [ewqc7] at hat hSN
        unfold set4v at ewqc7
        refine reg_unit (i := 7) (w' := wqc7) rfl (by kernel_rfl) (by kernel_rfl) (by rw [← ewqc7]; go_simp) hSN ?_
        clear hS ewqc7 c0' c1' c2' c3' f0 f1 f2 f3
        have hS := hSN
        clear hSN
        try simp only [Act.put, List.setIfInBounds_toArray, List.set_cons_zero, List.set_cons_succ]
        refine reg_plan [8] (fuel := 0) (a' := ?qc8a) (by kernel_rfl) (by kernel_rfl) (by kernel_rfl) ?qc8p hS ?qc8n
        case qc8p =>
          iterate 1 (apply Yl.cons rfl (by kernel_rfl); focus (rintro wx hx; obtain ⟨v0, v1, v2, v3⟩ := (HV9.out.carry hx).cells; have q0 := HQ.out wx (HD9.out.trans (hx.mono HD9.out.size)); obtain ⟨m0, m1, m2, m3, m4⟩ := (HM9.out.carry hx).cells; simp only [Mlo, Mhi, twoC] at m0 m1 m2 m3 m4; obtain ⟨u0, u1, u2, u3⟩ := (HW9.out.carry hx).cells; clear hx; go_simp; all_goals (with_reducible rfl)); try simp only [Act.put, List.setIfInBounds_toArray, List.set_cons_zero, List.set_cons_succ])
          exact Yl.nil
        try simp only [Act.put, List.setIfInBounds_toArray, List.set_cons_zero, List.set_cons_succ]
        refine wpAnyH_done (by kernel_rfl) ?_ _
        refine NoPanic.normal ?_
        exact ⟨rfl, (Aqc6, a1, c1), by first | rfl | simp only [Act.put, List.setIfInBounds_toArray, List.set_cons_zero, List.set_cons_succ], hS⟩
      · skip
        obtain ⟨wqc9, ewqc9⟩ : ∃ wN, wqc2.alloc (.cells #[.slice none 0 0, .int .i64 0, .int .i64 0, .string { data := #[] }] 24) = wN := ⟨_, rfl⟩
        have hbb : Below wqc2.heap.size wqc2 wqc9 := by rw [← ewqc9]; exact (Below.refl _ _).alloc (Nat.le_refl _) _
        have hSN := hK _ _ hS hbb
        obtain ⟨Aqc10, hAqc10⟩ : ∃ A, A = wqc2.heap.size := ⟨_, rfl⟩
        have Hqc10 : VzB wqc9 Aqc10 := by rw [← ewqc9, hAqc10]; exact VzB.new wqc2
        have Lqc10 : w9.heap.size ≤ Aqc10 := by rw [hAqc10]; exact hS.size
        refine wop_run (v := .pointer (some ⟨Aqc10, 0, none⟩)) (w' := wqc9) rfl (by kernel_rfl) (by rw [← ewqc9, hAqc10]; go_simp) ⟨hSN, ?_⟩
        clear hS hbb ewqc9 hAqc10
        have hS := hSN
        clear hSN
        try simp only [Act.put, List.setIfInBounds_toArray, List.set_cons_zero, List.set_cons_succ]
        refine reg_callg (i := 2) (R := fun v wy => ∃ a1 c1, v = .tuple #[.agg #[.slice a1 0 c1, .int .i64 0, .int .i64 0, .string (bs [])], .int .i64 8] ∧ LvT wy a1 0 c1 [] ∧ Below wqc9.heap.size wqc9 wy) rfl (by kernel_rfl) (by kernel_rfl) (by go_simp; first | done | ((repeat' apply And.intro) <;> rfl)) (addx_lw (HT1.out.carry (HD9.out.trans (hS.mono HD9.out.size))) ([97], 1, 1, [120], [121]) (by decide) vn_a5 rfl) ?_
        rintro v9 wqc11 ⟨a1, c1, rfl, h7, hbb⟩
        have hSN := hK _ _ hS hbb
        refine ⟨hSN, ?_⟩
        have Hqc12 := Hqc10.carry hbb
        clear h7
        clear hS hbb
        have hS := hSN
        clear hSN
        try simp only [Act.put, List.setIfInBounds_toArray, List.set_cons_zero, List.set_cons_succ]
        refine reg_plan [3, 4, 5] (fuel := 2) (a' := ?qc13a) (by kernel_rfl) (by kernel_rfl) (by kernel_rfl) ?qc13p hS ?qc13n
        case qc13p =>
          iterate 3 (apply Yl.cons rfl (by kernel_rfl); focus (rintro wx hx; obtain ⟨v0, v1, v2, v3⟩ := (HV9.out.carry hx).cells; have q0 := HQ.out wx (HD9.out.trans (hx.mono HD9.out.size)); obtain ⟨m0, m1, m2, m3, m4⟩ := (HM9.out.carry hx).cells; simp only [Mlo, Mhi, twoC] at m0 m1 m2 m3 m4; obtain ⟨u0, u1, u2, u3⟩ := (HW9.out.carry hx).cells; clear hx; go_simp; all_goals (with_reducible rfl)); try simp only [Act.put, List.setIfInBounds_toArray, List.set_cons_zero, List.set_cons_succ])
          exact Yl.nil
        try simp only [Act.put, List.setIfInBounds_toArray, List.set_cons_zero, List.set_cons_succ]
        obtain ⟨c0', c1', c2', c3'⟩ := Hqc12.at.cells
        have f0 := Hqc12.at.fz 0
        have f1 := Hqc12.at.fz 1
        have f2 := Hqc12.at.fz 2
        have f3 := Hqc12.at.fz 3
        have hat : VvAt (set4v wqc11 Aqc10 (.slice a1 0 c1) (.int .i64 0) (.int .i64 0) (.string (bs []))) Aqc10 (.slice a1 0 c1) 0 0 [] := VvAt.put (v' := (.slice a1 0 c1)) (nx' := 0) (sq' := 0) (lg' := []) Hqc12.at
        have hSN : Below w9.heap.size w9 (set4v wqc11 Aqc10 (.slice a1 0 c1) (.int .i64 0) (.int .i64 0) (.string (bs []))) := below_set4v hS Lqc10 _ _ _ _
        obtain ⟨wqc14, ewqc14⟩ : ∃ wN, (set4v wqc11 Aqc10 (.slice a1 0 c1) (.int .i64 0) (.int .i64 0) (.string (bs []))) = wN := ⟨_, rfl⟩
        rw [ewqc14] at hat hSN
        unfold set4v at ewqc14
        refine reg_unit (i := 7) (w' := wqc14) rfl (by kernel_rfl) (by kernel_rfl) (by rw [← ewqc14]; go_simp) hSN ?_
        clear hS ewqc14 c0' c1' c2' c3' f0 f1 f2 f3
        have hS := hSN
        clear hSN
        try simp only [Act.put, List.setIfInBounds_toArray, List.set_cons_zero, List.set_cons_succ]
        refine reg_plan [8] (fuel := 0) (a' := ?qc15a) (by kernel_rfl) (by kernel_rfl) (by kernel_rfl) ?qc15p hS ?qc15n
        case qc15p =>
          iterate 1 (apply Yl.cons rfl (by kernel_rfl); focus (rintro wx hx; obtain ⟨v0, v1, v2, v3⟩ := (HV9.out.carry hx).cells; have q0 := HQ.out wx (HD9.out.trans (hx.mono HD9.out.size)); obtain ⟨m0, m1, m2, m3, m4⟩ := (HM9.out.carry hx).cells; simp only [Mlo, Mhi, twoC] at m0 m1 m2 m3 m4; obtain ⟨u0, u1, u2, u3⟩ := (HW9.out.carry hx).cells; clear hx; go_simp; all_goals (with_reducible rfl)); try simp only [Act.put, List.setIfInBounds_toArray, List.set_cons_zero, List.set_cons_succ])
          exact Yl.nil
        try simp only [Act.put, List.setIfInBounds_toArray, List.set_cons_zero, List.set_cons_succ]
        refine wpAnyH_done (by kernel_rfl) ?_ _
        refine NoPanic.normal ?_
        exact ⟨rfl, (Aqc10, a1, c1), by first | rfl | simp only [Act.put, List.setIfInBounds_toArray, List.set_cons_zero, List.set_cons_succ], hS⟩
    · skip
      obtain ⟨wqc16, ewqc16⟩ : ∃ wN, wd.alloc (.cells #[.slice none 0 0, .int .i64 0, .int .i64 0, .string { data := #[] }] 24) = wN := ⟨_, rfl⟩
      have hbb : Below wd.heap.size wd wqc16 := by rw [← ewqc16]; exact (Below.refl _ _).alloc (Nat.le_refl _) _
      have hSN := hK _ _ hS hbb
      obtain ⟨Aqc17, hAqc17⟩ : ∃ A, A = wd.heap.size := ⟨_, rfl⟩
      have Hqc17 : VzB wqc16 Aqc17 := by rw [← ewqc16, hAqc17]; exact VzB.new wd
      have Lqc17 : w9.heap.size ≤ Aqc17 := by rw [hAqc17]; exact hS.size
      refine wop_run (v := .pointer (some ⟨Aqc17, 0, none⟩)) (w' := wqc16) rfl (by kernel_rfl) (by rw [← ewqc16, hAqc17]; go_simp) ⟨hSN, ?_⟩
      clear hS hbb ewqc16 hAqc17
      have hS := hSN
      clear hSN
      try simp only [Act.put, List.setIfInBounds_toArray, List.set_cons_zero, List.set_cons_succ]
      refine reg_callg (i := 1) (R := fun v wy => v = .agg #[.string (bs [97]), .int .i64 1, .int .i64 1, .string (bs [120]), .string (bs [121])] ∧ Below wqc16.heap.size wqc16 wy) rfl (by kernel_rfl) (by kernel_rfl) (by go_simp; first | done | ((repeat' apply And.intro) <;> rfl)) ((table_lw [97] [120] [121] wqc16).mono fun e wy h => ⟨_, h.1, rfl, h.2⟩) ?_
      rintro v9 wqc18 ⟨rfl, hbb⟩
      have hSN := hK _ _ hS hbb
      refine ⟨hSN, ?_⟩
      have Hqc19 := Hqc17.carry hbb
      clear hS hbb
      have hS := hSN
      clear hSN
      try simp only [Act.put, List.setIfInBounds_toArray, List.set_cons_zero, List.set_cons_succ]
      refine reg_callg (i := 2) (R := fun v wy => ∃ a1 c1, v = .tuple #[.agg #[.slice a1 0 c1, .int .i64 0, .int .i64 0, .string (bs [])], .int .i64 8] ∧ LvT wy a1 0 c1 [] ∧ Below wqc18.heap.size wqc18 wy) rfl (by kernel_rfl) (by kernel_rfl) (by go_simp; first | done | ((repeat' apply And.intro) <;> rfl)) (addx_lw (HT1.out.carry (HD9.out.trans (hS.mono HD9.out.size))) ([97], 1, 1, [120], [121]) (by decide) vn_a5 rfl) ?_
      rintro v9 wqc20 ⟨a1, c1, rfl, h7, hbb⟩
      have hSN := hK _ _ hS hbb
      refine ⟨hSN, ?_⟩
      have Hqc21 := Hqc19.carry hbb
      clear h7
      clear hS hbb
      have hS := hSN
      clear hSN
      try simp only [Act.put, List.setIfInBounds_toArray, List.set_cons_zero, List.set_cons_succ]
      refine reg_plan [3, 4, 5] (fuel := 2) (a' := ?qc22a) (by kernel_rfl) (by kernel_rfl) (by kernel_rfl) ?qc22p hS ?qc22n
      case qc22p =>
        iterate 3 (apply Yl.cons rfl (by kernel_rfl); focus (rintro wx hx; obtain ⟨v0, v1, v2, v3⟩ := (HV9.out.carry hx).cells; have q0 := HQ.out wx (HD9.out.trans (hx.mono HD9.out.size)); obtain ⟨m0, m1, m2, m3, m4⟩ := (HM9.out.carry hx).cells; simp only [Mlo, Mhi, twoC] at m0 m1 m2 m3 m4; obtain ⟨u0, u1, u2, u3⟩ := (HW9.out.carry hx).cells; clear hx; go_simp; all_goals (with_reducible rfl)); try simp only [Act.put, List.setIfInBounds_toArray, List.set_cons_zero, List.set_cons_succ])
        exact Yl.nil
      try simp only [Act.put, List.setIfInBounds_toArray, List.set_cons_zero, List.set_cons_succ]
      obtain ⟨c0', c1', c2', c3'⟩ := Hqc21.at.cells
      have f0 := Hqc21.at.fz 0
      have f1 := Hqc21.at.fz 1
      have f2 := Hqc21.at.fz 2
      have f3 := Hqc21.at.fz 3
      have hat : VvAt (set4v wqc20 Aqc17 (.slice a1 0 c1) (.int .i64 0) (.int .i64 0) (.string (bs []))) Aqc17 (.slice a1 0 c1) 0 0 [] := VvAt.put (v' := (.slice a1 0 c1)) (nx' := 0) (sq' := 0) (lg' := []) Hqc21.at
      have hSN : Below w9.heap.size w9 (set4v wqc20 Aqc17 (.slice a1 0 c1) (.int .i64 0) (.int .i64 0) (.string (bs []))) := below_set4v hS Lqc17 _ _ _ _
      obtain ⟨wqc23, ewqc23⟩ : ∃ wN, (set4v wqc20 Aqc17 (.slice a1 0 c1) (.int .i64 0) (.int .i64 0) (.string (bs []))) = wN := ⟨_, rfl⟩
      rw [ewqc23] at hat hSN
      unfold set4v at ewqc23
      refine reg_unit (i := 7) (w' := wqc23) rfl (by kernel_rfl) (by kernel_rfl) (by rw [← ewqc23]; go_simp) hSN ?_
      clear hS ewqc23 c0' c1' c2' c3' f0 f1 f2 f3
      have hS := hSN
      clear hSN
      try simp only [Act.put, List.setIfInBounds_toArray, List.set_cons_zero, List.set_cons_succ]
      refine reg_plan [8] (fuel := 0) (a' := ?qc24a) (by kernel_rfl) (by kernel_rfl) (by kernel_rfl) ?qc24p hS ?qc24n
      case qc24p =>
        iterate 1 (apply Yl.cons rfl (by kernel_rfl); focus (rintro wx hx; obtain ⟨v0, v1, v2, v3⟩ := (HV9.out.carry hx).cells; have q0 := HQ.out wx (HD9.out.trans (hx.mono HD9.out.size)); obtain ⟨m0, m1, m2, m3, m4⟩ := (HM9.out.carry hx).cells; simp only [Mlo, Mhi, twoC] at m0 m1 m2 m3 m4; obtain ⟨u0, u1, u2, u3⟩ := (HW9.out.carry hx).cells; clear hx; go_simp; all_goals (with_reducible rfl)); try simp only [Act.put, List.setIfInBounds_toArray, List.set_cons_zero, List.set_cons_succ])
        exact Yl.nil
      try simp only [Act.put, List.setIfInBounds_toArray, List.set_cons_zero, List.set_cons_succ]
      refine wpAnyH_done (by kernel_rfl) ?_ _
      refine NoPanic.normal ?_
      exact ⟨rfl, (Aqc17, a1, c1), by first | rfl | simp only [Act.put, List.setIfInBounds_toArray, List.set_cons_zero, List.set_cons_succ], hS⟩
  case impqc =>
  rintro ⟨A12, a12, c12⟩ w10 hbz
  simp only [Act.put, List.setIfInBounds_toArray, List.set_cons_zero, List.set_cons_succ]
  have HW10 := hide (HW9.out.carry hbz)
  have HR10 := hide (HR9.out.carry hbz)
  have HV10 := hide (HV9.out.carry hbz)
  have HM10 := hide (HM9.out.carry hbz)
  have HN10 := hide (HN9.out.carry hbz)
  have HD10 := hide (HD9.out.trans (hbz.mono HD9.out.size))
  have HB10 := hide (HB9.out.trans (hbz.mono HB9.out.size))
  clear HW9 HR9 HV9 HM9 HN9 HD9 HB9
  clear hbz HT1 HU1 HQ
  obtain ⟨w11, hw11⟩ : ∃ w11, w11 = w10.alloc (.cells #[.string (bs [99]), .int .i64 1, .int .i64 1, .string (bs [98]), .string (bs [102])] 28) := ⟨_, rfl⟩
  have hb11 : Below w10.heap.size w10 w11 := by rw [hw11]; exact (Below.refl _ _).alloc (Nat.le_refl _) _
  obtain ⟨P11, hP11⟩ : ∃ P, P = w10.heap.size := ⟨_, rfl⟩
  have hrc : RdM w11 (.slice (some ⟨P11, 0, none⟩) 1 1) oneC := by rw [hw11, hP11]; exact oneC_rd w10
  obtain ⟨u0, u1, u2, u3⟩ := HW10.out.cells
  obtain ⟨m0, m1, m2, m3, m4⟩ := HM10.out.cells
  simp only [Mlo, Mhi, twoC] at m0 m1 m2 m3 m4
  have HW11 := hide (HW10.out.carry hb11)
  have HR11 := hide (HR10.out.carry hb11)
  have HV11 := hide (HV10.out.carry hb11)
  have HM11 := hide (HM10.out.carry hb11)
  have HN11 := hide (HN10.out.carry hb11)
  have HD11 := hide (HD10.out.trans (hb11.mono HD10.out.size))
  have HB11 := hide (HB10.out.trans (hb11.mono HB10.out.size))
  clear HW10 HR10 HV10 HM10 HN10 HD10 HB10
  have hc := swp_lw (k := 0) HR11.out hrc (RdG.nil w11) (by decide) (by omega) (by omega) vn_s6 rfl
  clear hb11 hrc
  obtain ⟨n0, n1, n2, n3⟩ := HW11.out.cells
  rw [hw11] at n0 n1 n2 n3
  go_wp2_with fail
  rw [← hw11, ← hP11]
  clear hw11 hP11 u0 u1 u2 u3 m0 m1 m2 m3 m4 n0 n1 n2 n3
  refine hc.mono ?_
  rintro e w12 ⟨v14, rfl, a14, c14, rfl, -, b12⟩
  clear hc
  have HW12 := hide (HW11.out.carry b12)
  have HR12 := hide (HR11.out.carry b12)
  have HV12 := hide (HV11.out.carry b12)
  have HM12 := hide (HM11.out.carry b12)
  have HN12 := hide (HN11.out.carry b12)
  have HD12 := hide (HD11.out.trans (b12.mono HD11.out.size))
  have HB12 := hide (HB11.out.trans (b12.mono HB11.out.size))
  clear HW11 HR11 HV11 HM11 HN11 HD11 HB11
  clear b12
  obtain ⟨w13, hw13⟩ : ∃ w13, w13 = w12.alloc (.cells #[.slice a14 0 c14, .int .i64 0, .int .i64 0, .string (bs [])] 24) := ⟨_, rfl⟩
  have hb13 : Below w12.heap.size w12 w13 := by rw [hw13]; exact (Below.refl _ _).alloc (Nat.le_refl _) _
  obtain ⟨P13, hP13⟩ : ∃ P, P = w12.heap.size := ⟨_, rfl⟩
  have HW13 := hide (HW12.out.carry hb13)
  have HR13 := hide (HR12.out.carry hb13)
  have HV13 := hide (HV12.out.carry hb13)
  have HM13 := hide (HM12.out.carry hb13)
  have HN13 := hide (HN12.out.carry hb13)
  have HD13 := hide (HD12.out.trans (hb13.mono HD12.out.size))
  have HB13 := hide (HB12.out.trans (hb13.mono HB12.out.size))
  clear HW12 HR12 HV12 HM12 HN12 HD12 HB12
  have hc := swp_lw (k := 3) HR13.out (RdG.nil w13) (RdG.nil w13) (by decide) (by omega) (by omega) vn_s7 rfl
  obtain ⟨u0, u1, u2, u3⟩ := HW13.out.cells
  rw [hw13] at u0 u1 u2 u3
  clear hb13
  go_wp2_with fail
  rw [← hw13, ← hP13]
  clear hw13 hP13 u0 u1 u2 u3
  refine hc.mono ?_
  rintro e w14 ⟨v16, rfl, a16, c16, rfl, -, b14⟩
  clear hc
  have HW14 := hide (HW13.out.carry b14)
  have HR14 := hide (HR13.out.carry b14)
  have HV14 := hide (HV13.out.carry b14)
  have HM14 := hide (HM13.out.carry b14)
  have HN14 := hide (HN13.out.carry b14)
  have HD14 := hide (HD13.out.trans (b14.mono HD13.out.size))
  have HB14 := hide (HB13.out.trans (b14.mono HB13.out.size))
  clear HW13 HR13 HV13 HM13 HN13 HD13 HB13
  clear b14
  obtain ⟨w15, hw15⟩ : ∃ w15, w15 = w14.alloc (.cells #[.slice a16 0 c16, .int .i64 0, .int .i64 0, .string (bs [])] 24) := ⟨_, rfl⟩
  have hb15 : Below w14.heap.size w14 w15 := by rw [hw15]; exact (Below.refl _ _).alloc (Nat.le_refl _) _
  obtain ⟨P15, hP15⟩ : ∃ P, P = w14.heap.size := ⟨_, rfl⟩
  have HW15 := hide (HW14.out.carry hb15)
  have HR15 := hide (HR14.out.carry hb15)
  have HV15 := hide (HV14.out.carry hb15)
  have HM15 := hide (HM14.out.carry hb15)
  have HN15 := hide (HN14.out.carry hb15)
  have HD15 := hide (HD14.out.trans (hb15.mono HD14.out.size))
  have HB15 := hide (HB14.out.trans (hb15.mono HB14.out.size))
  clear HW14 HR14 HV14 HM14 HN14 HD14 HB14
  clear hb15
  go_wp2_with fail
  rw [← hw15, ← hP15]
  clear hw15 hP15
  obtain ⟨b, off, ay, cy, b1, o1, cz, rfl, q0, q1, q2⟩ := HR15.out.w2
  obtain ⟨y0, y1, y2, y3, y4⟩ := q2
  obtain ⟨u0, u1, u2, u3⟩ := HW15.out.cells
  obtain ⟨m0, m1, m2, m3, m4⟩ := HM15.out.cells
  obtain ⟨bt, ot, rfl, t0⟩ := RdTx.at HN15.out (Below.refl _ _) 0 (by decide)
  obtain ⟨bt', ot', et, t1⟩ := RdTx.at HN15.out (Below.refl _ _) 1 (by decide)
  cases et
  simp only [List.getElem_cons_zero, List.getElem_cons_succ, Nat.add_zero] at t0 t1
  have hne' : ∀ wx, (binOp .eql 28 (.agg #[.string (bs twoC.1), .int .i64 twoC.2.1, .int .i64 twoC.2.2.1, .string (bs (Mlo twoC)), .string (bs (Mhi twoC))]) (.agg #[.string (bs twoC.1), .int .i64 twoC.2.1, .int .i64 twoC.2.2.1, .string (bs (Mlo twoC)), .string (bs (Mhi twoC))])).run Try.prog wx = .ok (.bool true) wx := fun wx => by
    rw [eql_mta twoC twoC wx, decide_eq_true rfl]
  have heg := guard_mta
  have HBD := hide (fun n => belowX_drewN HB15.out n)
  obtain ⟨x, hx⟩ : ∃ x, x = twoC := ⟨_, rfl⟩
  rw [← hx] at y0 y1 y2 y3 y4 m0 m1 m2 m3 m4 hne'
  have t0' : w15.cell? ⟨bt, ot, none⟩ = some (.string { data := #[99] }) := t0
  have t1' : w15.cell? ⟨bt, ot + 1, none⟩ = some (.string { data := #[108, 111, 103] }) := t1
  clear t0 t1
  clear hx HW15 HR15 HV15 HM15 HN15 HD15 HB15
  go_quiet (fail)
  generalize hw16 : World.drewN w15 _ = w16
  have HB16 := hide (show Below w.heap.size w w16 by rw [← hw16]; exact HBD.out _)
  clear hw16 HBD y0 y1 y2 y3 y4 u0 u1 u2 u3 m0 m1 m2 m3 m4 q0 q1 t0' t1' heg hne'
  have hc := alive_lw w16
  go_wp2_with fail
  refine hc.mono ?_
  rintro e w17 ⟨rfl, b17⟩
  have HB17 := hide (HB16.out.trans (b17.mono HB16.out.size))
  clear hc b17 HB16
  have hc := chz_lw w17
  go_wp2_with fail
  refine hc.mono ?_
  rintro e w18 ⟨rfl, b18⟩
  have HB18 := hide (HB17.out.trans (b18.mono HB17.out.size))
  clear hc b18 HB17
  go_wp2
  go_ret
  exact ⟨by first | rfl | simp, HB18.out⟩
end Go.Proofs.Ytepfojlclgnicaa

/-
  FrameNames.
-/
import Derived.Test.YtkhkdagdgbmdkaaLf2
namespace Go.Proofs.Ytkhkdagdgbmdkaa
open Go.RowKit
set_option linter.unusedVariables false
set_option linter.unusedSimpArgs false

def rowN : List (List UInt8) := rowB (1, 1, 7, 0) abcR
def zerN : List UInt8 := List.replicate 128 0
theorem nmA : opnE 1 2 0 rowN = 6 ∧ opnR 1 2 0 rowN = ([], 0, 0) := by decide +kernel
theorem nmB : opnE 2 1 0 rowN = 6 ∧ opnR 2 1 0 rowN = ([], 0, 0) := by decide +kernel
theorem nmC : rdE 1 [zerN, zerN, zerN] = 0 ∧ rdG 1 [zerN, zerN, zerN] = ([], 0, 0, 0) := by decide +kernel
theorem nmD : frmE (1, 1, 1, 0) (List.replicate 108 0) = 0 ∧ (frmL (1, 1, 1, 0) (List.replicate 108 0)).length = 2 := by decide +kernel
theorem nmE : frmE (0, 1, 1, 0) [] = 2 ∧ frmL (0, 1, 1, 0) [] = [] := by decide +kernel
theorem nmF : rdE 0 [] = 2 ∧ rdG 0 [] = ([], 0, 0, 0) := by decide +kernel
theorem nmG : opnE 1 1 0 [[1]] = 3 ∧ opnR 1 1 0 [[1]] = ([], 0, 0) := by decide +kernel
theorem nmH : mostR rowN = 1 ∧ chkL rowN = 0 := by decide +kernel
theorem nmI : rowN.length = 1 ∧ (rowN[0]'(by decide +kernel)).length = 128 ∧ (rowN[0]'(by decide +kernel)).take 25 = [1, 0, 0, 0, 1, 0, 0, 0, 7, 0, 0, 0, 0, 0, 0, 0, 0, 0, 1, 0, 3, 97, 98, 99, 0] := by decide +kernel
theorem rd_takeF {w : World} {a : Option Addr} {n c : Nat} {l : List UInt8} (h : Rd w (.slice a n c) l) (k : Nat) (hk : k ≤ l.length) : Rd w (.slice a k c) (l.take k) := by
  rcases h with ⟨rfl, h | ⟨ad, c', h⟩⟩ | ⟨b, off, c', h, h1, h2, h3⟩
  · cases h
    obtain rfl : k = 0 := by simpa using hk
    exact .inl ⟨by simp, .inl rfl⟩
  · cases h
    obtain rfl : k = 0 := by simpa using hk
    exact .inl ⟨by simp, .inr ⟨_, _, rfl⟩⟩
  · cases h
    have hl : (l.take k).length = k := by rw [List.length_take]; omega
    refine .inr ⟨b, off, c, by rw [hl], by rw [hl]; omega, h2, fun j hj => ?_⟩
    rw [hl] at hj
    rw [List.getElem_take]
    exact h3 j (by omega)
theorem rd_le {w : World} {a : Option Addr} {n c : Nat} {l : List UInt8} (h : Rd w (.slice a n c) l) : n ≤ c := by
  rcases h with ⟨rfl, h | ⟨ad, c', h⟩⟩ | ⟨b, off, c', h, h1, h2, h3⟩
  · cases h; exact Nat.le_refl _
  · cases h; exact Nat.zero_le _
  · cases h; exact h1
theorem make108 (w : World) : ∃ w2, (Instr.makeSlice 25 (.int .i64 108) (.int .i64 108)).run Try.prog w = .ok (.slice (some ⟨w.heap.size, 0, none⟩) 108 108) w2 ∧ OwB w2 w.heap.size (.slice (some ⟨w.heap.size, 0, none⟩) 108 108) (List.replicate 108 0) ∧ Below w.heap.size w w2 := by
  obtain ⟨i0, hi, hz0, hz1, hz2⟩ := info_parts Try.infoB
  obtain ⟨w2, hmake, hown2, hg2⟩ := run_make_full (P := Try.prog) w w.heap.size 25 5 i0 _ 1 Try.underlying25 hi hz0 hz1 .i64 .i64 108 (by rw [hz2]; omega) (by unfold maxLen; omega) (Nat.le_refl _)
  refine ⟨w2, hmake, ?_, (Below.refl _ _).grown hg2 (Nat.le_refl _) (fun k hk => by cases hk)⟩
  show w2.ownsRow _ _ _ _ _ _
  rw [List.length_replicate]
  have e : (madeCells (Value.int IntKind.u8 0).cells (108 * 1)).toList = u8v (List.replicate 108 0) := by
    show (madeCells #[Value.int .u8 0] (108 * 1)).toList = _
    rw [toList_madeCells_one]
    simp [u8v]
  rw [← e]
  exact hown2
theorem rdL_lit {w : World} (ls : List (List UInt8)) (vs : List Value) (hl : vs.length = ls.length) (hn : ls ≠ []) (hm : ls.length ≤ maxLen) (h : ∀ j (h1 : j < vs.length) (h2 : j < ls.length), ∃ y z, vs[j] = .slice y (ls[j]).length z ∧ Rd w (.slice y (ls[j]).length z) ls[j]) (t : TypeId) : RdL (w.alloc (.cells vs.toArray t)) (.slice (some ⟨w.heap.size, 0, none⟩) ls.length ls.length) ls := by
  refine .inr ⟨w.heap.size, 0, ls.length, rfl, Nat.le_refl _, hm, fun j hj => ?_⟩
  obtain ⟨y, z, e, hr⟩ := h j (by omega) hj
  refine ⟨y, z, ?_, hr.carry ((Below.refl _ _).alloc (Nat.le_refl _) _)⟩
  unfold World.cell?
  rw [show (w.alloc (.cells vs.toArray t)).heap[(⟨w.heap.size, 0 + j, none⟩ : Addr).block]? = _ from heap_alloc_new w _]
  simp [hl, hj, e]

set_option maxHeartbeats 8000000 in
set_option maxRecDepth 100000 in
theorem frameNames_any (w : World) :
    Calls Try.prog 3 #[] w fun e w' => e = .returned (.bool true) ∧ Below w.heap.size w w' := by
  go_enter Try.func3, Try.ntmps3
  go_wp2_with fail
  refine (abc8_any _).mono ?_
  rintro e w1 ⟨v1, rfl, hO1, hb1⟩
  have hO1 : OwBB w1 w.heap.size v1 rowN := hO1
  obtain ⟨a1, c1, hf⟩ := hO1.form
  rw [nmI.1] at hf
  subst hf
  have HO1 := hide hO1
  clear hO1
  go_wp2_with fail
  refine (alive8_any _).mono ?_
  rintro e w2 ⟨rfl, hb2⟩
  have hB2 : Below w.heap.size w w2 := hb1.trans (hb2.mono hb1.size)
  have HO2 := hide (HO1.out.carry hb2)
  obtain ⟨g, y, z, rfl, hcl, how⟩ := HO2.out.at 0 (by rw [nmI.1]; decide)
  obtain ⟨x0, hx0⟩ : ∃ x0, x0 = rowN[0]'(by decide +kernel) := ⟨_, rfl⟩
  have hx1 : x0.length = 128 := by rw [hx0]; exact nmI.2.1
  have hx2 : x0.take 25 = [1, 0, 0, 0, 1, 0, 0, 0, 7, 0, 0, 0, 0, 0, 0, 0, 0, 0, 1, 0, 3, 97, 98, 99, 0] := by rw [hx0]; exact nmI.2.2
  rw [← hx0] at hcl how
  rw [hx1] at hcl how
  have hzl := rd_le how.rd
  have hz1 : (25 : Int) ≤ z := by omega
  have hz2 : ¬ z = 0 := by omega
  have hz3 : 25 ≤ z := by omega
  have h25 := rd_takeF how.rd 25 (by rw [hx1]; decide)
  rw [hx2] at h25
  have hcv := conv_rd (P := Try.prog) 25 5 9 Try.underlying25 Try.underlying5 Try.underlying9 h25
  rw [show bs [1, 0, 0, 0, 1, 0, 0, 0, 7, 0, 0, 0, 0, 0, 0, 0, 0, 0, 1, 0, 3, 97, 98, 99, 0] = ⟨#[1, 0, 0, 0, 1, 0, 0, 0, 7, 0, 0, 0, 0, 0, 0, 0, 0, 0, 1, 0, 3, 97, 98, 99, 0]⟩ from rfl] at hcv
  clear hb1 hb2 HO1 how h25 hzl hx0 hx1 hx2
  go_wp2_with fail
  refine (open_fr 1 2 0 _ 1 c1 rowN _ (by decide) (by decide) (by decide) HO2.out.rdL).mono ?_
  rintro e w3 ⟨v3, rfl, hO3, hb3⟩
  rw [nmA.1, nmA.2]
  have hB3 : Below w.heap.size w w3 := hB2.trans (hb3.mono hB2.size)
  have HO3 := hide (HO2.out.carry hb3)
  clear hcl hcv hz1 hz2 hz3 hO3 hb3 HO2
  go_wp2_with fail
  refine (open_fr 2 1 0 _ 1 c1 rowN _ (by decide) (by decide) (by decide) HO3.out.rdL).mono ?_
  rintro e w4 ⟨v4, rfl, hO4, hb4⟩
  rw [nmB.1, nmB.2]
  have hB4 : Below w.heap.size w w4 := hB3.trans (hb4.mono hB3.size)
  have HO4 := hide (HO3.out.carry hb4)
  clear hO4 hb4 HO3
  obtain ⟨w5, hmk, hO5, hb5⟩ := make128 w4
  have hB5 : Below w.heap.size w w5 := hB4.trans (hb5.mono hB4.size)
  have hsz5 : w4.heap.size < w5.heap.size := (hO5.lt _ rfl).2
  have HRL := hide (rdL_lit (w := w5) [zerN, zerN, zerN] [.slice (some ⟨w4.heap.size, 0, none⟩) 128 128, .slice (some ⟨w4.heap.size, 0, none⟩) 128 128, .slice (some ⟨w4.heap.size, 0, none⟩) 128 128] rfl (by simp) (by unfold maxLen; decide) (by
    intro j h1 h2
    have hr : Rd w5 (.slice (some ⟨w4.heap.size, 0, none⟩) 128 128) zerN := hO5.rd
    match j, h1, h2 with
    | 0, _, _ => exact ⟨_, _, rfl, hr⟩
    | 1, _, _ => exact ⟨_, _, rfl, hr⟩
    | 2, _, _ => exact ⟨_, _, rfl, hr⟩) 25)
  have hx5 : ∀ o, Below w5.heap.size w5 (w5.alloc o) := fun o => (Below.refl _ _).alloc (Nat.le_refl _) o
  have HO5 := hide (HO4.out.carry hb5)
  clear hO5 hb5 HO4
  go_wp2_with fail
  refine (read_fr 1 _ 3 3 [zerN, zerN, zerN] _ (by decide) HRL.out).mono ?_
  rintro e w6 ⟨v6, rfl, hO6, hb6⟩
  rw [nmC.1, nmC.2]
  rw [nmC.2] at hO6
  obtain ⟨a6, c6, hf6⟩ := hO6.form
  subst hf6
  have hb6' := (hx5 _).trans (hb6.mono (hx5 _).size)
  have hB6 : Below w.heap.size w w6 := hB5.trans (hb6'.mono hB5.size)
  have HO6 := hide (HO5.out.carry hb6')
  clear hO6 hb6 hb6' hmk hx5 HO5 hsz5 HRL
  obtain ⟨B6, hB6e⟩ : ∃ B6, B6 = w6.heap.size := ⟨_, rfl⟩
  obtain ⟨wA, hwA⟩ : ∃ wA, wA = w6.alloc (.cells #[.slice a6 0 c6, .int .i64 0, .int .u32 0, .int .u32 0] 31) := ⟨_, rfl⟩
  have hbA : Below w6.heap.size w6 wA := by rw [hwA]; exact (Below.refl _ _).alloc (Nat.le_refl _) _
  have HLA := hide (show LogAt wA B6 (.slice a6 0 c6) 0 0 0 by rw [hwA, hB6e]; exact heap_alloc_new _ _)
  have hBA : Below w.heap.size w wA := hB6.trans (hbA.mono hB6.size)
  have HOA := hide (HO6.out.carry hbA)
  obtain ⟨w7, hmk7, hO7, hb7⟩ := make108 wA
  have hB7 : Below w.heap.size w w7 := hBA.trans (hb7.mono hBA.size)
  have HL7 := hide (HLA.out.carry hb7 HLA.out.lt (Nat.le_refl _))
  have HOO7 := hide (HOA.out.carry hb7)
  have HO7 := hide hO7
  have HWA := hide hwA
  have HB6 := hide hB6e
  have hszA : wA.heap.size = w6.heap.size + 1 := by rw [hwA]; simp
  rw [hszA] at hmk7 HO7
  rw [hwA] at hmk7
  clear hwA hB6e hbA hb7 hO7 HOA HLA HO6 hszA
  go_wp2_with fail
  refine (frame_any (1, 1, 1, 0) _ 108 108 (List.replicate 108 0) _ (okH_of (by decide) (by decide) (by decide) (by decide)) rfl HO7.out.rd).mono ?_
  rintro e w8 ⟨v8, rfl, hO8, hb8⟩
  obtain ⟨a8, c8, hf8⟩ := hO8.form
  rw [nmD.2] at hf8
  subst hf8
  rw [nmD.1, ← HB6.out]
  have hB8 : Below w.heap.size w w8 := hB7.trans (hb8.mono hB7.size)
  have HL8 := hide (HL7.out.carry hb8 HL7.out.lt (Nat.le_refl _))
  have HOO8 := hide (HOO7.out.carry hb8)
  clear hO8 hb8 hmk7 HO7 HOO7 HL7
  go_wp2_with fail
  refine (frame_any (0, 1, 1, 0) none 0 0 [] _ (okH_of (by decide) (by decide) (by decide) (by decide)) rfl (.inl ⟨rfl, .inl rfl⟩)).mono ?_
  rintro e w9 ⟨v9, rfl, hO9, hb9⟩
  obtain ⟨a9, c9, hf9⟩ := hO9.form
  rw [nmE.2] at hf9
  subst hf9
  rw [nmE.1]
  have hB9 : Below w.heap.size w w9 := hB8.trans (hb9.mono hB8.size)
  have HL9 := hide (HL8.out.carry hb9 HL8.out.lt (Nat.le_refl _))
  have HOO9 := hide (HOO8.out.carry hb9)
  clear hO9 hb9 HOO8 HL8
  go_wp2_with fail
  refine (read_fr 0 none 0 0 [] _ (by decide) (.inl ⟨rfl, .inl rfl⟩)).mono ?_
  rintro e w10 ⟨v10, rfl, hO10, hb10⟩
  rw [nmF.1, nmF.2]
  rw [nmF.2] at hO10
  obtain ⟨a10, c10, hf10⟩ := hO10.form
  subst hf10
  have hB10 : Below w.heap.size w w10 := hB9.trans (hb10.mono hB9.size)
  have HL10 := hide (HL9.out.carry hb10 HL9.out.lt (Nat.le_refl _))
  have HOO10 := hide (HOO9.out.carry hb10)
  clear hO10 hb10 HOO9 HL9
  obtain ⟨wX, hwX⟩ : ∃ wX, wX = w10.alloc (.cells #[.slice a10 0 c10, .int .i64 0, .int .u32 0, .int .u32 0] 31) := ⟨_, rfl⟩
  have hsX : wX.heap.size = w10.heap.size + 1 := by rw [hwX]; simp
  have hbX : Below w10.heap.size w10 wX := by rw [hwX]; exact (Below.refl _ _).alloc (Nat.le_refl _) _
  obtain ⟨wY, hwY⟩ : ∃ wY, wY = wX.alloc (.cells #[.int .u8 1] 5) := ⟨_, rfl⟩
  have hsY : wY.heap.size = w10.heap.size + 1 + 1 := by rw [hwY]; simp [hsX]
  have hbY : Below wX.heap.size wX wY := by rw [hwY]; exact (Below.refl _ _).alloc (Nat.le_refl _) _
  have hrY : Rd wY (.slice (some ⟨w10.heap.size + 1, 0, none⟩) 1 1) [1] := by
    have := rd_lit8 wX [1] (by decide) #[.int .u8 1] rfl 5 (0, 0)
    rw [hsX] at this
    rw [hwY]
    exact this
  have hrL := rdL_lit (w := wY) [[1]] [.slice (some ⟨w10.heap.size + 1, 0, none⟩) 1 1] rfl (by simp) (by unfold maxLen; decide) (by
    intro j h1 h2
    match j, h1, h2 with
    | 0, _, _ => exact ⟨_, _, rfl, hrY⟩) 25
  have hbZ : Below wY.heap.size wY (wY.alloc (.cells #[.slice (some ⟨w10.heap.size + 1, 0, none⟩) 1 1] 25)) := (Below.refl _ _).alloc (Nat.le_refl _) _
  have hb3 : Below w10.heap.size w10 (wY.alloc (.cells #[.slice (some ⟨w10.heap.size + 1, 0, none⟩) 1 1] 25)) := (hbX.trans (hbY.mono hbX.size)).trans (hbZ.mono (by rw [hsY]; omega))
  rw [hsY] at hrL
  rw [hwY, hwX] at hrL hb3
  have HRL := hide hrL
  have HB3 := hide hb3
  clear hwX hsX hbX hwY hsY hbY hrY hrL hbZ hb3
  go_wp2_with fail
  refine (open_fr 1 1 0 _ 1 1 [[1]] _ (by decide) (by decide) (by decide) HRL.out).mono ?_
  rintro e w11 ⟨v11, rfl, hO11, hb11⟩
  rw [nmG.1, nmG.2]
  have hb12 : Below w10.heap.size w10 w11 := HB3.out.trans (hb11.mono HB3.out.size)
  have hB11 : Below w.heap.size w w11 := hB10.trans (hb12.mono hB10.size)
  have HL11 := hide (HL10.out.carry hb12 HL10.out.lt (Nat.le_refl _))
  have HOO11 := hide (HOO10.out.carry hb12)
  clear hO11 hb11 hb12 HOO10 HL10 HB3 HRL
  go_wp2_with fail
  refine (most_any _ 1 c1 rowN _ HOO11.out.rdL).mono ?_
  rintro e w12 ⟨rfl, hb13⟩
  rw [nmH.1, nmH.2]
  have hB12 : Below w.heap.size w w12 := hB11.trans (hb13.mono hB11.size)
  have HL12 := hide (HL11.out.carry hb13 HL11.out.lt (Nat.le_refl _))
  obtain ⟨cc0, cc1, cc2, cc3, -⟩ := HL12.out.cells
  clear hb13 HOO11 HL11
  go_wp2
  go_ret
  exact ⟨rfl, hB12⟩

end Go.Proofs.Ytkhkdagdgbmdkaa

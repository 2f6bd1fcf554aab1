/-
  The steps that write.
-/
import Derived.Test.YtnigdbhjaoeblaaGreatFsFn1
import Derived.Test.YtnigdbhjaoeblaaGreatFiTur
import Derived.Test.YtnigdbhjaoeblaaGreatFiRef2
import Derived.Test.YtnigdbhjaoeblaaGreatRmKit
import Derived.ProofKit
import Derived.Deep.Slices
import Derived.Deep.Strs
import Derived.OpenShut
import Derived.Lib.SmallJoins
import Derived.Test.YtnigdbhjaoeblaaGreatSmall
import Derived.Test.YtnigdbhjaoeblaaGreatFiNames
import Derived.Test.YtnigdbhjaoeblaaGreatFiCut
import Derived.Test.YtnigdbhjaoeblaaGreatMathFi2
namespace Go.Proofs.YtnigdbhjaoeblaaGreat
open Go.RowKit
set_option linter.unusedVariables false
set_option linter.unusedSimpArgs false

theorem lo_ok {n1 c1 m sz lo ge ar : Nat} (h1 : n1 = 128 * m) (hm : 34 < m) (hs : sz ≤ 2048) (hc : n1 ≤ c1) (har : ar = 2 + ge % 2 * 16) (hlo : lo = ar * 128) : lo ≤ n1 ∧ ¬ lo = c1 ∧ lo ≤ c1 ∧ sz ≤ n1 - lo ∧ sz ≤ c1 - lo ∧ lo + sz ≤ n1 ∧ lo ≤ 4096 := by omega
theorem lo_wrap {lo ge ar : Nat} (har : ar = 2 + ge % 2 * 16) (hlo : lo = ar * 128) : wrap64 ((ar : Int) * 128) = (lo : Int) := by
  unfold wrap64
  omega
theorem rd_at {w : World} {b off n c : Nat} {l : List UInt8} (h : Rd w (.slice (some ⟨b, off, none⟩) n c) l) (lo sz : Nat) (h2 : lo + sz ≤ l.length) (hl : l ≠ []) : Rd w (.slice (some ⟨b, off + lo, none⟩) sz (c - lo)) ((l.drop lo).take sz) := by
  by_cases h0 : sz = 0
  · subst h0; exact .inl ⟨by simp, .inr ⟨_, _, rfl⟩⟩
  · obtain ⟨b', off', e, _, _, h3⟩ := rd_sub h lo (lo + sz) (by omega) h2
    cases e
    rw [show lo + sz - lo = sz by omega] at h3
    exact h3
theorem rd_some6 {w : World} {a : Option Addr} {n c : Nat} {l : List UInt8} (h : Rd w (.slice a n c) l) (hl : l ≠ []) : ∃ b off, a = some ⟨b, off, none⟩ ∧ n ≤ c := by
  rcases h with ⟨rfl, _⟩ | ⟨b, off, c', e, e1, e2, hc⟩
  · exact absurd rfl hl
  · cases e; exact ⟨b, off, rfl, e1⟩
theorem RdD.d1 {w : World} {x1 : Option Addr} {m1 d1 : Nat} {v2 v3 : Value} {d : Dk} (h : RdD w (.agg #[.slice x1 m1 d1, v2, v3]) d) : Rd w (.slice x1 m1 d1) d.1 := by
  obtain ⟨x, y, z, e, h1, h2, h3⟩ := h
  have e1 : _ = x := congrArg (fun v : Value => match v with | .agg z => z[0]! | _ => undef) e
  simp at e1
  rw [e1]; exact h1
theorem RdD.d2 {w : World} {v1 v2 v3 : Value} {d : Dk} (h : RdD w (.agg #[v1, v2, v3]) d) : RdW w v2 d.2.1 := by
  obtain ⟨x, y, z, e, h1, h2, h3⟩ := h
  have e1 : _ = y := congrArg (fun v : Value => match v with | .agg z => z[1]! | _ => undef) e
  simp at e1
  rw [e1]; exact h2
theorem okFs_of {f : Fsd} {ge sz : Nat} (hL : latestS f.1 = (ge, sz, 0)) (hg : ge = f.2.1) (ha : f.1.2.1.any (fun p => decide (p.1 < 34)) = false) :
    decide (okFs f) = (decide (readE (genB f.1 ge sz) (mny f.1) = 0) && decide (readL (genB f.1 ge sz) (mny f.1) = f.2.2.2) && decide (chkF f.2.2.1 (mny f.1) = 0)) := by
  subst hg
  have h1 : ∀ p ∈ f.1.2.1, 34 ≤ p.1 := by
    intro p hp
    have := List.any_eq_false.1 ha p hp
    simp at this; omega
  rw [Bool.eq_iff_iff]
  simp only [decide_eq_true_eq, Bool.and_eq_true]
  unfold okFs
  rw [hL]
  constructor
  · rintro ⟨_, _, _, h2, h3, h4⟩; exact ⟨⟨h2, h3⟩, h4⟩
  · rintro ⟨⟨h2, h3⟩, h4⟩; exact ⟨rfl, rfl, h1, h2, h3, h4⟩
theorem okFs_no1 {f : Fsd} {ge sz : Nat} {er : Int} (hL : latestS f.1 = (ge, sz, er)) (h : er ≠ 0 ∨ ge ≠ f.2.1) : decide (okFs f) = false := by
  rw [decide_eq_false_iff_not]
  rintro ⟨h1, h2, _⟩
  rw [hL] at h1 h2
  rcases h with h | h
  · exact h h1
  · exact h h2
theorem okFs_no2 {f : Fsd} (h : f.1.2.1.any (fun p => decide (p.1 < 34)) = true) : decide (okFs f) = false := by
  rw [decide_eq_false_iff_not]
  rintro ⟨_, _, h3, _⟩
  obtain ⟨p, hp, h4⟩ := List.any_eq_true.1 h
  have := h3 p hp
  simp at h4
  omega
theorem latest_lt {d : Dk} {ge sz : Nat} (h : latestS d = (ge, sz, 0)) : sz ≤ 2048 ∧ ge < 4294967296 ∧ d.1.length = 128 * mny d ∧ 34 < mny d ∧ mny d ≤ 4096 ∧ okD d = true := by
  obtain ⟨h1, h2, hg, hb⟩ := latestS_ok h
  have := bestS_slot hb hg
  have h3 := (okD_iff d).1 h1
  refine ⟨?_, ?_, by have := h3.1; unfold mny; omega, h2, h3.2.2.1, h1⟩ <;>
  · unfold lastS at this
    split at this
    · have e1 := congrArg Prod.fst this
      have e2 := congrArg Prod.snd this
      simp only at e1 e2
      have := ofS_lt (blk d.1 (ge % 2))
      omega
    · have e1 := congrArg Prod.fst this
      simp only at e1
      omega
theorem genB_len {d : Dk} {ge sz : Nat} (h : latestS d = (ge, sz, 0)) : (genB d ge sz).length = sz := by
  obtain ⟨h1, h2, h3, h4, _⟩ := latest_lt h
  unfold genB
  rw [List.length_take, List.length_drop]
  omega

set_option maxHeartbeats 4000000 in
set_option maxRecDepth 100000 in
theorem mayBe_fs (x : FsV) (f : Fsd) (w : World) (h : RdX w x f) (hw : WfX f) :
    Calls Tryz.prog 85 #[x.val] w fun e w' => e = .returned (.bool (decide (okFs f))) ∧ Below w.heap.size w w' := by
  have HW := hide hw
  clear hw
  obtain ⟨w1, ew⟩ : ∃ w1, w.alloc (.cells x.cs 33) = w1 := ⟨_, rfl⟩
  have hb1 : Below w.heap.size w w1 := by rw [← ew]; exact (Below.refl _ _).alloc (Nat.le_refl _) _
  have HF_w1 := hide (show FsAt w1 w.heap.size x by rw [← ew]; exact Bq.new _ _ _)
  obtain ⟨k0, k1, k2, k3, k4, k5⟩ := fs_cells HF_w1.out
  have HX := hide h
  have HB_w1 := hide hb1
  clear h hb1
  unfold FsV.val
  unfold FsV.cs at ew
  go_enter Tryz.func85, Tryz.ntmps85
  go_wp2_with fail
  refine (slatest_any (d := f.1) w1 (HX.out.d.carry HB_w1.out)).mono ?_
  rintro e w2 ⟨rfl, hb2⟩
  have HF_w2 := hide (HF_w1.out.carry hb2)
  have HB_w2 := hide (show Below w.heap.size w w2 from HB_w1.out.trans (hb2.mono HB_w1.out.size))
  clear k0 k1 k2 k3 k4 k5 ew hb2
  obtain ⟨ge, sz, er, hL⟩ : ∃ ge sz er, latestS f.1 = (ge, sz, er) := ⟨_, _, _, rfl⟩
  rw [hL]
  have HL := hide hL
  clear hL
  obtain ⟨k0, k1, k2, k3, k4, k5⟩ := fs_cells HF_w2.out
  by_cases g1 : ¬ er = 0
  · have HN := hide (okFs_no1 HL.out (.inl g1))
    go_wp2
    go_ret
    rw [HN.out]
    exact ⟨rfl, HB_w2.out⟩
  rw [Decidable.not_not] at g1
  subst g1
  by_cases g2 : ¬ ge = x.g
  · have HN := hide (okFs_no1 HL.out (.inr (by rw [← HX.out.g]; exact g2)))
    have g2' : ¬ (ge : Int) = x.g := by omega
    clear g2
    go_wp2
    go_ret
    rw [HN.out]
    exact ⟨rfl, HB_w2.out⟩
  rw [Decidable.not_not] at g2
  subst g2
  go_wp2_with fail
  refine (containsPut_any _ _ _ f.1.2.1 w2 (HX.out.d.d2.carry HB_w2.out) HX.out.n2).mono ?_
  rintro e w3 ⟨rfl, hb3⟩
  have HF_w3 := hide (HF_w2.out.carry hb3)
  have HB_w3 := hide (show Below w.heap.size w w3 from HB_w2.out.trans (hb3.mono HB_w2.out.size))
  clear k0 k1 k2 k3 k4 k5 hb3
  obtain ⟨an, han⟩ : ∃ an, f.1.2.1.any (fun p => decide (p.1 < 34)) = an := ⟨_, rfl⟩
  rw [han]
  have HA := hide han
  clear han
  cases an with
  | true =>
    have HN := hide (okFs_no2 HA.out)
    go_wp2
    go_ret
    rw [HN.out]
    exact ⟨rfl, HB_w3.out⟩
  | false =>
  have HE := hide (okFs_of HL.out HX.out.g HA.out)
  have HLT := hide (latest_lt HL.out)
  have HGL := hide (genB_len HL.out)
  have HM := hide (mnyFs_ok HLT.out.2.2.2.2.2)
  obtain ⟨B, hB⟩ : ∃ B : Int, B = mny f.1 := ⟨_, rfl⟩
  rw [← hB] at HE HM
  have HB0 := hide hB
  clear HA hB
  go_wp2_with fail
  obtain ⟨ar, har⟩ : ∃ ar, ar = 2 + x.g % 2 * 16 := ⟨_, rfl⟩
  have hsw := swhere_any x.g w3 HLT.out.2.1
  rw [← har] at hsw
  have HAR := hide har
  clear har
  refine hsw.mono ?_
  clear hsw
  rintro e w3' ⟨rfl, ew3⟩
  subst w3'
  obtain ⟨k0, k1, k2, k3, k4, k5⟩ := fs_cells HF_w3.out
  go_wp2_with fail
  refine (many_fs x f w3 (HX.out.carry HB_w3.out)).mono ?_
  rintro e w4 ⟨rfl, hb4⟩
  have HF_w4 := hide (HF_w3.out.carry hb4)
  have HB_w4 := hide (show Below w.heap.size w w4 from HB_w3.out.trans (hb4.mono HB_w3.out.size))
  clear k0 k1 k2 k3 k4 k5 hb4
  obtain ⟨hsz, hge, hlen, hm, hm2, hok⟩ := HLT.out
  obtain ⟨b9, o9, ea, hnc⟩ := rd_some6 (HX.out.d.d1) (by intro e; rw [e] at hlen; simp at hlen; omega)
  obtain ⟨lo, hlo⟩ : ∃ lo, lo = ar * 128 := ⟨_, rfl⟩
  have hwr := lo_wrap HAR.out hlo
  obtain ⟨y1, y2, y3, y4, y5, y6, y7⟩ := lo_ok (HX.out.n1.trans hlen) hm hsz hnc HAR.out hlo
  have hrd := rd_at (by have := HX.out.d.d1.carry HB_w4.out; rw [ea] at this; exact this) lo sz (by rw [← HX.out.n1]; exact y6) (by intro e; rw [e] at hlen; simp at hlen; omega)
  have hgb : (f.1.1.drop lo).take sz = genB f.1 x.g sz := by unfold genB; rw [hlo, HAR.out, Nat.mul_comm]
  rw [hgb] at hrd
  have hR := read5_any _ _ _ (genB f.1 x.g sz) (mnyFs f) w4 hrd HGL.out.symm (by rw [HGL.out]; omega)
  rw [HM.out] at hR ⊢
  have HSZ := hide (show sz ≤ 2048 from hsz)
  clear hrd hgb hsz hge hlen hm hm2 hlo hok y6 y7 hnc
  obtain ⟨k0, k1, k2, k3, k4, k5⟩ := fs_cells HF_w4.out
  rw [ea] at k0
  go_wp2_with fail
  refine hR.mono ?_
  rintro e w5 ⟨v5, rfl, ho5, hb5⟩
  have HF_w5 := hide (HF_w4.out.carry hb5)
  have HB_w5 := hide (show Below w.heap.size w w5 from HB_w4.out.trans (hb5.mono HB_w4.out.size))
  clear k0 k1 k2 k3 k4 k5 hb5 hR hwr y1 y2 y3 y4 y5
  obtain ⟨L, hL⟩ : ∃ L, L = readL (genB f.1 x.g sz) B := ⟨_, rfl⟩
  rw [← hL] at ho5 HE
  obtain ⟨m5, hm5⟩ : ∃ m5, m5 = L.length := ⟨_, rfl⟩
  obtain ⟨u5, z5, e5⟩ : ∃ a c, v5 = .slice a m5 c := by rw [hm5]; exact ho5.form
  subst e5
  have HO5 := hide ho5.rd
  have HM5 := hide hm5
  obtain ⟨w6, ew6⟩ : ∃ w6, w5.alloc (.cells #[.slice u5 m5 z5] 31) = w6 := ⟨_, rfl⟩
  have hb6 : Below w5.heap.size w5 w6 := by rw [← ew6]; exact (Below.refl _ _).alloc (Nat.le_refl _) _
  have HF_w6 := hide (HF_w5.out.carry hb6)
  have HB_w6 := hide (show Below w.heap.size w w6 from HB_w5.out.trans (hb6.mono HB_w5.out.size))
  have HO6 := hide (HO5.out.carry hb6)
  clear ho5 hm5 hL HO5
  obtain ⟨k0, k1, k2, k3, k4, k5⟩ := fs_cells HF_w6.out
  have k9 : w6.cell? ⟨w5.heap.size, 0, none⟩ = some (.slice u5 m5 z5) := by rw [← ew6]; simp
  clear hb6
  by_cases g3 : ¬ readE (genB f.1 x.g sz) B = 0
  · rw [decide_eq_false g3] at HE
    go_wp2
    go_ret
    rw [HE.out]
    exact ⟨rfl, by assumption⟩
  rw [Decidable.not_not] at g3
  rw [g3]
  rw [decide_eq_true g3] at HE
  clear g3
  go_wp2_with fail
  refine (fsame_any u5 m5 z5 L x.a5 x.n5 x.c5 f.2.2.2 w6 HO6.out HM5.out (HX.out.kl.carry HB_w6.out) HX.out.n5).mono ?_
  rintro e w7 ⟨rfl, hb7⟩
  have HF_w7 := hide (HF_w6.out.carry hb7)
  have HB_w7 := hide (show Below w.heap.size w w7 from HB_w6.out.trans (hb7.mono HB_w6.out.size))
  clear k0 k1 k2 k3 k4 k5 k9 hb7 ew6
  by_cases g4 : ¬ L = f.2.2.2
  · rw [decide_eq_false g4] at HE ⊢
    go_wp2
    go_ret
    rw [HE.out]
    exact ⟨rfl, HB_w7.out⟩
  rw [Decidable.not_not] at g4
  rw [decide_eq_true g4] at HE ⊢
  clear g4
  obtain ⟨k0, k1, k2, k3, k4, k5⟩ := fs_cells HF_w7.out
  go_wp2_with fail
  refine (fcheck_any _ _ _ f.2.2.1 B w7 (HX.out.fl.carry HB_w7.out) HX.out.n4 HW.out.fl).mono ?_
  rintro e w8 ⟨rfl, hb8⟩
  have HB_w8 := hide (show Below w.heap.size w w8 from HB_w7.out.trans (hb8.mono HB_w7.out.size))
  clear k0 k1 k2 k3 k4 k5 hb8
  by_cases g5 : chkF f.2.2.1 B = 0
  · rw [g5]
    rw [decide_eq_true g5] at HE
    clear g5
    go_wp2
    go_ret
    rw [HE.out]
    exact ⟨rfl, HB_w8.out⟩
  · rw [decide_eq_false g5] at HE
    have HQ := hide (show (chkF f.2.2.1 B == 0) = false by simpa using g5)
    clear g5
    go_wp2
    go_ret
    rw [HE.out]
    exact ⟨congrArg (fun z => Ending.returned (Value.bool z)) HQ.out, HB_w8.out⟩

set_option maxHeartbeats 1000000 in
set_option maxRecDepth 100000 in
theorem check_fs (x : FsV) (f : Fsd) (w : World) (h : RdX w x f) (hw : WfX f) :
    Calls Tryz.prog 26 #[x.val] w fun e w' => e = .returned (.int .i64 (fsE f)) ∧ Below w.heap.size w w' := by
  have HW := hide hw
  clear hw
  obtain ⟨w1, ew⟩ : ∃ w1, w.alloc (.cells x.cs 33) = w1 := ⟨_, rfl⟩
  have hb1 : Below w.heap.size w w1 := by rw [← ew]; exact (Below.refl _ _).alloc (Nat.le_refl _) _
  have HF_w1 := hide (show FsAt w1 w.heap.size x by rw [← ew]; exact Bq.new _ _ _)
  obtain ⟨k0, k1, k2, k3, k4, k5⟩ := fs_cells HF_w1.out
  have HX := hide h
  have HB_w1 := hide hb1
  clear h hb1
  unfold FsV.val
  unfold FsV.cs at ew
  go_enter Tryz.func26, Tryz.ntmps26
  go_wp2_with fail
  refine (mayBe_fs x f w1 (HX.out.carry HB_w1.out) HW.out).mono ?_
  rintro e w2 ⟨rfl, hb2⟩
  have HB_w2 := hide (show Below w.heap.size w w2 from HB_w1.out.trans (hb2.mono HB_w1.out.size))
  clear k0 k1 k2 k3 k4 k5 ew hb2
  rcases fsE_cases f with ⟨g1, g2⟩ | ⟨g1, g2⟩
  · have HE := hide g2
    rw [decide_eq_true g1]
    clear g1 g2
    go_wp2
    go_ret
    rw [HE.out]
    exact ⟨rfl, HB_w2.out⟩
  · have HE := hide g2
    rw [decide_eq_false g1]
    clear g1 g2
    go_wp2
    go_ret
    rw [HE.out]
    exact ⟨rfl, HB_w2.out⟩

end Go.Proofs.YtnigdbhjaoeblaaGreat
namespace Go.Proofs.YtnigdbhjaoeblaaGreat
open Go.RowKit
set_option linter.unusedVariables false
set_option linter.unusedSimpArgs false

/-- How far the document's Take has come: so many whole extents, and so many blocks still to go; or all is taken. -/
def TkSt (L : List Ex) (W : Int) (i : Nat) (Z : Int) (O : List Ex) : Prop := (Z = W - manyX (L.take i) ∧ 1 ≤ Z ∧ O = L.take i) ∨ (Z = 0 ∧ cutX L W = some O)
theorem TkSt.last {L : List Ex} {W Z : Int} {i : Nat} {O : List Ex} (h : TkSt L W i Z O) (hi : i < L.length) (hz : 0 < Z) (hp : ∀ x ∈ L, 1 ≤ x.2) (hle : Z ≤ (L[i]).2) : TkSt L W (i + 1) 0 (O ++ [((L[i]).1, Z)]) := by
  rcases h with ⟨h1, h2, rfl⟩ | ⟨h1, _⟩
  · refine .inr ⟨rfl, ?_⟩
    rw [cutX_here (w := W) hi (by omega) hp (by omega), h1]
  · omega
theorem TkSt.more {L : List Ex} {W Z : Int} {i : Nat} {O : List Ex} (h : TkSt L W i Z O) (hi : i < L.length) (hz : 0 < Z) (hlt : (L[i]).2 < Z) : TkSt L W (i + 1) (Z - (L[i]).2) (O ++ [((L[i]).1, (L[i]).2)]) := by
  rcases h with ⟨h1, h2, rfl⟩ | ⟨h1, _⟩
  · refine .inl ⟨?_, by omega, ?_⟩
    · rw [take_snoc L i hi, manyX_snoc]; omega
    · rw [take_snoc L i hi]
  · omega

end Go.Proofs.YtnigdbhjaoeblaaGreat
namespace Go.Proofs.YtnigdbhjaoeblaaGreat
open Go.RowKit Go.Deep
set_option linter.unusedVariables false
set_option linter.unusedSimpArgs false

theorem Tryz.cellsInE : Tryz.prog.cellsOf 3 = 1 := by kernel_rfl
theorem Tryz.cellsExE : Tryz.prog.cellsOf 166 = 2 := by kernel_rfl

set_option maxRecDepth 100000 in
theorem open_exts {H : Type} {enc : TypeId × Value → H} {W : World} {base : Nat} {spare : Nat → Bool} {held : Bool} {fuel : Nat} {u : Value} {x : DataW H × List MemPlace}
    (h : DataW.trod enc Tryz.prog W base spare held fuel 90 [u] = some x) : ∃ l : List Ex, RdE W u l ∧ ∀ x ∈ l, wfX x := by
  rcases open_slice Tryz.underlying90 h with ⟨hcs, _⟩ | ⟨ad, len, cap, m, n, D, Pl, hcs, _, hl, hm, hmm, _, hx⟩
  · simp at hcs
    subst hcs
    exact ⟨[], .inl ⟨rfl, .inl rfl⟩, by simp⟩
  · simp at hcs
    subst hcs
    by_cases h0 : len = 0
    · subst h0
      exact ⟨[], .inl ⟨rfl, .inr ⟨_, _, rfl⟩⟩, by simp⟩
    have hlm : len ≤ m := by rw [hmm]; split <;> omega
    rw [Tryz.cellsExE] at hx
    have each : ∀ i, i < len → ∃ p : Ex, W.cell? (ad.add (i * 2)) = some (.int .i64 p.1) ∧ W.cell? ((ad.add (i * 2)).add 1) = some (.int .i64 p.2) ∧ wfX p := by
      intro i hi
      obtain ⟨cs', h1, h2⟩ := hx i (by omega)
      obtain ⟨_, hlen, hcell⟩ := World.cells?_some h1
      obtain ⟨y0, y1, k, _, _, g0, g1⟩ := Go.ChangeShapes.trod_struct2 Tryz.underlying166 h2
      match cs', hlen with
      | [c0, c1], _ =>
        simp only [Tryz.cellsInE, List.drop_zero, List.drop_succ_cons, List.take_succ_cons, List.take_zero] at g0 g1
        obtain ⟨n0, e0, _, hw0⟩ := DataW.trod_int Tryz.underlying3 g0
        obtain ⟨n1, e1, _, hw1⟩ := DataW.trod_int Tryz.underlying3 g1
        simp at e0 e1
        subst e0 e1
        obtain ⟨b0, b1⟩ := bounds_i64 hw0
        obtain ⟨b2, b3⟩ := bounds_i64 hw1
        have k0 := hcell 0 (by omega)
        have k1 := hcell 1 (by omega)
        refine ⟨(n0, n1), ?_, ?_, by dsimp only [wfX]; omega⟩
        · rw [show ad.add (i * 2) = (ad.add (i * 2)).add 0 by simp [Addr.add]]; simpa using k0
        · rw [k1]; simp
    obtain ⟨f, hf⟩ := choose_lt each
    have hspot : ∃ b off, ad = ⟨b, off, none⟩ := by
      obtain ⟨b, off, spot⟩ := ad
      have := World.cell?_spot (hf 0 (by omega)).1
      have hs : spot = none := by simpa [Addr.add] using this
      subst hs
      exact ⟨b, off, rfl⟩
    obtain ⟨b, off, rfl⟩ := hspot
    refine ⟨(List.range len).map f, .inr ⟨b, off, cap, by simp, by simpa using hl, hm, fun j hj => ?_⟩, fun x hx => ?_⟩
    · have hj' : j < len := by simpa using hj
      have := hf j hj'
      rw [Addr.add_lit, Addr.add_lit] at this
      simpa using ⟨this.1, this.2.1⟩
    · simp only [List.mem_map, List.mem_range] at hx
      obtain ⟨j, hj, rfl⟩ := hx
      exact (hf j hj).2.2

end Go.Proofs.YtnigdbhjaoeblaaGreat
namespace Go.Proofs.YtnigdbhjaoeblaaGreat
open Go.RowKit
set_option linter.unusedVariables false
set_option linter.unusedSimpArgs false

/-- A write into another row leaves this one. -/
theorem OwE.other {w w' : World} {base g : Nat} {v : Value} {l : List Ex} (h : OwE w base v l) (hg : w.grownBy w' (some g)) (hlt : g < base) : OwE w' base v l :=
  World.ownsRow.kept h hg (by
    cases hv : v.ownBlock with
    | none => exact .inl rfl
    | some k => right; intro e; have := (World.ownsRow.lt h k hv).1; cases e; omega)

end Go.Proofs.YtnigdbhjaoeblaaGreat
namespace Go.Proofs.YtnigdbhjaoeblaaGreat
open Go.RowKit
set_option linter.unusedVariables false
set_option linter.unusedSimpArgs false

theorem OwF.own_lt {w : World} {base : Nat} {v : Value} {fs : List Fl} (h : OwF w base v fs) : ∀ k, v.ownBlock = some k → k < w.heap.size := by
  obtain ⟨ps, _, h⟩ := h
  intro k hk
  exact (h.1.lt k hk).2
end Go.Proofs.YtnigdbhjaoeblaaGreat
namespace Go.Proofs.YtnigdbhjaoeblaaGreat
open Go.RowKit
set_option linter.unusedVariables false
set_option linter.unusedSimpArgs false

/-- Rows of rows of bytes. -/
def OwBB (w : World) (base : Nat) (v : Value) (ls : List (List UInt8)) : Prop := ∃ ps : List (List UInt8 × Value), ps.map (·.1) = ls ∧ w.ownsRow base 23 1 v ls.length (ps.map (·.2)) ∧ ∀ p ∈ ps, OwB w base p.2 p.1
theorem OwBB.nil (w : World) (base : Nat) : OwBB w base (.slice none 0 0) [] := ⟨[], rfl, World.ownsRow_nil _ _ _ _, by simp⟩
theorem OwBB.carry {w w' : World} {base : Nat} {v : Value} {ls : List (List UInt8)} (h : OwBB w base v ls) (hb : Below w.heap.size w w') : OwBB w' base v ls := by
  obtain ⟨ps, e, h1, h2⟩ := h
  exact ⟨ps, e, own_carry h1 hb, fun p hp => (h2 p hp).carry hb⟩
theorem OwBB.mono {w : World} {base base' : Nat} {v : Value} {ls : List (List UInt8)} (h : OwBB w base v ls) (hb : base' ≤ base) : OwBB w base' v ls := by
  obtain ⟨ps, e, h1, h2⟩ := h
  exact ⟨ps, e, own_mono h1 hb, fun p hp => (h2 p hp).mono hb⟩
theorem OwBB.grown {w w' : World} {base g : Nat} {v : Value} {ls : List (List UInt8)} (h : OwBB w base v ls) (hg : w.grownBy w' (some g)) (hb : g < base) : OwBB w' base v ls := by
  obtain ⟨ps, e, h1, h2⟩ := h
  exact ⟨ps, e, own_grown h1 hg hb, fun p hp => (h2 p hp).grown hg hb⟩
theorem OwBB.form {w : World} {base : Nat} {v : Value} {ls : List (List UInt8)} (h : OwBB w base v ls) : ∃ a c, v = .slice a ls.length c := by
  obtain ⟨ps, e, h1, h2⟩ := h
  rcases h1.2 with ⟨rfl, hn⟩ | ⟨g, cap, cur, rfl, _⟩
  · rw [hn]; exact ⟨_, _, rfl⟩
  · exact ⟨_, _, rfl⟩
theorem OwBB.at {w : World} {base : Nat} {a : Option Addr} {n c : Nat} {ls : List (List UInt8)} (h : OwBB w base (.slice a n c) ls) (j : Nat) (hj : j < ls.length) :
    ∃ g y z, a = some ⟨g, 0, none⟩ ∧ w.cell? ⟨g, j, none⟩ = some (.slice y (ls[j]).length z) ∧ OwB w base (.slice y (ls[j]).length z) ls[j] := by
  obtain ⟨ps, rfl, h1, h2⟩ := h
  have hjp : j < ps.length := by simpa using hj
  rcases h1.2 with ⟨e, hn⟩ | ⟨g, cap, cur, e, _⟩
  · simp at hn; subst hn; simp at hj
  · cases e
    have c1 := h1.cells (g := g) rfl j ((ps[j]).2) (by simp [List.getElem?_eq_getElem hjp])
    have ho := h2 ps[j] (List.getElem_mem hjp)
    obtain ⟨y, z, hv⟩ := ho.form
    simp only [List.getElem_map]
    rw [hv] at c1 ho
    exact ⟨g, y, z, rfl, by simpa [Addr.add_lit] using c1, ho⟩
end Go.Proofs.YtnigdbhjaoeblaaGreat
namespace Go.Proofs.YtnigdbhjaoeblaaGreat
open Go.RowKit
set_option linter.unusedVariables false
set_option linter.unusedSimpArgs false

abbrev WayAt (w : World) (p : Nat) (x : FsV) (e : Int) (ab : Option Addr) (nb cb : Nat) : Prop := Bq w p 137 #[.slice x.a1 x.n1 x.c1, .slice x.a2 x.n2 x.c2, .slice x.a3 x.n3 x.c3, .int .u32 x.g, .slice x.a4 x.n4 x.c4, .slice x.a5 x.n5 x.c5, .int .i64 e, .slice ab nb cb]
/-- In every later world in which only the way has changed its files read so. -/
def WayR (w : World) (p base : Nat) (o : Bool) (y : Wy) (x : FsV) (ab : Option Addr) (nb cb : Nat) : Prop :=
  ∀ w', w.grownBy w' (some p) → RdX w' x y.1 ∧ Rd w' (.slice ab nb cb) y.2.2 ∧ (o = true → y.2.1 = 0 → OwD w' base x.dv y.1.1)
theorem WayR.later {w w1 : World} {p base : Nat} {o : Bool} {y : Wy} {x : FsV} {ab : Option Addr} {nb cb : Nat} (h : WayR w p base o y x ab nb cb) (hg : w.grownBy w1 (some p)) : WayR w1 p base o y x ab nb cb := fun w' h' => h w' (hg.trans h')
def WayS (w : World) (p base : Nat) (o : Bool) (y : Wy) : Prop := ∃ (x : FsV) (ab : Option Addr) (nb cb : Nat), WayAt w p x y.2.1 ab nb cb ∧ nb = y.2.2.length ∧ WfX y.1 ∧ WayR w p base o y x ab nb cb
theorem grown_below {w w' : World} (p : Nat) (hb : Below w.heap.size w w') : w.grownBy w' (some p) := ⟨hb.os, hb.tape, hb.output, hb.size, fun k hk _ => hb.block k hk⟩
theorem grown_set {w w' : World} {p : Nat} (h : w.grownBy w' (some p)) (j : Nat) (v : Value) : w.grownBy (w'.setCell ⟨p, j, none⟩ v) (some p) := h.trans (grown_setCellE w' ⟨p, j, none⟩ v)
theorem WayS.carry {w w' : World} {p base : Nat} {o : Bool} {y : Wy} (h : WayS w p base o y) (hb : Below w.heap.size w w') : WayS w' p base o y := by
  obtain ⟨x, ab, nb, cb, h1, h2, h3, h4⟩ := h
  exact ⟨x, ab, nb, cb, h1.carry hb, h2, h3, h4.later (grown_below p hb)⟩
theorem WayS.lt {w : World} {p base : Nat} {o : Bool} {y : Wy} (h : WayS w p base o y) : p < w.heap.size := by
  obtain ⟨x, ab, nb, cb, h1, _⟩ := h
  exact h1.lt
theorem WayS.any {w : World} {p base : Nat} {o : Bool} {y : Wy} (h : WayS w p base o y) : WayS w p base false y := by
  obtain ⟨x, ab, nb, cb, h1, h2, h3, h4⟩ := h
  exact ⟨x, ab, nb, cb, h1, h2, h3, fun w' hg => ⟨(h4 w' hg).1, (h4 w' hg).2.1, fun h0 => by cases h0⟩⟩

end Go.Proofs.YtnigdbhjaoeblaaGreat
namespace Go.Proofs.YtnigdbhjaoeblaaGreat
open Go.RowKit
set_option linter.unusedVariables false
set_option linter.unusedSimpArgs false

/-- The way, but for the directory's bytes. -/
def WayU (w : World) (p : Nat) (x : FsV) (e : Int) : Prop := ∃ u, Bq w p 137 #[.slice x.a1 x.n1 x.c1, .slice x.a2 x.n2 x.c2, .slice x.a3 x.n3 x.c3, .int .u32 x.g, .slice x.a4 x.n4 x.c4, .slice x.a5 x.n5 x.c5, .int .i64 e, u]
theorem WayU.carry {w w' : World} {p : Nat} {x : FsV} {e : Int} (h : WayU w p x e) (hb : Below w.heap.size w w') : WayU w' p x e := by obtain ⟨u, h⟩ := h; exact ⟨u, h.carry hb⟩
end Go.Proofs.YtnigdbhjaoeblaaGreat
namespace Go.Proofs.YtnigdbhjaoeblaaGreat
open Go.RowKit
set_option linter.unusedVariables false
set_option linter.unusedSimpArgs false

theorem writesW_cons (n : Int) (b : List UInt8) (l : List (List UInt8)) (x : Wy) : writesW n (b :: l) x = if (writeW n b x).2 ≠ 0 then writeW n b x else writesW (n + 1) l (writeW n b x).1 := rfl
end Go.Proofs.YtnigdbhjaoeblaaGreat

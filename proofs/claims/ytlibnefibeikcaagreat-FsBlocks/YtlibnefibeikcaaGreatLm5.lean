/-
  What the statement MountTorn answers.
-/
import Derived.Test.YtlibnefibeikcaaGreatRm6
import Derived.Test.YtlibnefibeikcaaGreatLm3
import Derived.Test.YtlibnefibeikcaaGreatMathFs
import Derived.Test.YtlibnefibeikcaaGreatFiRef8
import Derived.Test.YtlibnefibeikcaaGreatFiFind
import Derived.Test.YtlibnefibeikcaaGreatFsFn3
import Derived.Test.YtlibnefibeikcaaGreatFsTop2
import Derived.Test.YtlibnefibeikcaaGreatFiRdr2
import Derived.Test.YtlibnefibeikcaaGreatGro
namespace Go.Proofs.YtlibnefibeikcaaGreat
open Go.RowKit
set_option linter.unusedVariables false
set_option linter.unusedSimpArgs false

theorem great_small {f : Fsd} (h : (f.1.1.length ≤ 100000 ∧ f.1.2.1.length ≤ 2000 ∧ f.1.2.2.length ≤ 2000) ∧ okG f.2.2.1 ∧ okG f.2.2.2) : (f.1.1.length ≤ 140737488355328 ∧ f.1.2.1.length ≤ 1000000 ∧ f.1.2.2.length ≤ 1000000) ∧ f.2.2.1.length ≤ 1000 ∧ (∀ g ∈ f.2.2.1, g.2.length ≤ 1000000) ∧ f.2.2.2.length ≤ 1000 ∧ ∀ g ∈ f.2.2.2, g.2.length ≤ 1000000 := by
  obtain ⟨h1, h2, h3⟩ := h
  exact ⟨⟨by omega, by omega, by omega⟩, by have := h2.1; omega, fun g hg => by have := (h2.2.2 g hg).1; omega, by have := h3.1; omega, fun g hg => by have := (h3.2.2 g hg).1; omega⟩

end Go.Proofs.YtlibnefibeikcaaGreat
namespace Go.Proofs.YtlibnefibeikcaaGreat
open Go.RowKit
set_option linter.unusedVariables false
set_option linter.unusedSimpArgs false

theorem lastP_take (n : Int) (l : List Pu) (k : Nat) (hk : k < l.length) : lastP n (l.take (k + 1)) = if n = (l[k]).1 then some (l[k]).2 else lastP n (l.take k) := by
  rw [List.take_succ_eq_append_getElem hk, lastP_snoc]
theorem lastP_eq {n : Int} {l : List Pu} (k : Nat) (hk : k < l.length) (h : lastP n l = lastP n (l.take (k + 1))) : lastP n l = if n = (l[k]).1 then some (l[k]).2 else lastP n (l.take k) := h.trans (lastP_take n l k hk)

set_option maxHeartbeats 1000000 in
set_option maxRecDepth 100000 in
theorem rnow_any {d : Dk} {v : Value} (k cnt : Nat) (w : World) (hD : RdD w v d) (hF : Fine cnt d) (hk : k < cnt) (hcnt : cnt ≤ 4096) :
    Calls Tryz.prog 86 #[v, .int .i64 k] w fun e w' => ∃ bv, e = .returned bv ∧ OwB w' w.heap.size bv (nowD d k) ∧ Below w.heap.size w w' := by
  obtain ⟨a1, c1, a2, c2, a3, c3, rfl, h1, h2, _⟩ := hD.form
  have H1 := hide h1
  have H2 := hide h2
  have HF := hide hF
  have hn2 : d.2.1.length ≤ 65536 := hF.2.1
  clear hD h1 h2 hF
  generalize e1 : d.1.length = n1 at *
  generalize e2 : d.2.1.length = n2 at *
  generalize e3 : d.2.2.length = n3 at *
  have E1 := hide e1
  have E2 := hide e2
  clear e1 e2 e3
  obtain ⟨w1, ew⟩ : ∃ w1, w.alloc (.cells #[.slice a1 n1 c1, .slice a2 n2 c2, .slice a3 n3 c3] 26) = w1 := ⟨_, rfl⟩
  have hb1 : Below w.heap.size w w1 := by rw [← ew]; exact (Below.refl _ _).alloc (Nat.le_refl _) _
  have k0 : w1.cell? ⟨w.heap.size, 0, none⟩ = some (.slice a1 n1 c1) := by rw [← ew]; simp
  have k1 : w1.cell? ⟨w.heap.size, 1, none⟩ = some (.slice a2 n2 c2) := by rw [← ew]; simp
  have hsz := hb1.size
  go_enter Tryz.func86, Tryz.ntmps86
  go_wp2
  clear ew
  go_loopw [5] (fun i wr => ∃ j : Nat, j ≤ n2 ∧ i = .int .i64 ((j : Int) - 1) ∧ Hid (lastP k d.2.1 = lastP k (d.2.1.take j)) ∧ wr = w1) (fun i _ => (intOf i + 1).toNat)
  case atStart =>
    refine ⟨n2, Nat.le_refl _, by go_num, ?_, rfl⟩
    show _ = _
    rw [List.take_of_length_le (by have := E2.out; omega)]
  case round =>
    obtain ⟨j, hj, rfl, hl, rfl⟩ := hrel
    cases j with
    | zero =>
      have hlt' : decide ((0 : Int) ≤ ((0 : Nat) : Int) - 1) = false := by decide
      have HR := hide (show nowD d k = blk d.1 k by
        unfold nowD
        have := hl.out
        rw [List.take_zero] at this
        rw [this]; rfl)
      have hlen : d.1.length = 128 * cnt := HF.out.1
      obtain ⟨b9, o9, rfl, en, hnc, hrd⟩ := rd_sub (H1.out.carry hb1) (k * 128) (k * 128 + 128) (by omega) (by omega)
      have eb : (d.1.drop (k * 128)).take (k * 128 + 128 - k * 128) = blk d.1 k := by
        unfold blk; rw [show k * 128 + 128 - k * 128 = 128 by omega, Nat.mul_comm]
      rw [eb] at hrd
      have hn1q : n1 = 128 * cnt := by rw [en]; exact hlen
      have HLB := hide (show (blk d.1 k).length = 128 by unfold blk; rw [List.length_take, List.length_drop]; omega)
      have hw1 : wrap64 ((k : Int) * 128) = ((k * 128 : Nat) : Int) := by unfold wrap64; omega
      have hw2 : wrap64 (((k * 128 : Nat) : Int) + 128) = ((k * 128 + 128 : Nat) : Int) := by unfold wrap64; omega
      have hh1 : k * 128 + 128 ≤ n1 := by omega
      have hh2 : ¬ k * 128 = c1 := by omega
      have hh3 : k * 128 + 128 ≤ c1 := by omega
      obtain ⟨v', w', hrun, hO', hg'⟩ := run_append_rd wr wr.heap.size (Nat.le_refl _) (.slice none 0 0) [] (World.ownsRow_nil _ _ _ _) _ _ hrd (by rw [HLB.out]; decide)
      have hB' : Below w.heap.size w w' := hb1.grown hg' hsz (fun q hq => by cases hq)
      have HO := hide ((show OwB w' wr.heap.size v' (blk d.1 k) from hO').mono hsz)
      clear hl hrd hn1q en hlen eb hO' hg' hj
      go_wp2_with (at_builtin; go_must (refine wpList_runapp wr rfl _ (.tmp 36) 22 rfl (v := _) (y := .slice (some ⟨b9, o9 + k * 128, none⟩) (k * 128 + 128 - k * 128) (c1 - k * 128)) rfl rfl hrun ?_))
      go_ret
      rw [HR.out]
      exact ⟨_, rfl, HO.out, hB'⟩
    | succ j =>
      have hjl : j < d.2.1.length := by have := E2.out; omega
      have hji : (((j + 1 : Nat) : Int) - 1) = (j : Int) := by omega
      rw [hji]
      obtain ⟨b2, o2, rfl, q0, x, m, c', q1, q2, q3⟩ := (H2.out.carry hb1).at j hjl
      have hjn : (j : Int) < n2 := by omega
      by_cases hnk : (d.2.1[j]).1 = k
      · have HR := hide (show nowD d k = (d.2.1[j]).2 by
          unfold nowD
          rw [lastP_eq j hjl hl.out, if_pos hnk.symm]; rfl)
        have hpl : (d.2.1[j]).2.length = 128 := (putE_ok (HF.out.2.2.2 _ (List.getElem_mem hjl))).2.2
        rw [hnk] at q0
        obtain ⟨v', w', hrun, hO', hg'⟩ := run_append_rd wr wr.heap.size (Nat.le_refl _) (.slice none 0 0) [] (World.ownsRow_nil _ _ _ _) _ _ q2 (by rw [hpl]; decide)
        have hB' : Below w.heap.size w w' := hb1.grown hg' hsz (fun q hq => by cases hq)
        have HO := hide ((show OwB w' wr.heap.size v' (d.2.1[j]).2 from hO').mono hsz)
        clear hl hO' hg' q2 q3 hnk hpl hji
        go_wp2_with (at_builtin; go_must (refine wpList_runapp wr rfl _ (.tmp 27) 22 rfl (v := _) (y := .slice x m c') rfl rfl hrun ?_))
        go_ret
        rw [HR.out]
        exact ⟨_, rfl, HO.out, hB'⟩
      · have HL := hide (show lastP k d.2.1 = lastP k (d.2.1.take j) by rw [lastP_eq j hjl hl.out, if_neg (fun e => hnk e.symm)])
        have hnk' : ((d.2.1[j]).1 == (k : Int)) = false := by simpa using hnk
        generalize (d.2.1[j]).1 = N at *
        clear hl q2 q3 hnk
        go_wp2
        go_roundw
        case rel => exact ⟨j, by omega, by go_num, HL.out, trivial⟩
        case measure => simp [intOf] <;> omega

end Go.Proofs.YtlibnefibeikcaaGreat
namespace Go.Proofs.YtlibnefibeikcaaGreat
open Go.RowKit
set_option linter.unusedVariables false
set_option linter.unusedSimpArgs false

theorem blo_there {f : Fsd} (h : okFs f) {s : List UInt8} (ht : thereE f.2.2.1 s = 0) : bloE f s = 0 ∧ sizeE f s = 0 ∧ bloL f s = blocksR (getF f.2.2.1 s) := by
  obtain ⟨l, hl⟩ := (isF_iff _ _).1 (thereE_okF ht).2.2
  have h2 := file_in h hl
  exact ⟨h2.2.2.1, h2.2.2.2.2, by unfold bloL; rw [if_neg (by rw [ht]; decide)]⟩
theorem size_not {f : Fsd} (h : okFs f) {s : List UInt8} (ht : thereE f.2.2.1 s ≠ 0) : sizeE f s = thereE f.2.2.1 s ∧ bloL f s = [] := by
  refine ⟨by unfold sizeE bloE; rw [if_neg (by rw [fsE_of h]; decide), if_pos ht], by unfold bloL; rw [if_pos ht]⟩
def rbL (f : Fsd) (s : List UInt8) : List Int := if fsE f ≠ 0 then [] else bloL f s
theorem rbL_of {f : Fsd} (h : okFs f) (s : List UInt8) : rbL f s = bloL f s := by unfold rbL; rw [if_neg (by rw [fsE_of h]; decide)]
theorem rbL_not {f : Fsd} (h : fsE f ≠ 0) (s : List UInt8) : rbL f s = [] := by unfold rbL; rw [if_pos h]
theorem size_bad {f : Fsd} (h : fsE f ≠ 0) (s : List UInt8) : sizeE f s = fsE f ∧ sizeN f s = 0 := by unfold sizeE sizeN; rw [if_pos h, if_pos h]; exact ⟨rfl, rfl⟩
theorem sizeN_is (f : Fsd) (s : List UInt8) : sizeN f s = (rbL f s).length := by
  unfold sizeN rbL
  by_cases h : fsE f ≠ 0
  · rw [if_pos h, if_pos h]; rfl
  · rw [if_neg h, if_neg h]

set_option maxHeartbeats 4000000 in
set_option maxRecDepth 100000 in
theorem rblocksOf6_any (x : FsV) (f : Fsd) (s : List UInt8) (w : World) (h : RdX w x f) (hw : WfX f) :
    Calls Tryz.prog 82 #[x.val, .string (bs s)] w fun e w' => ∃ v, e = .returned (.tuple #[v, .int .i64 (sizeE f s)]) ∧ OwI w' w.heap.size v (rbL f s) ∧ Below w.heap.size w w' := by
  have HW := hide hw
  have HX := hide h
  clear hw h
  obtain ⟨w1, ew⟩ : ∃ w1, w.alloc (.cells x.cs 32) = w1 := ⟨_, rfl⟩
  have hb1 : Below w.heap.size w w1 := by rw [← ew]; exact (Below.refl _ _).alloc (Nat.le_refl _) _
  have HFf_w1 := hide (show FsAt w1 w.heap.size x by rw [← ew]; exact Bq.new _ _ _)
  have HB_w1 := hide hb1
  clear hb1
  unfold FsV.val
  unfold FsV.cs at ew
  go_enter Tryz.func82, Tryz.ntmps82
  obtain ⟨kf0, kf1, kf2, kf3, kf4, kf5⟩ := fs_cells HFf_w1.out
  have hcon := rcheck6_any x f w1 (HX.out.carry HB_w1.out) HW.out
  go_wp2_with fail
  try rw [ew]
  refine hcon.mono ?_
  rintro e w2 ⟨rfl, hbb⟩
  have HFf_w2 := hide (HFf_w1.out.carry hbb)
  have HB_w2 := hide (show Below w.heap.size w w2 from HB_w1.out.trans (hbb.mono HB_w1.out.size))
  clear hcon hbb kf0 kf1 kf2 kf3 kf4 kf5
  try clear ew
  rcases (fsE_cases f).symm with ⟨_, g1⟩ | ⟨hok, g1⟩
  · have HE := hide (size_bad (f := f) (by rw [g1]; decide) s)
    have HL := hide (rbL_not (f := f) (by rw [g1]; decide) s)
    rw [g1] at HE ⊢
    clear g1
    go_wp2
    go_ret2
    rw [HE.out.1, HL.out]
    exact ⟨_, rfl, World.ownsRow_nil _ _ _ _, HB_w2.out⟩
  rw [g1]
  clear g1
  have HOK := hide hok
  clear hok
  obtain ⟨kf0, kf1, kf2, kf3, kf4, kf5⟩ := fs_cells HFf_w2.out
  have hcon := rFind_any _ _ _ f.2.2.1 s w2 (HX.out.fl.carry HB_w2.out) HX.out.n4 HW.out.fl
  go_wp2_with fail
  refine hcon.mono ?_
  rintro e w3 ⟨v2, rfl, ho2, hbb⟩
  have HFf_w3 := hide (HFf_w2.out.carry hbb)
  have HB_w3 := hide (show Below w.heap.size w w3 from HB_w2.out.trans (hbb.mono HB_w2.out.size))
  clear hcon hbb kf0 kf1 kf2 kf3 kf4 kf5
  obtain ⟨m2, hm2⟩ : ∃ m2, m2 = (findV f.2.2.1 s).2.length := ⟨_, rfl⟩
  obtain ⟨y2, z2, e2⟩ : ∃ a c, v2 = .slice a m2 c := by rw [hm2]; exact ho2.form
  subst e2
  have HO2 := hide ho2.rd
  have HM2 := hide hm2
  clear ho2 hm2
  obtain ⟨n9, hn9⟩ : ∃ n9, n9 = (findV f.2.2.1 s).1 := ⟨_, rfl⟩
  rw [← hn9]
  clear hn9
  obtain ⟨wk, ewk⟩ : ∃ wk, w3.alloc (.cells #[.string (bs n9), .slice y2 m2 z2] 94) = wk := ⟨_, rfl⟩
  have hb3 : Below w3.heap.size w3 wk := by rw [← ewk]; exact (Below.refl _ _).alloc (Nat.le_refl _) _
  have HB_wk := hide (show Below w.heap.size w wk from HB_w3.out.trans (hb3.mono HB_w3.out.size))
  have HO3 := hide (HO2.out.carry hb3)
  have k9 : wk.cell? ⟨w3.heap.size, 1, none⟩ = some (.slice y2 m2 z2) := by rw [← ewk]; simp
  clear hb3 HO2
  by_cases g1 : ¬ thereE f.2.2.1 s = 0
  · have HE := hide (size_not HOK.out g1)
    have HL := hide (rbL_of HOK.out s)
    go_wp2
    go_ret2
    rw [HL.out, HE.out.1, HE.out.2]
    exact ⟨_, rfl, World.ownsRow_nil _ _ _ _, by assumption⟩
  rw [Decidable.not_not] at g1
  have HE := hide (blo_there HOK.out g1)
  have HL := hide (rbL_of HOK.out s)
  rw [findV_fst g1] at HO3 HM2
  rw [g1]
  clear g1
  have hcon := rBlocks_ext y2 m2 z2 (getF f.2.2.1 s) wk HO3.out HM2.out (getF_wf HW.out.fl s)
  go_wp2_with fail
  try rw [ewk]
  refine hcon.mono ?_
  rintro e w4 ⟨v4, rfl, ho4, hb4⟩
  have HB_w4 := hide (show Below w.heap.size w w4 from HB_wk.out.trans (hb4.mono HB_wk.out.size))
  have HO4 := hide (ho4.mono HB_wk.out.size)
  clear hb4 ho4 k9 hcon
  go_wp2
  go_ret2
  rw [HL.out, HE.out.2.1, HE.out.2.2]
  exact ⟨_, rfl, HO4.out, HB_w4.out⟩

set_option maxHeartbeats 4000000 in
set_option maxRecDepth 100000 in
theorem rsize6_any (x : FsV) (f : Fsd) (s : List UInt8) (w : World) (h : RdX w x f) (hw : WfX f) :
    Calls Tryz.prog 31 #[x.val, .string (bs s)] w fun e w' => e = .returned (.tuple #[.int .i64 (sizeN f s), .int .i64 (sizeE f s)]) ∧ Below w.heap.size w w' := by
  have HW := hide hw
  have HX := hide h
  clear hw h
  obtain ⟨w1, ew⟩ : ∃ w1, w.alloc (.cells x.cs 32) = w1 := ⟨_, rfl⟩
  have hb1 : Below w.heap.size w w1 := by rw [← ew]; exact (Below.refl _ _).alloc (Nat.le_refl _) _
  have HFf_w1 := hide (show FsAt w1 w.heap.size x by rw [← ew]; exact Bq.new _ _ _)
  have HB_w1 := hide hb1
  clear hb1
  unfold FsV.val
  unfold FsV.cs at ew
  go_enter Tryz.func31, Tryz.ntmps31
  obtain ⟨kf0, kf1, kf2, kf3, kf4, kf5⟩ := fs_cells HFf_w1.out
  have hcon := rblocksOf6_any x f s w1 (HX.out.carry HB_w1.out) HW.out
  go_wp2_with fail
  try rw [ew]
  refine hcon.mono ?_
  rintro e w2 ⟨v2, rfl, ho2, hbb⟩
  have HFf_w2 := hide (HFf_w1.out.carry hbb)
  have HB_w2 := hide (show Below w.heap.size w w2 from HB_w1.out.trans (hbb.mono HB_w1.out.size))
  clear hcon hbb kf0 kf1 kf2 kf3 kf4 kf5
  try clear ew
  obtain ⟨m2, hm2⟩ : ∃ m2, m2 = (rbL f s).length := ⟨_, rfl⟩
  obtain ⟨y2, z2, e2⟩ : ∃ a c, v2 = .slice a m2 c := by rw [hm2]; exact ho2.rd6.form
  subst e2
  have HO2 := hide ho2.rd6
  have HM2 := hide hm2
  clear ho2 hm2
  go_wp2
  go_ret2
  rw [sizeN_is, ← HM2.out]
  exact ⟨rfl, HB_w2.out⟩

theorem get_bad {f : Fsd} {s : List UInt8} (h : sizeE f s ≠ 0) (i : Int) : getE f s i = sizeE f s ∧ getL f s i = [] := by
  unfold sizeE at h ⊢
  unfold getE getL
  by_cases h1 : fsE f ≠ 0
  · rw [if_pos h1, if_pos h1, if_pos h1]; exact ⟨rfl, rfl⟩
  · rw [if_neg h1] at h
    have e : atE f s i = bloE f s := by unfold atE; rw [if_pos h]
    rw [if_neg h1, if_neg h1, if_neg h1, e, if_pos h, if_pos h]
    exact ⟨rfl, rfl⟩
theorem get_arg {f : Fsd} {s : List UInt8} (h : sizeE f s = 0) {i : Int} (hi : i < 0 ∨ ((bloL f s).length : Int) ≤ i) : getE f s i = 2 ∧ getL f s i = [] := by
  obtain ⟨h0, h1, _⟩ := size_ok h
  have e : atE f s i = 2 := by unfold atE; rw [if_neg (by rw [h1]; decide), if_pos hi]
  have e0 : fsE f = 0 := by first | exact h0 | exact fsE_of h0
  unfold getE getL
  simp [e0, e]
theorem size_okFs {f : Fsd} {s : List UInt8} (h : sizeE f s = 0) : okFs f := by
  rcases fsE_cases f with ⟨hk, _⟩ | ⟨_, e⟩
  · exact hk
  · unfold sizeE at h; rw [if_pos (by rw [e]; decide), e] at h; cases h

set_option maxHeartbeats 4000000 in
set_option maxRecDepth 100000 in
theorem rget6_any (x : FsV) (f : Fsd) (s : List UInt8) (i : Int) (w : World) (h : RdX w x f) (hw : WfX f) :
    Calls Tryz.prog 29 #[x.val, .string (bs s), .int .i64 i] w fun e w' => ∃ v, e = .returned (.tuple #[v, .int .i64 (getE f s i)]) ∧ OwB w' w.heap.size v (getL f s i) ∧ Below w.heap.size w w' := by
  have HW := hide hw
  have HX := hide h
  clear hw h
  obtain ⟨w1, ew⟩ : ∃ w1, w.alloc (.cells x.cs 32) = w1 := ⟨_, rfl⟩
  have hb1 : Below w.heap.size w w1 := by rw [← ew]; exact (Below.refl _ _).alloc (Nat.le_refl _) _
  have HFf_w1 := hide (show FsAt w1 w.heap.size x by rw [← ew]; exact Bq.new _ _ _)
  have HB_w1 := hide hb1
  clear hb1
  unfold FsV.val
  unfold FsV.cs at ew
  go_enter Tryz.func29, Tryz.ntmps29
  obtain ⟨kf0, kf1, kf2, kf3, kf4, kf5⟩ := fs_cells HFf_w1.out
  have hcon := rblocksOf6_any x f s w1 (HX.out.carry HB_w1.out) HW.out
  go_wp2_with fail
  try rw [ew]
  refine hcon.mono ?_
  rintro e w2 ⟨v2, rfl, ho2, hbb⟩
  have HFf_w2 := hide (HFf_w1.out.carry hbb)
  have HB_w2 := hide (show Below w.heap.size w w2 from HB_w1.out.trans (hbb.mono HB_w1.out.size))
  clear hcon hbb kf0 kf1 kf2 kf3 kf4 kf5
  try clear ew
  obtain ⟨m2, hm2⟩ : ∃ m2, m2 = (rbL f s).length := ⟨_, rfl⟩
  obtain ⟨y2, z2, e2⟩ : ∃ a c, v2 = .slice a m2 c := by rw [hm2]; exact ho2.rd6.form
  subst e2
  have HO2 := hide ho2.rd6
  have HM2 := hide hm2
  clear ho2 hm2
  by_cases g1 : ¬ sizeE f s = 0
  · have HE := hide (get_bad g1 i)
    go_wp2
    go_ret2
    rw [HE.out.1, HE.out.2]
    exact ⟨_, rfl, World.ownsRow_nil _ _ _ _, HB_w2.out⟩
  rw [Decidable.not_not] at g1
  have HS := hide g1
  have HL := hide (rbL_of (size_okFs g1) s)
  rw [HL.out] at HM2 HO2
  rw [g1]
  clear g1
  by_cases g2 : i < 0
  · have HE := hide (get_arg HS.out (.inl g2))
    go_wp2
    go_ret2
    rw [HE.out.1, HE.out.2]
    exact ⟨_, rfl, World.ownsRow_nil _ _ _ _, HB_w2.out⟩
  by_cases g3 : (m2 : Int) ≤ i
  · have HE := hide (get_arg HS.out (.inr (by rw [← HM2.out]; exact g3)))
    go_wp2
    go_ret2
    rw [HE.out.1, HE.out.2]
    exact ⟨_, rfl, World.ownsRow_nil _ _ _ _, HB_w2.out⟩
  obtain ⟨k, hki⟩ : ∃ k : Nat, (k : Int) = i := ⟨i.toNat, by omega⟩
  subst hki
  have hk : k < (bloL f s).length := by rw [← HM2.out]; omega
  have g2' : decide ((k : Int) < 0) = false := decide_eq_false g2
  have g3' : decide ((m2 : Int) ≤ k) = false := decide_eq_false g3
  have g4' : (k : Int) < m2 := by omega
  obtain ⟨lb, lo, el, qn⟩ := HO2.out.at6 k hk
  subst el
  have HGE := hide (get_ok HS.out hk)
  have HRG := hide (blo_rng2 HS.out _ (List.getElem_mem hk))
  obtain ⟨nn, hn9⟩ : ∃ nn : Nat, (nn : Int) = (bloL f s)[k] := ⟨((bloL f s)[k]).toNat, by have := HRG.out.1; omega⟩
  rw [← hn9] at qn HGE HRG
  rw [Int.toNat_natCast] at HGE
  clear hn9
  have HQN := hide (show CellAt w2 lb (lo + k) (.int .i64 (nn : Int)) from qn)
  have HFN := hide (Fine.of_ok (okFs_disk (size_okFs HS.out)).1)
  clear qn
  go_wp2_with fail
  have hK : Keeps (fun wx => Below w2.heap.size w2 wx) := fun w1 w2 h hb => h.trans (hb.mono h.size)
  refine reg_begin hK (by kernel_rfl) (Below.refl _ _) ?_
  intro hS
  generalize w2.drew = wdd at *
  refine reg_take (i := 0) (v := ?qgv0) rfl (by kernel_rfl) (by kernel_rfl) (by kernel_rfl) (by rfl) ?qgy0 hS ?qgr0
  case qgy0 => (rintro wx hx; (obtain ⟨kf0, kf1, kf2, kf3, kf4, kf5⟩ := fs_cells (HFf_w2.out.carry hx)); have qn : wx.cell? ⟨lb, lo + k, none⟩ = some (.int .i64 (nn : Int)) := HQN.out.carry hx; clear hx; go_simp; all_goals (with_reducible rfl))
  try simp only [Act.put, List.setIfInBounds_toArray, List.set_cons_zero, List.set_cons_succ]
  refine reg_take (i := 1) (v := ?qgv1) rfl (by kernel_rfl) (by kernel_rfl) (by kernel_rfl) (by rfl) ?qgy1 hS ?qgr1
  case qgy1 => (rintro wx hx; (obtain ⟨kf0, kf1, kf2, kf3, kf4, kf5⟩ := fs_cells (HFf_w2.out.carry hx)); have qn : wx.cell? ⟨lb, lo + k, none⟩ = some (.int .i64 (nn : Int)) := HQN.out.carry hx; clear hx; go_simp; all_goals (with_reducible rfl))
  try simp only [Act.put, List.setIfInBounds_toArray, List.set_cons_zero, List.set_cons_succ]
  refine reg_take (i := 2) (v := ?qgv2) rfl (by kernel_rfl) (by kernel_rfl) (by kernel_rfl) (by rfl) ?qgy2 hS ?qgr2
  case qgy2 => (rintro wx hx; (obtain ⟨kf0, kf1, kf2, kf3, kf4, kf5⟩ := fs_cells (HFf_w2.out.carry hx)); have qn : wx.cell? ⟨lb, lo + k, none⟩ = some (.int .i64 (nn : Int)) := HQN.out.carry hx; clear hx; go_simp; all_goals (with_reducible rfl))
  try simp only [Act.put, List.setIfInBounds_toArray, List.set_cons_zero, List.set_cons_succ]
  refine reg_take (i := 3) (v := ?qgv3) rfl (by kernel_rfl) (by kernel_rfl) (by kernel_rfl) (by rfl) ?qgy3 hS ?qgr3
  case qgy3 => (rintro wx hx; (obtain ⟨kf0, kf1, kf2, kf3, kf4, kf5⟩ := fs_cells (HFf_w2.out.carry hx)); have qn : wx.cell? ⟨lb, lo + k, none⟩ = some (.int .i64 (nn : Int)) := HQN.out.carry hx; clear hx; go_simp; all_goals (with_reducible rfl))
  try simp only [Act.put, List.setIfInBounds_toArray, List.set_cons_zero, List.set_cons_succ]
  refine reg_take (i := 4) (v := ?qgv4) rfl (by kernel_rfl) (by kernel_rfl) (by kernel_rfl) (by rfl) ?qgy4 hS ?qgr4
  case qgy4 => (rintro wx hx; (obtain ⟨kf0, kf1, kf2, kf3, kf4, kf5⟩ := fs_cells (HFf_w2.out.carry hx)); have qn : wx.cell? ⟨lb, lo + k, none⟩ = some (.int .i64 (nn : Int)) := HQN.out.carry hx; clear hx; go_simp; all_goals (with_reducible rfl))
  try simp only [Act.put, List.setIfInBounds_toArray, List.set_cons_zero, List.set_cons_succ]
  refine reg_take (i := 5) (v := ?qgv5) rfl (by kernel_rfl) (by kernel_rfl) (by kernel_rfl) (by rfl) ?qgy5 hS ?qgr5
  case qgy5 => (rintro wx hx; (obtain ⟨kf0, kf1, kf2, kf3, kf4, kf5⟩ := fs_cells (HFf_w2.out.carry hx)); have qn : wx.cell? ⟨lb, lo + k, none⟩ = some (.int .i64 (nn : Int)) := HQN.out.carry hx; clear hx; go_simp; all_goals (with_reducible rfl))
  try simp only [Act.put, List.setIfInBounds_toArray, List.set_cons_zero, List.set_cons_succ]
  refine reg_callg (i := 6) (R := fun v wx => OwB wx w.heap.size v (getL f s k) ∧ Below wdd.heap.size wdd wx) rfl (by kernel_rfl) (by kernel_rfl) (by go_simp; first | done | rfl) ((rnow_any (d := f.1) nn (mny f.1) wdd (HX.out.d.carry (HB_w2.out.trans (hS.mono HB_w2.out.size))) HFN.out.1 (by have := HRG.out.2; omega) HFN.out.2.2).mono fun e wx ⟨v, h1, h2, h3⟩ => by
    rw [HGE.out.2.2.2]
    exact ⟨_, h1, h2.mono (Nat.le_trans HB_w2.out.size hS.size), h3⟩) ?_
  rintro bv wg ⟨hob, hbb⟩
  have hSn := hK _ _ hS hbb
  refine ⟨hSn, ?_⟩
  clear hS hbb
  have hS := hSn
  clear hSn
  try simp only [Act.put, List.setIfInBounds_toArray, List.set_cons_zero, List.set_cons_succ]
  refine reg_take (i := 7) (v := ?qgv7) rfl (by kernel_rfl) (by kernel_rfl) (by kernel_rfl) (by rfl) ?qgy7 hS ?qgr7
  case qgy7 => (rintro wx hx; (obtain ⟨kf0, kf1, kf2, kf3, kf4, kf5⟩ := fs_cells (HFf_w2.out.carry hx)); have qn : wx.cell? ⟨lb, lo + k, none⟩ = some (.int .i64 (nn : Int)) := HQN.out.carry hx; clear hx; go_simp; all_goals (with_reducible rfl))
  try simp only [Act.put, List.setIfInBounds_toArray, List.set_cons_zero, List.set_cons_succ]
  refine reg_take (i := 8) (v := ?qgv8) rfl (by kernel_rfl) (by kernel_rfl) (by kernel_rfl) (by rfl) ?qgy8 hS ?qgr8
  case qgy8 => (rintro wx hx; (obtain ⟨kf0, kf1, kf2, kf3, kf4, kf5⟩ := fs_cells (HFf_w2.out.carry hx)); have qn : wx.cell? ⟨lb, lo + k, none⟩ = some (.int .i64 (nn : Int)) := HQN.out.carry hx; clear hx; go_simp; all_goals (with_reducible rfl))
  try simp only [Act.put, List.setIfInBounds_toArray, List.set_cons_zero, List.set_cons_succ]
  refine wpAnyH_done (by kernel_rfl) ?_ _
  refine NoPanic.normal ?_
  try simp only [Act.put, List.setIfInBounds_toArray, List.set_cons_zero, List.set_cons_succ]
  have HOB := hide hob
  have HBF := hide (show Below w.heap.size w wg from HB_w2.out.trans (hS.mono HB_w2.out.size))
  clear hob hS hK
  go_wp2
  go_ret2
  rw [HGE.out.2.2.1]
  exact ⟨_, rfl, HOB.out, HBF.out⟩

end Go.Proofs.YtlibnefibeikcaaGreat
namespace Go.Proofs.YtlibnefibeikcaaGreat
open Go.RowKit
set_option linter.unusedVariables false
set_option linter.unusedSimpArgs false

set_option maxHeartbeats 1000000 in
set_option maxRecDepth 100000 in
theorem rwrite_any {d : Dk} {v : Value} (N : Int) (x : Option Addr) (m c : Nat) (l : List UInt8) (w : World) (hD : RdD w v d) (hrd : Rd w (.slice x m c) l) :
    Calls Tryz.prog 83 #[v, .int .i64 N, .slice x m c] w fun e w' => ∃ dv, e = .returned (.tuple #[dv, .int .i64 (doD d [(false, N, l)] 1).2]) ∧ OwD w' w.heap.size dv (doD d [(false, N, l)] 1).1 ∧ Below w.heap.size w w' := by
  obtain ⟨a1, c1, a2, c2, a3, c3, rfl, h1, h2, h3⟩ := hD.form
  have hml1 := h1.len_le
  have HD := hide hD
  have hm : m = l.length := by obtain ⟨_, _, e⟩ := hrd.form; cases e; rfl
  have HRD := hide hrd
  have HM := hide hm
  clear hrd hm
  clear hD h1 h2 h3
  generalize e1 : d.1.length = n1 at *
  generalize e2 : d.2.1.length = n2 at *
  generalize e3 : d.2.2.length = n3 at *
  have HNM := hide hml1
  have HMY := hide (show mny d = n1 / 128 by rw [← e1]; rfl)
  clear e1 e2 e3 hml1
  obtain ⟨w1, ew⟩ : ∃ w1, (w.alloc (.cells #[.slice a1 n1 c1, .slice a2 n2 c2, .slice a3 n3 c3] 26)).alloc (.cells #[.slice none 0 0, .slice none 0 0, .slice none 0 0] 26) = w1 := ⟨_, rfl⟩
  have hb1 : Below w.heap.size w w1 := by rw [← ew]; exact ((Below.refl _ _).alloc (Nat.le_refl _) _).alloc (by simp) _
  have hd1 : w1.heap[w.heap.size]? = some (.cells #[.slice a1 n1 c1, .slice a2 n2 c2, .slice a3 n3 c3] 26 (0, 0)) := by
    rw [← ew, heap_alloc_old _ _ (by simp)]; exact heap_alloc_new _ _
  have hr1 : w1.heap[w.heap.size + 1]? = some (.cells #[.slice none 0 0, .slice none 0 0, .slice none 0 0] 26 (0, 0)) := by rw [← ew]; exact heap_alloc2 _ _ _
  obtain ⟨k0, k1, k2, _⟩ := cells3 hd1
  go_enter Tryz.func83, Tryz.ntmps83
  go_wp2_with fail
  refine (rcheck_any (d := d) _ (HD.out.carry hb1)).mono ?_
  rintro e w2 ⟨rfl, hb2⟩
  have hB2 : Below w.heap.size w w2 := hb1.trans (hb2.mono hb1.size)
  have hd2 := keeps_block _ _ _ _ hd1 hb2
  have hr2 := keeps_block _ _ _ _ hr1 hb2
  clear ew k0 k1 k2 hr1 hd1 hb1 hb2
  rcases chk_cases d with ⟨hok, hck⟩ | ⟨hok, hck⟩
  case inr =>
    rw [hck]
    have HE := hide (show doD d [(false, N, l)] 1 = (dz, 20) by unfold doD; rw [if_pos (by rw [hck]; decide), hck])
    clear hck hok hd2
    obtain ⟨ws, ews, hws, hgs⟩ := stored3 (.slice none 0 0) (.slice none 0 0) (.slice none 0 0) hr2
    obtain ⟨z1, z2, z3, z4⟩ := cells3 hr2
    obtain ⟨q1, q2, q3, q4⟩ := cells3 hws
    have hbs := hB2.grown hgs hB2.size (fun k hk => by cases hk; simp)
    clear hws hgs
    go_wp2
    refine bodyPost_ret (v := .tuple #[.agg #[.slice none 0 0, .slice none 0 0, .slice none 0 0], .int .i64 20]) ?_ rfl ?_
    · simp [results, Tryz.results83, go_sem, *]
    · rw [HE.out]; exact ⟨_, rfl, OwD_zero _ _, hbs⟩
  rw [hck]
  have HOK := hide hok
  obtain ⟨hfine, hc1, hc2⟩ := Fine.of_ok hok
  have HF := hide hfine
  have HCK := hide hck
  clear hck hok hfine
  obtain ⟨k0, k1, k2, _⟩ := cells3 hd2
  go_wp2_with fail
  refine (rmany_any a1 a2 a3 n1 c1 n2 c2 n3 c3 HNM.out _).mono ?_
  rintro e w3 ⟨rfl, hb3⟩
  have hB3 := hB2.trans (hb3.mono hB2.size)
  have hd3 := keeps_block _ _ _ _ hd2 hb3
  have hr3 := keeps_block _ _ _ _ hr2 hb3
  clear k0 k1 k2 hb3 hB2 hd2 hr2
  rw [← HMY.out]
  go_wp2_with fail
  refine (rput_any N x m c l (mny d) HM.out _).mono ?_
  rintro e w4 ⟨rfl, hb4⟩
  have hB4 := hB3.trans (hb4.mono hB3.size)
  have hd4 := keeps_block _ _ _ _ hd3 hb4
  have hr4 := keeps_block _ _ _ _ hr3 hb4
  clear hb4 hB3 hd3 hr3
  obtain ⟨pe, hpe⟩ : ∃ pe, putE (mny d) (N, l) = pe := ⟨_, rfl⟩
  rw [hpe]
  have HPE := hide hpe
  clear hpe
  by_cases hp0 : pe = 0
  case neg =>
    have HE := hide (show doD d [(false, N, l)] 1 = (dz, pe) by
      have h1 : errD d [(false, N, l)] = pe := by
        unfold errD
        rw [if_neg (by rw [HCK.out]; decide)]
        show (if putE (mny d) (N, l) = 0 then (0 : Int) else putE (mny d) (N, l)) = pe
        rw [HPE.out, if_neg hp0]
      rw [doD_err' d _ 1 (by rw [h1]; exact hp0), h1])
    have hp1 : (pe != 0) = true := by simpa using hp0
    clear hd4
    obtain ⟨ws, ews, hws, hgs⟩ := stored3 (.slice none 0 0) (.slice none 0 0) (.slice none 0 0) hr4
    obtain ⟨z1, z2, z3, z4⟩ := cells3 hr4
    obtain ⟨q1, q2, q3, q4⟩ := cells3 hws
    have hbs := hB4.grown hgs hB4.size (fun k hk => by cases hk; simp)
    clear hws hgs
    go_wp2
    refine bodyPost_ret (v := .tuple #[.agg #[.slice none 0 0, .slice none 0 0, .slice none 0 0], .int .i64 pe]) ?_ rfl ?_
    · simp [results, Tryz.results83, go_sem, *]
    · rw [HE.out]; exact ⟨_, rfl, OwD_zero _ _, hbs⟩
  subst hp0
  have HAE := hide (show actE (mny d) (false, N, l) = 0 from HPE.out)
  obtain ⟨k0, k1, k2, _⟩ := cells3 hd4
  go_wp2_with fail
  clear k0 k1 k2
  refine (twin_ok (d := d) _ (HD.out.carry hB4) HOK.out).mono ?_
  rintro e w5 ⟨v5, B, rfl, hDv5, hb5⟩
  have hB5 := hB4.trans (hb5.mono hB4.size)
  have hr5 := keeps_block _ _ _ _ hr4 hb5
  have HDV := hide (hDv5.mono hB4.size)
  clear hb5 hr4 hd4 hDv5
  go_wp2_with fail
  refine (one_any w B (mny d) d v5 false N x m c l _ HDV.out hB5 HRD.out HM.out (by have := (putE_ok HPE.out).2.2; simp only at this; omega) HF.out hc2).mono ?_
  rintro e w6 ⟨v6, r, rfl, hkd, ⟨y1, m1, d1, y2, m2, d2, y3, m3, d3, rfl⟩, hB6, hone⟩
  have hr6 := hkd.2 _ _ _ hr5
  have HDO := hide (show doD d [(false, N, l)] 1 = (match oneD d (false, N, l) with | none => (dz, 9) | some x => (x, 0)) by
    have h1 : errD d [(false, N, l)] = 0 := by
      unfold errD
      rw [if_neg (by rw [HCK.out]; decide)]
      show (if actE (mny d) (false, N, l) = 0 then (0 : Int) else _) = 0
      rw [HAE.out]; rfl
    have := doD_go d [(false, N, l)] 1 h1 (Nat.le_refl _)
    rw [show ((1 : Nat) : Int) = 1 from rfl] at this
    rw [this]
    show (match onesD d [(false, N, l)] with | none => _ | some x => _) = _
    unfold onesD
    cases oneD d (false, N, l) with
    | none => rfl
    | some x => rfl)
  have HONE := hide hone
  clear hkd hr5 hB5 HDV hone
  obtain ⟨w7, ew7⟩ : ∃ w7, w6.alloc (.cells #[.slice y1 m1 d1, .slice y2 m2 d2, .slice y3 m3 d3] 26) = w7 := ⟨_, rfl⟩
  have hb7 : Below w6.heap.size w6 w7 := by rw [← ew7]; exact (Below.refl _ _).alloc (Nat.le_refl _) _
  have hx7 : w7.heap[w6.heap.size]? = some (.cells #[.slice y1 m1 d1, .slice y2 m2 d2, .slice y3 m3 d3] 26 (0, 0)) := by rw [← ew7]; exact heap_alloc_new _ _
  have hB7 := hB6.trans (hb7.mono hB6.size)
  have hr7 := keeps_block _ _ _ _ hr6 hb7
  rcases HONE.out with ⟨ho, hr⟩ | ⟨d', ho, hr, hdv⟩
  · subst hr
    have HE := hide (show doD d [(false, N, l)] 1 = (dz, 9) by rw [HDO.out, ho])
    clear ho hx7 hb7 hr6 HONE
    obtain ⟨ws, ews, hws, hgs⟩ := stored3 (.slice none 0 0) (.slice none 0 0) (.slice none 0 0) hr7
    obtain ⟨z1, z2, z3, z4⟩ := cells3 hr7
    obtain ⟨q1, q2, q3, q4⟩ := cells3 hws
    have hbs := hB7.grown hgs hB7.size (fun k hk => by cases hk; simp)
    clear hws hgs
    go_wp2
    refine bodyPost_ret (v := .tuple #[.agg #[.slice none 0 0, .slice none 0 0, .slice none 0 0], .int .i64 9]) ?_ rfl ?_
    · simp [results, Tryz.results83, go_sem, *]
    · rw [HE.out]; exact ⟨_, rfl, OwD_zero _ _, hbs⟩
  · subst hr
    have HE := hide (show doD d [(false, N, l)] 1 = (d', 0) by rw [HDO.out, ho])
    have HOD := hide (hdv.own.carry hb7)
    obtain ⟨ws, ews, hws, hgs⟩ := stored3 (.slice y1 m1 d1) (.slice y2 m2 d2) (.slice y3 m3 d3) hr7
    obtain ⟨z1, z2, z3, z4⟩ := cells3 hr7
    obtain ⟨l1, l2, l3, l4⟩ := cells3 hx7
    obtain ⟨q1, q2, q3, q4⟩ := cells3 hws
    have hbs := hB7.grown hgs hB7.size (fun k hk => by cases hk; simp)
    have HOW := hide (HOD.out.keptT3 hgs hr7)
    clear hws hgs hdv ho hb7 hr6 HONE
    go_wp2
    refine bodyPost_ret (v := .tuple #[.agg #[.slice y1 m1 d1, .slice y2 m2 d2, .slice y3 m3 d3], .int .i64 0]) ?_ rfl ?_
    · simp [results, Tryz.results83, go_sem, *]
    · rw [HE.out]; exact ⟨_, rfl, HOW.out, hbs⟩

end Go.Proofs.YtlibnefibeikcaaGreat
namespace Go.Proofs.YtlibnefibeikcaaGreat
open Go.RowKit
set_option linter.unusedVariables false
set_option linter.unusedSimpArgs false

theorem twin_fit {f : Fsd} (h : okFs f) : ((f.1.1.length ≤ 140737488355328 ∧ f.1.2.1.length ≤ 1000000 ∧ f.1.2.2.length ≤ 1000000) ∧ f.2.2.1.length ≤ 1000 ∧ (∀ g ∈ f.2.2.1, g.2.length ≤ 1000000) ∧ f.2.2.2.length ≤ 1000 ∧ ∀ g ∈ f.2.2.2, g.2.length ≤ 1000000) ∧ ((∀ p ∈ f.1.2.1, p.2.length ≤ 140737488355328) ∧ ∀ p ∈ f.1.2.2, p.2.2.length ≤ 140737488355328) := by
  obtain ⟨h1, h2, h3, h4, h5, h6, h7⟩ := (okD_iff f.1).1 (okFs_disk h).1
  have hl := okD_len (okFs_disk h).1
  obtain ⟨s1, s2⟩ := small_ok (fsE_of h)
  unfold smallD at s1 s2
  refine ⟨⟨⟨by omega, by omega, by omega⟩, by have := s1.1; omega, fun g hg => by have := s1.2 g hg; omega, by have := s2.1; omega, fun g hg => by have := s2.2 g hg; omega⟩, fun p hp => by have := (putE_ok (h6 p hp)).2.2; omega, fun a ha => ?_⟩
  have := h7 a ha
  unfold actE at this
  split at this
  · split at this
    · cases this
    · rename_i h8
      have h9 : a.2.2 = [] := by
        by_cases e : a.2.2 = []
        · exact e
        · exact absurd (.inr e) h8
      rw [h9]; simp
  · have := (putE_ok this).2.2; omega
theorem FsAt.done {w : World} {p : Nat} {y : FsV} (h : FsAt w p y) (a : Option Addr) (n c : Nat) : FsAt (w.setCell ⟨p, 2, none⟩ (.slice a n c)) p { y with a3 := a, n3 := n, c3 := c } := by
  have := Bq.put h 2 (.slice a n c)
  exact this
def set3 (w : World) (p : Nat) (a1 : Option Addr) (n1 c1 : Nat) (a2 : Option Addr) (n2 c2 : Nat) (a3 : Option Addr) (n3 c3 : Nat) : World := ((w.setCell ⟨p, 0, none⟩ (.slice a1 n1 c1)).setCell ⟨p, 1, none⟩ (.slice a2 n2 c2)).setCell ⟨p, 2, none⟩ (.slice a3 n3 c3)
theorem FsAt.disk {w : World} {p : Nat} {y : FsV} (h : FsAt w p y) (a1 : Option Addr) (n1 c1 : Nat) (a2 : Option Addr) (n2 c2 : Nat) (a3 : Option Addr) (n3 c3 : Nat) : FsAt (set3 w p a1 n1 c1 a2 n2 c2 a3 n3 c3) p { y with a1 := a1, n1 := n1, c1 := c1, a2 := a2, n2 := n2, c2 := c2, a3 := a3, n3 := n3, c3 := c3 } := by
  have := ((Bq.put h 0 (.slice a1 n1 c1)).put 1 (.slice a2 n2 c2)).put 2 (.slice a3 n3 c3)
  exact this
theorem grown_set3 (w : World) (p : Nat) (a1 : Option Addr) (n1 c1 : Nat) (a2 : Option Addr) (n2 c2 : Nat) (a3 : Option Addr) (n3 c3 : Nat) : w.grownBy (set3 w p a1 n1 c1 a2 n2 c2 a3 n3 c3) (some p) := grown_set (grown_set (grown_setCellE w ⟨p, 0, none⟩ _) 1 _) 2 _
theorem OwFs.parts6 {w : World} {base : Nat} {y : FsV} {f : Fsd} (h : OwFs w base y.val f) : y.g = f.2.1 ∧ OwD w base (.agg #[.slice y.a1 y.n1 y.c1, .slice y.a2 y.n2 y.c2, .slice y.a3 y.n3 y.c3]) f.1 ∧ OwF w base (.slice y.a4 y.n4 y.c4) f.2.2.1 ∧ OwF w base (.slice y.a5 y.n5 y.c5) f.2.2.2 := by
  obtain ⟨d1, d2, d3, a, b, e, h1, h2, h3⟩ := h
  unfold FsV.val at e
  simp only [Value.agg.injEq, Array.mk.injEq, List.cons.injEq, and_true, Value.int.injEq, true_and] at e
  obtain ⟨rfl, rfl, rfl, e4, rfl, rfl⟩ := e
  exact ⟨by omega, h1, h2, h3⟩
theorem dk_cells6 {w : World} {p : Nat} {a b c : Value} (h : Bq w p 26 #[a, b, c]) : w.cell? ⟨p, 0, none⟩ = some a ∧ w.cell? ⟨p, 1, none⟩ = some b ∧ w.cell? ⟨p, 2, none⟩ = some c := ⟨h.cell 0, h.cell 1, h.cell 2⟩

end Go.Proofs.YtlibnefibeikcaaGreat
namespace Go.Proofs.YtlibnefibeikcaaGreat
open Go.RowKit
set_option linter.unusedVariables false
set_option linter.unusedSimpArgs false

def Got (w : World) (z : FsV) (X : Fsd) (y : FsV) (F : Fsd) : Prop := (y = z ∧ F = X) ∨ RdT w y F
theorem Got.kt {w w' : World} {z : FsV} {X : Fsd} {y : FsV} {F : Fsd} (h : Got w z X y F) (hk : Kt w w') : Got w' z X y F := by
  rcases h with h | h
  · exact .inl h
  · exact .inr (h.kt hk)
theorem Got.carry {w w' : World} {z : FsV} {X : Fsd} {y : FsV} {F : Fsd} (h : Got w z X y F) (hb : Below w.heap.size w w') : Got w' z X y F := h.kt (Kt.below hb)
theorem Got.rd {w : World} {z : FsV} {X : Fsd} {y : FsV} {F : Fsd} (h : Got w z X y F) (hz : RdT w z X) : RdT w y F := by
  rcases h with ⟨rfl, rfl⟩ | h
  · exact hz
  · exact h
theorem FsB.kt {w : World} {q : Nat} (h : FsB w q) {w' : World} (hg : w.grownBy w' (some q)) : Kt w w' := by
  obtain ⟨v0, v1, v2, v3, v4, v5, hq⟩ := h
  exact Kt.grown hg hq (.inl rfl)
theorem RdA.take {w : World} {a : Option Addr} {n c : Nat} {l : List Ac} (h : RdA w (.slice a n c) l) (j : Nat) (hj : j ≤ l.length) : RdA w (.slice a j c) (l.take j) := by
  rcases h with ⟨rfl, h⟩ | ⟨b, off, c', e, h1, h2, h3⟩
  · have hj : j = 0 := by simpa using hj
    subst hj
    rcases h with h | ⟨a', c2, h⟩
    · cases h; exact .inl ⟨by simp, .inl rfl⟩
    · cases h; exact .inl ⟨by simp, .inr ⟨_, _, rfl⟩⟩
  · cases e
    have e : (l.take j).length = j := by rw [List.length_take]; omega
    refine .inr ⟨b, off, c, by rw [e], by rw [e]; omega, h2, fun i hi => ?_⟩
    rw [e] at hi
    have := h3 i (by omega)
    rw [List.getElem_take]
    exact this
theorem RdA.cap {w : World} {a : Option Addr} {n c : Nat} {l : List Ac} (h : RdA w (.slice a n c) l) : n ≤ c := by
  rcases h with ⟨rfl, h⟩ | ⟨b, off, c', e, h1, h2, h3⟩
  · rcases h with h | ⟨a', c2, h⟩ <;> cases h <;> exact Nat.zero_le _
  · cases e; exact h1
theorem DirsT.at {w : World} {base : Nat} {a : Option Addr} {n c : Nat} {L : List (List Fl)} (h : DirsT w base (.slice a n c) L) (j : Nat) (D : List Fl) (hD : L[j]? = some D) : ∃ g, a = some ⟨g, 0, none⟩ ∧ j < n ∧ ∃ a2 c2, w.cell? ⟨g, j, none⟩ = some (.slice a2 D.length c2) ∧ RdF w (.slice a2 D.length c2) D := by
  obtain ⟨ps, h1, h2, h3⟩ := h
  obtain ⟨hj, -⟩ := List.getElem?_eq_some_iff.1 hD
  rcases h2.2 with ⟨e, h4⟩ | ⟨g, cap, cur, e, e1, e2, e3, e4, e5, e6⟩
  · omega
  · cases e
    obtain ⟨u, hu⟩ : ∃ u, ps[j]? = some u := ⟨_, List.getElem?_eq_getElem (by omega)⟩
    obtain ⟨a2, c2, e7, h5⟩ := h3 j u D hu hD
    refine ⟨g, rfl, hj, a2, c2, ?_, ?_⟩
    · have := h2.cells (g := g) rfl j u hu
      rw [← e7]
      simpa [Addr.add_lit] using this
    · rw [← e7]; exact h5 w (Kt.refl w)
end Go.Proofs.YtlibnefibeikcaaGreat

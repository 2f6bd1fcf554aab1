/-
  What the statement MountKept answers.
-/
import Derived.Test.YtnigdbhjaoeblaaGreatMathMt4
import Derived.Test.YtnigdbhjaoeblaaGreatRegP
import Derived.Test.YtnigdbhjaoeblaaGreatBase
namespace Go.Proofs.YtnigdbhjaoeblaaGreat
open Go.RowKit
set_option linter.unusedVariables false
set_option linter.unusedSimpArgs false

theorem wrapK {k q n1 c1 : Nat} (h : n1 = 128 * q) (hk : k < q) (hc : n1 ≤ c1) (hq : q ≤ 4096) : IntKind.i64.wrap (128 * (k : Int)) = 128 * (k : Int) ∧ IntKind.i64.wrap (128 * (k : Int) + 128) = 128 * (k : Int) + 128 ∧ 128 * (k : Int) + 128 ≤ (c1 : Int) ∧ 128 * (k : Int) ≤ max (128 * (k : Int) + 128) 0 ∧ 0 ≤ 128 * (k : Int) ∧ 0 ≤ 128 * (k : Int) + 128 ∧ (128 * (k : Int)).toNat = 128 * k ∧ (128 * (k : Int) + 128).toNat = 128 * k + 128 := by
  refine ⟨by rw [IntKind.wrap_i64]; omega, by rw [IntKind.wrap_i64]; omega, by omega, by omega, by omega, by omega, by omega, by omega⟩
theorem file_chk {f : Fsd} (h : okFs f) {g : Fl} (hg : g ∈ f.2.2.1) : chkX g.2 = 0 ∧ blocksR g.2 = blocksX g.2 := by
  obtain ⟨h1, h2, h3, h4, h5⟩ := file_in h hg
  have e : chkX g.2 = 0 := by
    unfold bloE at h3
    rw [if_neg (by rw [h1]; decide), h2] at h3
    exact h3
  exact ⟨e, by unfold blocksR; rw [if_pos e]⟩

set_option maxHeartbeats 16000000 in
set_option maxRecDepth 100000 in
theorem mountKept_any (x : FsV) (f : Fsd) (ka : Option Addr) (kn kc : Nat) (K : List Bool) (w : World) (h : RdX w x f) (hw : WfX f) (hs : (∀ g ∈ f.2.2.1, g.2.length ≤ 140737488355328) ∧ ∀ g ∈ f.2.2.2, g.2.length ≤ 140737488355328) (hK : RdK w (.slice ka kn kc) K) (hkn : kn = K.length) :
    Calls Tryz.prog 9 #[x.val, .slice ka kn kc] w fun e w' => e = .returned (.bool true) ∧ Below w.heap.size w w' := by
  have HX := hide h
  have HW := hide hw
  have HSZ := hide hs
  have HKR := hide hK
  have HKN := hide hkn
  clear h hw hs hK hkn
  obtain ⟨w1, ew⟩ : ∃ w1, w.alloc (.cells x.cs 33) = w1 := ⟨_, rfl⟩
  have hb1 : Below w.heap.size w w1 := by rw [← ew]; exact (Below.refl _ _).alloc (Nat.le_refl _) _
  have HFf_w1 := hide (show FsAt w1 w.heap.size x by rw [← ew]; exact Bq.new _ _ _)
  have HB_w1 := hide hb1
  clear hb1
  unfold FsV.val
  unfold FsV.cs at ew
  go_enter Tryz.func9, Tryz.ntmps9
  have hcon := alive7_any w1
  go_wp2_with fail
  try rw [ew]
  refine hcon.mono ?_
  rintro e w2 ⟨rfl, hbb⟩
  have HFf_w2 := hide (HFf_w1.out.carry hbb)
  have HB_w2 := hide (show Below w.heap.size w w2 from HB_w1.out.trans (hbb.mono HB_w1.out.size))
  clear hcon hbb
  try clear ew
  obtain ⟨kf0, kf1, kf2, kf3, kf4, kf5⟩ := fs_cells HFf_w2.out
  have hcon := great6_any x f w2 (HX.out.carry HB_w2.out) ⟨fun g hg => by have := HSZ.out.1 g hg; omega, fun g hg => by have := HSZ.out.2 g hg; omega⟩
  go_wp2_with fail
  refine hcon.mono ?_
  rintro e w3 ⟨r, rfl, -, hbb⟩
  have HFf_w3 := hide (HFf_w2.out.carry hbb)
  have HB_w3 := hide (show Below w.heap.size w w3 from HB_w2.out.trans (hbb.mono HB_w2.out.size))
  clear hcon hbb kf0 kf1 kf2 kf3 kf4 kf5
  cases r with
  | true =>
    go_wp2
    go_ret
    exact ⟨rfl, HB_w3.out⟩
  | false =>
  obtain ⟨kf0, kf1, kf2, kf3, kf4, kf5⟩ := fs_cells HFf_w3.out
  by_cases g1 : 10000 < x.n1
  · have g1' : (10000 : Int) < x.n1 := by omega
    go_wp2
    go_ret
    exact ⟨rfl, HB_w3.out⟩
  have g1' : decide ((10000 : Int) < x.n1) = false := decide_eq_false (by omega)
  clear g1
  by_cases g2 : 1000 < kn
  · have g2' : (1000 : Int) < kn := by omega
    go_wp2
    go_ret
    exact ⟨rfl, HB_w3.out⟩
  have g2' : decide ((1000 : Int) < kn) = false := decide_eq_false (by omega)
  clear g2
  have hcon := check_fs x f w3 (HX.out.carry HB_w3.out) HW.out
  go_wp2_with fail
  refine hcon.mono ?_
  rintro e w4 ⟨rfl, hbb⟩
  have HFf_w4 := hide (HFf_w3.out.carry hbb)
  have HB_w4 := hide (show Below w.heap.size w w4 from HB_w3.out.trans (hbb.mono HB_w3.out.size))
  clear hcon hbb kf0 kf1 kf2 kf3 kf4 kf5 g1' g2'
  rcases (fsE_cases f).symm with ⟨_, g2⟩ | ⟨hok, g2⟩
  · rw [g2]
    clear g2
    go_wp2
    go_ret
    exact ⟨rfl, HB_w4.out⟩
  have HOK := hide hok
  have HKO := hide (kept_open K hok)
  have HCR := hide (show crashD f.1 K = (downD f.1 K, 0) by unfold crashD; rw [if_neg (by rw [chk_ok (okFs_disk hok).1]; decide)])
  rw [g2]
  clear g2 hok
  obtain ⟨kf0, kf1, kf2, kf3, kf4, kf5⟩ := fs_cells HFf_w4.out
  have hcon := crash_any (d := f.1) K ka kn kc w4 (HX.out.d.carry HB_w4.out) (HKR.out.carry HB_w4.out) HKN.out
  rw [HCR.out] at hcon
  go_wp2_with fail
  refine hcon.mono ?_
  rintro e w5 ⟨v9, rfl, ho, hbb⟩
  have HFf_w5 := hide (HFf_w4.out.carry hbb)
  have HB_w5 := hide (show Below w.heap.size w w5 from HB_w4.out.trans (hbb.mono HB_w4.out.size))
  clear hcon hbb kf0 kf1 kf2 kf3 kf4 kf5
  obtain ⟨dd, hdd⟩ : ∃ d : Dk, d = downD f.1 K := ⟨_, rfl⟩
  have HDD := hide hdd
  have ho9 : OwD w5 w4.heap.size v9 dd := by rw [hdd]; exact ho
  clear ho
  have ho := ho9
  rw [← hdd] at HKO
  clear ho9
  clear hdd
  obtain ⟨ad1, cd1, ad2, cd2, ad3, cd3, e9⟩ := ho.form
  subst e9
  have hrd9 := ho.rd
  clear ho
  generalize (dd).1.length = nd1 at *
  generalize (dd).2.1.length = nd2 at *
  generalize (dd).2.2.length = nd3 at *
  obtain ⟨w6, ew6⟩ : ∃ wq, w5.alloc (.cells #[.slice ad1 nd1 cd1, .slice ad2 nd2 cd2, .slice ad3 nd3 cd3] 27) = wq := ⟨_, rfl⟩
  have hbn : Below w5.heap.size w5 w6 := by rw [← ew6]; exact (Below.refl _ _).alloc (Nat.le_refl _) _
  have HFf_w6 := hide (HFf_w5.out.carry hbn)
  have HB_w6 := hide (show Below w.heap.size w w6 from HB_w5.out.trans (hbn.mono HB_w5.out.size))
  have HQd_w6 := hide (show Bq w6 w5.heap.size 27 #[.slice ad1 nd1 cd1, .slice ad2 nd2 cd2, .slice ad3 nd3 cd3] by rw [← ew6]; exact Bq.new _ _ _)
  have HPd_w6 := hide (hrd9.carry hbn)
  clear hrd9 hbn
  obtain ⟨kd0, kd1, kd2⟩ := dk_cells HQd_w6.out
  have hcon := open_any (d := dd) w6 HPd_w6.out
  rw [HKO.out.2] at hcon
  go_wp2_with fail
  try rw [ew6]
  refine hcon.mono ?_
  rintro e w7 ⟨v9, rfl, ho, hbb⟩
  have HFf_w7 := hide (HFf_w6.out.carry hbb)
  have HQd_w7 := hide (HQd_w6.out.carry hbb)
  have HPd_w7 := hide (HPd_w6.out.carry hbb)
  have HB_w7 := hide (show Below w.heap.size w w7 from HB_w6.out.trans (hbb.mono HB_w6.out.size))
  clear hcon hbb kd0 kd1 kd2
  try clear ew6
  clear HQd_w7
  clear HPd_w7
  obtain ⟨xo, e9, hx9, ho9⟩ := ho.bx
  subst e9
  obtain ⟨w8, ew8⟩ : ∃ wq, w7.alloc (.cells xo.cs 33) = wq := ⟨_, rfl⟩
  have hbn : Below w7.heap.size w7 w8 := by rw [← ew8]; exact (Below.refl _ _).alloc (Nat.le_refl _) _
  have HFf_w8 := hide (HFf_w7.out.carry hbn)
  have HB_w8 := hide (show Below w.heap.size w w8 from HB_w7.out.trans (hbn.mono HB_w7.out.size))
  have HFo_w8 := hide (show FsAt w8 w7.heap.size xo by rw [← ew8]; exact Bq.new _ _ _)
  have HRo_w8 := hide (hx9.carry hbn)
  unfold FsV.cs at ew8
  unfold FsV.val
  clear ho hx9 ho9 hbn
  obtain ⟨ko0, ko1, ko2, ko3, ko4, ko5⟩ := fs_cells HFo_w8.out
  have hcon := check_fs xo (dd, f.2.1, f.2.2.2, f.2.2.2) w8 HRo_w8.out (wf_ok HKO.out.1)
  rw [fsE_of HKO.out.1] at hcon
  go_wp2_with fail
  try rw [ew8]
  refine hcon.mono ?_
  rintro e w9 ⟨rfl, hbb⟩
  have HFf_w9 := hide (HFf_w8.out.carry hbb)
  have HFo_w9 := hide (HFo_w8.out.carry hbb)
  have HRo_w9 := hide (HRo_w8.out.carry hbb)
  have HB_w9 := hide (show Below w.heap.size w w9 from HB_w8.out.trans (hbb.mono HB_w8.out.size))
  clear hcon hbb ko0 ko1 ko2 ko3 ko4 ko5
  try clear ew8
  have hgg : ((xo.g : Nat) : Int) = x.g := by have h1 : xo.g = _ := HRo_w9.out.g; have h2 : x.g = _ := HX.out.g; simp only at h1; omega
  obtain ⟨ko0, ko1, ko2, ko3, ko4, ko5⟩ := fs_cells HFo_w9.out
  obtain ⟨kf0, kf1, kf2, kf3, kf4, kf5⟩ := fs_cells HFf_w9.out
  have hcon := same_ref _ _ _ f.2.2.2 _ _ _ f.2.2.2 w9 HRo_w9.out.fl HRo_w9.out.n4 (HX.out.kl.carry HB_w9.out) HX.out.n5
  rw [decide_eq_true rfl] at hcon
  go_wp2_with fail
  refine hcon.mono ?_
  rintro e w10 ⟨rfl, hbb⟩
  have HFf_w10 := hide (HFf_w9.out.carry hbb)
  have HFo_w10 := hide (HFo_w9.out.carry hbb)
  have HRo_w10 := hide (HRo_w9.out.carry hbb)
  have HB_w10 := hide (show Below w.heap.size w w10 from HB_w9.out.trans (hbb.mono HB_w9.out.size))
  clear hcon hbb ko0 ko1 ko2 ko3 ko4 ko5 kf0 kf1 kf2 kf3 kf4 kf5 hgg
  obtain ⟨ko0, ko1, ko2, ko3, ko4, ko5⟩ := fs_cells HFo_w10.out
  obtain ⟨kf0, kf1, kf2, kf3, kf4, kf5⟩ := fs_cells HFf_w10.out
  have hcon := same_ref _ _ _ f.2.2.2 _ _ _ f.2.2.2 w10 HRo_w10.out.kl HRo_w10.out.n5 (HX.out.kl.carry HB_w10.out) HX.out.n5
  rw [decide_eq_true rfl] at hcon
  go_wp2_with fail
  refine hcon.mono ?_
  rintro e w11 ⟨rfl, hbb⟩
  have HFf_w11 := hide (HFf_w10.out.carry hbb)
  have HFo_w11 := hide (HFo_w10.out.carry hbb)
  have HRo_w11 := hide (HRo_w10.out.carry hbb)
  have HB_w11 := hide (show Below w.heap.size w w11 from HB_w10.out.trans (hbb.mono HB_w10.out.size))
  clear hcon hbb ko0 ko1 ko2 ko3 ko4 ko5 kf0 kf1 kf2 kf3 kf4 kf5
  obtain ⟨ko0, ko1, ko2, ko3, ko4, ko5⟩ := fs_cells HFo_w11.out
  have HN4 := hide (show xo.n4 = f.2.2.2.length from HRo_w11.out.n4)
  have hm4 : xo.n4 ≤ 1000 := by rw [HN4.out]; have := (chkF_may (kept_chk HOK.out)).2.1; omega
  have HLEN := hide (show x.n1 = 128 * mny f.1 ∧ mny f.1 ≤ 4096 from ⟨HX.out.n1.trans (okD_len (okFs_disk HOK.out).1), ((okD_iff f.1).1 (okFs_disk HOK.out).1).2.2.1⟩)
  have HN2 := hide (show x.n2 = f.1.2.1.length ∧ x.n2 ≤ 65536 from ⟨HX.out.n2, by rw [HX.out.n2]; exact ((okD_iff f.1).1 (okFs_disk HOK.out).1).2.2.2.1⟩)
  have HA1 := hide (rd_some6 (HX.out.d.d1) (by intro e; have h1 := okD_len (okFs_disk HOK.out).1; have h2 := (okFs_disk HOK.out).2.1; rw [e] at h1; simp at h1; omega))
  obtain ⟨b9, o9, ea, hnc⟩ := HA1.out
  have HEA := hide ea
  have HNC := hide hnc
  clear ea hnc HA1
  go_wp2_with fail
  clear ko0 ko1 ko2 ko3 ko4 ko5
  go_loopw [10] (fun i wr => ∃ k : Nat, k ≤ xo.n4 ∧ i = .int .i64 k ∧ Hid (Below w11.heap.size w11 wr)) (fun i _ => xo.n4 - (intOf i).toNat)
  case atStart => exact ⟨0, Nat.zero_le _, rfl, hide (Below.refl _ _)⟩
  case round =>
    obtain ⟨k, hk, rfl, hbel⟩ := hrel
    obtain ⟨wr1, hwq⟩ : ∃ x, x = wr := ⟨_, rfl⟩
    subst hwq
    have HB_wr := hide (show Below w.heap.size w wr1 from HB_w11.out.trans (hbel.out.mono HB_w11.out.size))
    have HFf_wr := hide (HFf_w11.out.carry hbel.out)
    have HFo_wr := hide (HFo_w11.out.carry hbel.out)
    have HRo_wr := hide (HRo_w11.out.carry hbel.out)
    obtain ⟨ko0, ko1, ko2, ko3, ko4, ko5⟩ := fs_cells HFo_wr.out
    by_cases hlt : k < xo.n4
    · have hlt' : (k : Int) < xo.n4 := by omega
      have hkl : k < f.2.2.2.length := by have := HN4.out; omega
      obtain ⟨fb, fo, a9, c9, ea, q0, q1, q2⟩ := (show RdF wr1 (.slice xo.a4 xo.n4 xo.c4) f.2.2.2 from HRo_wr.out.fl).at k hkl
      have HFI := hide (file_in (f := (dd, f.2.1, f.2.2.2, f.2.2.2)) HKO.out.1 (List.getElem_mem hkl))
      have HFC := hide (file_chk (f := (dd, f.2.1, f.2.2.2, f.2.2.2)) HKO.out.1 (List.getElem_mem hkl))
      have HWX := hide (fun x hx => (wf_ok HKO.out.1).kl _ (List.getElem_mem hkl) x hx)
      obtain ⟨g, hg⟩ : ∃ g, g = (f.2.2.2)[k] := ⟨_, rfl⟩
      rw [← hg] at q0 q1 q2 HFI HFC HWX
      obtain ⟨s, ex⟩ := g
      simp only at q0 q1 q2 HFI HFC HWX
      obtain ⟨m9, hm9⟩ : ∃ m, m = ex.length := ⟨_, rfl⟩
      rw [← hm9] at q1 q2
      have HM9 := hide hm9
      have HRE := hide q2
      have HQ0_wr := hide (show CellAt wr1 fb (fo + k * 2) (.string (bs s)) from q0)
      have HEO := hide ea
      clear hg q2 hm9
      rw [ea] at ko4
      have hcon := blocks_ext a9 m9 c9 ex wr1 HRE.out HM9.out HWX.out
      rw [HFC.out.1, HFC.out.2] at hcon
      go_wp2_with fail
      refine hcon.mono ?_
      rintro e w41 ⟨v9, rfl, ho, hbb⟩
      have HBC1 := hide hbb
      have HFf_w41 := hide (HFf_wr.out.carry hbb)
      have HFo_w41 := hide (HFo_wr.out.carry hbb)
      have HRo_w41 := hide (HRo_wr.out.carry hbb)
      have HQ0_w41 := hide (HQ0_wr.out.carry hbb)
      have HB_w41 := hide (show Below w.heap.size w w41 from HB_wr.out.trans (hbb.mono HB_wr.out.size))
      clear hcon hbb ko0 ko1 ko2 ko3 ko4 ko5 q0 q1 ea
      obtain ⟨lm, hlm⟩ : ∃ m, m = (blocksX ex).length := ⟨_, rfl⟩
      obtain ⟨la, lc, e9⟩ : ∃ a c, v9 = .slice a lm c := by rw [hlm]; exact ho.rd6.form
      subst e9
      have HI := hide ho.rd6
      have HLM := hide hlm
      have hlm2 : lm ≤ 20000000 := by rw [hlm, ← HFI.out.2.2.2.1]; exact bloL_len HFI.out.2.2.2.2
      clear ho hlm
      go_wp2_with fail
      go_loopw [13] (fun i wr2 => ∃ k2 : Nat, k2 ≤ lm ∧ i = .int .i64 k2 ∧ Hid (Below w41.heap.size w41 wr2)) (fun i _ => lm - (intOf i).toNat)
      case atStart => exact ⟨0, Nat.zero_le _, rfl, hide (Below.refl _ _)⟩
      case round =>
        obtain ⟨k2, hk2, rfl, hbel2⟩ := hrel
        obtain ⟨wr2, hwq⟩ : ∃ x, x = wr := ⟨_, rfl⟩
        subst hwq
        have HB_wt := hide (show Below w.heap.size w wr2 from HB_w41.out.trans (hbel2.out.mono HB_w41.out.size))
        have HFf_wt := hide (HFf_w41.out.carry hbel2.out)
        have HFo_wt := hide (HFo_w41.out.carry hbel2.out)
        have HRo_wt := hide (HRo_w41.out.carry hbel2.out)
        have HQ0_wt := hide (HQ0_w41.out.carry hbel2.out)
        by_cases hl2 : k2 < lm
        · have hl2' : (k2 : Int) < lm := by omega
          have hkb : k2 < (blocksX ex).length := by have := HLM.out; omega
          obtain ⟨lb, lo, el, qn⟩ := (HI.out.carry hbel2.out).at6 k2 hkb
          subst el
          have hbk : k2 < (bloL (dd, f.2.1, f.2.2.2, f.2.2.2) s).length := by rw [HFI.out.2.2.2.1]; exact hkb
          have HGE := hide (get_ok (f := (dd, f.2.1, f.2.2.2, f.2.2.2)) HFI.out.2.2.2.2 hbk)
          have HRG := hide (blo_rng2 (f := (dd, f.2.1, f.2.2.2, f.2.2.2)) HFI.out.2.2.2.2 _ (List.getElem_mem hbk))
          have hnn : (bloL (dd, f.2.1, f.2.2.2, f.2.2.2) s)[k2] = (blocksX ex)[k2] := by simp only [HFI.out.2.2.2.1]
          rw [hnn] at HGE HRG
          obtain ⟨nn, hn9⟩ : ∃ nn : Nat, (nn : Int) = (blocksX ex)[k2] := ⟨((blocksX ex)[k2]).toNat, by have := HRG.out.1; omega⟩
          rw [← hn9] at qn HGE HRG
          have HQN := hide (show CellAt wr2 lb (lo + k2) (.int .i64 (nn : Int)) from qn)
          clear hnn hn9 hbk qn
          obtain ⟨bb, hbb9⟩ : ∃ b, b = nowD dd nn := ⟨_, rfl⟩
          have HG1 := hide (show getE (dd, f.2.1, f.2.2.2, f.2.2.2) s k2 = 0 ∧ getL (dd, f.2.1, f.2.2.2, f.2.2.2) s k2 = bb from ⟨HGE.out.2.2.1, by rw [HGE.out.2.2.2, hbb9, Int.toNat_natCast]⟩)
          have HBL := hide (show bb.length = 128 by rw [hbb9]; exact now_len (okFs_disk HKO.out.1).1 (by have := HRG.out.2; simp only at this; omega))
          have HALL := hide (show isB f nn bb f.1.2.1.length = true by rw [hbb9, HDD.out]; have := isB_all K HOK.out (n := nn) (by omega); rwa [Int.toNat_natCast] at this)
          have HNM := hide (show nn < mny f.1 by
            have h1 := HRG.out.2
            have h2 : mny dd = mny f.1 := by rw [HDD.out]; unfold mny; rw [(crash_ok K (okFs_disk HOK.out).1).2]
            simp only at h1
            omega)
          clear hbb9 HGE HRG
          obtain ⟨ko0, ko1, ko2, ko3, ko4, ko5⟩ := fs_cells HFo_wt.out
          have q0 : wr2.cell? ⟨fb, fo + k * 2, none⟩ = some (.string (bs s)) := HQ0_wt.out
          have ea := HEO.out
          rw [ea] at ko4
          go_wp2_with fail
          clear ko0 ko1 ko2 ko3 ko4 ko5 q0 ea
          have hK : Keeps (fun wx => Below wr2.heap.size wr2 wx) := fun w1 w2 h hb => h.trans (hb.mono h.size)
          refine reg_begin hK (by kernel_rfl) (Below.refl _ _) ?_
          intro hS
          generalize wr2.drew = wdd at *
          refine reg_take (i := 0) (v := ?qgv0) rfl (by kernel_rfl) (by kernel_rfl) (by kernel_rfl) (by kernel_rfl) ?qgy0 hS ?qgr0
          case qgy0 => (rintro wx hx; (obtain ⟨ko0, ko1, ko2, ko3, ko4, ko5⟩ := fs_cells (HFo_wt.out.carry hx)); have q0 : wx.cell? ⟨fb, fo + k * 2, none⟩ = some (.string (bs s)) := HQ0_wt.out.carry hx; have ea := HEO.out; rw [ea] at ko4; clear ea hx; go_simp; all_goals (with_reducible rfl))
          try simp only [Act.put, List.setIfInBounds_toArray, List.set_cons_zero, List.set_cons_succ]
          refine reg_take (i := 1) (v := ?qgv1) rfl (by kernel_rfl) (by kernel_rfl) (by kernel_rfl) (by kernel_rfl) ?qgy1 hS ?qgr1
          case qgy1 => (rintro wx hx; (obtain ⟨ko0, ko1, ko2, ko3, ko4, ko5⟩ := fs_cells (HFo_wt.out.carry hx)); have q0 : wx.cell? ⟨fb, fo + k * 2, none⟩ = some (.string (bs s)) := HQ0_wt.out.carry hx; have ea := HEO.out; rw [ea] at ko4; clear ea hx; go_simp; all_goals (with_reducible rfl))
          try simp only [Act.put, List.setIfInBounds_toArray, List.set_cons_zero, List.set_cons_succ]
          refine reg_take (i := 2) (v := ?qgv2) rfl (by kernel_rfl) (by kernel_rfl) (by kernel_rfl) (by kernel_rfl) ?qgy2 hS ?qgr2
          case qgy2 => (rintro wx hx; (obtain ⟨ko0, ko1, ko2, ko3, ko4, ko5⟩ := fs_cells (HFo_wt.out.carry hx)); have q0 : wx.cell? ⟨fb, fo + k * 2, none⟩ = some (.string (bs s)) := HQ0_wt.out.carry hx; have ea := HEO.out; rw [ea] at ko4; clear ea hx; go_simp; all_goals (with_reducible rfl))
          try simp only [Act.put, List.setIfInBounds_toArray, List.set_cons_zero, List.set_cons_succ]
          refine reg_take (i := 3) (v := ?qgv3) rfl (by kernel_rfl) (by kernel_rfl) (by kernel_rfl) (by kernel_rfl) ?qgy3 hS ?qgr3
          case qgy3 => (rintro wx hx; (obtain ⟨ko0, ko1, ko2, ko3, ko4, ko5⟩ := fs_cells (HFo_wt.out.carry hx)); have q0 : wx.cell? ⟨fb, fo + k * 2, none⟩ = some (.string (bs s)) := HQ0_wt.out.carry hx; have ea := HEO.out; rw [ea] at ko4; clear ea hx; go_simp; all_goals (with_reducible rfl))
          try simp only [Act.put, List.setIfInBounds_toArray, List.set_cons_zero, List.set_cons_succ]
          refine reg_take (i := 4) (v := ?qgv4) rfl (by kernel_rfl) (by kernel_rfl) (by kernel_rfl) (by kernel_rfl) ?qgy4 hS ?qgr4
          case qgy4 => (rintro wx hx; (obtain ⟨ko0, ko1, ko2, ko3, ko4, ko5⟩ := fs_cells (HFo_wt.out.carry hx)); have q0 : wx.cell? ⟨fb, fo + k * 2, none⟩ = some (.string (bs s)) := HQ0_wt.out.carry hx; have ea := HEO.out; rw [ea] at ko4; clear ea hx; go_simp; all_goals (with_reducible rfl))
          try simp only [Act.put, List.setIfInBounds_toArray, List.set_cons_zero, List.set_cons_succ]
          refine reg_take (i := 5) (v := ?qgv5) rfl (by kernel_rfl) (by kernel_rfl) (by kernel_rfl) (by kernel_rfl) ?qgy5 hS ?qgr5
          case qgy5 => (rintro wx hx; (obtain ⟨ko0, ko1, ko2, ko3, ko4, ko5⟩ := fs_cells (HFo_wt.out.carry hx)); have q0 : wx.cell? ⟨fb, fo + k * 2, none⟩ = some (.string (bs s)) := HQ0_wt.out.carry hx; have ea := HEO.out; rw [ea] at ko4; clear ea hx; go_simp; all_goals (with_reducible rfl))
          try simp only [Act.put, List.setIfInBounds_toArray, List.set_cons_zero, List.set_cons_succ]
          refine reg_take (i := 6) (v := ?qgv6) rfl (by kernel_rfl) (by kernel_rfl) (by kernel_rfl) (by kernel_rfl) ?qgy6 hS ?qgr6
          case qgy6 => (rintro wx hx; (obtain ⟨ko0, ko1, ko2, ko3, ko4, ko5⟩ := fs_cells (HFo_wt.out.carry hx)); have q0 : wx.cell? ⟨fb, fo + k * 2, none⟩ = some (.string (bs s)) := HQ0_wt.out.carry hx; have ea := HEO.out; rw [ea] at ko4; clear ea hx; go_simp; all_goals (with_reducible rfl))
          try simp only [Act.put, List.setIfInBounds_toArray, List.set_cons_zero, List.set_cons_succ]
          refine reg_take (i := 7) (v := ?qgv7) rfl (by kernel_rfl) (by kernel_rfl) (by kernel_rfl) (by kernel_rfl) ?qgy7 hS ?qgr7
          case qgy7 => (rintro wx hx; (obtain ⟨ko0, ko1, ko2, ko3, ko4, ko5⟩ := fs_cells (HFo_wt.out.carry hx)); have q0 : wx.cell? ⟨fb, fo + k * 2, none⟩ = some (.string (bs s)) := HQ0_wt.out.carry hx; have ea := HEO.out; rw [ea] at ko4; clear ea hx; go_simp; all_goals (with_reducible rfl))
          try simp only [Act.put, List.setIfInBounds_toArray, List.set_cons_zero, List.set_cons_succ]
          refine reg_take (i := 8) (v := ?qgv8) rfl (by kernel_rfl) (by kernel_rfl) (by kernel_rfl) (by kernel_rfl) ?qgy8 hS ?qgr8
          case qgy8 => (rintro wx hx; (obtain ⟨ko0, ko1, ko2, ko3, ko4, ko5⟩ := fs_cells (HFo_wt.out.carry hx)); have q0 : wx.cell? ⟨fb, fo + k * 2, none⟩ = some (.string (bs s)) := HQ0_wt.out.carry hx; have ea := HEO.out; rw [ea] at ko4; clear ea hx; go_simp; all_goals (with_reducible rfl))
          try simp only [Act.put, List.setIfInBounds_toArray, List.set_cons_zero, List.set_cons_succ]
          refine reg_callg (i := 9) (R := fun v wx => ∃ a c, v = .tuple #[.slice a 128 c, .int .i64 0] ∧ Rd wx (.slice a 128 c) bb ∧ Below wdd.heap.size wdd wx) rfl (by kernel_rfl) (by kernel_rfl) (by go_simp; first | done | rfl | exact HEO.out.symm) ((get_fs xo (dd, f.2.1, f.2.2.2, f.2.2.2) s k2 wdd (HRo_wt.out.carry hS) (wf_ok HKO.out.1)).mono fun e wx ⟨v, h1, h2, h3⟩ => by
            rw [HG1.out.1] at h1
            rw [HG1.out.2] at h2
            obtain ⟨a, c, ev⟩ := h2.form
            rw [HBL.out] at ev
            subst ev
            exact ⟨_, h1, a, c, rfl, h2.rd, h3⟩) ?_
          rintro v9 wg ⟨ba, bc, rfl, hrb, hbb⟩
          have hSn := hK _ _ hS hbb
          refine ⟨hSn, ?_⟩
          clear hS hbb
          have hS := hSn
          clear hSn
          try simp only [Act.put, List.setIfInBounds_toArray, List.set_cons_zero, List.set_cons_succ]
          refine reg_take (i := 10) (v := ?qgv10) rfl (by kernel_rfl) (by kernel_rfl) (by kernel_rfl) (by kernel_rfl) ?qgy10 hS ?qgr10
          case qgy10 => (rintro wx hx; (obtain ⟨ko0, ko1, ko2, ko3, ko4, ko5⟩ := fs_cells (HFo_wt.out.carry hx)); have q0 : wx.cell? ⟨fb, fo + k * 2, none⟩ = some (.string (bs s)) := HQ0_wt.out.carry hx; have ea := HEO.out; rw [ea] at ko4; clear ea hx; go_simp; all_goals (with_reducible rfl))
          try simp only [Act.put, List.setIfInBounds_toArray, List.set_cons_zero, List.set_cons_succ]
          refine reg_take (i := 11) (v := ?qgv11) rfl (by kernel_rfl) (by kernel_rfl) (by kernel_rfl) (by kernel_rfl) ?qgy11 hS ?qgr11
          case qgy11 => (rintro wx hx; (obtain ⟨ko0, ko1, ko2, ko3, ko4, ko5⟩ := fs_cells (HFo_wt.out.carry hx)); have q0 : wx.cell? ⟨fb, fo + k * 2, none⟩ = some (.string (bs s)) := HQ0_wt.out.carry hx; have ea := HEO.out; rw [ea] at ko4; clear ea hx; go_simp; all_goals (with_reducible rfl))
          try simp only [Act.put, List.setIfInBounds_toArray, List.set_cons_zero, List.set_cons_succ]
          refine reg_take (i := 12) (v := ?qgv12) rfl (by kernel_rfl) (by kernel_rfl) (by kernel_rfl) (by kernel_rfl) ?qgy12 hS ?qgr12
          case qgy12 => (rintro wx hx; (obtain ⟨ko0, ko1, ko2, ko3, ko4, ko5⟩ := fs_cells (HFo_wt.out.carry hx)); have q0 : wx.cell? ⟨fb, fo + k * 2, none⟩ = some (.string (bs s)) := HQ0_wt.out.carry hx; have ea := HEO.out; rw [ea] at ko4; clear ea hx; go_simp; all_goals (with_reducible rfl))
          try simp only [Act.put, List.setIfInBounds_toArray, List.set_cons_zero, List.set_cons_succ]
          refine reg_take (i := 13) (v := ?qgv13) rfl (by kernel_rfl) (by kernel_rfl) (by kernel_rfl) (by kernel_rfl) ?qgy13 hS ?qgr13
          case qgy13 => (rintro wx hx; (obtain ⟨ko0, ko1, ko2, ko3, ko4, ko5⟩ := fs_cells (HFo_wt.out.carry hx)); have q0 : wx.cell? ⟨fb, fo + k * 2, none⟩ = some (.string (bs s)) := HQ0_wt.out.carry hx; have ea := HEO.out; rw [ea] at ko4; clear ea hx; go_simp; all_goals (with_reducible rfl))
          try simp only [Act.put, List.setIfInBounds_toArray, List.set_cons_zero, List.set_cons_succ]
          refine reg_take (i := 14) (v := ?qgv14) rfl (by kernel_rfl) (by kernel_rfl) (by kernel_rfl) (by kernel_rfl) ?qgy14 hS ?qgr14
          case qgy14 => (rintro wx hx; (obtain ⟨ko0, ko1, ko2, ko3, ko4, ko5⟩ := fs_cells (HFo_wt.out.carry hx)); have q0 : wx.cell? ⟨fb, fo + k * 2, none⟩ = some (.string (bs s)) := HQ0_wt.out.carry hx; have ea := HEO.out; rw [ea] at ko4; clear ea hx; go_simp; all_goals (with_reducible rfl))
          try simp only [Act.put, List.setIfInBounds_toArray, List.set_cons_zero, List.set_cons_succ]
          refine wpAnyH_done (by kernel_rfl) ?_ _
          refine NoPanic.normal ?_
          try simp only [Act.put, List.setIfInBounds_toArray, List.set_cons_zero, List.set_cons_succ]
          have HRB := hide hrb
          have HSG := hide hS
          have HB_wg := hide (show Below w.heap.size w wg from HB_wt.out.trans (hS.mono HB_wt.out.size))
          have HFf_wg := hide (HFf_wt.out.carry hS)
          have HQN_wg := hide (HQN.out.carry hS)
          clear hrb hS hK
          obtain ⟨yw1, yw2, yw3, yw4, yw5⟩ := wrapc HLEN.out.1 HNM.out HNC.out HLEN.out.2
          obtain ⟨BLK, hBLK⟩ : ∃ b, b = blk f.1.1 nn := ⟨_, rfl⟩
          have HBLK := hide hBLK
          have HRD := hide (show Rd wg (.slice (some ⟨b9, o9 + 128 * nn, none⟩) 128 (x.c1 - 128 * nn)) BLK by
            have h1 := HX.out.d.d1.carry HB_wg.out
            rw [HEA.out] at h1
            have h2 := rd_at h1 (128 * nn) 128 (by rw [← HX.out.n1]; omega) (by intro e; have h3 := HX.out.n1; rw [e] at h3; simp at h3; omega)
            rw [hBLK]
            exact h2)
          clear hBLK
          have yw6 : 128 * nn ≤ 128 * nn + 128 := Nat.le_add_right _ _
          have yw7 : 128 * nn + 128 - 128 * nn = 128 := Nat.add_sub_cancel_left _ _
          have yw8 : 128 * nn ≤ x.c1 := Nat.le_trans yw6 yw5
          have yv9 : 128 * (nn : Int) ≤ 128 * (nn : Int) + 128 := by omega
          have yv10 : ¬ x.c1 = 128 * nn := fun e => yw4 e.symm
          obtain ⟨yv1, yv2, yv3, yv4, yv5, yv6, yv7, yv8⟩ := wrapK HLEN.out.1 HNM.out HNC.out HLEN.out.2
          obtain ⟨kf0, kf1, kf2, kf3, kf4, kf5⟩ := fs_cells HFf_wg.out
          have qn : wg.cell? ⟨lb, lo + k2, none⟩ = some (.int .i64 (nn : Int)) := HQN_wg.out
          have ea := HEA.out
          rw [ea] at kf0
          clear ea
          go_wp2_with fail
          clear kf0 kf1 kf2 kf3 kf4 kf5 qn
          obtain ⟨is0, his0⟩ : ∃ b : Bool, b = decide (bb = BLK) := ⟨_, rfl⟩
          have hbq : ((bs bb).toList == (bs BLK).toList) = is0 := by rw [his0]; exact bs_beq _ _
          have HIS0 := hide (show is0 = isB f nn bb 0 by rw [isB_zero, his0, HBLK.out, Int.toNat_natCast])
          clear his0
          have hK : Keeps (fun wx => Below wg.heap.size wg wx) := fun w1 w2 h hb => h.trans (hb.mono h.size)
          refine reg_begin hK (by kernel_rfl) (Below.refl _ _) ?_
          intro hS
          generalize wg.drew = wh at *
          refine reg_take (i := 0) (v := ?qhv0) rfl (by kernel_rfl) (by kernel_rfl) (by kernel_rfl) (by kernel_rfl) ?qhy0 hS ?qhr0
          case qhy0 => (rintro wx hx; (obtain ⟨kf0, kf1, kf2, kf3, kf4, kf5⟩ := fs_cells (HFf_wg.out.carry hx)); have qn : wx.cell? ⟨lb, lo + k2, none⟩ = some (.int .i64 (nn : Int)) := HQN_wg.out.carry hx; have ea := HEA.out; rw [ea] at kf0; clear ea hx; go_simp; all_goals (with_reducible rfl))
          try simp only [Act.put, List.setIfInBounds_toArray, List.set_cons_zero, List.set_cons_succ]
          refine reg_take (i := 1) (v := ?qhv1) rfl (by kernel_rfl) (by kernel_rfl) (by kernel_rfl) (by kernel_rfl) ?qhy1 hS ?qhr1
          case qhy1 => (rintro wx hx; (obtain ⟨kf0, kf1, kf2, kf3, kf4, kf5⟩ := fs_cells (HFf_wg.out.carry hx)); have qn : wx.cell? ⟨lb, lo + k2, none⟩ = some (.int .i64 (nn : Int)) := HQN_wg.out.carry hx; have ea := HEA.out; rw [ea] at kf0; clear ea hx; go_simp; all_goals (with_reducible rfl))
          try simp only [Act.put, List.setIfInBounds_toArray, List.set_cons_zero, List.set_cons_succ]
          refine reg_take (i := 2) (v := ?qhv2) rfl (by kernel_rfl) (by kernel_rfl) (by kernel_rfl) (by kernel_rfl) ?qhy2 hS ?qhr2
          case qhy2 => (rintro wx hx; (obtain ⟨kf0, kf1, kf2, kf3, kf4, kf5⟩ := fs_cells (HFf_wg.out.carry hx)); have qn : wx.cell? ⟨lb, lo + k2, none⟩ = some (.int .i64 (nn : Int)) := HQN_wg.out.carry hx; have ea := HEA.out; rw [ea] at kf0; clear ea hx; go_simp; all_goals (with_reducible rfl))
          try simp only [Act.put, List.setIfInBounds_toArray, List.set_cons_zero, List.set_cons_succ]
          refine reg_take (i := 3) (v := ?qhv3) rfl (by kernel_rfl) (by kernel_rfl) (by kernel_rfl) (by kernel_rfl) ?qhy3 hS ?qhr3
          case qhy3 => (rintro wx hx; (obtain ⟨kf0, kf1, kf2, kf3, kf4, kf5⟩ := fs_cells (HFf_wg.out.carry hx)); have qn : wx.cell? ⟨lb, lo + k2, none⟩ = some (.int .i64 (nn : Int)) := HQN_wg.out.carry hx; have ea := HEA.out; rw [ea] at kf0; clear ea hx; go_simp; all_goals (with_reducible rfl))
          try simp only [Act.put, List.setIfInBounds_toArray, List.set_cons_zero, List.set_cons_succ]
          refine reg_take (i := 5) (v := ?qhv5) rfl (by kernel_rfl) (by kernel_rfl) (by kernel_rfl) (by kernel_rfl) ?qhy5 hS ?qhr5
          case qhy5 => (rintro wx hx; (obtain ⟨kf0, kf1, kf2, kf3, kf4, kf5⟩ := fs_cells (HFf_wg.out.carry hx)); have qn : wx.cell? ⟨lb, lo + k2, none⟩ = some (.int .i64 (nn : Int)) := HQN_wg.out.carry hx; have ea := HEA.out; rw [ea] at kf0; clear ea hx; go_simp; all_goals (with_reducible rfl))
          try simp only [Act.put, List.setIfInBounds_toArray, List.set_cons_zero, List.set_cons_succ]
          refine reg_take (i := 6) (v := ?qhv6) rfl (by kernel_rfl) (by kernel_rfl) (by kernel_rfl) (by kernel_rfl) ?qhy6 hS ?qhr6
          case qhy6 => (rintro wx hx; (obtain ⟨kf0, kf1, kf2, kf3, kf4, kf5⟩ := fs_cells (HFf_wg.out.carry hx)); have qn : wx.cell? ⟨lb, lo + k2, none⟩ = some (.int .i64 (nn : Int)) := HQN_wg.out.carry hx; have ea := HEA.out; rw [ea] at kf0; clear ea hx; go_simp; all_goals (with_reducible rfl))
          try simp only [Act.put, List.setIfInBounds_toArray, List.set_cons_zero, List.set_cons_succ]
          refine reg_take (i := 7) (v := ?qhv7) rfl (by kernel_rfl) (by kernel_rfl) (by kernel_rfl) (by kernel_rfl) ?qhy7 hS ?qhr7
          case qhy7 => (rintro wx hx; (obtain ⟨kf0, kf1, kf2, kf3, kf4, kf5⟩ := fs_cells (HFf_wg.out.carry hx)); have qn : wx.cell? ⟨lb, lo + k2, none⟩ = some (.int .i64 (nn : Int)) := HQN_wg.out.carry hx; have ea := HEA.out; rw [ea] at kf0; clear ea hx; go_simp; all_goals (with_reducible rfl))
          try simp only [Act.put, List.setIfInBounds_toArray, List.set_cons_zero, List.set_cons_succ]
          refine reg_take (i := 8) (v := ?qhv8) rfl (by kernel_rfl) (by kernel_rfl) (by kernel_rfl) (by kernel_rfl) ?qhy8 hS ?qhr8
          case qhy8 => (rintro wx hx; (obtain ⟨kf0, kf1, kf2, kf3, kf4, kf5⟩ := fs_cells (HFf_wg.out.carry hx)); have qn : wx.cell? ⟨lb, lo + k2, none⟩ = some (.int .i64 (nn : Int)) := HQN_wg.out.carry hx; have ea := HEA.out; rw [ea] at kf0; clear ea hx; go_simp; all_goals (with_reducible rfl))
          try simp only [Act.put, List.setIfInBounds_toArray, List.set_cons_zero, List.set_cons_succ]
          refine reg_take (i := 9) (v := ?qhv9) rfl (by kernel_rfl) (by kernel_rfl) (by kernel_rfl) (by kernel_rfl) ?qhy9 hS ?qhr9
          case qhy9 => (rintro wx hx; (obtain ⟨kf0, kf1, kf2, kf3, kf4, kf5⟩ := fs_cells (HFf_wg.out.carry hx)); have qn : wx.cell? ⟨lb, lo + k2, none⟩ = some (.int .i64 (nn : Int)) := HQN_wg.out.carry hx; have ea := HEA.out; rw [ea] at kf0; clear ea hx; go_simp; all_goals (with_reducible rfl))
          try simp only [Act.put, List.setIfInBounds_toArray, List.set_cons_zero, List.set_cons_succ]
          refine reg_take (i := 10) (v := ?qhv10) rfl (by kernel_rfl) (by kernel_rfl) (by kernel_rfl) (by kernel_rfl) ?qhy10 hS ?qhr10
          case qhy10 => (rintro wx hx; (obtain ⟨kf0, kf1, kf2, kf3, kf4, kf5⟩ := fs_cells (HFf_wg.out.carry hx)); have qn : wx.cell? ⟨lb, lo + k2, none⟩ = some (.int .i64 (nn : Int)) := HQN_wg.out.carry hx; have ea := HEA.out; rw [ea] at kf0; clear ea hx; go_simp; all_goals (with_reducible rfl))
          try simp only [Act.put, List.setIfInBounds_toArray, List.set_cons_zero, List.set_cons_succ]
          refine reg_take (i := 11) (v := ?qhv11) rfl (by kernel_rfl) (by kernel_rfl) (by kernel_rfl) (by kernel_rfl) ?qhy11 hS ?qhr11
          case qhy11 => (rintro wx hx; (obtain ⟨kf0, kf1, kf2, kf3, kf4, kf5⟩ := fs_cells (HFf_wg.out.carry hx)); have qn : wx.cell? ⟨lb, lo + k2, none⟩ = some (.int .i64 (nn : Int)) := HQN_wg.out.carry hx; have ea := HEA.out; rw [ea] at kf0; clear ea hx; go_simp; all_goals (with_reducible rfl))
          try simp only [Act.put, List.setIfInBounds_toArray, List.set_cons_zero, List.set_cons_succ]
          refine reg_take (i := 12) (v := ?qhv12) rfl (by kernel_rfl) (by kernel_rfl) (by kernel_rfl) (by kernel_rfl) ?qhy12 hS ?qhr12
          case qhy12 => (rintro wx hx; (obtain ⟨kf0, kf1, kf2, kf3, kf4, kf5⟩ := fs_cells (HFf_wg.out.carry hx)); have qn : wx.cell? ⟨lb, lo + k2, none⟩ = some (.int .i64 (nn : Int)) := HQN_wg.out.carry hx; have ea := HEA.out; rw [ea] at kf0; clear ea hx; go_simp; all_goals (with_reducible rfl))
          try simp only [Act.put, List.setIfInBounds_toArray, List.set_cons_zero, List.set_cons_succ]
          refine reg_take (i := 13) (v := ?qhv13) rfl (by kernel_rfl) (by kernel_rfl) (by kernel_rfl) (by kernel_rfl) ?qhy13 hS ?qhr13
          case qhy13 => (rintro wx hx; (obtain ⟨kf0, kf1, kf2, kf3, kf4, kf5⟩ := fs_cells (HFf_wg.out.carry hx)); have qn : wx.cell? ⟨lb, lo + k2, none⟩ = some (.int .i64 (nn : Int)) := HQN_wg.out.carry hx; have ea := HEA.out; rw [ea] at kf0; clear ea hx; go_simp; all_goals (with_reducible rfl))
          try simp only [Act.put, List.setIfInBounds_toArray, List.set_cons_zero, List.set_cons_succ]
          refine reg_take (i := 14) (v := ?qhv14) rfl (by kernel_rfl) (by kernel_rfl) (by kernel_rfl) (by kernel_rfl) ?qhy14 hS ?qhr14
          case qhy14 => (rintro wx hx; (obtain ⟨kf0, kf1, kf2, kf3, kf4, kf5⟩ := fs_cells (HFf_wg.out.carry hx)); have qn : wx.cell? ⟨lb, lo + k2, none⟩ = some (.int .i64 (nn : Int)) := HQN_wg.out.carry hx; have ea := HEA.out; rw [ea] at kf0; clear ea hx; go_simp; all_goals (with_reducible rfl))
          try simp only [Act.put, List.setIfInBounds_toArray, List.set_cons_zero, List.set_cons_succ]
          refine reg_take (i := 15) (v := ?qhv15) rfl (by kernel_rfl) (by kernel_rfl) (by kernel_rfl) (by kernel_rfl) ?qhy15 hS ?qhr15
          case qhy15 => (rintro wx hx; (obtain ⟨kf0, kf1, kf2, kf3, kf4, kf5⟩ := fs_cells (HFf_wg.out.carry hx)); have qn : wx.cell? ⟨lb, lo + k2, none⟩ = some (.int .i64 (nn : Int)) := HQN_wg.out.carry hx; have ea := HEA.out; rw [ea] at kf0; clear ea hx; go_simp; all_goals (with_reducible rfl))
          try simp only [Act.put, List.setIfInBounds_toArray, List.set_cons_zero, List.set_cons_succ]
          refine reg_take (i := 16) (v := ?qhv16) rfl (by kernel_rfl) (by kernel_rfl) (by kernel_rfl) (by kernel_rfl) ?qhy16 hS ?qhr16
          case qhy16 => (rintro wx hx; (obtain ⟨kf0, kf1, kf2, kf3, kf4, kf5⟩ := fs_cells (HFf_wg.out.carry hx)); have qn : wx.cell? ⟨lb, lo + k2, none⟩ = some (.int .i64 (nn : Int)) := HQN_wg.out.carry hx; have ea := HEA.out; rw [ea] at kf0; clear ea hx; go_simp; all_goals (with_reducible rfl))
          try simp only [Act.put, List.setIfInBounds_toArray, List.set_cons_zero, List.set_cons_succ]
          refine reg_take (i := 17) (v := ?qhv17) rfl (by kernel_rfl) (by kernel_rfl) (by kernel_rfl) (by kernel_rfl) ?qhy17 hS ?qhr17
          case qhy17 => (rintro wx hx; (obtain ⟨kf0, kf1, kf2, kf3, kf4, kf5⟩ := fs_cells (HFf_wg.out.carry hx)); have qn : wx.cell? ⟨lb, lo + k2, none⟩ = some (.int .i64 (nn : Int)) := HQN_wg.out.carry hx; have ea := HEA.out; rw [ea] at kf0; clear ea hx; go_simp; all_goals (with_reducible rfl))
          try simp only [Act.put, List.setIfInBounds_toArray, List.set_cons_zero, List.set_cons_succ]
          refine reg_take (i := 18) (v := ?qhv18) rfl (by kernel_rfl) (by kernel_rfl) (by kernel_rfl) (by kernel_rfl) ?qhy18 hS ?qhr18
          case qhy18 => (rintro wx hx; (obtain ⟨kf0, kf1, kf2, kf3, kf4, kf5⟩ := fs_cells (HFf_wg.out.carry hx)); have qn : wx.cell? ⟨lb, lo + k2, none⟩ = some (.int .i64 (nn : Int)) := HQN_wg.out.carry hx; have ea := HEA.out; rw [ea] at kf0; clear ea hx; go_simp; all_goals (with_reducible rfl))
          try simp only [Act.put, List.setIfInBounds_toArray, List.set_cons_zero, List.set_cons_succ]
          refine reg_take (i := 19) (v := ?qhv19) rfl (by kernel_rfl) (by kernel_rfl) (by kernel_rfl) (by kernel_rfl) ?qhy19 hS ?qhr19
          case qhy19 => (rintro wx hx; (obtain ⟨kf0, kf1, kf2, kf3, kf4, kf5⟩ := fs_cells (HFf_wg.out.carry hx)); have qn : wx.cell? ⟨lb, lo + k2, none⟩ = some (.int .i64 (nn : Int)) := HQN_wg.out.carry hx; have ea := HEA.out; rw [ea] at kf0; clear ea hx; go_simp; all_goals (with_reducible rfl))
          try simp only [Act.put, List.setIfInBounds_toArray, List.set_cons_zero, List.set_cons_succ]
          refine reg_take (i := 4) (v := .string (bs bb)) rfl (by kernel_rfl) (by kernel_rfl) (by kernel_rfl) (by kernel_rfl) (fun wx hx => yield_conv rfl Tryz.underlying23 Tryz.underlying5 Tryz.underlying9 rfl (HRB.out.carry (show Below wg.heap.size wg wx from hx))) hS ?_
          try simp only [Act.put, List.setIfInBounds_toArray, List.set_cons_zero, List.set_cons_succ]
          refine reg_take (i := 20) (v := .string (bs BLK)) rfl (by kernel_rfl) (by kernel_rfl) (by kernel_rfl) (by kernel_rfl) (fun wx hx => yield_conv rfl Tryz.underlying23 Tryz.underlying5 Tryz.underlying9 rfl (HRD.out.carry (show Below wg.heap.size wg wx from hx))) hS ?_
          try simp only [Act.put, List.setIfInBounds_toArray, List.set_cons_zero, List.set_cons_succ]
          refine reg_take (i := 21) (v := ?qhv21) rfl (by kernel_rfl) (by kernel_rfl) (by kernel_rfl) (by kernel_rfl) ?qhy21 hS ?qhr21
          case qhy21 => (rintro wx hx; (obtain ⟨kf0, kf1, kf2, kf3, kf4, kf5⟩ := fs_cells (HFf_wg.out.carry hx)); have qn : wx.cell? ⟨lb, lo + k2, none⟩ = some (.int .i64 (nn : Int)) := HQN_wg.out.carry hx; have ea := HEA.out; rw [ea] at kf0; clear ea hx; go_simp; all_goals (with_reducible rfl))
          try simp only [Act.put, List.setIfInBounds_toArray, List.set_cons_zero, List.set_cons_succ]
          refine reg_take (i := 22) (v := ?qhv22) rfl (by kernel_rfl) (by kernel_rfl) (by kernel_rfl) (by kernel_rfl) ?qhy22 hS ?qhr22
          case qhy22 => (rintro wx hx; (obtain ⟨kf0, kf1, kf2, kf3, kf4, kf5⟩ := fs_cells (HFf_wg.out.carry hx)); have qn : wx.cell? ⟨lb, lo + k2, none⟩ = some (.int .i64 (nn : Int)) := HQN_wg.out.carry hx; have ea := HEA.out; rw [ea] at kf0; clear ea hx; go_simp; all_goals (with_reducible rfl))
          try simp only [Act.put, List.setIfInBounds_toArray, List.set_cons_zero, List.set_cons_succ]
          refine reg_take (i := 23) (v := ?qhv23) rfl (by kernel_rfl) (by kernel_rfl) (by kernel_rfl) (by kernel_rfl) ?qhy23 hS ?qhr23
          case qhy23 => (rintro wx hx; (obtain ⟨kf0, kf1, kf2, kf3, kf4, kf5⟩ := fs_cells (HFf_wg.out.carry hx)); have qn : wx.cell? ⟨lb, lo + k2, none⟩ = some (.int .i64 (nn : Int)) := HQN_wg.out.carry hx; have ea := HEA.out; rw [ea] at kf0; clear ea hx; go_simp; all_goals (with_reducible rfl))
          try simp only [Act.put, List.setIfInBounds_toArray, List.set_cons_zero, List.set_cons_succ]
          refine wpAnyH_done (by kernel_rfl) ?_ _
          refine NoPanic.normal ?_
          try simp only [Act.put, List.setIfInBounds_toArray, List.set_cons_zero, List.set_cons_succ]
          have HSD := hide hS
          clear hS hK hbq yw1 yw2 yw3 yw4 yw5 yw6 yw7 yw8 yv1 yv2 yv3 yv4 yv5 yv6 yv7 yv8 yv9 yv10
          have hn2 := HN2.out.2
          obtain ⟨kf0, kf1, kf2, kf3, kf4, kf5⟩ := fs_cells (HFf_wg.out.carry HSD.out)
          go_wp2_with fail
          clear kf0 kf1 kf2 kf3 kf4 kf5
          go_loopw [17, 16] (fun i v wr3 => ∃ k3 : Nat, k3 ≤ x.n2 ∧ i = .int .i64 k3 ∧ ∃ b : Bool, v = .bool b ∧ Hid (b = isB f nn bb k3) ∧ Hid (Below wh.heap.size wh wr3)) (fun i _ _ => x.n2 - (intOf i).toNat)
          case atStart => exact ⟨0, Nat.zero_le _, rfl, is0, rfl, HIS0, hide (Below.refl _ _)⟩
          case round =>
            obtain ⟨k3, hk3, rfl, isb, rfl, HIS, hbel3⟩ := hrel
            obtain ⟨wr3, hwq⟩ : ∃ x, x = wr := ⟨_, rfl⟩
            subst hwq
            have HBG := hide (show Below wg.heap.size wg wr3 from HSD.out.trans (hbel3.out.mono HSD.out.size))
            have HB_w3 := hide (show Below w.heap.size w wr3 from HB_wg.out.trans (HBG.out.mono HB_wg.out.size))
            have HFf_w3 := hide (HFf_wg.out.carry HBG.out)
            have HQN_w3 := hide (HQN_wg.out.carry HBG.out)
            obtain ⟨kf0, kf1, kf2, kf3, kf4, kf5⟩ := fs_cells HFf_w3.out
            by_cases hl3 : k3 < x.n2
            · have hl3' : (k3 : Int) < x.n2 := by omega
              have hkw : k3 < f.1.2.1.length := by have := HN2.out.1; omega
              have HSU := hide (isB_succ f nn bb k3 hkw)
              obtain ⟨wb9, wo9, ew, p0, pa, pm, pc, p1, p2, p3⟩ := (HX.out.d.d2.carry HB_w3.out).at k3 hkw
              obtain ⟨PP, hPP⟩ : ∃ p, p = f.1.2.1[k3] := ⟨_, rfl⟩
              rw [← hPP] at p0 p2 HSU
              rw [← HIS.out] at HSU
              clear hPP p3
              have HP2 := hide p2
              have HP0 := hide (show CellAt wr3 wb9 (wo9 + k3 * 2) (.int .i64 PP.1) from p0)
              have HP1 := hide (show CellAt wr3 wb9 (wo9 + k3 * 2 + 1) (.slice pa pm pc) from p1)
              have HEW := hide ew
              have qn : wr3.cell? ⟨lb, lo + k2, none⟩ = some (.int .i64 (nn : Int)) := HQN_w3.out
              rw [ew] at kf1
              clear ew
              go_wp2_with fail
              clear kf0 kf1 kf2 kf3 kf4 kf5 qn p0 p1 p2
              cases isb with
              | true =>
                have hK : Keeps (fun wx => Below wr3.heap.size wr3 wx) := fun w1 w2 h hb => h.trans (hb.mono h.size)
                refine reg_begin hK (by kernel_rfl) (Below.refl _ _) ?_
                intro hS
                generalize wr3.drew = wj at *
                refine reg_take (i := 0) (v := ?qiv0) rfl (by kernel_rfl) (by kernel_rfl) (by kernel_rfl) (by kernel_rfl) ?qiy0 hS ?qir0
                case qiy0 => (rintro wx hx; (obtain ⟨kf0, kf1, kf2, kf3, kf4, kf5⟩ := fs_cells (HFf_w3.out.carry hx)); have qn : wx.cell? ⟨lb, lo + k2, none⟩ = some (.int .i64 (nn : Int)) := HQN_w3.out.carry hx; have p0 : wx.cell? ⟨wb9, wo9 + k3 * 2, none⟩ = some (.int .i64 PP.1) := HP0.out.carry hx; have p1 : wx.cell? ⟨wb9, wo9 + k3 * 2 + 1, none⟩ = some (.slice pa pm pc) := HP1.out.carry hx; have ew := HEW.out; rw [ew] at kf1; clear ew hx; go_simp; all_goals (with_reducible rfl))
                try simp only [Act.put, List.setIfInBounds_toArray, List.set_cons_zero, List.set_cons_succ]
                refine reg_take (i := 1) (v := ?qiv1) rfl (by kernel_rfl) (by kernel_rfl) (by kernel_rfl) (by kernel_rfl) ?qiy1 hS ?qir1
                case qiy1 => (rintro wx hx; (obtain ⟨kf0, kf1, kf2, kf3, kf4, kf5⟩ := fs_cells (HFf_w3.out.carry hx)); have qn : wx.cell? ⟨lb, lo + k2, none⟩ = some (.int .i64 (nn : Int)) := HQN_w3.out.carry hx; have p0 : wx.cell? ⟨wb9, wo9 + k3 * 2, none⟩ = some (.int .i64 PP.1) := HP0.out.carry hx; have p1 : wx.cell? ⟨wb9, wo9 + k3 * 2 + 1, none⟩ = some (.slice pa pm pc) := HP1.out.carry hx; have ew := HEW.out; rw [ew] at kf1; clear ew hx; go_simp; all_goals (with_reducible rfl))
                try simp only [Act.put, List.setIfInBounds_toArray, List.set_cons_zero, List.set_cons_succ]
                refine reg_skip (i := 2) rfl (by kernel_rfl) (by kernel_rfl) (by kernel_rfl) (by kernel_rfl) hS ?_
                try simp only [Act.put, List.setIfInBounds_toArray, List.set_cons_zero, List.set_cons_succ]
                refine reg_skip (i := 3) rfl (by kernel_rfl) (by kernel_rfl) (by kernel_rfl) (by kernel_rfl) hS ?_
                try simp only [Act.put, List.setIfInBounds_toArray, List.set_cons_zero, List.set_cons_succ]
                refine reg_skip (i := 4) rfl (by kernel_rfl) (by kernel_rfl) (by kernel_rfl) (by kernel_rfl) hS ?_
                try simp only [Act.put, List.setIfInBounds_toArray, List.set_cons_zero, List.set_cons_succ]
                refine reg_skip (i := 5) rfl (by kernel_rfl) (by kernel_rfl) (by kernel_rfl) (by kernel_rfl) hS ?_
                try simp only [Act.put, List.setIfInBounds_toArray, List.set_cons_zero, List.set_cons_succ]
                refine reg_skip (i := 6) rfl (by kernel_rfl) (by kernel_rfl) (by kernel_rfl) (by kernel_rfl) hS ?_
                try simp only [Act.put, List.setIfInBounds_toArray, List.set_cons_zero, List.set_cons_succ]
                refine reg_skip (i := 7) rfl (by kernel_rfl) (by kernel_rfl) (by kernel_rfl) (by kernel_rfl) hS ?_
                try simp only [Act.put, List.setIfInBounds_toArray, List.set_cons_zero, List.set_cons_succ]
                refine reg_skip (i := 8) rfl (by kernel_rfl) (by kernel_rfl) (by kernel_rfl) (by kernel_rfl) hS ?_
                try simp only [Act.put, List.setIfInBounds_toArray, List.set_cons_zero, List.set_cons_succ]
                refine reg_skip (i := 9) rfl (by kernel_rfl) (by kernel_rfl) (by kernel_rfl) (by kernel_rfl) hS ?_
                try simp only [Act.put, List.setIfInBounds_toArray, List.set_cons_zero, List.set_cons_succ]
                refine reg_skip (i := 10) rfl (by kernel_rfl) (by kernel_rfl) (by kernel_rfl) (by kernel_rfl) hS ?_
                try simp only [Act.put, List.setIfInBounds_toArray, List.set_cons_zero, List.set_cons_succ]
                refine reg_skip (i := 11) rfl (by kernel_rfl) (by kernel_rfl) (by kernel_rfl) (by kernel_rfl) hS ?_
                try simp only [Act.put, List.setIfInBounds_toArray, List.set_cons_zero, List.set_cons_succ]
                refine reg_skip (i := 12) rfl (by kernel_rfl) (by kernel_rfl) (by kernel_rfl) (by kernel_rfl) hS ?_
                try simp only [Act.put, List.setIfInBounds_toArray, List.set_cons_zero, List.set_cons_succ]
                refine reg_skip (i := 13) rfl (by kernel_rfl) (by kernel_rfl) (by kernel_rfl) (by kernel_rfl) hS ?_
                try simp only [Act.put, List.setIfInBounds_toArray, List.set_cons_zero, List.set_cons_succ]
                refine reg_skip (i := 14) rfl (by kernel_rfl) (by kernel_rfl) (by kernel_rfl) (by kernel_rfl) hS ?_
                try simp only [Act.put, List.setIfInBounds_toArray, List.set_cons_zero, List.set_cons_succ]
                refine reg_skip (i := 15) rfl (by kernel_rfl) (by kernel_rfl) (by kernel_rfl) (by kernel_rfl) hS ?_
                try simp only [Act.put, List.setIfInBounds_toArray, List.set_cons_zero, List.set_cons_succ]
                refine reg_skip (i := 16) rfl (by kernel_rfl) (by kernel_rfl) (by kernel_rfl) (by kernel_rfl) hS ?_
                try simp only [Act.put, List.setIfInBounds_toArray, List.set_cons_zero, List.set_cons_succ]
                refine reg_skip (i := 17) rfl (by kernel_rfl) (by kernel_rfl) (by kernel_rfl) (by kernel_rfl) hS ?_
                try simp only [Act.put, List.setIfInBounds_toArray, List.set_cons_zero, List.set_cons_succ]
                refine reg_skip (i := 18) rfl (by kernel_rfl) (by kernel_rfl) (by kernel_rfl) (by kernel_rfl) hS ?_
                try simp only [Act.put, List.setIfInBounds_toArray, List.set_cons_zero, List.set_cons_succ]
                refine reg_skip (i := 19) rfl (by kernel_rfl) (by kernel_rfl) (by kernel_rfl) (by kernel_rfl) hS ?_
                try simp only [Act.put, List.setIfInBounds_toArray, List.set_cons_zero, List.set_cons_succ]
                refine reg_skip (i := 20) rfl (by kernel_rfl) (by kernel_rfl) (by kernel_rfl) (by kernel_rfl) hS ?_
                try simp only [Act.put, List.setIfInBounds_toArray, List.set_cons_zero, List.set_cons_succ]
                refine reg_skip (i := 21) rfl (by kernel_rfl) (by kernel_rfl) (by kernel_rfl) (by kernel_rfl) hS ?_
                try simp only [Act.put, List.setIfInBounds_toArray, List.set_cons_zero, List.set_cons_succ]
                refine reg_skip (i := 22) rfl (by kernel_rfl) (by kernel_rfl) (by kernel_rfl) (by kernel_rfl) hS ?_
                try simp only [Act.put, List.setIfInBounds_toArray, List.set_cons_zero, List.set_cons_succ]
                refine reg_skip (i := 23) rfl (by kernel_rfl) (by kernel_rfl) (by kernel_rfl) (by kernel_rfl) hS ?_
                try simp only [Act.put, List.setIfInBounds_toArray, List.set_cons_zero, List.set_cons_succ]
                refine reg_skip (i := 24) rfl (by kernel_rfl) (by kernel_rfl) (by kernel_rfl) (by kernel_rfl) hS ?_
                try simp only [Act.put, List.setIfInBounds_toArray, List.set_cons_zero, List.set_cons_succ]
                refine reg_skip (i := 25) rfl (by kernel_rfl) (by kernel_rfl) (by kernel_rfl) (by kernel_rfl) hS ?_
                try simp only [Act.put, List.setIfInBounds_toArray, List.set_cons_zero, List.set_cons_succ]
                refine reg_skip (i := 26) rfl (by kernel_rfl) (by kernel_rfl) (by kernel_rfl) (by kernel_rfl) hS ?_
                try simp only [Act.put, List.setIfInBounds_toArray, List.set_cons_zero, List.set_cons_succ]
                refine reg_take (i := 27) (v := ?qiv27) rfl (by kernel_rfl) (by kernel_rfl) (by kernel_rfl) (by kernel_rfl) ?qiy27 hS ?qir27
                case qiy27 => (rintro wx hx; (obtain ⟨kf0, kf1, kf2, kf3, kf4, kf5⟩ := fs_cells (HFf_w3.out.carry hx)); have qn : wx.cell? ⟨lb, lo + k2, none⟩ = some (.int .i64 (nn : Int)) := HQN_w3.out.carry hx; have p0 : wx.cell? ⟨wb9, wo9 + k3 * 2, none⟩ = some (.int .i64 PP.1) := HP0.out.carry hx; have p1 : wx.cell? ⟨wb9, wo9 + k3 * 2 + 1, none⟩ = some (.slice pa pm pc) := HP1.out.carry hx; have ew := HEW.out; rw [ew] at kf1; clear ew hx; go_simp; all_goals (with_reducible rfl))
                try simp only [Act.put, List.setIfInBounds_toArray, List.set_cons_zero, List.set_cons_succ]
                refine reg_take (i := 28) (v := ?qiv28) rfl (by kernel_rfl) (by kernel_rfl) (by kernel_rfl) (by kernel_rfl) ?qiy28 hS ?qir28
                case qiy28 => (rintro wx hx; (obtain ⟨kf0, kf1, kf2, kf3, kf4, kf5⟩ := fs_cells (HFf_w3.out.carry hx)); have qn : wx.cell? ⟨lb, lo + k2, none⟩ = some (.int .i64 (nn : Int)) := HQN_w3.out.carry hx; have p0 : wx.cell? ⟨wb9, wo9 + k3 * 2, none⟩ = some (.int .i64 PP.1) := HP0.out.carry hx; have p1 : wx.cell? ⟨wb9, wo9 + k3 * 2 + 1, none⟩ = some (.slice pa pm pc) := HP1.out.carry hx; have ew := HEW.out; rw [ew] at kf1; clear ew hx; go_simp; all_goals (with_reducible rfl))
                try simp only [Act.put, List.setIfInBounds_toArray, List.set_cons_zero, List.set_cons_succ]
                refine wpAnyH_done (by kernel_rfl) ?_ _
                refine NoPanic.normal ?_
                try simp only [Act.put, List.setIfInBounds_toArray, List.set_cons_zero, List.set_cons_succ]
                have HBE := hide (hbel3.out.trans (hS.mono hbel3.out.size))
                have HIN := hide (show true = isB f nn bb (k3 + 1) by rw [HSU.out]; rfl)
                clear hS hK
                go_wp2
                go_roundw
                case rel => exact ⟨k3 + 1, by omega, rfl, true, rfl, HIN, HBE⟩
                case measure => simp only [intOf]; omega
              | false =>
              by_cases hp1 : PP.1 = nn
              · by_cases hp2 : PP.2 = bb
                · skip
                  have hpq : (PP.1 == (nn : Int)) = true := by simpa using hp1
                  have hpr : ((bs PP.2).toList == (bs bb).toList) = true := by rw [bs_beq]; exact decide_eq_true hp2
                  have hK : Keeps (fun wx => Below wr3.heap.size wr3 wx) := fun w1 w2 h hb => h.trans (hb.mono h.size)
                  refine reg_begin hK (by kernel_rfl) (Below.refl _ _) ?_
                  intro hS
                  generalize wr3.drew = wj at *
                  refine reg_take (i := 0) (v := ?qjv0) rfl (by kernel_rfl) (by kernel_rfl) (by kernel_rfl) (by kernel_rfl) ?qjy0 hS ?qjr0
                  case qjy0 => (rintro wx hx; (obtain ⟨kf0, kf1, kf2, kf3, kf4, kf5⟩ := fs_cells (HFf_w3.out.carry hx)); have qn : wx.cell? ⟨lb, lo + k2, none⟩ = some (.int .i64 (nn : Int)) := HQN_w3.out.carry hx; have p0 : wx.cell? ⟨wb9, wo9 + k3 * 2, none⟩ = some (.int .i64 PP.1) := HP0.out.carry hx; have p1 : wx.cell? ⟨wb9, wo9 + k3 * 2 + 1, none⟩ = some (.slice pa pm pc) := HP1.out.carry hx; have ew := HEW.out; rw [ew] at kf1; clear ew hx; go_simp; all_goals (with_reducible rfl))
                  try simp only [Act.put, List.setIfInBounds_toArray, List.set_cons_zero, List.set_cons_succ]
                  refine reg_take (i := 1) (v := ?qjv1) rfl (by kernel_rfl) (by kernel_rfl) (by kernel_rfl) (by kernel_rfl) ?qjy1 hS ?qjr1
                  case qjy1 => (rintro wx hx; (obtain ⟨kf0, kf1, kf2, kf3, kf4, kf5⟩ := fs_cells (HFf_w3.out.carry hx)); have qn : wx.cell? ⟨lb, lo + k2, none⟩ = some (.int .i64 (nn : Int)) := HQN_w3.out.carry hx; have p0 : wx.cell? ⟨wb9, wo9 + k3 * 2, none⟩ = some (.int .i64 PP.1) := HP0.out.carry hx; have p1 : wx.cell? ⟨wb9, wo9 + k3 * 2 + 1, none⟩ = some (.slice pa pm pc) := HP1.out.carry hx; have ew := HEW.out; rw [ew] at kf1; clear ew hx; go_simp; all_goals (with_reducible rfl))
                  try simp only [Act.put, List.setIfInBounds_toArray, List.set_cons_zero, List.set_cons_succ]
                  refine reg_take (i := 2) (v := ?qjv2) rfl (by kernel_rfl) (by kernel_rfl) (by kernel_rfl) (by kernel_rfl) ?qjy2 hS ?qjr2
                  case qjy2 => (rintro wx hx; (obtain ⟨kf0, kf1, kf2, kf3, kf4, kf5⟩ := fs_cells (HFf_w3.out.carry hx)); have qn : wx.cell? ⟨lb, lo + k2, none⟩ = some (.int .i64 (nn : Int)) := HQN_w3.out.carry hx; have p0 : wx.cell? ⟨wb9, wo9 + k3 * 2, none⟩ = some (.int .i64 PP.1) := HP0.out.carry hx; have p1 : wx.cell? ⟨wb9, wo9 + k3 * 2 + 1, none⟩ = some (.slice pa pm pc) := HP1.out.carry hx; have ew := HEW.out; rw [ew] at kf1; clear ew hx; go_simp; all_goals (with_reducible rfl))
                  try simp only [Act.put, List.setIfInBounds_toArray, List.set_cons_zero, List.set_cons_succ]
                  refine reg_take (i := 3) (v := ?qjv3) rfl (by kernel_rfl) (by kernel_rfl) (by kernel_rfl) (by kernel_rfl) ?qjy3 hS ?qjr3
                  case qjy3 => (rintro wx hx; (obtain ⟨kf0, kf1, kf2, kf3, kf4, kf5⟩ := fs_cells (HFf_w3.out.carry hx)); have qn : wx.cell? ⟨lb, lo + k2, none⟩ = some (.int .i64 (nn : Int)) := HQN_w3.out.carry hx; have p0 : wx.cell? ⟨wb9, wo9 + k3 * 2, none⟩ = some (.int .i64 PP.1) := HP0.out.carry hx; have p1 : wx.cell? ⟨wb9, wo9 + k3 * 2 + 1, none⟩ = some (.slice pa pm pc) := HP1.out.carry hx; have ew := HEW.out; rw [ew] at kf1; clear ew hx; go_simp; all_goals (with_reducible rfl))
                  try simp only [Act.put, List.setIfInBounds_toArray, List.set_cons_zero, List.set_cons_succ]
                  refine reg_take (i := 4) (v := ?qjv4) rfl (by kernel_rfl) (by kernel_rfl) (by kernel_rfl) (by kernel_rfl) ?qjy4 hS ?qjr4
                  case qjy4 => (rintro wx hx; (obtain ⟨kf0, kf1, kf2, kf3, kf4, kf5⟩ := fs_cells (HFf_w3.out.carry hx)); have qn : wx.cell? ⟨lb, lo + k2, none⟩ = some (.int .i64 (nn : Int)) := HQN_w3.out.carry hx; have p0 : wx.cell? ⟨wb9, wo9 + k3 * 2, none⟩ = some (.int .i64 PP.1) := HP0.out.carry hx; have p1 : wx.cell? ⟨wb9, wo9 + k3 * 2 + 1, none⟩ = some (.slice pa pm pc) := HP1.out.carry hx; have ew := HEW.out; rw [ew] at kf1; clear ew hx; go_simp; all_goals (with_reducible rfl))
                  try simp only [Act.put, List.setIfInBounds_toArray, List.set_cons_zero, List.set_cons_succ]
                  refine reg_take (i := 5) (v := ?qjv5) rfl (by kernel_rfl) (by kernel_rfl) (by kernel_rfl) (by kernel_rfl) ?qjy5 hS ?qjr5
                  case qjy5 => (rintro wx hx; (obtain ⟨kf0, kf1, kf2, kf3, kf4, kf5⟩ := fs_cells (HFf_w3.out.carry hx)); have qn : wx.cell? ⟨lb, lo + k2, none⟩ = some (.int .i64 (nn : Int)) := HQN_w3.out.carry hx; have p0 : wx.cell? ⟨wb9, wo9 + k3 * 2, none⟩ = some (.int .i64 PP.1) := HP0.out.carry hx; have p1 : wx.cell? ⟨wb9, wo9 + k3 * 2 + 1, none⟩ = some (.slice pa pm pc) := HP1.out.carry hx; have ew := HEW.out; rw [ew] at kf1; clear ew hx; go_simp; all_goals (with_reducible rfl))
                  try simp only [Act.put, List.setIfInBounds_toArray, List.set_cons_zero, List.set_cons_succ]
                  refine reg_take (i := 6) (v := ?qjv6) rfl (by kernel_rfl) (by kernel_rfl) (by kernel_rfl) (by kernel_rfl) ?qjy6 hS ?qjr6
                  case qjy6 => (rintro wx hx; (obtain ⟨kf0, kf1, kf2, kf3, kf4, kf5⟩ := fs_cells (HFf_w3.out.carry hx)); have qn : wx.cell? ⟨lb, lo + k2, none⟩ = some (.int .i64 (nn : Int)) := HQN_w3.out.carry hx; have p0 : wx.cell? ⟨wb9, wo9 + k3 * 2, none⟩ = some (.int .i64 PP.1) := HP0.out.carry hx; have p1 : wx.cell? ⟨wb9, wo9 + k3 * 2 + 1, none⟩ = some (.slice pa pm pc) := HP1.out.carry hx; have ew := HEW.out; rw [ew] at kf1; clear ew hx; go_simp; all_goals (with_reducible rfl))
                  try simp only [Act.put, List.setIfInBounds_toArray, List.set_cons_zero, List.set_cons_succ]
                  refine reg_take (i := 7) (v := ?qjv7) rfl (by kernel_rfl) (by kernel_rfl) (by kernel_rfl) (by kernel_rfl) ?qjy7 hS ?qjr7
                  case qjy7 => (rintro wx hx; (obtain ⟨kf0, kf1, kf2, kf3, kf4, kf5⟩ := fs_cells (HFf_w3.out.carry hx)); have qn : wx.cell? ⟨lb, lo + k2, none⟩ = some (.int .i64 (nn : Int)) := HQN_w3.out.carry hx; have p0 : wx.cell? ⟨wb9, wo9 + k3 * 2, none⟩ = some (.int .i64 PP.1) := HP0.out.carry hx; have p1 : wx.cell? ⟨wb9, wo9 + k3 * 2 + 1, none⟩ = some (.slice pa pm pc) := HP1.out.carry hx; have ew := HEW.out; rw [ew] at kf1; clear ew hx; go_simp; all_goals (with_reducible rfl))
                  try simp only [Act.put, List.setIfInBounds_toArray, List.set_cons_zero, List.set_cons_succ]
                  refine reg_take (i := 8) (v := ?qjv8) rfl (by kernel_rfl) (by kernel_rfl) (by kernel_rfl) (by kernel_rfl) ?qjy8 hS ?qjr8
                  case qjy8 => (rintro wx hx; (obtain ⟨kf0, kf1, kf2, kf3, kf4, kf5⟩ := fs_cells (HFf_w3.out.carry hx)); have qn : wx.cell? ⟨lb, lo + k2, none⟩ = some (.int .i64 (nn : Int)) := HQN_w3.out.carry hx; have p0 : wx.cell? ⟨wb9, wo9 + k3 * 2, none⟩ = some (.int .i64 PP.1) := HP0.out.carry hx; have p1 : wx.cell? ⟨wb9, wo9 + k3 * 2 + 1, none⟩ = some (.slice pa pm pc) := HP1.out.carry hx; have ew := HEW.out; rw [ew] at kf1; clear ew hx; go_simp; all_goals (with_reducible rfl))
                  try simp only [Act.put, List.setIfInBounds_toArray, List.set_cons_zero, List.set_cons_succ]
                  refine reg_take (i := 9) (v := ?qjv9) rfl (by kernel_rfl) (by kernel_rfl) (by kernel_rfl) (by kernel_rfl) ?qjy9 hS ?qjr9
                  case qjy9 => (rintro wx hx; (obtain ⟨kf0, kf1, kf2, kf3, kf4, kf5⟩ := fs_cells (HFf_w3.out.carry hx)); have qn : wx.cell? ⟨lb, lo + k2, none⟩ = some (.int .i64 (nn : Int)) := HQN_w3.out.carry hx; have p0 : wx.cell? ⟨wb9, wo9 + k3 * 2, none⟩ = some (.int .i64 PP.1) := HP0.out.carry hx; have p1 : wx.cell? ⟨wb9, wo9 + k3 * 2 + 1, none⟩ = some (.slice pa pm pc) := HP1.out.carry hx; have ew := HEW.out; rw [ew] at kf1; clear ew hx; go_simp; all_goals (with_reducible rfl))
                  try simp only [Act.put, List.setIfInBounds_toArray, List.set_cons_zero, List.set_cons_succ]
                  refine reg_take (i := 10) (v := ?qjv10) rfl (by kernel_rfl) (by kernel_rfl) (by kernel_rfl) (by kernel_rfl) ?qjy10 hS ?qjr10
                  case qjy10 => (rintro wx hx; (obtain ⟨kf0, kf1, kf2, kf3, kf4, kf5⟩ := fs_cells (HFf_w3.out.carry hx)); have qn : wx.cell? ⟨lb, lo + k2, none⟩ = some (.int .i64 (nn : Int)) := HQN_w3.out.carry hx; have p0 : wx.cell? ⟨wb9, wo9 + k3 * 2, none⟩ = some (.int .i64 PP.1) := HP0.out.carry hx; have p1 : wx.cell? ⟨wb9, wo9 + k3 * 2 + 1, none⟩ = some (.slice pa pm pc) := HP1.out.carry hx; have ew := HEW.out; rw [ew] at kf1; clear ew hx; go_simp; all_goals (with_reducible rfl))
                  try simp only [Act.put, List.setIfInBounds_toArray, List.set_cons_zero, List.set_cons_succ]
                  refine reg_take (i := 11) (v := ?qjv11) rfl (by kernel_rfl) (by kernel_rfl) (by kernel_rfl) (by kernel_rfl) ?qjy11 hS ?qjr11
                  case qjy11 => (rintro wx hx; (obtain ⟨kf0, kf1, kf2, kf3, kf4, kf5⟩ := fs_cells (HFf_w3.out.carry hx)); have qn : wx.cell? ⟨lb, lo + k2, none⟩ = some (.int .i64 (nn : Int)) := HQN_w3.out.carry hx; have p0 : wx.cell? ⟨wb9, wo9 + k3 * 2, none⟩ = some (.int .i64 PP.1) := HP0.out.carry hx; have p1 : wx.cell? ⟨wb9, wo9 + k3 * 2 + 1, none⟩ = some (.slice pa pm pc) := HP1.out.carry hx; have ew := HEW.out; rw [ew] at kf1; clear ew hx; go_simp; all_goals (with_reducible rfl))
                  try simp only [Act.put, List.setIfInBounds_toArray, List.set_cons_zero, List.set_cons_succ]
                  refine reg_take (i := 12) (v := ?qjv12) rfl (by kernel_rfl) (by kernel_rfl) (by kernel_rfl) (by kernel_rfl) ?qjy12 hS ?qjr12
                  case qjy12 => (rintro wx hx; (obtain ⟨kf0, kf1, kf2, kf3, kf4, kf5⟩ := fs_cells (HFf_w3.out.carry hx)); have qn : wx.cell? ⟨lb, lo + k2, none⟩ = some (.int .i64 (nn : Int)) := HQN_w3.out.carry hx; have p0 : wx.cell? ⟨wb9, wo9 + k3 * 2, none⟩ = some (.int .i64 PP.1) := HP0.out.carry hx; have p1 : wx.cell? ⟨wb9, wo9 + k3 * 2 + 1, none⟩ = some (.slice pa pm pc) := HP1.out.carry hx; have ew := HEW.out; rw [ew] at kf1; clear ew hx; go_simp; all_goals (with_reducible rfl))
                  try simp only [Act.put, List.setIfInBounds_toArray, List.set_cons_zero, List.set_cons_succ]
                  refine reg_take (i := 13) (v := ?qjv13) rfl (by kernel_rfl) (by kernel_rfl) (by kernel_rfl) (by kernel_rfl) ?qjy13 hS ?qjr13
                  case qjy13 => (rintro wx hx; (obtain ⟨kf0, kf1, kf2, kf3, kf4, kf5⟩ := fs_cells (HFf_w3.out.carry hx)); have qn : wx.cell? ⟨lb, lo + k2, none⟩ = some (.int .i64 (nn : Int)) := HQN_w3.out.carry hx; have p0 : wx.cell? ⟨wb9, wo9 + k3 * 2, none⟩ = some (.int .i64 PP.1) := HP0.out.carry hx; have p1 : wx.cell? ⟨wb9, wo9 + k3 * 2 + 1, none⟩ = some (.slice pa pm pc) := HP1.out.carry hx; have ew := HEW.out; rw [ew] at kf1; clear ew hx; go_simp; all_goals (with_reducible rfl))
                  try simp only [Act.put, List.setIfInBounds_toArray, List.set_cons_zero, List.set_cons_succ]
                  refine reg_take (i := 14) (v := ?qjv14) rfl (by kernel_rfl) (by kernel_rfl) (by kernel_rfl) (by kernel_rfl) ?qjy14 hS ?qjr14
                  case qjy14 => (rintro wx hx; (obtain ⟨kf0, kf1, kf2, kf3, kf4, kf5⟩ := fs_cells (HFf_w3.out.carry hx)); have qn : wx.cell? ⟨lb, lo + k2, none⟩ = some (.int .i64 (nn : Int)) := HQN_w3.out.carry hx; have p0 : wx.cell? ⟨wb9, wo9 + k3 * 2, none⟩ = some (.int .i64 PP.1) := HP0.out.carry hx; have p1 : wx.cell? ⟨wb9, wo9 + k3 * 2 + 1, none⟩ = some (.slice pa pm pc) := HP1.out.carry hx; have ew := HEW.out; rw [ew] at kf1; clear ew hx; go_simp; all_goals (with_reducible rfl))
                  try simp only [Act.put, List.setIfInBounds_toArray, List.set_cons_zero, List.set_cons_succ]
                  refine reg_take (i := 15) (v := ?qjv15) rfl (by kernel_rfl) (by kernel_rfl) (by kernel_rfl) (by kernel_rfl) ?qjy15 hS ?qjr15
                  case qjy15 => (rintro wx hx; (obtain ⟨kf0, kf1, kf2, kf3, kf4, kf5⟩ := fs_cells (HFf_w3.out.carry hx)); have qn : wx.cell? ⟨lb, lo + k2, none⟩ = some (.int .i64 (nn : Int)) := HQN_w3.out.carry hx; have p0 : wx.cell? ⟨wb9, wo9 + k3 * 2, none⟩ = some (.int .i64 PP.1) := HP0.out.carry hx; have p1 : wx.cell? ⟨wb9, wo9 + k3 * 2 + 1, none⟩ = some (.slice pa pm pc) := HP1.out.carry hx; have ew := HEW.out; rw [ew] at kf1; clear ew hx; go_simp; all_goals (with_reducible rfl))
                  try simp only [Act.put, List.setIfInBounds_toArray, List.set_cons_zero, List.set_cons_succ]
                  refine reg_take (i := 16) (v := ?qjv16) rfl (by kernel_rfl) (by kernel_rfl) (by kernel_rfl) (by kernel_rfl) ?qjy16 hS ?qjr16
                  case qjy16 => (rintro wx hx; (obtain ⟨kf0, kf1, kf2, kf3, kf4, kf5⟩ := fs_cells (HFf_w3.out.carry hx)); have qn : wx.cell? ⟨lb, lo + k2, none⟩ = some (.int .i64 (nn : Int)) := HQN_w3.out.carry hx; have p0 : wx.cell? ⟨wb9, wo9 + k3 * 2, none⟩ = some (.int .i64 PP.1) := HP0.out.carry hx; have p1 : wx.cell? ⟨wb9, wo9 + k3 * 2 + 1, none⟩ = some (.slice pa pm pc) := HP1.out.carry hx; have ew := HEW.out; rw [ew] at kf1; clear ew hx; go_simp; all_goals (with_reducible rfl))
                  try simp only [Act.put, List.setIfInBounds_toArray, List.set_cons_zero, List.set_cons_succ]
                  refine reg_take (i := 17) (v := ?qjv17) rfl (by kernel_rfl) (by kernel_rfl) (by kernel_rfl) (by kernel_rfl) ?qjy17 hS ?qjr17
                  case qjy17 => (rintro wx hx; (obtain ⟨kf0, kf1, kf2, kf3, kf4, kf5⟩ := fs_cells (HFf_w3.out.carry hx)); have qn : wx.cell? ⟨lb, lo + k2, none⟩ = some (.int .i64 (nn : Int)) := HQN_w3.out.carry hx; have p0 : wx.cell? ⟨wb9, wo9 + k3 * 2, none⟩ = some (.int .i64 PP.1) := HP0.out.carry hx; have p1 : wx.cell? ⟨wb9, wo9 + k3 * 2 + 1, none⟩ = some (.slice pa pm pc) := HP1.out.carry hx; have ew := HEW.out; rw [ew] at kf1; clear ew hx; go_simp; all_goals (with_reducible rfl))
                  try simp only [Act.put, List.setIfInBounds_toArray, List.set_cons_zero, List.set_cons_succ]
                  refine reg_take (i := 18) (v := ?qjv18) rfl (by kernel_rfl) (by kernel_rfl) (by kernel_rfl) (by kernel_rfl) ?qjy18 hS ?qjr18
                  case qjy18 => (rintro wx hx; (obtain ⟨kf0, kf1, kf2, kf3, kf4, kf5⟩ := fs_cells (HFf_w3.out.carry hx)); have qn : wx.cell? ⟨lb, lo + k2, none⟩ = some (.int .i64 (nn : Int)) := HQN_w3.out.carry hx; have p0 : wx.cell? ⟨wb9, wo9 + k3 * 2, none⟩ = some (.int .i64 PP.1) := HP0.out.carry hx; have p1 : wx.cell? ⟨wb9, wo9 + k3 * 2 + 1, none⟩ = some (.slice pa pm pc) := HP1.out.carry hx; have ew := HEW.out; rw [ew] at kf1; clear ew hx; go_simp; all_goals (with_reducible rfl))
                  try simp only [Act.put, List.setIfInBounds_toArray, List.set_cons_zero, List.set_cons_succ]
                  refine reg_take (i := 19) (v := ?qjv19) rfl (by kernel_rfl) (by kernel_rfl) (by kernel_rfl) (by kernel_rfl) ?qjy19 hS ?qjr19
                  case qjy19 => (rintro wx hx; (obtain ⟨kf0, kf1, kf2, kf3, kf4, kf5⟩ := fs_cells (HFf_w3.out.carry hx)); have qn : wx.cell? ⟨lb, lo + k2, none⟩ = some (.int .i64 (nn : Int)) := HQN_w3.out.carry hx; have p0 : wx.cell? ⟨wb9, wo9 + k3 * 2, none⟩ = some (.int .i64 PP.1) := HP0.out.carry hx; have p1 : wx.cell? ⟨wb9, wo9 + k3 * 2 + 1, none⟩ = some (.slice pa pm pc) := HP1.out.carry hx; have ew := HEW.out; rw [ew] at kf1; clear ew hx; go_simp; all_goals (with_reducible rfl))
                  try simp only [Act.put, List.setIfInBounds_toArray, List.set_cons_zero, List.set_cons_succ]
                  refine reg_take (i := 20) (v := ?qjv20) rfl (by kernel_rfl) (by kernel_rfl) (by kernel_rfl) (by kernel_rfl) ?qjy20 hS ?qjr20
                  case qjy20 => (rintro wx hx; (obtain ⟨kf0, kf1, kf2, kf3, kf4, kf5⟩ := fs_cells (HFf_w3.out.carry hx)); have qn : wx.cell? ⟨lb, lo + k2, none⟩ = some (.int .i64 (nn : Int)) := HQN_w3.out.carry hx; have p0 : wx.cell? ⟨wb9, wo9 + k3 * 2, none⟩ = some (.int .i64 PP.1) := HP0.out.carry hx; have p1 : wx.cell? ⟨wb9, wo9 + k3 * 2 + 1, none⟩ = some (.slice pa pm pc) := HP1.out.carry hx; have ew := HEW.out; rw [ew] at kf1; clear ew hx; go_simp; all_goals (with_reducible rfl))
                  try simp only [Act.put, List.setIfInBounds_toArray, List.set_cons_zero, List.set_cons_succ]
                  refine reg_take (i := 21) (v := ?qjv21) rfl (by kernel_rfl) (by kernel_rfl) (by kernel_rfl) (by kernel_rfl) ?qjy21 hS ?qjr21
                  case qjy21 => (rintro wx hx; (obtain ⟨kf0, kf1, kf2, kf3, kf4, kf5⟩ := fs_cells (HFf_w3.out.carry hx)); have qn : wx.cell? ⟨lb, lo + k2, none⟩ = some (.int .i64 (nn : Int)) := HQN_w3.out.carry hx; have p0 : wx.cell? ⟨wb9, wo9 + k3 * 2, none⟩ = some (.int .i64 PP.1) := HP0.out.carry hx; have p1 : wx.cell? ⟨wb9, wo9 + k3 * 2 + 1, none⟩ = some (.slice pa pm pc) := HP1.out.carry hx; have ew := HEW.out; rw [ew] at kf1; clear ew hx; go_simp; all_goals (with_reducible rfl))
                  try simp only [Act.put, List.setIfInBounds_toArray, List.set_cons_zero, List.set_cons_succ]
                  refine reg_take (i := 23) (v := ?qjv23) rfl (by kernel_rfl) (by kernel_rfl) (by kernel_rfl) (by kernel_rfl) ?qjy23 hS ?qjr23
                  case qjy23 => (rintro wx hx; (obtain ⟨kf0, kf1, kf2, kf3, kf4, kf5⟩ := fs_cells (HFf_w3.out.carry hx)); have qn : wx.cell? ⟨lb, lo + k2, none⟩ = some (.int .i64 (nn : Int)) := HQN_w3.out.carry hx; have p0 : wx.cell? ⟨wb9, wo9 + k3 * 2, none⟩ = some (.int .i64 PP.1) := HP0.out.carry hx; have p1 : wx.cell? ⟨wb9, wo9 + k3 * 2 + 1, none⟩ = some (.slice pa pm pc) := HP1.out.carry hx; have ew := HEW.out; rw [ew] at kf1; clear ew hx; go_simp; all_goals (with_reducible rfl))
                  try simp only [Act.put, List.setIfInBounds_toArray, List.set_cons_zero, List.set_cons_succ]
                  refine reg_take (i := 22) (v := .string (bs PP.2)) rfl (by kernel_rfl) (by kernel_rfl) (by kernel_rfl) (by kernel_rfl) (fun wx hx => yield_conv rfl Tryz.underlying23 Tryz.underlying5 Tryz.underlying9 rfl (HP2.out.carry (show Below wr3.heap.size wr3 wx from hx))) hS ?_
                  try simp only [Act.put, List.setIfInBounds_toArray, List.set_cons_zero, List.set_cons_succ]
                  refine reg_take (i := 24) (v := .string (bs bb)) rfl (by kernel_rfl) (by kernel_rfl) (by kernel_rfl) (by kernel_rfl) (fun wx hx => yield_conv rfl Tryz.underlying23 Tryz.underlying5 Tryz.underlying9 rfl (HRB.out.carry (HBG.out.trans ((show Below wr3.heap.size wr3 wx from hx).mono HBG.out.size)))) hS ?_
                  try simp only [Act.put, List.setIfInBounds_toArray, List.set_cons_zero, List.set_cons_succ]
                  refine reg_take (i := 25) (v := ?qjv25) rfl (by kernel_rfl) (by kernel_rfl) (by kernel_rfl) (by kernel_rfl) ?qjy25 hS ?qjr25
                  case qjy25 => (rintro wx hx; (obtain ⟨kf0, kf1, kf2, kf3, kf4, kf5⟩ := fs_cells (HFf_w3.out.carry hx)); have qn : wx.cell? ⟨lb, lo + k2, none⟩ = some (.int .i64 (nn : Int)) := HQN_w3.out.carry hx; have p0 : wx.cell? ⟨wb9, wo9 + k3 * 2, none⟩ = some (.int .i64 PP.1) := HP0.out.carry hx; have p1 : wx.cell? ⟨wb9, wo9 + k3 * 2 + 1, none⟩ = some (.slice pa pm pc) := HP1.out.carry hx; have ew := HEW.out; rw [ew] at kf1; clear ew hx; go_simp; all_goals (with_reducible rfl))
                  try simp only [Act.put, List.setIfInBounds_toArray, List.set_cons_zero, List.set_cons_succ]
                  refine reg_take (i := 26) (v := ?qjv26) rfl (by kernel_rfl) (by kernel_rfl) (by kernel_rfl) (by kernel_rfl) ?qjy26 hS ?qjr26
                  case qjy26 => (rintro wx hx; (obtain ⟨kf0, kf1, kf2, kf3, kf4, kf5⟩ := fs_cells (HFf_w3.out.carry hx)); have qn : wx.cell? ⟨lb, lo + k2, none⟩ = some (.int .i64 (nn : Int)) := HQN_w3.out.carry hx; have p0 : wx.cell? ⟨wb9, wo9 + k3 * 2, none⟩ = some (.int .i64 PP.1) := HP0.out.carry hx; have p1 : wx.cell? ⟨wb9, wo9 + k3 * 2 + 1, none⟩ = some (.slice pa pm pc) := HP1.out.carry hx; have ew := HEW.out; rw [ew] at kf1; clear ew hx; go_simp; all_goals (with_reducible rfl))
                  try simp only [Act.put, List.setIfInBounds_toArray, List.set_cons_zero, List.set_cons_succ]
                  refine reg_take (i := 27) (v := ?qjv27) rfl (by kernel_rfl) (by kernel_rfl) (by kernel_rfl) (by kernel_rfl) ?qjy27 hS ?qjr27
                  case qjy27 => (rintro wx hx; (obtain ⟨kf0, kf1, kf2, kf3, kf4, kf5⟩ := fs_cells (HFf_w3.out.carry hx)); have qn : wx.cell? ⟨lb, lo + k2, none⟩ = some (.int .i64 (nn : Int)) := HQN_w3.out.carry hx; have p0 : wx.cell? ⟨wb9, wo9 + k3 * 2, none⟩ = some (.int .i64 PP.1) := HP0.out.carry hx; have p1 : wx.cell? ⟨wb9, wo9 + k3 * 2 + 1, none⟩ = some (.slice pa pm pc) := HP1.out.carry hx; have ew := HEW.out; rw [ew] at kf1; clear ew hx; go_simp; all_goals (with_reducible rfl))
                  try simp only [Act.put, List.setIfInBounds_toArray, List.set_cons_zero, List.set_cons_succ]
                  refine reg_take (i := 28) (v := ?qjv28) rfl (by kernel_rfl) (by kernel_rfl) (by kernel_rfl) (by kernel_rfl) ?qjy28 hS ?qjr28
                  case qjy28 => (rintro wx hx; (obtain ⟨kf0, kf1, kf2, kf3, kf4, kf5⟩ := fs_cells (HFf_w3.out.carry hx)); have qn : wx.cell? ⟨lb, lo + k2, none⟩ = some (.int .i64 (nn : Int)) := HQN_w3.out.carry hx; have p0 : wx.cell? ⟨wb9, wo9 + k3 * 2, none⟩ = some (.int .i64 PP.1) := HP0.out.carry hx; have p1 : wx.cell? ⟨wb9, wo9 + k3 * 2 + 1, none⟩ = some (.slice pa pm pc) := HP1.out.carry hx; have ew := HEW.out; rw [ew] at kf1; clear ew hx; go_simp; all_goals (with_reducible rfl))
                  try simp only [Act.put, List.setIfInBounds_toArray, List.set_cons_zero, List.set_cons_succ]
                  refine wpAnyH_done (by kernel_rfl) ?_ _
                  refine NoPanic.normal ?_
                  try simp only [Act.put, List.setIfInBounds_toArray, List.set_cons_zero, List.set_cons_succ]
                  have HBE := hide (hbel3.out.trans (hS.mono hbel3.out.size))
                  have HIN := hide (show true = isB f nn bb (k3 + 1) by rw [HSU.out, decide_eq_true hp1, decide_eq_true hp2]; rfl)
                  clear hS hK
                  go_wp2
                  go_roundw
                  case rel => exact ⟨k3 + 1, by omega, rfl, true, rfl, HIN, HBE⟩
                  case measure => simp only [intOf]; omega
                · skip
                  have hpq : (PP.1 == (nn : Int)) = true := by simpa using hp1
                  have hpr : ((bs PP.2).toList == (bs bb).toList) = false := by rw [bs_beq]; exact decide_eq_false hp2
                  have hK : Keeps (fun wx => Below wr3.heap.size wr3 wx) := fun w1 w2 h hb => h.trans (hb.mono h.size)
                  refine reg_begin hK (by kernel_rfl) (Below.refl _ _) ?_
                  intro hS
                  generalize wr3.drew = wj at *
                  refine reg_take (i := 0) (v := ?qkv0) rfl (by kernel_rfl) (by kernel_rfl) (by kernel_rfl) (by kernel_rfl) ?qky0 hS ?qkr0
                  case qky0 => (rintro wx hx; (obtain ⟨kf0, kf1, kf2, kf3, kf4, kf5⟩ := fs_cells (HFf_w3.out.carry hx)); have qn : wx.cell? ⟨lb, lo + k2, none⟩ = some (.int .i64 (nn : Int)) := HQN_w3.out.carry hx; have p0 : wx.cell? ⟨wb9, wo9 + k3 * 2, none⟩ = some (.int .i64 PP.1) := HP0.out.carry hx; have p1 : wx.cell? ⟨wb9, wo9 + k3 * 2 + 1, none⟩ = some (.slice pa pm pc) := HP1.out.carry hx; have ew := HEW.out; rw [ew] at kf1; clear ew hx; go_simp; all_goals (with_reducible rfl))
                  try simp only [Act.put, List.setIfInBounds_toArray, List.set_cons_zero, List.set_cons_succ]
                  refine reg_take (i := 1) (v := ?qkv1) rfl (by kernel_rfl) (by kernel_rfl) (by kernel_rfl) (by kernel_rfl) ?qky1 hS ?qkr1
                  case qky1 => (rintro wx hx; (obtain ⟨kf0, kf1, kf2, kf3, kf4, kf5⟩ := fs_cells (HFf_w3.out.carry hx)); have qn : wx.cell? ⟨lb, lo + k2, none⟩ = some (.int .i64 (nn : Int)) := HQN_w3.out.carry hx; have p0 : wx.cell? ⟨wb9, wo9 + k3 * 2, none⟩ = some (.int .i64 PP.1) := HP0.out.carry hx; have p1 : wx.cell? ⟨wb9, wo9 + k3 * 2 + 1, none⟩ = some (.slice pa pm pc) := HP1.out.carry hx; have ew := HEW.out; rw [ew] at kf1; clear ew hx; go_simp; all_goals (with_reducible rfl))
                  try simp only [Act.put, List.setIfInBounds_toArray, List.set_cons_zero, List.set_cons_succ]
                  refine reg_take (i := 2) (v := ?qkv2) rfl (by kernel_rfl) (by kernel_rfl) (by kernel_rfl) (by kernel_rfl) ?qky2 hS ?qkr2
                  case qky2 => (rintro wx hx; (obtain ⟨kf0, kf1, kf2, kf3, kf4, kf5⟩ := fs_cells (HFf_w3.out.carry hx)); have qn : wx.cell? ⟨lb, lo + k2, none⟩ = some (.int .i64 (nn : Int)) := HQN_w3.out.carry hx; have p0 : wx.cell? ⟨wb9, wo9 + k3 * 2, none⟩ = some (.int .i64 PP.1) := HP0.out.carry hx; have p1 : wx.cell? ⟨wb9, wo9 + k3 * 2 + 1, none⟩ = some (.slice pa pm pc) := HP1.out.carry hx; have ew := HEW.out; rw [ew] at kf1; clear ew hx; go_simp; all_goals (with_reducible rfl))
                  try simp only [Act.put, List.setIfInBounds_toArray, List.set_cons_zero, List.set_cons_succ]
                  refine reg_take (i := 3) (v := ?qkv3) rfl (by kernel_rfl) (by kernel_rfl) (by kernel_rfl) (by kernel_rfl) ?qky3 hS ?qkr3
                  case qky3 => (rintro wx hx; (obtain ⟨kf0, kf1, kf2, kf3, kf4, kf5⟩ := fs_cells (HFf_w3.out.carry hx)); have qn : wx.cell? ⟨lb, lo + k2, none⟩ = some (.int .i64 (nn : Int)) := HQN_w3.out.carry hx; have p0 : wx.cell? ⟨wb9, wo9 + k3 * 2, none⟩ = some (.int .i64 PP.1) := HP0.out.carry hx; have p1 : wx.cell? ⟨wb9, wo9 + k3 * 2 + 1, none⟩ = some (.slice pa pm pc) := HP1.out.carry hx; have ew := HEW.out; rw [ew] at kf1; clear ew hx; go_simp; all_goals (with_reducible rfl))
                  try simp only [Act.put, List.setIfInBounds_toArray, List.set_cons_zero, List.set_cons_succ]
                  refine reg_take (i := 4) (v := ?qkv4) rfl (by kernel_rfl) (by kernel_rfl) (by kernel_rfl) (by kernel_rfl) ?qky4 hS ?qkr4
                  case qky4 => (rintro wx hx; (obtain ⟨kf0, kf1, kf2, kf3, kf4, kf5⟩ := fs_cells (HFf_w3.out.carry hx)); have qn : wx.cell? ⟨lb, lo + k2, none⟩ = some (.int .i64 (nn : Int)) := HQN_w3.out.carry hx; have p0 : wx.cell? ⟨wb9, wo9 + k3 * 2, none⟩ = some (.int .i64 PP.1) := HP0.out.carry hx; have p1 : wx.cell? ⟨wb9, wo9 + k3 * 2 + 1, none⟩ = some (.slice pa pm pc) := HP1.out.carry hx; have ew := HEW.out; rw [ew] at kf1; clear ew hx; go_simp; all_goals (with_reducible rfl))
                  try simp only [Act.put, List.setIfInBounds_toArray, List.set_cons_zero, List.set_cons_succ]
                  refine reg_take (i := 5) (v := ?qkv5) rfl (by kernel_rfl) (by kernel_rfl) (by kernel_rfl) (by kernel_rfl) ?qky5 hS ?qkr5
                  case qky5 => (rintro wx hx; (obtain ⟨kf0, kf1, kf2, kf3, kf4, kf5⟩ := fs_cells (HFf_w3.out.carry hx)); have qn : wx.cell? ⟨lb, lo + k2, none⟩ = some (.int .i64 (nn : Int)) := HQN_w3.out.carry hx; have p0 : wx.cell? ⟨wb9, wo9 + k3 * 2, none⟩ = some (.int .i64 PP.1) := HP0.out.carry hx; have p1 : wx.cell? ⟨wb9, wo9 + k3 * 2 + 1, none⟩ = some (.slice pa pm pc) := HP1.out.carry hx; have ew := HEW.out; rw [ew] at kf1; clear ew hx; go_simp; all_goals (with_reducible rfl))
                  try simp only [Act.put, List.setIfInBounds_toArray, List.set_cons_zero, List.set_cons_succ]
                  refine reg_take (i := 6) (v := ?qkv6) rfl (by kernel_rfl) (by kernel_rfl) (by kernel_rfl) (by kernel_rfl) ?qky6 hS ?qkr6
                  case qky6 => (rintro wx hx; (obtain ⟨kf0, kf1, kf2, kf3, kf4, kf5⟩ := fs_cells (HFf_w3.out.carry hx)); have qn : wx.cell? ⟨lb, lo + k2, none⟩ = some (.int .i64 (nn : Int)) := HQN_w3.out.carry hx; have p0 : wx.cell? ⟨wb9, wo9 + k3 * 2, none⟩ = some (.int .i64 PP.1) := HP0.out.carry hx; have p1 : wx.cell? ⟨wb9, wo9 + k3 * 2 + 1, none⟩ = some (.slice pa pm pc) := HP1.out.carry hx; have ew := HEW.out; rw [ew] at kf1; clear ew hx; go_simp; all_goals (with_reducible rfl))
                  try simp only [Act.put, List.setIfInBounds_toArray, List.set_cons_zero, List.set_cons_succ]
                  refine reg_take (i := 7) (v := ?qkv7) rfl (by kernel_rfl) (by kernel_rfl) (by kernel_rfl) (by kernel_rfl) ?qky7 hS ?qkr7
                  case qky7 => (rintro wx hx; (obtain ⟨kf0, kf1, kf2, kf3, kf4, kf5⟩ := fs_cells (HFf_w3.out.carry hx)); have qn : wx.cell? ⟨lb, lo + k2, none⟩ = some (.int .i64 (nn : Int)) := HQN_w3.out.carry hx; have p0 : wx.cell? ⟨wb9, wo9 + k3 * 2, none⟩ = some (.int .i64 PP.1) := HP0.out.carry hx; have p1 : wx.cell? ⟨wb9, wo9 + k3 * 2 + 1, none⟩ = some (.slice pa pm pc) := HP1.out.carry hx; have ew := HEW.out; rw [ew] at kf1; clear ew hx; go_simp; all_goals (with_reducible rfl))
                  try simp only [Act.put, List.setIfInBounds_toArray, List.set_cons_zero, List.set_cons_succ]
                  refine reg_take (i := 8) (v := ?qkv8) rfl (by kernel_rfl) (by kernel_rfl) (by kernel_rfl) (by kernel_rfl) ?qky8 hS ?qkr8
                  case qky8 => (rintro wx hx; (obtain ⟨kf0, kf1, kf2, kf3, kf4, kf5⟩ := fs_cells (HFf_w3.out.carry hx)); have qn : wx.cell? ⟨lb, lo + k2, none⟩ = some (.int .i64 (nn : Int)) := HQN_w3.out.carry hx; have p0 : wx.cell? ⟨wb9, wo9 + k3 * 2, none⟩ = some (.int .i64 PP.1) := HP0.out.carry hx; have p1 : wx.cell? ⟨wb9, wo9 + k3 * 2 + 1, none⟩ = some (.slice pa pm pc) := HP1.out.carry hx; have ew := HEW.out; rw [ew] at kf1; clear ew hx; go_simp; all_goals (with_reducible rfl))
                  try simp only [Act.put, List.setIfInBounds_toArray, List.set_cons_zero, List.set_cons_succ]
                  refine reg_take (i := 9) (v := ?qkv9) rfl (by kernel_rfl) (by kernel_rfl) (by kernel_rfl) (by kernel_rfl) ?qky9 hS ?qkr9
                  case qky9 => (rintro wx hx; (obtain ⟨kf0, kf1, kf2, kf3, kf4, kf5⟩ := fs_cells (HFf_w3.out.carry hx)); have qn : wx.cell? ⟨lb, lo + k2, none⟩ = some (.int .i64 (nn : Int)) := HQN_w3.out.carry hx; have p0 : wx.cell? ⟨wb9, wo9 + k3 * 2, none⟩ = some (.int .i64 PP.1) := HP0.out.carry hx; have p1 : wx.cell? ⟨wb9, wo9 + k3 * 2 + 1, none⟩ = some (.slice pa pm pc) := HP1.out.carry hx; have ew := HEW.out; rw [ew] at kf1; clear ew hx; go_simp; all_goals (with_reducible rfl))
                  try simp only [Act.put, List.setIfInBounds_toArray, List.set_cons_zero, List.set_cons_succ]
                  refine reg_take (i := 10) (v := ?qkv10) rfl (by kernel_rfl) (by kernel_rfl) (by kernel_rfl) (by kernel_rfl) ?qky10 hS ?qkr10
                  case qky10 => (rintro wx hx; (obtain ⟨kf0, kf1, kf2, kf3, kf4, kf5⟩ := fs_cells (HFf_w3.out.carry hx)); have qn : wx.cell? ⟨lb, lo + k2, none⟩ = some (.int .i64 (nn : Int)) := HQN_w3.out.carry hx; have p0 : wx.cell? ⟨wb9, wo9 + k3 * 2, none⟩ = some (.int .i64 PP.1) := HP0.out.carry hx; have p1 : wx.cell? ⟨wb9, wo9 + k3 * 2 + 1, none⟩ = some (.slice pa pm pc) := HP1.out.carry hx; have ew := HEW.out; rw [ew] at kf1; clear ew hx; go_simp; all_goals (with_reducible rfl))
                  try simp only [Act.put, List.setIfInBounds_toArray, List.set_cons_zero, List.set_cons_succ]
                  refine reg_take (i := 11) (v := ?qkv11) rfl (by kernel_rfl) (by kernel_rfl) (by kernel_rfl) (by kernel_rfl) ?qky11 hS ?qkr11
                  case qky11 => (rintro wx hx; (obtain ⟨kf0, kf1, kf2, kf3, kf4, kf5⟩ := fs_cells (HFf_w3.out.carry hx)); have qn : wx.cell? ⟨lb, lo + k2, none⟩ = some (.int .i64 (nn : Int)) := HQN_w3.out.carry hx; have p0 : wx.cell? ⟨wb9, wo9 + k3 * 2, none⟩ = some (.int .i64 PP.1) := HP0.out.carry hx; have p1 : wx.cell? ⟨wb9, wo9 + k3 * 2 + 1, none⟩ = some (.slice pa pm pc) := HP1.out.carry hx; have ew := HEW.out; rw [ew] at kf1; clear ew hx; go_simp; all_goals (with_reducible rfl))
                  try simp only [Act.put, List.setIfInBounds_toArray, List.set_cons_zero, List.set_cons_succ]
                  refine reg_take (i := 12) (v := ?qkv12) rfl (by kernel_rfl) (by kernel_rfl) (by kernel_rfl) (by kernel_rfl) ?qky12 hS ?qkr12
                  case qky12 => (rintro wx hx; (obtain ⟨kf0, kf1, kf2, kf3, kf4, kf5⟩ := fs_cells (HFf_w3.out.carry hx)); have qn : wx.cell? ⟨lb, lo + k2, none⟩ = some (.int .i64 (nn : Int)) := HQN_w3.out.carry hx; have p0 : wx.cell? ⟨wb9, wo9 + k3 * 2, none⟩ = some (.int .i64 PP.1) := HP0.out.carry hx; have p1 : wx.cell? ⟨wb9, wo9 + k3 * 2 + 1, none⟩ = some (.slice pa pm pc) := HP1.out.carry hx; have ew := HEW.out; rw [ew] at kf1; clear ew hx; go_simp; all_goals (with_reducible rfl))
                  try simp only [Act.put, List.setIfInBounds_toArray, List.set_cons_zero, List.set_cons_succ]
                  refine reg_take (i := 13) (v := ?qkv13) rfl (by kernel_rfl) (by kernel_rfl) (by kernel_rfl) (by kernel_rfl) ?qky13 hS ?qkr13
                  case qky13 => (rintro wx hx; (obtain ⟨kf0, kf1, kf2, kf3, kf4, kf5⟩ := fs_cells (HFf_w3.out.carry hx)); have qn : wx.cell? ⟨lb, lo + k2, none⟩ = some (.int .i64 (nn : Int)) := HQN_w3.out.carry hx; have p0 : wx.cell? ⟨wb9, wo9 + k3 * 2, none⟩ = some (.int .i64 PP.1) := HP0.out.carry hx; have p1 : wx.cell? ⟨wb9, wo9 + k3 * 2 + 1, none⟩ = some (.slice pa pm pc) := HP1.out.carry hx; have ew := HEW.out; rw [ew] at kf1; clear ew hx; go_simp; all_goals (with_reducible rfl))
                  try simp only [Act.put, List.setIfInBounds_toArray, List.set_cons_zero, List.set_cons_succ]
                  refine reg_take (i := 14) (v := ?qkv14) rfl (by kernel_rfl) (by kernel_rfl) (by kernel_rfl) (by kernel_rfl) ?qky14 hS ?qkr14
                  case qky14 => (rintro wx hx; (obtain ⟨kf0, kf1, kf2, kf3, kf4, kf5⟩ := fs_cells (HFf_w3.out.carry hx)); have qn : wx.cell? ⟨lb, lo + k2, none⟩ = some (.int .i64 (nn : Int)) := HQN_w3.out.carry hx; have p0 : wx.cell? ⟨wb9, wo9 + k3 * 2, none⟩ = some (.int .i64 PP.1) := HP0.out.carry hx; have p1 : wx.cell? ⟨wb9, wo9 + k3 * 2 + 1, none⟩ = some (.slice pa pm pc) := HP1.out.carry hx; have ew := HEW.out; rw [ew] at kf1; clear ew hx; go_simp; all_goals (with_reducible rfl))
                  try simp only [Act.put, List.setIfInBounds_toArray, List.set_cons_zero, List.set_cons_succ]
                  refine reg_take (i := 15) (v := ?qkv15) rfl (by kernel_rfl) (by kernel_rfl) (by kernel_rfl) (by kernel_rfl) ?qky15 hS ?qkr15
                  case qky15 => (rintro wx hx; (obtain ⟨kf0, kf1, kf2, kf3, kf4, kf5⟩ := fs_cells (HFf_w3.out.carry hx)); have qn : wx.cell? ⟨lb, lo + k2, none⟩ = some (.int .i64 (nn : Int)) := HQN_w3.out.carry hx; have p0 : wx.cell? ⟨wb9, wo9 + k3 * 2, none⟩ = some (.int .i64 PP.1) := HP0.out.carry hx; have p1 : wx.cell? ⟨wb9, wo9 + k3 * 2 + 1, none⟩ = some (.slice pa pm pc) := HP1.out.carry hx; have ew := HEW.out; rw [ew] at kf1; clear ew hx; go_simp; all_goals (with_reducible rfl))
                  try simp only [Act.put, List.setIfInBounds_toArray, List.set_cons_zero, List.set_cons_succ]
                  refine reg_take (i := 16) (v := ?qkv16) rfl (by kernel_rfl) (by kernel_rfl) (by kernel_rfl) (by kernel_rfl) ?qky16 hS ?qkr16
                  case qky16 => (rintro wx hx; (obtain ⟨kf0, kf1, kf2, kf3, kf4, kf5⟩ := fs_cells (HFf_w3.out.carry hx)); have qn : wx.cell? ⟨lb, lo + k2, none⟩ = some (.int .i64 (nn : Int)) := HQN_w3.out.carry hx; have p0 : wx.cell? ⟨wb9, wo9 + k3 * 2, none⟩ = some (.int .i64 PP.1) := HP0.out.carry hx; have p1 : wx.cell? ⟨wb9, wo9 + k3 * 2 + 1, none⟩ = some (.slice pa pm pc) := HP1.out.carry hx; have ew := HEW.out; rw [ew] at kf1; clear ew hx; go_simp; all_goals (with_reducible rfl))
                  try simp only [Act.put, List.setIfInBounds_toArray, List.set_cons_zero, List.set_cons_succ]
                  refine reg_take (i := 17) (v := ?qkv17) rfl (by kernel_rfl) (by kernel_rfl) (by kernel_rfl) (by kernel_rfl) ?qky17 hS ?qkr17
                  case qky17 => (rintro wx hx; (obtain ⟨kf0, kf1, kf2, kf3, kf4, kf5⟩ := fs_cells (HFf_w3.out.carry hx)); have qn : wx.cell? ⟨lb, lo + k2, none⟩ = some (.int .i64 (nn : Int)) := HQN_w3.out.carry hx; have p0 : wx.cell? ⟨wb9, wo9 + k3 * 2, none⟩ = some (.int .i64 PP.1) := HP0.out.carry hx; have p1 : wx.cell? ⟨wb9, wo9 + k3 * 2 + 1, none⟩ = some (.slice pa pm pc) := HP1.out.carry hx; have ew := HEW.out; rw [ew] at kf1; clear ew hx; go_simp; all_goals (with_reducible rfl))
                  try simp only [Act.put, List.setIfInBounds_toArray, List.set_cons_zero, List.set_cons_succ]
                  refine reg_take (i := 18) (v := ?qkv18) rfl (by kernel_rfl) (by kernel_rfl) (by kernel_rfl) (by kernel_rfl) ?qky18 hS ?qkr18
                  case qky18 => (rintro wx hx; (obtain ⟨kf0, kf1, kf2, kf3, kf4, kf5⟩ := fs_cells (HFf_w3.out.carry hx)); have qn : wx.cell? ⟨lb, lo + k2, none⟩ = some (.int .i64 (nn : Int)) := HQN_w3.out.carry hx; have p0 : wx.cell? ⟨wb9, wo9 + k3 * 2, none⟩ = some (.int .i64 PP.1) := HP0.out.carry hx; have p1 : wx.cell? ⟨wb9, wo9 + k3 * 2 + 1, none⟩ = some (.slice pa pm pc) := HP1.out.carry hx; have ew := HEW.out; rw [ew] at kf1; clear ew hx; go_simp; all_goals (with_reducible rfl))
                  try simp only [Act.put, List.setIfInBounds_toArray, List.set_cons_zero, List.set_cons_succ]
                  refine reg_take (i := 19) (v := ?qkv19) rfl (by kernel_rfl) (by kernel_rfl) (by kernel_rfl) (by kernel_rfl) ?qky19 hS ?qkr19
                  case qky19 => (rintro wx hx; (obtain ⟨kf0, kf1, kf2, kf3, kf4, kf5⟩ := fs_cells (HFf_w3.out.carry hx)); have qn : wx.cell? ⟨lb, lo + k2, none⟩ = some (.int .i64 (nn : Int)) := HQN_w3.out.carry hx; have p0 : wx.cell? ⟨wb9, wo9 + k3 * 2, none⟩ = some (.int .i64 PP.1) := HP0.out.carry hx; have p1 : wx.cell? ⟨wb9, wo9 + k3 * 2 + 1, none⟩ = some (.slice pa pm pc) := HP1.out.carry hx; have ew := HEW.out; rw [ew] at kf1; clear ew hx; go_simp; all_goals (with_reducible rfl))
                  try simp only [Act.put, List.setIfInBounds_toArray, List.set_cons_zero, List.set_cons_succ]
                  refine reg_take (i := 20) (v := ?qkv20) rfl (by kernel_rfl) (by kernel_rfl) (by kernel_rfl) (by kernel_rfl) ?qky20 hS ?qkr20
                  case qky20 => (rintro wx hx; (obtain ⟨kf0, kf1, kf2, kf3, kf4, kf5⟩ := fs_cells (HFf_w3.out.carry hx)); have qn : wx.cell? ⟨lb, lo + k2, none⟩ = some (.int .i64 (nn : Int)) := HQN_w3.out.carry hx; have p0 : wx.cell? ⟨wb9, wo9 + k3 * 2, none⟩ = some (.int .i64 PP.1) := HP0.out.carry hx; have p1 : wx.cell? ⟨wb9, wo9 + k3 * 2 + 1, none⟩ = some (.slice pa pm pc) := HP1.out.carry hx; have ew := HEW.out; rw [ew] at kf1; clear ew hx; go_simp; all_goals (with_reducible rfl))
                  try simp only [Act.put, List.setIfInBounds_toArray, List.set_cons_zero, List.set_cons_succ]
                  refine reg_take (i := 21) (v := ?qkv21) rfl (by kernel_rfl) (by kernel_rfl) (by kernel_rfl) (by kernel_rfl) ?qky21 hS ?qkr21
                  case qky21 => (rintro wx hx; (obtain ⟨kf0, kf1, kf2, kf3, kf4, kf5⟩ := fs_cells (HFf_w3.out.carry hx)); have qn : wx.cell? ⟨lb, lo + k2, none⟩ = some (.int .i64 (nn : Int)) := HQN_w3.out.carry hx; have p0 : wx.cell? ⟨wb9, wo9 + k3 * 2, none⟩ = some (.int .i64 PP.1) := HP0.out.carry hx; have p1 : wx.cell? ⟨wb9, wo9 + k3 * 2 + 1, none⟩ = some (.slice pa pm pc) := HP1.out.carry hx; have ew := HEW.out; rw [ew] at kf1; clear ew hx; go_simp; all_goals (with_reducible rfl))
                  try simp only [Act.put, List.setIfInBounds_toArray, List.set_cons_zero, List.set_cons_succ]
                  refine reg_take (i := 23) (v := ?qkv23) rfl (by kernel_rfl) (by kernel_rfl) (by kernel_rfl) (by kernel_rfl) ?qky23 hS ?qkr23
                  case qky23 => (rintro wx hx; (obtain ⟨kf0, kf1, kf2, kf3, kf4, kf5⟩ := fs_cells (HFf_w3.out.carry hx)); have qn : wx.cell? ⟨lb, lo + k2, none⟩ = some (.int .i64 (nn : Int)) := HQN_w3.out.carry hx; have p0 : wx.cell? ⟨wb9, wo9 + k3 * 2, none⟩ = some (.int .i64 PP.1) := HP0.out.carry hx; have p1 : wx.cell? ⟨wb9, wo9 + k3 * 2 + 1, none⟩ = some (.slice pa pm pc) := HP1.out.carry hx; have ew := HEW.out; rw [ew] at kf1; clear ew hx; go_simp; all_goals (with_reducible rfl))
                  try simp only [Act.put, List.setIfInBounds_toArray, List.set_cons_zero, List.set_cons_succ]
                  refine reg_take (i := 22) (v := .string (bs PP.2)) rfl (by kernel_rfl) (by kernel_rfl) (by kernel_rfl) (by kernel_rfl) (fun wx hx => yield_conv rfl Tryz.underlying23 Tryz.underlying5 Tryz.underlying9 rfl (HP2.out.carry (show Below wr3.heap.size wr3 wx from hx))) hS ?_
                  try simp only [Act.put, List.setIfInBounds_toArray, List.set_cons_zero, List.set_cons_succ]
                  refine reg_take (i := 24) (v := .string (bs bb)) rfl (by kernel_rfl) (by kernel_rfl) (by kernel_rfl) (by kernel_rfl) (fun wx hx => yield_conv rfl Tryz.underlying23 Tryz.underlying5 Tryz.underlying9 rfl (HRB.out.carry (HBG.out.trans ((show Below wr3.heap.size wr3 wx from hx).mono HBG.out.size)))) hS ?_
                  try simp only [Act.put, List.setIfInBounds_toArray, List.set_cons_zero, List.set_cons_succ]
                  refine reg_take (i := 25) (v := ?qkv25) rfl (by kernel_rfl) (by kernel_rfl) (by kernel_rfl) (by kernel_rfl) ?qky25 hS ?qkr25
                  case qky25 => (rintro wx hx; (obtain ⟨kf0, kf1, kf2, kf3, kf4, kf5⟩ := fs_cells (HFf_w3.out.carry hx)); have qn : wx.cell? ⟨lb, lo + k2, none⟩ = some (.int .i64 (nn : Int)) := HQN_w3.out.carry hx; have p0 : wx.cell? ⟨wb9, wo9 + k3 * 2, none⟩ = some (.int .i64 PP.1) := HP0.out.carry hx; have p1 : wx.cell? ⟨wb9, wo9 + k3 * 2 + 1, none⟩ = some (.slice pa pm pc) := HP1.out.carry hx; have ew := HEW.out; rw [ew] at kf1; clear ew hx; go_simp; all_goals (with_reducible rfl))
                  try simp only [Act.put, List.setIfInBounds_toArray, List.set_cons_zero, List.set_cons_succ]
                  refine reg_take (i := 26) (v := ?qkv26) rfl (by kernel_rfl) (by kernel_rfl) (by kernel_rfl) (by kernel_rfl) ?qky26 hS ?qkr26
                  case qky26 => (rintro wx hx; (obtain ⟨kf0, kf1, kf2, kf3, kf4, kf5⟩ := fs_cells (HFf_w3.out.carry hx)); have qn : wx.cell? ⟨lb, lo + k2, none⟩ = some (.int .i64 (nn : Int)) := HQN_w3.out.carry hx; have p0 : wx.cell? ⟨wb9, wo9 + k3 * 2, none⟩ = some (.int .i64 PP.1) := HP0.out.carry hx; have p1 : wx.cell? ⟨wb9, wo9 + k3 * 2 + 1, none⟩ = some (.slice pa pm pc) := HP1.out.carry hx; have ew := HEW.out; rw [ew] at kf1; clear ew hx; go_simp; all_goals (with_reducible rfl))
                  try simp only [Act.put, List.setIfInBounds_toArray, List.set_cons_zero, List.set_cons_succ]
                  refine reg_take (i := 27) (v := ?qkv27) rfl (by kernel_rfl) (by kernel_rfl) (by kernel_rfl) (by kernel_rfl) ?qky27 hS ?qkr27
                  case qky27 => (rintro wx hx; (obtain ⟨kf0, kf1, kf2, kf3, kf4, kf5⟩ := fs_cells (HFf_w3.out.carry hx)); have qn : wx.cell? ⟨lb, lo + k2, none⟩ = some (.int .i64 (nn : Int)) := HQN_w3.out.carry hx; have p0 : wx.cell? ⟨wb9, wo9 + k3 * 2, none⟩ = some (.int .i64 PP.1) := HP0.out.carry hx; have p1 : wx.cell? ⟨wb9, wo9 + k3 * 2 + 1, none⟩ = some (.slice pa pm pc) := HP1.out.carry hx; have ew := HEW.out; rw [ew] at kf1; clear ew hx; go_simp; all_goals (with_reducible rfl))
                  try simp only [Act.put, List.setIfInBounds_toArray, List.set_cons_zero, List.set_cons_succ]
                  refine reg_take (i := 28) (v := ?qkv28) rfl (by kernel_rfl) (by kernel_rfl) (by kernel_rfl) (by kernel_rfl) ?qky28 hS ?qkr28
                  case qky28 => (rintro wx hx; (obtain ⟨kf0, kf1, kf2, kf3, kf4, kf5⟩ := fs_cells (HFf_w3.out.carry hx)); have qn : wx.cell? ⟨lb, lo + k2, none⟩ = some (.int .i64 (nn : Int)) := HQN_w3.out.carry hx; have p0 : wx.cell? ⟨wb9, wo9 + k3 * 2, none⟩ = some (.int .i64 PP.1) := HP0.out.carry hx; have p1 : wx.cell? ⟨wb9, wo9 + k3 * 2 + 1, none⟩ = some (.slice pa pm pc) := HP1.out.carry hx; have ew := HEW.out; rw [ew] at kf1; clear ew hx; go_simp; all_goals (with_reducible rfl))
                  try simp only [Act.put, List.setIfInBounds_toArray, List.set_cons_zero, List.set_cons_succ]
                  refine wpAnyH_done (by kernel_rfl) ?_ _
                  refine NoPanic.normal ?_
                  try simp only [Act.put, List.setIfInBounds_toArray, List.set_cons_zero, List.set_cons_succ]
                  have HBE := hide (hbel3.out.trans (hS.mono hbel3.out.size))
                  have HIN := hide (show false = isB f nn bb (k3 + 1) by rw [HSU.out, decide_eq_true hp1, decide_eq_false hp2]; rfl)
                  clear hS hK
                  go_wp2
                  go_roundw
                  case rel => exact ⟨k3 + 1, by omega, rfl, false, rfl, HIN, HBE⟩
                  case measure => simp only [intOf]; omega
              · skip
                have hpq : (PP.1 == (nn : Int)) = false := by simpa using hp1
                have hK : Keeps (fun wx => Below wr3.heap.size wr3 wx) := fun w1 w2 h hb => h.trans (hb.mono h.size)
                refine reg_begin hK (by kernel_rfl) (Below.refl _ _) ?_
                intro hS
                generalize wr3.drew = wj at *
                refine reg_take (i := 0) (v := ?qlv0) rfl (by kernel_rfl) (by kernel_rfl) (by kernel_rfl) (by kernel_rfl) ?qly0 hS ?qlr0
                case qly0 => (rintro wx hx; (obtain ⟨kf0, kf1, kf2, kf3, kf4, kf5⟩ := fs_cells (HFf_w3.out.carry hx)); have qn : wx.cell? ⟨lb, lo + k2, none⟩ = some (.int .i64 (nn : Int)) := HQN_w3.out.carry hx; have p0 : wx.cell? ⟨wb9, wo9 + k3 * 2, none⟩ = some (.int .i64 PP.1) := HP0.out.carry hx; have p1 : wx.cell? ⟨wb9, wo9 + k3 * 2 + 1, none⟩ = some (.slice pa pm pc) := HP1.out.carry hx; have ew := HEW.out; rw [ew] at kf1; clear ew hx; go_simp; all_goals (with_reducible rfl))
                try simp only [Act.put, List.setIfInBounds_toArray, List.set_cons_zero, List.set_cons_succ]
                refine reg_take (i := 1) (v := ?qlv1) rfl (by kernel_rfl) (by kernel_rfl) (by kernel_rfl) (by kernel_rfl) ?qly1 hS ?qlr1
                case qly1 => (rintro wx hx; (obtain ⟨kf0, kf1, kf2, kf3, kf4, kf5⟩ := fs_cells (HFf_w3.out.carry hx)); have qn : wx.cell? ⟨lb, lo + k2, none⟩ = some (.int .i64 (nn : Int)) := HQN_w3.out.carry hx; have p0 : wx.cell? ⟨wb9, wo9 + k3 * 2, none⟩ = some (.int .i64 PP.1) := HP0.out.carry hx; have p1 : wx.cell? ⟨wb9, wo9 + k3 * 2 + 1, none⟩ = some (.slice pa pm pc) := HP1.out.carry hx; have ew := HEW.out; rw [ew] at kf1; clear ew hx; go_simp; all_goals (with_reducible rfl))
                try simp only [Act.put, List.setIfInBounds_toArray, List.set_cons_zero, List.set_cons_succ]
                refine reg_take (i := 2) (v := ?qlv2) rfl (by kernel_rfl) (by kernel_rfl) (by kernel_rfl) (by kernel_rfl) ?qly2 hS ?qlr2
                case qly2 => (rintro wx hx; (obtain ⟨kf0, kf1, kf2, kf3, kf4, kf5⟩ := fs_cells (HFf_w3.out.carry hx)); have qn : wx.cell? ⟨lb, lo + k2, none⟩ = some (.int .i64 (nn : Int)) := HQN_w3.out.carry hx; have p0 : wx.cell? ⟨wb9, wo9 + k3 * 2, none⟩ = some (.int .i64 PP.1) := HP0.out.carry hx; have p1 : wx.cell? ⟨wb9, wo9 + k3 * 2 + 1, none⟩ = some (.slice pa pm pc) := HP1.out.carry hx; have ew := HEW.out; rw [ew] at kf1; clear ew hx; go_simp; all_goals (with_reducible rfl))
                try simp only [Act.put, List.setIfInBounds_toArray, List.set_cons_zero, List.set_cons_succ]
                refine reg_take (i := 3) (v := ?qlv3) rfl (by kernel_rfl) (by kernel_rfl) (by kernel_rfl) (by kernel_rfl) ?qly3 hS ?qlr3
                case qly3 => (rintro wx hx; (obtain ⟨kf0, kf1, kf2, kf3, kf4, kf5⟩ := fs_cells (HFf_w3.out.carry hx)); have qn : wx.cell? ⟨lb, lo + k2, none⟩ = some (.int .i64 (nn : Int)) := HQN_w3.out.carry hx; have p0 : wx.cell? ⟨wb9, wo9 + k3 * 2, none⟩ = some (.int .i64 PP.1) := HP0.out.carry hx; have p1 : wx.cell? ⟨wb9, wo9 + k3 * 2 + 1, none⟩ = some (.slice pa pm pc) := HP1.out.carry hx; have ew := HEW.out; rw [ew] at kf1; clear ew hx; go_simp; all_goals (with_reducible rfl))
                try simp only [Act.put, List.setIfInBounds_toArray, List.set_cons_zero, List.set_cons_succ]
                refine reg_take (i := 4) (v := ?qlv4) rfl (by kernel_rfl) (by kernel_rfl) (by kernel_rfl) (by kernel_rfl) ?qly4 hS ?qlr4
                case qly4 => (rintro wx hx; (obtain ⟨kf0, kf1, kf2, kf3, kf4, kf5⟩ := fs_cells (HFf_w3.out.carry hx)); have qn : wx.cell? ⟨lb, lo + k2, none⟩ = some (.int .i64 (nn : Int)) := HQN_w3.out.carry hx; have p0 : wx.cell? ⟨wb9, wo9 + k3 * 2, none⟩ = some (.int .i64 PP.1) := HP0.out.carry hx; have p1 : wx.cell? ⟨wb9, wo9 + k3 * 2 + 1, none⟩ = some (.slice pa pm pc) := HP1.out.carry hx; have ew := HEW.out; rw [ew] at kf1; clear ew hx; go_simp; all_goals (with_reducible rfl))
                try simp only [Act.put, List.setIfInBounds_toArray, List.set_cons_zero, List.set_cons_succ]
                refine reg_take (i := 5) (v := ?qlv5) rfl (by kernel_rfl) (by kernel_rfl) (by kernel_rfl) (by kernel_rfl) ?qly5 hS ?qlr5
                case qly5 => (rintro wx hx; (obtain ⟨kf0, kf1, kf2, kf3, kf4, kf5⟩ := fs_cells (HFf_w3.out.carry hx)); have qn : wx.cell? ⟨lb, lo + k2, none⟩ = some (.int .i64 (nn : Int)) := HQN_w3.out.carry hx; have p0 : wx.cell? ⟨wb9, wo9 + k3 * 2, none⟩ = some (.int .i64 PP.1) := HP0.out.carry hx; have p1 : wx.cell? ⟨wb9, wo9 + k3 * 2 + 1, none⟩ = some (.slice pa pm pc) := HP1.out.carry hx; have ew := HEW.out; rw [ew] at kf1; clear ew hx; go_simp; all_goals (with_reducible rfl))
                try simp only [Act.put, List.setIfInBounds_toArray, List.set_cons_zero, List.set_cons_succ]
                refine reg_take (i := 6) (v := ?qlv6) rfl (by kernel_rfl) (by kernel_rfl) (by kernel_rfl) (by kernel_rfl) ?qly6 hS ?qlr6
                case qly6 => (rintro wx hx; (obtain ⟨kf0, kf1, kf2, kf3, kf4, kf5⟩ := fs_cells (HFf_w3.out.carry hx)); have qn : wx.cell? ⟨lb, lo + k2, none⟩ = some (.int .i64 (nn : Int)) := HQN_w3.out.carry hx; have p0 : wx.cell? ⟨wb9, wo9 + k3 * 2, none⟩ = some (.int .i64 PP.1) := HP0.out.carry hx; have p1 : wx.cell? ⟨wb9, wo9 + k3 * 2 + 1, none⟩ = some (.slice pa pm pc) := HP1.out.carry hx; have ew := HEW.out; rw [ew] at kf1; clear ew hx; go_simp; all_goals (with_reducible rfl))
                try simp only [Act.put, List.setIfInBounds_toArray, List.set_cons_zero, List.set_cons_succ]
                refine reg_take (i := 7) (v := ?qlv7) rfl (by kernel_rfl) (by kernel_rfl) (by kernel_rfl) (by kernel_rfl) ?qly7 hS ?qlr7
                case qly7 => (rintro wx hx; (obtain ⟨kf0, kf1, kf2, kf3, kf4, kf5⟩ := fs_cells (HFf_w3.out.carry hx)); have qn : wx.cell? ⟨lb, lo + k2, none⟩ = some (.int .i64 (nn : Int)) := HQN_w3.out.carry hx; have p0 : wx.cell? ⟨wb9, wo9 + k3 * 2, none⟩ = some (.int .i64 PP.1) := HP0.out.carry hx; have p1 : wx.cell? ⟨wb9, wo9 + k3 * 2 + 1, none⟩ = some (.slice pa pm pc) := HP1.out.carry hx; have ew := HEW.out; rw [ew] at kf1; clear ew hx; go_simp; all_goals (with_reducible rfl))
                try simp only [Act.put, List.setIfInBounds_toArray, List.set_cons_zero, List.set_cons_succ]
                refine reg_take (i := 8) (v := ?qlv8) rfl (by kernel_rfl) (by kernel_rfl) (by kernel_rfl) (by kernel_rfl) ?qly8 hS ?qlr8
                case qly8 => (rintro wx hx; (obtain ⟨kf0, kf1, kf2, kf3, kf4, kf5⟩ := fs_cells (HFf_w3.out.carry hx)); have qn : wx.cell? ⟨lb, lo + k2, none⟩ = some (.int .i64 (nn : Int)) := HQN_w3.out.carry hx; have p0 : wx.cell? ⟨wb9, wo9 + k3 * 2, none⟩ = some (.int .i64 PP.1) := HP0.out.carry hx; have p1 : wx.cell? ⟨wb9, wo9 + k3 * 2 + 1, none⟩ = some (.slice pa pm pc) := HP1.out.carry hx; have ew := HEW.out; rw [ew] at kf1; clear ew hx; go_simp; all_goals (with_reducible rfl))
                try simp only [Act.put, List.setIfInBounds_toArray, List.set_cons_zero, List.set_cons_succ]
                refine reg_take (i := 9) (v := ?qlv9) rfl (by kernel_rfl) (by kernel_rfl) (by kernel_rfl) (by kernel_rfl) ?qly9 hS ?qlr9
                case qly9 => (rintro wx hx; (obtain ⟨kf0, kf1, kf2, kf3, kf4, kf5⟩ := fs_cells (HFf_w3.out.carry hx)); have qn : wx.cell? ⟨lb, lo + k2, none⟩ = some (.int .i64 (nn : Int)) := HQN_w3.out.carry hx; have p0 : wx.cell? ⟨wb9, wo9 + k3 * 2, none⟩ = some (.int .i64 PP.1) := HP0.out.carry hx; have p1 : wx.cell? ⟨wb9, wo9 + k3 * 2 + 1, none⟩ = some (.slice pa pm pc) := HP1.out.carry hx; have ew := HEW.out; rw [ew] at kf1; clear ew hx; go_simp; all_goals (with_reducible rfl))
                try simp only [Act.put, List.setIfInBounds_toArray, List.set_cons_zero, List.set_cons_succ]
                refine reg_take (i := 10) (v := ?qlv10) rfl (by kernel_rfl) (by kernel_rfl) (by kernel_rfl) (by kernel_rfl) ?qly10 hS ?qlr10
                case qly10 => (rintro wx hx; (obtain ⟨kf0, kf1, kf2, kf3, kf4, kf5⟩ := fs_cells (HFf_w3.out.carry hx)); have qn : wx.cell? ⟨lb, lo + k2, none⟩ = some (.int .i64 (nn : Int)) := HQN_w3.out.carry hx; have p0 : wx.cell? ⟨wb9, wo9 + k3 * 2, none⟩ = some (.int .i64 PP.1) := HP0.out.carry hx; have p1 : wx.cell? ⟨wb9, wo9 + k3 * 2 + 1, none⟩ = some (.slice pa pm pc) := HP1.out.carry hx; have ew := HEW.out; rw [ew] at kf1; clear ew hx; go_simp; all_goals (with_reducible rfl))
                try simp only [Act.put, List.setIfInBounds_toArray, List.set_cons_zero, List.set_cons_succ]
                refine reg_take (i := 11) (v := ?qlv11) rfl (by kernel_rfl) (by kernel_rfl) (by kernel_rfl) (by kernel_rfl) ?qly11 hS ?qlr11
                case qly11 => (rintro wx hx; (obtain ⟨kf0, kf1, kf2, kf3, kf4, kf5⟩ := fs_cells (HFf_w3.out.carry hx)); have qn : wx.cell? ⟨lb, lo + k2, none⟩ = some (.int .i64 (nn : Int)) := HQN_w3.out.carry hx; have p0 : wx.cell? ⟨wb9, wo9 + k3 * 2, none⟩ = some (.int .i64 PP.1) := HP0.out.carry hx; have p1 : wx.cell? ⟨wb9, wo9 + k3 * 2 + 1, none⟩ = some (.slice pa pm pc) := HP1.out.carry hx; have ew := HEW.out; rw [ew] at kf1; clear ew hx; go_simp; all_goals (with_reducible rfl))
                try simp only [Act.put, List.setIfInBounds_toArray, List.set_cons_zero, List.set_cons_succ]
                refine reg_take (i := 12) (v := ?qlv12) rfl (by kernel_rfl) (by kernel_rfl) (by kernel_rfl) (by kernel_rfl) ?qly12 hS ?qlr12
                case qly12 => (rintro wx hx; (obtain ⟨kf0, kf1, kf2, kf3, kf4, kf5⟩ := fs_cells (HFf_w3.out.carry hx)); have qn : wx.cell? ⟨lb, lo + k2, none⟩ = some (.int .i64 (nn : Int)) := HQN_w3.out.carry hx; have p0 : wx.cell? ⟨wb9, wo9 + k3 * 2, none⟩ = some (.int .i64 PP.1) := HP0.out.carry hx; have p1 : wx.cell? ⟨wb9, wo9 + k3 * 2 + 1, none⟩ = some (.slice pa pm pc) := HP1.out.carry hx; have ew := HEW.out; rw [ew] at kf1; clear ew hx; go_simp; all_goals (with_reducible rfl))
                try simp only [Act.put, List.setIfInBounds_toArray, List.set_cons_zero, List.set_cons_succ]
                refine reg_take (i := 13) (v := ?qlv13) rfl (by kernel_rfl) (by kernel_rfl) (by kernel_rfl) (by kernel_rfl) ?qly13 hS ?qlr13
                case qly13 => (rintro wx hx; (obtain ⟨kf0, kf1, kf2, kf3, kf4, kf5⟩ := fs_cells (HFf_w3.out.carry hx)); have qn : wx.cell? ⟨lb, lo + k2, none⟩ = some (.int .i64 (nn : Int)) := HQN_w3.out.carry hx; have p0 : wx.cell? ⟨wb9, wo9 + k3 * 2, none⟩ = some (.int .i64 PP.1) := HP0.out.carry hx; have p1 : wx.cell? ⟨wb9, wo9 + k3 * 2 + 1, none⟩ = some (.slice pa pm pc) := HP1.out.carry hx; have ew := HEW.out; rw [ew] at kf1; clear ew hx; go_simp; all_goals (with_reducible rfl))
                try simp only [Act.put, List.setIfInBounds_toArray, List.set_cons_zero, List.set_cons_succ]
                refine reg_take (i := 14) (v := ?qlv14) rfl (by kernel_rfl) (by kernel_rfl) (by kernel_rfl) (by kernel_rfl) ?qly14 hS ?qlr14
                case qly14 => (rintro wx hx; (obtain ⟨kf0, kf1, kf2, kf3, kf4, kf5⟩ := fs_cells (HFf_w3.out.carry hx)); have qn : wx.cell? ⟨lb, lo + k2, none⟩ = some (.int .i64 (nn : Int)) := HQN_w3.out.carry hx; have p0 : wx.cell? ⟨wb9, wo9 + k3 * 2, none⟩ = some (.int .i64 PP.1) := HP0.out.carry hx; have p1 : wx.cell? ⟨wb9, wo9 + k3 * 2 + 1, none⟩ = some (.slice pa pm pc) := HP1.out.carry hx; have ew := HEW.out; rw [ew] at kf1; clear ew hx; go_simp; all_goals (with_reducible rfl))
                try simp only [Act.put, List.setIfInBounds_toArray, List.set_cons_zero, List.set_cons_succ]
                refine reg_skip (i := 15) rfl (by kernel_rfl) (by kernel_rfl) (by kernel_rfl) (by kernel_rfl) hS ?_
                try simp only [Act.put, List.setIfInBounds_toArray, List.set_cons_zero, List.set_cons_succ]
                refine reg_skip (i := 16) rfl (by kernel_rfl) (by kernel_rfl) (by kernel_rfl) (by kernel_rfl) hS ?_
                try simp only [Act.put, List.setIfInBounds_toArray, List.set_cons_zero, List.set_cons_succ]
                refine reg_skip (i := 17) rfl (by kernel_rfl) (by kernel_rfl) (by kernel_rfl) (by kernel_rfl) hS ?_
                try simp only [Act.put, List.setIfInBounds_toArray, List.set_cons_zero, List.set_cons_succ]
                refine reg_skip (i := 18) rfl (by kernel_rfl) (by kernel_rfl) (by kernel_rfl) (by kernel_rfl) hS ?_
                try simp only [Act.put, List.setIfInBounds_toArray, List.set_cons_zero, List.set_cons_succ]
                refine reg_skip (i := 19) rfl (by kernel_rfl) (by kernel_rfl) (by kernel_rfl) (by kernel_rfl) hS ?_
                try simp only [Act.put, List.setIfInBounds_toArray, List.set_cons_zero, List.set_cons_succ]
                refine reg_skip (i := 20) rfl (by kernel_rfl) (by kernel_rfl) (by kernel_rfl) (by kernel_rfl) hS ?_
                try simp only [Act.put, List.setIfInBounds_toArray, List.set_cons_zero, List.set_cons_succ]
                refine reg_skip (i := 21) rfl (by kernel_rfl) (by kernel_rfl) (by kernel_rfl) (by kernel_rfl) hS ?_
                try simp only [Act.put, List.setIfInBounds_toArray, List.set_cons_zero, List.set_cons_succ]
                refine reg_skip (i := 22) rfl (by kernel_rfl) (by kernel_rfl) (by kernel_rfl) (by kernel_rfl) hS ?_
                try simp only [Act.put, List.setIfInBounds_toArray, List.set_cons_zero, List.set_cons_succ]
                refine reg_skip (i := 23) rfl (by kernel_rfl) (by kernel_rfl) (by kernel_rfl) (by kernel_rfl) hS ?_
                try simp only [Act.put, List.setIfInBounds_toArray, List.set_cons_zero, List.set_cons_succ]
                refine reg_skip (i := 24) rfl (by kernel_rfl) (by kernel_rfl) (by kernel_rfl) (by kernel_rfl) hS ?_
                try simp only [Act.put, List.setIfInBounds_toArray, List.set_cons_zero, List.set_cons_succ]
                refine reg_skip (i := 25) rfl (by kernel_rfl) (by kernel_rfl) (by kernel_rfl) (by kernel_rfl) hS ?_
                try simp only [Act.put, List.setIfInBounds_toArray, List.set_cons_zero, List.set_cons_succ]
                refine reg_take (i := 26) (v := ?qlv26) rfl (by kernel_rfl) (by kernel_rfl) (by kernel_rfl) (by kernel_rfl) ?qly26 hS ?qlr26
                case qly26 => (rintro wx hx; (obtain ⟨kf0, kf1, kf2, kf3, kf4, kf5⟩ := fs_cells (HFf_w3.out.carry hx)); have qn : wx.cell? ⟨lb, lo + k2, none⟩ = some (.int .i64 (nn : Int)) := HQN_w3.out.carry hx; have p0 : wx.cell? ⟨wb9, wo9 + k3 * 2, none⟩ = some (.int .i64 PP.1) := HP0.out.carry hx; have p1 : wx.cell? ⟨wb9, wo9 + k3 * 2 + 1, none⟩ = some (.slice pa pm pc) := HP1.out.carry hx; have ew := HEW.out; rw [ew] at kf1; clear ew hx; go_simp; all_goals (with_reducible rfl))
                try simp only [Act.put, List.setIfInBounds_toArray, List.set_cons_zero, List.set_cons_succ]
                refine reg_take (i := 27) (v := ?qlv27) rfl (by kernel_rfl) (by kernel_rfl) (by kernel_rfl) (by kernel_rfl) ?qly27 hS ?qlr27
                case qly27 => (rintro wx hx; (obtain ⟨kf0, kf1, kf2, kf3, kf4, kf5⟩ := fs_cells (HFf_w3.out.carry hx)); have qn : wx.cell? ⟨lb, lo + k2, none⟩ = some (.int .i64 (nn : Int)) := HQN_w3.out.carry hx; have p0 : wx.cell? ⟨wb9, wo9 + k3 * 2, none⟩ = some (.int .i64 PP.1) := HP0.out.carry hx; have p1 : wx.cell? ⟨wb9, wo9 + k3 * 2 + 1, none⟩ = some (.slice pa pm pc) := HP1.out.carry hx; have ew := HEW.out; rw [ew] at kf1; clear ew hx; go_simp; all_goals (with_reducible rfl))
                try simp only [Act.put, List.setIfInBounds_toArray, List.set_cons_zero, List.set_cons_succ]
                refine reg_take (i := 28) (v := ?qlv28) rfl (by kernel_rfl) (by kernel_rfl) (by kernel_rfl) (by kernel_rfl) ?qly28 hS ?qlr28
                case qly28 => (rintro wx hx; (obtain ⟨kf0, kf1, kf2, kf3, kf4, kf5⟩ := fs_cells (HFf_w3.out.carry hx)); have qn : wx.cell? ⟨lb, lo + k2, none⟩ = some (.int .i64 (nn : Int)) := HQN_w3.out.carry hx; have p0 : wx.cell? ⟨wb9, wo9 + k3 * 2, none⟩ = some (.int .i64 PP.1) := HP0.out.carry hx; have p1 : wx.cell? ⟨wb9, wo9 + k3 * 2 + 1, none⟩ = some (.slice pa pm pc) := HP1.out.carry hx; have ew := HEW.out; rw [ew] at kf1; clear ew hx; go_simp; all_goals (with_reducible rfl))
                try simp only [Act.put, List.setIfInBounds_toArray, List.set_cons_zero, List.set_cons_succ]
                refine wpAnyH_done (by kernel_rfl) ?_ _
                refine NoPanic.normal ?_
                try simp only [Act.put, List.setIfInBounds_toArray, List.set_cons_zero, List.set_cons_succ]
                have HBE := hide (hbel3.out.trans (hS.mono hbel3.out.size))
                have HIN := hide (show false = isB f nn bb (k3 + 1) by rw [HSU.out, decide_eq_false hp1]; rfl)
                clear hS hK
                go_wp2
                go_roundw
                case rel => exact ⟨k3 + 1, by omega, rfl, false, rfl, HIN, HBE⟩
                case measure => simp only [intOf]; omega
            · have hd3 : decide ((k3 : Int) < x.n2) = false := decide_eq_false (by omega)
              have hist : isb = true := by rw [HIS.out]; have := HALL.out; rwa [show k3 = f.1.2.1.length by have := HN2.out.1; omega]
              subst hist
              have HBE := hide (show Below w41.heap.size w41 wr3 from (hbel2.out.trans (HSG.out.mono hbel2.out.size)).trans (HBG.out.mono (hbel2.out.trans (HSG.out.mono hbel2.out.size)).size))
              go_wp2
              go_roundw
              case rel => exact ⟨k2 + 1, by omega, rfl, HBE⟩
              case measure => simp only [intOf]; omega
        · have hd2 : decide ((k2 : Int) < lm) = false := decide_eq_false (by omega)
          have HBE := hide (show Below w11.heap.size w11 wr2 from (hbel.out.trans ((show Below wr1.heap.size wr1 w41 from HBC1.out).mono hbel.out.size)).trans (hbel2.out.mono (hbel.out.trans ((show Below wr1.heap.size wr1 w41 from HBC1.out).mono hbel.out.size)).size))
          go_wp2
          go_roundw
          case rel => exact ⟨k + 1, by omega, rfl, HBE⟩
          case measure => simp only [intOf]; omega
    · have hd : decide ((k : Int) < xo.n4) = false := decide_eq_false (by omega)
      go_wp2
      go_ret
      exact ⟨rfl, HB_wr.out⟩

end Go.Proofs.YtnigdbhjaoeblaaGreat

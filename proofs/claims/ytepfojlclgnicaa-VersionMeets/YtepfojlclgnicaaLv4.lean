/-
  What the statement VersionMeets answers.
-/
import Derived.Test.YtepfojlclgnicaaLv3
import Derived.Lib.MinMaxS
namespace Go.Proofs.Ytepfojlclgnicaa
open Go.RowKit
set_option linter.unusedVariables false
set_option linter.unusedSimpArgs false
set_option synthInstance.maxHeartbeats 400000
set_option synthInstance.maxSize 4000

theorem nd_apart {V : Vrs} (h : chkV V = 0) : (∀ l ∈ V.1, l.Pairwise fun x y => x.1 ≠ y.1) ∧ V.1.Pairwise fun l l' => ∀ x ∈ l, ∀ y ∈ l', x.1 ≠ y.1 := by
  have h1 := (mayV_iff.1 (chkV_ok.1 h).2).2.2.2.2
  unfold nmsV at h1
  have h2 := (List.nodup_cons.1 h1).2
  have h3 : V.1.flatten.Pairwise fun x y => x.1 ≠ y.1 := by
    have := List.pairwise_map.1 h2
    exact this
  exact List.pairwise_flatten.1 h3
theorem at_uniq {V : Vrs} (h : chkV V = 0) {k : Nat} (hk : k < V.1.length) {m : Mta} (hm : m ∈ V.1[k]) {z : Int} (hz : AtV V.1 m z) : z = k := by
  rcases hz with ⟨_, hn⟩ | ⟨n, rfl, hn, hmn, hj⟩
  · exact absurd hm (hn k hk)
  · have hp := (nd_apart h).2
    rcases Nat.lt_trichotomy n k with q | q | q
    · exact absurd rfl (List.pairwise_iff_getElem.1 hp n k hn hk q m hmn m hm)
    · rw [q]
    · exact absurd hm (hj k q hk)
def maxL (a b : List UInt8) : List UInt8 := if ltS a b then b else a
def minL (a b : List UInt8) : List UInt8 := if ltS a b || decide (a = b) then a else b
theorem max_bs (a b : List UInt8) (ts : Array TypeId) (t : TypeId) (wx : World) : (Builtin.max_ ts t #[.string (bs a), .string (bs b)]).run Try.prog wx = .ok (.string (bs (maxL a b))) wx := by
  rw [Lib.run_max_strs]
  unfold Lib.maxS maxL
  have e : ((bs a).data.toList < (bs b).data.toList) ↔ ltS a b = true := by rw [ltS_is, decide_eq_true_iff]; simp
  by_cases h : ltS a b = true
  · rw [if_pos (e.2 h), if_pos h]
  · rw [if_neg (fun q => h (e.1 q)), if_neg h]
theorem min_bs (a b : List UInt8) (ts : Array TypeId) (t : TypeId) (wx : World) : (Builtin.min_ ts t #[.string (bs a), .string (bs b)]).run Try.prog wx = .ok (.string (bs (minL a b))) wx := by
  rw [Lib.run_min_strs]
  unfold Lib.minS minL
  have e : ((bs a).data.toList < (bs b).data.toList ∨ (bs a).data.toList = (bs b).data.toList) ↔ (ltS a b || decide (a = b)) = true := by rw [ltS_is, Bool.or_eq_true, decide_eq_true_iff, decide_eq_true_iff]; simp
  by_cases h : (ltS a b || decide (a = b)) = true
  · rw [if_pos (e.2 h), if_pos h]
  · rw [if_neg (fun q => h (e.1 q)), if_neg h]
theorem max_min {x : Mta} {lo hi : List UInt8} (h1 : ltS (Mhi x) lo = false) (h2 : ltS hi (Mlo x) = false) (h3 : ltS (Mhi x) (Mlo x) = false) (h4 : ltS hi lo = false) : ltS (minL (Mhi x) hi) (maxL (Mlo x) lo) = false := by
  unfold minL maxL
  split <;> split <;> assumption
theorem met_mem {l : List Mta} {a b : List UInt8} {m : Mta} : m ∈ metM l a b ↔ m ∈ l ∧ ltS (Mhi m) a = false ∧ ltS b (Mlo m) = false := by
  unfold metM
  rw [List.mem_filter]; simp
theorem met_key {l : List Mta} {a b key : List UInt8} {m : Mta} (hm : m ∈ l) (h1 : ltS key a = false) (h2 : ltS b key = false) (h3 : ltS key (Mlo m) = false) (h4 : ltS (Mhi m) key = false) : m ∈ metM l a b := by
  refine met_mem.2 ⟨hm, ?_, ?_⟩
  · cases q : ltS (Mhi m) a with
    | false => rfl
    | true => have := ltS_trans_le q h1; rw [this] at h4; cases h4
  · cases q : ltS b (Mlo m) with
    | false => rfl
    | true => have := ltS_trans_le q h3; rw [this] at h2; cases h2

set_option maxHeartbeats 16000000 in
set_option maxRecDepth 100000 in
theorem versionMeets_any (a : Option Addr) (n c : Nat) (R : Lvs) (nx sq : Int) (lg : List UInt8) (k : Int) (lo hi key : List UInt8) (w : World) (hrd : RdVw w (.slice a n c) R) :
    Calls Try.prog 7 #[.agg #[.slice a n c, .int .i64 nx, .int .i64 sq, .string (bs lg)], .int .i64 k, .string (bs lo), .string (bs hi), .string (bs key)] w fun e w' => e = .returned (.bool true) ∧ Below w.heap.size w w' := by
  have HR := hide hrd
  clear hrd
  have l1 := bs_size lo
  have l2 := bs_size hi
  have l3 := bs_size key
  obtain ⟨w1, hw1⟩ : ∃ w1, w1 = w.alloc (.cells #[.slice a n c, .int .i64 nx, .int .i64 sq, .string (bs lg)] 24) := ⟨_, rfl⟩
  have HB1 := hide (show Below w.heap.size w w1 by rw [hw1]; exact (Below.refl _ _).alloc (Nat.le_refl _) _)
  have HV1 := hide (show VvAt w1 w.heap.size (.slice a n c) nx sq lg by rw [hw1]; exact VvAt.new w _ nx sq lg)
  have hc := alive_lw w1
  go_enter Try.func7, Try.ntmps7
  go_wp2_with fail
  rw [← hw1]
  clear hw1
  refine hc.mono ?_
  rintro e w2 ⟨rfl, b2⟩
  have HV2 := hide (HV1.out.carry b2)
  have HB2 := hide (HB1.out.trans (b2.mono HB1.out.size))
  clear hc b2 HV1 HB1
  have hc := rgreat_vn a n c R nx sq lg w2 (HR.out.carry HB2.out)
  obtain ⟨v0, v1, v2, v3⟩ := HV2.out.cells
  go_wp2_with fail
  refine hc.mono ?_
  rintro e w3 ⟨bb, rfl, hbb, b3⟩
  have HV3 := hide (HV2.out.carry b3)
  have HB3 := hide (HB2.out.trans (b3.mono HB2.out.size))
  clear hc b3 HV2 HB2 v0 v1 v2 v3
  cases bb with
  | true =>
    go_wp2
    go_ret
    exact ⟨rfl, HB3.out⟩
  | false =>
  obtain ⟨hn20, hF⟩ := hbb.out rfl
  have HF := hide (show (lvs R).flatten.length ≤ 100000 by omega)
  clear hbb hF
  by_cases t0 : 1000 < lo.length
  · have u0 : (1000 : Int) < lo.length := by omega
    go_wp2
    go_ret
    exact ⟨rfl, HB3.out⟩
  have u0 : decide ((1000 : Int) < lo.length) = false := by simpa using (by omega : ¬ (1000 : Int) < lo.length)
  clear t0
  by_cases t1 : 1000 < hi.length
  · have u1 : (1000 : Int) < hi.length := by omega
    go_wp2
    go_ret
    exact ⟨rfl, HB3.out⟩
  have u1 : decide ((1000 : Int) < hi.length) = false := by simpa using (by omega : ¬ (1000 : Int) < hi.length)
  clear t1
  by_cases t2 : 1000 < key.length
  · have u2 : (1000 : Int) < key.length := by omega
    go_wp2
    go_ret
    exact ⟨rfl, HB3.out⟩
  have u2 : decide ((1000 : Int) < key.length) = false := by simpa using (by omega : ¬ (1000 : Int) < key.length)
  clear t2
  have hc := overlap_vn a n c R nx sq lg k lo hi w3 (HR.out.carry HB3.out) (by omega) HF.out
  obtain ⟨V, hV⟩ : ∃ V, V = (lvs R, nx, sq, lg) := ⟨_, rfl⟩
  rw [← hV] at hc
  have HV := hide hV
  clear hV
  obtain ⟨v0, v1, v2, v3⟩ := HV3.out.cells
  go_wp2_with fail
  refine hc.mono ?_
  rintro e w4 ⟨al, nl, cl, rfl, o4, b4⟩
  have HV4 := hide (HV3.out.carry b4)
  have HB4 := hide (HB3.out.trans (b4.mono HB3.out.size))
  have HRL := hide (OwG.rd ecM_len o4)
  clear hc b4 HV3 HB3 v0 v1 v2 v3 o4 u0 u1 u2 l1 l2 l3
  by_cases hE : ovlE V k lo hi = 0
  rotate_left
  · have hl : ovlL V k lo hi = [] := by unfold ovlL; rw [if_pos hE]
    have hnl : nl = 0 := by have := HRL.out.len; rw [hl] at this; simpa using this
    subst hnl
    have hE' : (ovlE V k lo hi != 0) = true := by simpa using hE
    clear hE hl
    go_wp2
    go_ret
    exact ⟨by first | rfl | simp, HB4.out⟩
  rw [hE]
  have hCH : chkV V = 0 := by
    cases q : decide (chkV V = 0) with
    | true => exact of_decide_eq_true q
    | false =>
      have h1 := of_decide_eq_false q
      rw [(ovl_bad h1).1] at hE
      exact absurd hE h1
  have hkr : ¬ (k < 0 ∨ 3 < k) := fun h => by rw [(ovl_arg hCH h).1] at hE; cases hE
  have htx : (txO lo 64 && txO hi 64) = true := by
    cases q : (txO lo 64 && txO hi 64) with
    | true => rfl
    | false => rw [(ovl_txt hCH hkr q).1] at hE; cases hE
  have hL := (ovl_ok hCH hkr htx).2
  have HCH := hide hCH
  obtain ⟨kk, rfl⟩ : ∃ kk : Nat, k = kk := ⟨k.toNat, by omega⟩
  have hkk3 : kk ≤ 3 := by omega
  have h4 : (lvs R).length = 4 ∧ (lvs R).flatten.length ≤ 32 := by
    have := chkV_ok.1 hCH
    rw [HV.out] at this
    exact ⟨(mayV_iff.1 this.2).1, this.1⟩
  obtain rfl : n = 4 := by have := HR.out.len; rw [this, ← lvs_len, h4.1]
  have hR4 : R.length = 4 := by rw [← lvs_len]; exact h4.1
  obtain ⟨b, off, a1, n1, c1, rfl, q0, hX1, hn1⟩ := HR.out.cells HB4.out kk (by omega)
  have e1 : lvV V kk = (R[kk]).2 := by rw [HV.out]; exact lvV_at (by omega)
  have hl1 : (R[kk]).2.length ≤ 32 := Nat.le_trans (cntW_one (by omega)) h4.2
  have hVk : V.1 = lvs R := by rw [HV.out]
  have hVl : kk < V.1.length := by rw [hVk, h4.1]; omega
  have eV : V.1[kk] = (R[kk]).2 := by
    have : V.1[kk]? = (lvs R)[kk]? := by rw [hVk]
    rw [List.getElem?_eq_getElem hVl, List.getElem?_eq_getElem (by rw [lvs_len]; omega), lvs_get (by omega)] at this
    exact Option.some.inj this
  have HMO := hide (show ∀ m ∈ (R[kk]).2, mtO m = true from fun m hm => (lvlO_iff.1 (mayV_iff.1 (chkV_ok.1 hCH).2).2.2.2.1).1 _ (List.getElem_mem hVl) m (eV ▸ hm))
  have HUQ := hide (show ∀ m ∈ (R[kk]).2, ∀ z, AtV (lvs R) m z → z = kk from fun m hm z hz => at_uniq hCH hVl (by rw [eV]; exact hm) (by rw [hVk]; exact hz))
  obtain ⟨X, hX⟩ : ∃ X, X = (R[kk]).2 := ⟨_, rfl⟩
  rw [← hX] at hX1 hn1 hl1 HMO HUQ e1
  rw [hL, show (kk : Int).toNat = kk from rfl, e1] at HRL
  have HX := hide hX1
  have HNX := hide hn1
  have HQ := hide (show ∀ wx, Below w4.heap.size w4 wx → wx.cell? ⟨b, off + kk, none⟩ = some (.slice a1 n1 c1) from fun wx hb => by
    rw [hb.cell (World.block_lt_of_cell? w4 _ q0)]; exact q0)
  have hn32 : n1 ≤ 32 := by omega
  have hkk4 : (kk : Int) < 4 := by omega
  have HNL := hide HRL.out.len
  have hnl32 : nl ≤ 32 := by have := HNL.out; have := met_len X lo hi; omega
  have HHK := hide hkk3
  clear hE hL hCH hkr htx h4 hR4 e1 hVk hVl eV hX hX1 hn1 hl1 q0 hkk3
  go_wp2_with fail
  go_loopw [14] (fun i wr => ∃ j : Nat, j ≤ n1 ∧ i = .int .i64 j ∧ Hid (Below w4.heap.size w4 wr)) (fun i _ => n1 - (intOf i).toNat)
  case atStart => exact ⟨0, Nat.zero_le _, rfl, hide (Below.refl _ _)⟩
  case round =>
    obtain ⟨j, hj, rfl, hD⟩ := hrel
    have q0 := HQ.out wr hD.out
    have HVr := hide (HV4.out.carry hD.out)
    have HBr := hide (HB4.out.trans (hD.out.mono HB4.out.size))
    obtain ⟨v0, v1, v2, v3⟩ := HVr.out.cells
    by_cases hlt : j < n1
    · have hlt' : (j : Int) < n1 := by omega
      have hjl : j < X.length := by have := HNX.out; omega
      obtain ⟨bx, ox, rfl, p0, p1, p2, p3, p4⟩ := RdM.cells HX.out HBr.out j hjl
      have HMX := hide (fun h1 h2 h3 h4 => met_key (a := lo) (b := hi) (key := key) (List.getElem_mem hjl) h1 h2 h3 h4)
      obtain ⟨x, hx⟩ : ∃ x, x = X[j] := ⟨_, rfl⟩
      rw [← hx] at p0 p1 p2 p3 p4 HMX
      clear hx hjl
      obtain ⟨w5, hw5⟩ : ∃ w5, w5 = wr.alloc (.cells #[.string (bs x.1), .int .i64 x.2.1, .int .i64 x.2.2.1, .string (bs (Mlo x)), .string (bs (Mhi x))] 28) := ⟨_, rfl⟩
      have hb5 : Below wr.heap.size wr w5 := by rw [hw5]; exact (Below.refl _ _).alloc (Nat.le_refl _) _
      have HX5 := hide (show MvAt w5 wr.heap.size x by rw [hw5]; exact MvAt.new wr x)
      have HD5 := hide (hD.out.trans (hb5.mono hD.out.size))
      have HB5 := hide (HBr.out.trans (hb5.mono HBr.out.size))
      obtain ⟨x0, x1, x2, x3, x4⟩ := HX5.out.cells
      rw [hw5] at x0 x1 x2 x3 x4
      clear hb5 hD HVr HBr
      have hA1 := lt_bs key lo
      have hA2 := lt_bs key hi
      have hE2 := eq_bs key hi
      have hA3 := lt_bs key (Mlo x)
      have hA4 := lt_bs key (Mhi x)
      have hE4 := eq_bs key (Mhi x)
      cases h1 : ltS key lo with
      | true =>
        rw [h1] at hA1
        clear HMX
        go_wp2_with fail
        rw [← hw5]
        clear hw5 x0 x1 x2 x3 x4 p0 p1 p2 p3 p4 q0 v0 v1 v2 v3
        go_roundw
        case rel => exact ⟨j + 1, by omega, by go_num, HD5⟩
        case measure => simp only [intOf]; omega
      | false =>
        rw [h1] at hA1
        rcases ltS_total key hi with q2 | q2 | q2
        · have h2 : ltS hi key = false := ltS_asymm q2
          rw [q2] at hA2
          clear q2 hE2
          cases h3 : ltS key (Mlo x) with
          | true =>
            rw [h3] at hA3
            clear HMX
            go_wp2_with fail
            rw [← hw5]
            clear hw5 x0 x1 x2 x3 x4 p0 p1 p2 p3 p4 q0 v0 v1 v2 v3
            go_roundw
            case rel => exact ⟨j + 1, by omega, by go_num, HD5⟩
            case measure => simp only [intOf]; omega
          | false =>
            rw [h3] at hA3
            rcases ltS_total key (Mhi x) with q4 | q4 | q4
            · have h4 : ltS (Mhi x) key = false := ltS_asymm q4
              rw [q4] at hA4
              clear q4 hE4
              have HIN := hide (HMX.out h1 h2 h3 h4)
              have hc := in_vn al nl cl (metM X lo hi) x w5 (by omega) (HRL.out.carry HD5.out)
              rw [decide_eq_true HIN.out] at hc
              clear HMX HIN
              go_wp2_with fail
              rw [← hw5]
              clear hw5 x0 x1 x2 x3 x4 p0 p1 p2 p3 p4 q0 v0 v1 v2 v3
              refine hc.mono ?_
              rintro e w6 ⟨rfl, b6⟩
              have HD6 := hide (HD5.out.trans (b6.mono HD5.out.size))
              clear hc b6
              go_wp2
              go_roundw
              case rel => exact ⟨j + 1, by omega, by go_num, HD6⟩
              case measure => simp only [intOf]; omega
            · have h4 : ltS (Mhi x) key = false := by rw [← q4]; exact ltS_irrefl _
              rw [show ltS key (Mhi x) = false by rw [← q4]; exact ltS_irrefl _] at hA4
              rw [decide_eq_true q4] at hE4
              clear q4
              have HIN := hide (HMX.out h1 h2 h3 h4)
              have hc := in_vn al nl cl (metM X lo hi) x w5 (by omega) (HRL.out.carry HD5.out)
              rw [decide_eq_true HIN.out] at hc
              clear HMX HIN
              go_wp2_with fail
              rw [← hw5]
              clear hw5 x0 x1 x2 x3 x4 p0 p1 p2 p3 p4 q0 v0 v1 v2 v3
              refine hc.mono ?_
              rintro e w6 ⟨rfl, b6⟩
              have HD6 := hide (HD5.out.trans (b6.mono HD5.out.size))
              clear hc b6
              go_wp2
              go_roundw
              case rel => exact ⟨j + 1, by omega, by go_num, HD6⟩
              case measure => simp only [intOf]; omega
            · rw [ltS_asymm q4] at hA4
              rw [decide_eq_false (fun e => by rw [e, ltS_irrefl] at q4; cases q4)] at hE4
              clear q4
              clear HMX
              go_wp2_with fail
              rw [← hw5]
              clear hw5 x0 x1 x2 x3 x4 p0 p1 p2 p3 p4 q0 v0 v1 v2 v3
              go_roundw
              case rel => exact ⟨j + 1, by omega, by go_num, HD5⟩
              case measure => simp only [intOf]; omega
        · have h2 : ltS hi key = false := by rw [← q2]; exact ltS_irrefl _
          rw [show ltS key hi = false by rw [← q2]; exact ltS_irrefl _] at hA2
          rw [decide_eq_true q2] at hE2
          clear q2
          cases h3 : ltS key (Mlo x) with
          | true =>
            rw [h3] at hA3
            clear HMX
            go_wp2_with fail
            rw [← hw5]
            clear hw5 x0 x1 x2 x3 x4 p0 p1 p2 p3 p4 q0 v0 v1 v2 v3
            go_roundw
            case rel => exact ⟨j + 1, by omega, by go_num, HD5⟩
            case measure => simp only [intOf]; omega
          | false =>
            rw [h3] at hA3
            rcases ltS_total key (Mhi x) with q4 | q4 | q4
            · have h4 : ltS (Mhi x) key = false := ltS_asymm q4
              rw [q4] at hA4
              clear q4 hE4
              have HIN := hide (HMX.out h1 h2 h3 h4)
              have hc := in_vn al nl cl (metM X lo hi) x w5 (by omega) (HRL.out.carry HD5.out)
              rw [decide_eq_true HIN.out] at hc
              clear HMX HIN
              go_wp2_with fail
              rw [← hw5]
              clear hw5 x0 x1 x2 x3 x4 p0 p1 p2 p3 p4 q0 v0 v1 v2 v3
              refine hc.mono ?_
              rintro e w6 ⟨rfl, b6⟩
              have HD6 := hide (HD5.out.trans (b6.mono HD5.out.size))
              clear hc b6
              go_wp2
              go_roundw
              case rel => exact ⟨j + 1, by omega, by go_num, HD6⟩
              case measure => simp only [intOf]; omega
            · have h4 : ltS (Mhi x) key = false := by rw [← q4]; exact ltS_irrefl _
              rw [show ltS key (Mhi x) = false by rw [← q4]; exact ltS_irrefl _] at hA4
              rw [decide_eq_true q4] at hE4
              clear q4
              have HIN := hide (HMX.out h1 h2 h3 h4)
              have hc := in_vn al nl cl (metM X lo hi) x w5 (by omega) (HRL.out.carry HD5.out)
              rw [decide_eq_true HIN.out] at hc
              clear HMX HIN
              go_wp2_with fail
              rw [← hw5]
              clear hw5 x0 x1 x2 x3 x4 p0 p1 p2 p3 p4 q0 v0 v1 v2 v3
              refine hc.mono ?_
              rintro e w6 ⟨rfl, b6⟩
              have HD6 := hide (HD5.out.trans (b6.mono HD5.out.size))
              clear hc b6
              go_wp2
              go_roundw
              case rel => exact ⟨j + 1, by omega, by go_num, HD6⟩
              case measure => simp only [intOf]; omega
            · rw [ltS_asymm q4] at hA4
              rw [decide_eq_false (fun e => by rw [e, ltS_irrefl] at q4; cases q4)] at hE4
              clear q4
              clear HMX
              go_wp2_with fail
              rw [← hw5]
              clear hw5 x0 x1 x2 x3 x4 p0 p1 p2 p3 p4 q0 v0 v1 v2 v3
              go_roundw
              case rel => exact ⟨j + 1, by omega, by go_num, HD5⟩
              case measure => simp only [intOf]; omega
        · rw [ltS_asymm q2] at hA2
          rw [decide_eq_false (fun e => by rw [e, ltS_irrefl] at q2; cases q2)] at hE2
          clear q2
          clear HMX
          go_wp2_with fail
          rw [← hw5]
          clear hw5 x0 x1 x2 x3 x4 p0 p1 p2 p3 p4 q0 v0 v1 v2 v3
          go_roundw
          case rel => exact ⟨j + 1, by omega, by go_num, HD5⟩
          case measure => simp only [intOf]; omega
    · have hd : decide ((j : Int) < n1) = false := by simpa using (by omega : ¬ (j : Int) < n1)
      obtain ⟨w6, hw6⟩ : ∃ w6, w6 = wr := ⟨_, rfl⟩
      subst hw6
      have HV6 := HVr
      have HB6 := HBr
      have HRL6 := hide (HRL.out.carry hD.out)
      go_wp2_with fail
      clear v0 v1 v2 v3 q0 HVr HBr hD hlt hd hj
      go_loopw [16] (fun i wr => ∃ j : Nat, j ≤ nl ∧ i = .int .i64 j ∧ Hid (VvAt wr w.heap.size (.slice (some ⟨b, off, none⟩) 4 c) nx sq lg) ∧ Hid (Below w6.heap.size w6 wr)) (fun i _ => nl - (intOf i).toNat)
      case atStart => exact ⟨0, Nat.zero_le _, rfl, HV6, hide (Below.refl _ _)⟩
      case round =>
        obtain ⟨j, hj, rfl, hVr, hBr⟩ := hrel
        clear HV6
        by_cases hlt : j < nl
        · have hlt' : (j : Int) < nl := by omega
          have hjl : j < (metM X lo hi).length := by have := HNL.out; omega
          obtain ⟨bx, ox, rfl, hq⟩ := RdM.cells HRL6.out hBr.out j hjl
          obtain ⟨m1, m2, m3⟩ := met_mem.1 (List.getElem_mem hjl)
          have m4 := mtO_le (HMO.out _ m1)
          have HAZ := hide (HUQ.out _ m1)
          obtain ⟨x, hx⟩ : ∃ x, x = (metM X lo hi)[j] := ⟨_, rfl⟩
          rw [← hx] at hq m1 m2 m3 m4 HAZ
          clear hx hjl m1
          have HAT := hide (fun wx (hb : Below w6.heap.size w6 wx) => (at_vn (some ⟨b, off, none⟩) 4 c R nx sq lg x wx (HR.out.carry (HB6.out.trans (hb.mono HB6.out.size))) (by omega) HF.out).mono (R' := fun e wy => e = .returned (.int .i64 kk) ∧ Below wx.heap.size wx wy) fun e wy ⟨z, h1, h2, h3⟩ => ⟨by rw [h1, HAZ.out z h2], h3⟩)
          have hK : Keeps (fun wx => VvAt wx w.heap.size (.slice (some ⟨b, off, none⟩) 4 c) nx sq lg ∧ CellsM wx bx (ox + j * 5) x ∧ Below w6.heap.size w6 wx) := fun u1 u2 h hb => ⟨h.1.carry hb, h.2.1.carry hb, h.2.2.trans (hb.mono h.2.2.size)⟩
          have hS0 : VvAt wr w.heap.size (.slice (some ⟨b, off, none⟩) 4 c) nx sq lg ∧ CellsM wr bx (ox + j * 5) x ∧ Below w6.heap.size w6 wr := ⟨hVr.out, hq, hBr.out⟩
          clear hVr hBr hq
          have hL1 := lt_bs lo hi
          have hL2 := eq_bs lo hi
          have hmax := fun ts t wx => max_bs (Mlo x) lo ts t wx
          have hmin := fun ts t wx => min_bs (Mhi x) hi ts t wx
          have HMM := hide (fun h => max_min m2 m3 m4 h)
          have hM1 := lt_bs (maxL (Mlo x) lo) (minL (Mhi x) hi)
          have hM2 := eq_bs (maxL (Mlo x) lo) (minL (Mhi x) hi)
          generalize maxL (Mlo x) lo = mx at hmax HMM hM1 hM2
          generalize minL (Mhi x) hi = mn at hmin HMM hM1 hM2
          clear m2 m3 m4
          rcases ltS_total lo hi with q5 | q5 | q5
          · have h5 : ltS hi lo = false := ltS_asymm q5
            rw [q5] at hL1
            clear q5 hL2
            have hmm := HMM.out h5
            rcases ltS_total mx mn with q6 | q6 | q6
            · rw [q6] at hM1
              clear q6 hM2 hmm
              go_wp2_with fail
              refine reg_begin hK (by kernel_rfl) hS0 ?_
              intro hS
              clear hS0
              generalize wr.drew = wd at *
              refine reg_plan [0, 1, 2, 3, 4, 5, 6, 7, 8, 9, 10, 11, 12, 13, 14, 15, 16, 17, 18, 19, 20, 21, 22, 23, 24, 25, 27] (fuel := 3) (a' := ?qr1aa1) (by kernel_rfl) (by kernel_rfl) (by kernel_rfl) ?qr1ap1 hS ?qr1an1
              case qr1ap1 =>
                iterate 27 (apply Yl.cons rfl (by kernel_rfl); focus (rintro wx ⟨hx, hy, _⟩; obtain ⟨v0, v1, v2, v3⟩ := hx.cells; obtain ⟨y0, y1, y2, y3, y4⟩ := hy; go_simp; all_goals (with_reducible rfl)); try simp only [Act.put, List.setIfInBounds_toArray, List.set_cons_zero, List.set_cons_succ])
                exact Yl.nil
              refine reg_callv hK (i := 26) (v := .int .i64 kk) rfl (by kernel_rfl) (by kernel_rfl) (by go_simp) hS (HAT.out _ hS.2.2) ?_
              clear hS
              intro w129 hS
              try simp only [Act.put, List.setIfInBounds_toArray, List.set_cons_zero, List.set_cons_succ]
              refine reg_plan [28, 29] (fuel := 0) (a' := ?qr1aa2) (by kernel_rfl) (by kernel_rfl) (by kernel_rfl) ?qr1ap2 hS ?qr1an2
              case qr1ap2 =>
                iterate 2 (apply Yl.cons rfl (by kernel_rfl); focus (rintro wx ⟨hx, hy, _⟩; obtain ⟨v0, v1, v2, v3⟩ := hx.cells; obtain ⟨y0, y1, y2, y3, y4⟩ := hy; go_simp; all_goals (with_reducible rfl)); try simp only [Act.put, List.setIfInBounds_toArray, List.set_cons_zero, List.set_cons_succ])
                exact Yl.nil
              refine wpAnyH_done (by kernel_rfl) ?_ _
              refine NoPanic.normal ?_
              try simp only [Act.put, List.setIfInBounds_toArray, List.set_cons_zero, List.set_cons_succ]
              have HB9 := hide hS.2.2
              have HV9 := hide hS.1
              clear hS hK HAT
              go_wp2
              go_roundw
              case rel => exact ⟨j + 1, by omega, by go_num, HV9, HB9⟩
              case measure => simp only [intOf]; omega
            · rw [show ltS mx mn = false by rw [← q6]; exact ltS_irrefl _] at hM1
              rw [decide_eq_true q6] at hM2
              clear q6 hmm
              go_wp2_with fail
              refine reg_begin hK (by kernel_rfl) hS0 ?_
              intro hS
              clear hS0
              generalize wr.drew = wd at *
              refine reg_plan [0, 1, 2, 3, 4, 5, 6, 7, 8, 9, 10, 11, 12, 13, 14, 15, 16, 17, 18, 19, 20, 21, 22, 23, 24, 25, 27] (fuel := 3) (a' := ?qr1ba1) (by kernel_rfl) (by kernel_rfl) (by kernel_rfl) ?qr1bp1 hS ?qr1bn1
              case qr1bp1 =>
                iterate 27 (apply Yl.cons rfl (by kernel_rfl); focus (rintro wx ⟨hx, hy, _⟩; obtain ⟨v0, v1, v2, v3⟩ := hx.cells; obtain ⟨y0, y1, y2, y3, y4⟩ := hy; go_simp; all_goals (with_reducible rfl)); try simp only [Act.put, List.setIfInBounds_toArray, List.set_cons_zero, List.set_cons_succ])
                exact Yl.nil
              refine reg_callv hK (i := 26) (v := .int .i64 kk) rfl (by kernel_rfl) (by kernel_rfl) (by go_simp) hS (HAT.out _ hS.2.2) ?_
              clear hS
              intro w129 hS
              try simp only [Act.put, List.setIfInBounds_toArray, List.set_cons_zero, List.set_cons_succ]
              refine reg_plan [28, 29] (fuel := 0) (a' := ?qr1ba2) (by kernel_rfl) (by kernel_rfl) (by kernel_rfl) ?qr1bp2 hS ?qr1bn2
              case qr1bp2 =>
                iterate 2 (apply Yl.cons rfl (by kernel_rfl); focus (rintro wx ⟨hx, hy, _⟩; obtain ⟨v0, v1, v2, v3⟩ := hx.cells; obtain ⟨y0, y1, y2, y3, y4⟩ := hy; go_simp; all_goals (with_reducible rfl)); try simp only [Act.put, List.setIfInBounds_toArray, List.set_cons_zero, List.set_cons_succ])
                exact Yl.nil
              refine wpAnyH_done (by kernel_rfl) ?_ _
              refine NoPanic.normal ?_
              try simp only [Act.put, List.setIfInBounds_toArray, List.set_cons_zero, List.set_cons_succ]
              have HB9 := hide hS.2.2
              have HV9 := hide hS.1
              clear hS hK HAT
              go_wp2
              go_roundw
              case rel => exact ⟨j + 1, by omega, by go_num, HV9, HB9⟩
              case measure => simp only [intOf]; omega
            · rw [q6] at hmm; cases hmm
          · have h5 : ltS hi lo = false := by rw [← q5]; exact ltS_irrefl _
            rw [show ltS lo hi = false by rw [← q5]; exact ltS_irrefl _] at hL1
            rw [decide_eq_true q5] at hL2
            clear q5
            have hmm := HMM.out h5
            rcases ltS_total mx mn with q6 | q6 | q6
            · rw [q6] at hM1
              clear q6 hM2 hmm
              go_wp2_with fail
              refine reg_begin hK (by kernel_rfl) hS0 ?_
              intro hS
              clear hS0
              generalize wr.drew = wd at *
              refine reg_plan [0, 1, 2, 3, 4, 5, 6, 7, 8, 9, 10, 11, 12, 13, 14, 15, 16, 17, 18, 19, 20, 21, 22, 23, 24, 25, 27] (fuel := 3) (a' := ?qr2aa1) (by kernel_rfl) (by kernel_rfl) (by kernel_rfl) ?qr2ap1 hS ?qr2an1
              case qr2ap1 =>
                iterate 27 (apply Yl.cons rfl (by kernel_rfl); focus (rintro wx ⟨hx, hy, _⟩; obtain ⟨v0, v1, v2, v3⟩ := hx.cells; obtain ⟨y0, y1, y2, y3, y4⟩ := hy; go_simp; all_goals (with_reducible rfl)); try simp only [Act.put, List.setIfInBounds_toArray, List.set_cons_zero, List.set_cons_succ])
                exact Yl.nil
              refine reg_callv hK (i := 26) (v := .int .i64 kk) rfl (by kernel_rfl) (by kernel_rfl) (by go_simp) hS (HAT.out _ hS.2.2) ?_
              clear hS
              intro w129 hS
              try simp only [Act.put, List.setIfInBounds_toArray, List.set_cons_zero, List.set_cons_succ]
              refine reg_plan [28, 29] (fuel := 0) (a' := ?qr2aa2) (by kernel_rfl) (by kernel_rfl) (by kernel_rfl) ?qr2ap2 hS ?qr2an2
              case qr2ap2 =>
                iterate 2 (apply Yl.cons rfl (by kernel_rfl); focus (rintro wx ⟨hx, hy, _⟩; obtain ⟨v0, v1, v2, v3⟩ := hx.cells; obtain ⟨y0, y1, y2, y3, y4⟩ := hy; go_simp; all_goals (with_reducible rfl)); try simp only [Act.put, List.setIfInBounds_toArray, List.set_cons_zero, List.set_cons_succ])
                exact Yl.nil
              refine wpAnyH_done (by kernel_rfl) ?_ _
              refine NoPanic.normal ?_
              try simp only [Act.put, List.setIfInBounds_toArray, List.set_cons_zero, List.set_cons_succ]
              have HB9 := hide hS.2.2
              have HV9 := hide hS.1
              clear hS hK HAT
              go_wp2
              go_roundw
              case rel => exact ⟨j + 1, by omega, by go_num, HV9, HB9⟩
              case measure => simp only [intOf]; omega
            · rw [show ltS mx mn = false by rw [← q6]; exact ltS_irrefl _] at hM1
              rw [decide_eq_true q6] at hM2
              clear q6 hmm
              go_wp2_with fail
              refine reg_begin hK (by kernel_rfl) hS0 ?_
              intro hS
              clear hS0
              generalize wr.drew = wd at *
              refine reg_plan [0, 1, 2, 3, 4, 5, 6, 7, 8, 9, 10, 11, 12, 13, 14, 15, 16, 17, 18, 19, 20, 21, 22, 23, 24, 25, 27] (fuel := 3) (a' := ?qr2ba1) (by kernel_rfl) (by kernel_rfl) (by kernel_rfl) ?qr2bp1 hS ?qr2bn1
              case qr2bp1 =>
                iterate 27 (apply Yl.cons rfl (by kernel_rfl); focus (rintro wx ⟨hx, hy, _⟩; obtain ⟨v0, v1, v2, v3⟩ := hx.cells; obtain ⟨y0, y1, y2, y3, y4⟩ := hy; go_simp; all_goals (with_reducible rfl)); try simp only [Act.put, List.setIfInBounds_toArray, List.set_cons_zero, List.set_cons_succ])
                exact Yl.nil
              refine reg_callv hK (i := 26) (v := .int .i64 kk) rfl (by kernel_rfl) (by kernel_rfl) (by go_simp) hS (HAT.out _ hS.2.2) ?_
              clear hS
              intro w129 hS
              try simp only [Act.put, List.setIfInBounds_toArray, List.set_cons_zero, List.set_cons_succ]
              refine reg_plan [28, 29] (fuel := 0) (a' := ?qr2ba2) (by kernel_rfl) (by kernel_rfl) (by kernel_rfl) ?qr2bp2 hS ?qr2bn2
              case qr2bp2 =>
                iterate 2 (apply Yl.cons rfl (by kernel_rfl); focus (rintro wx ⟨hx, hy, _⟩; obtain ⟨v0, v1, v2, v3⟩ := hx.cells; obtain ⟨y0, y1, y2, y3, y4⟩ := hy; go_simp; all_goals (with_reducible rfl)); try simp only [Act.put, List.setIfInBounds_toArray, List.set_cons_zero, List.set_cons_succ])
                exact Yl.nil
              refine wpAnyH_done (by kernel_rfl) ?_ _
              refine NoPanic.normal ?_
              try simp only [Act.put, List.setIfInBounds_toArray, List.set_cons_zero, List.set_cons_succ]
              have HB9 := hide hS.2.2
              have HV9 := hide hS.1
              clear hS hK HAT
              go_wp2
              go_roundw
              case rel => exact ⟨j + 1, by omega, by go_num, HV9, HB9⟩
              case measure => simp only [intOf]; omega
            · rw [q6] at hmm; cases hmm
          · rw [ltS_asymm q5] at hL1
            rw [decide_eq_false (fun e => by rw [e, ltS_irrefl] at q5; cases q5)] at hL2
            clear q5
            clear hM1 hM2 hmax hmin HMM
            go_wp2_with fail
            refine reg_begin hK (by kernel_rfl) hS0 ?_
            intro hS
            clear hS0
            generalize wr.drew = wd at *
            refine reg_plan [0, 1, 2, 3, 4, 5, 6, 7, 8, 9, 10, 11, 12, 13, 14, 15, 16, 17, 18, 19, 20, 21, 22, 23, 24, 25, 27] (fuel := 3) (a' := ?qrxa1) (by kernel_rfl) (by kernel_rfl) (by kernel_rfl) ?qrxp1 hS ?qrxn1
            case qrxp1 =>
              iterate 4 (apply Yl.cons rfl (by kernel_rfl); focus (rintro wx ⟨hx, hy, _⟩; obtain ⟨v0, v1, v2, v3⟩ := hx.cells; obtain ⟨y0, y1, y2, y3, y4⟩ := hy; go_simp; all_goals (with_reducible rfl)); try simp only [Act.put, List.setIfInBounds_toArray, List.set_cons_zero, List.set_cons_succ])
              iterate 15 (apply Yl.skip rfl (by kernel_rfl); try simp only [Act.put, List.setIfInBounds_toArray, List.set_cons_zero, List.set_cons_succ])
              iterate 8 (apply Yl.cons rfl (by kernel_rfl); focus (rintro wx ⟨hx, hy, _⟩; obtain ⟨v0, v1, v2, v3⟩ := hx.cells; obtain ⟨y0, y1, y2, y3, y4⟩ := hy; go_simp; all_goals (with_reducible rfl)); try simp only [Act.put, List.setIfInBounds_toArray, List.set_cons_zero, List.set_cons_succ])
              exact Yl.nil
            refine reg_callv hK (i := 26) (v := .int .i64 kk) rfl (by kernel_rfl) (by kernel_rfl) (by go_simp) hS (HAT.out _ hS.2.2) ?_
            clear hS
            intro w129 hS
            try simp only [Act.put, List.setIfInBounds_toArray, List.set_cons_zero, List.set_cons_succ]
            refine reg_plan [28, 29] (fuel := 0) (a' := ?qrxa2) (by kernel_rfl) (by kernel_rfl) (by kernel_rfl) ?qrxp2 hS ?qrxn2
            case qrxp2 =>
              iterate 2 (apply Yl.cons rfl (by kernel_rfl); focus (rintro wx ⟨hx, hy, _⟩; obtain ⟨v0, v1, v2, v3⟩ := hx.cells; obtain ⟨y0, y1, y2, y3, y4⟩ := hy; go_simp; all_goals (with_reducible rfl)); try simp only [Act.put, List.setIfInBounds_toArray, List.set_cons_zero, List.set_cons_succ])
              exact Yl.nil
            refine wpAnyH_done (by kernel_rfl) ?_ _
            refine NoPanic.normal ?_
            try simp only [Act.put, List.setIfInBounds_toArray, List.set_cons_zero, List.set_cons_succ]
            have HB9 := hide hS.2.2
            have HV9 := hide hS.1
            clear hS hK HAT
            go_wp2
            go_roundw
            case rel => exact ⟨j + 1, by omega, by go_num, HV9, HB9⟩
            case measure => simp only [intOf]; omega
        · have hd : decide ((j : Int) < nl) = false := by simpa using (by omega : ¬ (j : Int) < nl)
          go_wp2
          go_ret
          exact ⟨rfl, HB6.out.trans (hBr.out.mono HB6.out.size)⟩
end Go.Proofs.Ytepfojlclgnicaa

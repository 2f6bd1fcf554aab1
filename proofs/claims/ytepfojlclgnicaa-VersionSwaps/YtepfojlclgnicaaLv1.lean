/-
  What the statements' at and holds do.
-/
import Derived.Test.YtepfojlclgnicaaVn16
namespace Go.Proofs.Ytepfojlclgnicaa
open Go.RowKit
set_option linter.unusedVariables false
set_option linter.unusedSimpArgs false

def AtV (L : List (List Mta)) (m : Mta) (z : Int) : Prop := (z = -1 ∧ ∀ n, (h : n < L.length) → m ∉ L[n]) ∨ ∃ n : Nat, z = n ∧ ∃ h : n < L.length, m ∈ L[n] ∧ ∀ j, j < n → (hj : j < L.length) → m ∉ L[j]
def NoTo (L : List (List Mta)) (m : Mta) (k : Nat) : Prop := ∀ j, j < k → (hj : j < L.length) → m ∉ L[j]
theorem NoTo.next {L : List (List Mta)} {m : Mta} {k : Nat} (h : NoTo L m k) (hk : k < L.length) (hx : m ∉ L[k]) : NoTo L m (k + 1) := by
  intro j hj hl
  rcases Nat.lt_or_ge j k with q | q
  · exact h j q hl
  · obtain rfl : j = k := by omega
    exact hx

set_option maxHeartbeats 4000000 in
set_option maxRecDepth 100000 in
theorem at_vn (a : Option Addr) (n c : Nat) (R : Lvs) (nx sq : Int) (lg : List UInt8) (m : Mta) (w : World) (hrd : RdVw w (.slice a n c) R) (hn : n ≤ 1000) (hT : (lvs R).flatten.length ≤ 100000) :
    Calls Try.prog 31 #[.agg #[.slice a n c, .int .i64 nx, .int .i64 sq, .string (bs lg)], .agg #[.string (bs m.1), .int .i64 m.2.1, .int .i64 m.2.2.1, .string (bs (Mlo m)), .string (bs (Mhi m))]] w fun e w' => ∃ z, e = .returned (.int .i64 z) ∧ AtV (lvs R) m z ∧ Below w.heap.size w w' := by
  have HN := hide hrd.len
  have HR := hide hrd
  have HTF := hide hT
  have HLL := hide (lvs_len R)
  clear hrd hT
  obtain ⟨w1, hw1⟩ : ∃ w1, w1 = w.alloc (.cells #[.slice a n c, .int .i64 nx, .int .i64 sq, .string (bs lg)] 24) := ⟨_, rfl⟩
  have hb1 : Below w.heap.size w w1 := by rw [hw1]; exact (Below.refl _ _).alloc (Nat.le_refl _) _
  have hs1 : w1.heap.size = w.heap.size + 1 := by rw [hw1]; simp
  obtain ⟨w2, hw2⟩ : ∃ w2, w2 = w1.alloc (.cells #[.string (bs m.1), .int .i64 m.2.1, .int .i64 m.2.2.1, .string (bs (Mlo m)), .string (bs (Mhi m))] 28) := ⟨_, rfl⟩
  have hb2 : Below w1.heap.size w1 w2 := by rw [hw2]; exact (Below.refl _ _).alloc (Nat.le_refl _) _
  have HV2 := hide ((show VvAt w1 w.heap.size (.slice a n c) nx sq lg by rw [hw1]; exact VvAt.new w _ nx sq lg).carry hb2)
  have HM2 := hide (show MvAt w2 (w.heap.size + 1) m by rw [hw2, ← hs1]; exact MvAt.new w1 m)
  have HB2 := hide (hb1.trans (hb2.mono hb1.size))
  clear hb1 hb2 hs1
  go_enter Try.func31, Try.ntmps31
  go_wp2_with fail
  rw [← hw1, ← hw2]
  clear hw1 hw2
  go_loopw [5] (fun i wr => ∃ k : Nat, k ≤ n ∧ i = .int .i64 k ∧ Hid (NoTo (lvs R) m k) ∧ Hid (VvAt wr w.heap.size (.slice a n c) nx sq lg) ∧ Hid (MvAt wr (w.heap.size + 1) m) ∧ Hid (Below w.heap.size w wr)) (fun i _ => n - (intOf i).toNat)
  case atStart => exact ⟨0, Nat.zero_le _, rfl, hide (fun j hj => by omega), HV2, HM2, HB2⟩
  case round =>
    obtain ⟨k, hk, rfl, hP, hV, hM, hB⟩ := hrel
    clear HB2 HV2 HM2
    obtain ⟨v0, v1, v2, v3⟩ := hV.out.cells
    by_cases hlt : k < n
    · have hlt' : (k : Int) < n := by omega
      have hkl : k < R.length := by have := HN.out; omega
      have hkg : k < (lvs R).length := by rw [lvs_len]; exact hkl
      have HCX := hide (fun wx (hb : Below w.heap.size w wx) => HR.out.cells hb k hkl)
      obtain ⟨b, off, ax, nx', cx, rfl, q0, hRx, hnx⟩ := HCX.out wr hB.out
      have HQ := hide (show ∀ wx, Below w.heap.size w wx → wx.cell? ⟨b, off + k, none⟩ = some (.slice ax nx' cx) from fun wx hb => by
        obtain ⟨b', off', ax', nx2, cx', e, q, _, _⟩ := HCX.out wx hb
        cases e
        have h1 := q0
        have hlt2 := World.block_lt_of_cell? wr _ q0
        obtain ⟨b3, off3, e3, hc3⟩ := RdG.atB HR.out.1 hb k hkl
        obtain ⟨b4, off4, e4, hc4⟩ := RdG.atB HR.out.1 hB.out k hkl
        cases e3; cases e4
        have h5 := hc3 0 (R[k]).1 rfl
        have h6 := hc4 0 (R[k]).1 rfl
        simp only [Nat.mul_one, Nat.add_zero] at h5 h6
        rw [h6] at q0
        rw [h5]; exact q0)
      have HX := hide hRx
      have HNX := hide hnx
      have hxb : nx' ≤ 1000000 := by have := big_lv HTF.out hkl; omega
      have HNE := hide (show m ∉ (R[k]).2 → NoTo (lvs R) m (k + 1) from fun h => hP.out.next hkg (by rw [lvs_get hkl]; exact h))
      have HFO := hide (show m ∈ (R[k]).2 → AtV (lvs R) m k from fun h => .inr ⟨k, rfl, hkg, by rw [lvs_get hkl]; exact h, hP.out⟩)
      obtain ⟨X, hXe⟩ : ∃ X, X = (R[k]).2 := ⟨_, rfl⟩
      rw [← hXe] at HX HNX HNE HFO
      clear hXe hRx hnx HCX hP
      have hk2 := hk
      go_wp2_with fail
      clear v0 v1 v2 v3
      go_loopw [6] (fun i wi => ∃ j : Nat, j ≤ nx' ∧ i = .int .i64 j ∧ Hid (NotTo X m j) ∧ Hid (VvAt wi w.heap.size (.slice (some ⟨b, off, none⟩) n c) nx sq lg) ∧ Hid (MvAt wi (w.heap.size + 1) m) ∧ Hid (Below w.heap.size w wi)) (fun i _ => nx' - (intOf i).toNat)
      case atStart => exact ⟨0, Nat.zero_le _, rfl, hide (fun j hj => by omega), hV, hM, hB⟩
      case round =>
        obtain ⟨j, hj, rfl, hJ, hVj, hMj, hBj⟩ := hrel
        clear hV hM hB q0
        have q0 := HQ.out wr hBj.out
        obtain ⟨v0, v1, v2, v3⟩ := hVj.out.cells
        by_cases jlt : j < nx'
        · have jlt' : (j : Int) < nx' := by omega
          have hjl : j < X.length := by have := HNX.out; omega
          obtain ⟨bx, ox, rfl, p0, p1, p2, p3, p4⟩ := RdM.cells HX.out hBj.out j hjl
          obtain ⟨m0, m1, m2, m3, m4⟩ := hMj.out.cells
          have HJN := hide (fun h => hJ.out.next hjl h)
          have HJF := hide (show X[j] = m → AtV (lvs R) m k from fun e => HFO.out (e ▸ List.getElem_mem hjl))
          obtain ⟨x, hx⟩ : ∃ x, x = X[j] := ⟨_, rfl⟩
          rw [← hx] at p0 p1 p2 p3 p4 HJN HJF
          have HVD := hide (fun n => hVj.out.carry (belowX_drewN (Below.refl wr.heap.size wr) n))
          have HMD := hide (fun n => hMj.out.carry (belowX_drewN (Below.refl wr.heap.size wr) n))
          have HBD := hide (fun n => belowX_drewN hBj.out n)
          clear hx hJ hVj hMj hBj hjl
          have heg := guard_mta
          by_cases hd : x = m
          · have hne' : ∀ wx, (binOp .eql 28 (.agg #[.string (bs x.1), .int .i64 x.2.1, .int .i64 x.2.2.1, .string (bs (Mlo x)), .string (bs (Mhi x))]) (.agg #[.string (bs m.1), .int .i64 m.2.1, .int .i64 m.2.2.1, .string (bs (Mlo m)), .string (bs (Mhi m))])).run Try.prog wx = .ok (.bool true) wx := fun wx => by
              rw [eql_mta x m wx, decide_eq_true hd]
            have HD := hide (HJF.out hd)
            clear hd HJN HJF
            go_wp2
            go_quiet (fail)
            go_wp2
            go_ret
            exact ⟨_, rfl, HD.out, HBD.out _⟩
          · have hne' : ∀ wx, (binOp .eql 28 (.agg #[.string (bs x.1), .int .i64 x.2.1, .int .i64 x.2.2.1, .string (bs (Mlo x)), .string (bs (Mhi x))]) (.agg #[.string (bs m.1), .int .i64 m.2.1, .int .i64 m.2.2.1, .string (bs (Mlo m)), .string (bs (Mhi m))])).run Try.prog wx = .ok (.bool false) wx := fun wx => by
              rw [eql_mta x m wx, decide_eq_false hd]
            have HD := hide (HJN.out hd)
            clear hd HJN HJF
            go_wp2
            go_quiet (fail)
            go_wp2
            go_roundw
            case rel => exact ⟨j + 1, by omega, by go_num, HD, hide (HVD.out _), hide (HMD.out _), hide (HBD.out _)⟩
            case measure => simp only [intOf]; omega
        · have jd : decide ((j : Int) < nx') = false := by simpa using (by omega : ¬ (j : Int) < nx')
          have HNK := hide (HNE.out (NotTo.all (by have := HNX.out; have e : j = X.length := by omega
                                                   rw [← e]; exact hJ.out)))
          clear hJ
          go_wp2_with fail
          go_roundw
          case rel => exact ⟨k + 1, by omega, by go_num, HNK, hVj, hMj, hBj⟩
          case measure => simp only [intOf]; omega
    · have hd : decide ((k : Int) < n) = false := by simpa using (by omega : ¬ (k : Int) < n)
      have HE := hide (show AtV (lvs R) m (-1) from .inl ⟨rfl, fun j hj => hP.out j (by have := HN.out; have := HLL.out; omega) hj⟩)
      clear hP
      go_wp2
      go_ret
      exact ⟨_, rfl, HE.out, hB.out⟩

def inK (key : List UInt8) (m : Mta) : Bool := !ltS key (Mlo m) && !ltS (Mhi m) key
def cntK (l : List Mta) (key : List UInt8) (k : Nat) : Nat := ((l.take k).filter (inK key)).length
theorem cntK_s {l : List Mta} {key : List UInt8} {k : Nat} (hk : k < l.length) : cntK l key (k + 1) = cntK l key k + (if inK key l[k] then 1 else 0) := by
  unfold cntK
  rw [List.take_succ_eq_append_getElem hk, List.filter_append, List.length_append, List.filter_cons, List.filter_nil]
  split <;> rfl
theorem cntK_le (l : List Mta) (key : List UInt8) (k : Nat) : cntK l key k ≤ k := by
  unfold cntK
  refine Nat.le_trans (List.length_filter_le _ _) ?_
  rw [List.length_take]; omega

set_option maxHeartbeats 4000000 in
set_option maxRecDepth 100000 in
theorem holds_vn (a : Option Addr) (n c : Nat) (R : Lvs) (nx sq : Int) (lg : List UInt8) (kk : Nat) (key : List UInt8) (w : World) (hrd : RdVw w (.slice a n c) R) (hkk : kk < n) (hT : (lvs R).flatten.length ≤ 100000) :
    Calls Try.prog 30 #[.agg #[.slice a n c, .int .i64 nx, .int .i64 sq, .string (bs lg)], .int .i64 kk, .string (bs key)] w fun e w' => e = .returned (.int .i64 ((lvV (lvs R, nx, sq, lg) kk).filter (inK key)).length) ∧ Below w.heap.size w w' := by
  have HN := hide hrd.len
  have HR := hide hrd
  have hkl : kk < R.length := by have := HN.out; omega
  have e1 : lvV (lvs R, nx, sq, lg) kk = (R[kk]).2 := lvV_at hkl
  rw [e1]
  have hxb := big_lv hT hkl
  clear hrd hT e1
  obtain ⟨w1, hw1⟩ : ∃ w1, w1 = w.alloc (.cells #[.slice a n c, .int .i64 nx, .int .i64 sq, .string (bs lg)] 24) := ⟨_, rfl⟩
  have HB1 := hide (show Below w.heap.size w w1 by rw [hw1]; exact (Below.refl _ _).alloc (Nat.le_refl _) _)
  have HV1 := hide (show VvAt w1 w.heap.size (.slice a n c) nx sq lg by rw [hw1]; exact VvAt.new w _ nx sq lg)
  obtain ⟨b, off, ax, nx', cx, rfl, q0, hRx, hnx⟩ := HR.out.cells HB1.out kk hkl
  have HQ := hide (show ∀ wx, Below w1.heap.size w1 wx → wx.cell? ⟨b, off + kk, none⟩ = some (.slice ax nx' cx) from fun wx hb => by
    rw [hb.cell (World.block_lt_of_cell? w1 _ q0)]; exact q0)
  have HX := hide hRx
  have HNX := hide hnx
  have hxn : nx' ≤ 1000000 := by omega
  obtain ⟨X, hXe⟩ : ∃ X, X = (R[kk]).2 := ⟨_, rfl⟩
  rw [← hXe] at HX HNX ⊢
  have hkk' : (kk : Int) < n := by omega
  clear hXe hRx hnx q0 hxb hkl
  go_enter Try.func30, Try.ntmps30
  go_wp2_with fail
  rw [← hw1]
  clear hw1
  go_loopw [7, 8] (fun v i wr => ∃ j : Nat, j ≤ nx' ∧ i = .int .i64 j ∧ v = .int .i64 (cntK X key j) ∧ Hid (Below w1.heap.size w1 wr)) (fun _ i _ => nx' - (intOf i).toNat)
  case atStart => exact ⟨0, Nat.zero_le _, rfl, rfl, hide (Below.refl _ _)⟩
  case round =>
    obtain ⟨j, hj, rfl, rfl, hB⟩ := hrel
    have q0 := HQ.out wr hB.out
    obtain ⟨v0, v1, v2, v3⟩ := (HV1.out.carry hB.out).cells
    have hBW : Below w.heap.size w wr := HB1.out.trans (hB.out.mono HB1.out.size)
    by_cases hlt : j < nx'
    · have hlt' : (j : Int) < nx' := by omega
      have hjl : j < X.length := by have := HNX.out; omega
      obtain ⟨bx, ox, rfl, p0, p1, p2, p3, p4⟩ := RdM.cells HX.out hBW j hjl
      have HCS := hide (cntK_s (key := key) hjl)
      have hcl := cntK_le X key j
      obtain ⟨x, hx⟩ : ∃ x, x = X[j] := ⟨_, rfl⟩
      rw [← hx] at p0 p1 p2 p3 p4 HCS
      obtain ⟨N, hN⟩ : ∃ N, N = cntK X key j := ⟨_, rfl⟩
      rw [← hN] at HCS hcl ⊢
      clear hx hN hBW
      have hA := lt_bs key (Mlo x)
      have hG := lt_bs key (Mhi x)
      have hE := eq_bs key (Mhi x)
      cases h1 : ltS key (Mlo x) with
      | true =>
        rw [h1] at hA
        have HC2 := hide (show cntK X key (j + 1) = N by rw [HCS.out]; unfold inK; rw [h1]; simp)
        clear h1 HCS hG hE
        go_wp2
        go_roundw
        case rel => exact ⟨j + 1, by omega, by go_num, by rw [HC2.out], hB⟩
        case measure => simp only [intOf]; omega
      | false =>
      rw [h1] at hA
      have hw2 : IntKind.i64.wrap ((N : Int) + 1) = (N : Int) + 1 := by rw [IntKind.wrap_i64]; omega
      rcases ltS_total key (Mhi x) with q | q | q
      · have h2 : ltS (Mhi x) key = false := ltS_asymm q
        rw [q] at hG
        have HC2 := hide (show cntK X key (j + 1) = N + 1 by rw [HCS.out]; unfold inK; rw [h1, h2]; simp)
        clear h1 h2 q HCS hE
        go_wp2
        go_roundw
        case rel => exact ⟨j + 1, by omega, by go_num, by rw [HC2.out]; rfl, hB⟩
        case measure => simp only [intOf]; omega
      · have h2 : ltS (Mhi x) key = false := by rw [← q]; exact ltS_irrefl _
        have h3 : ltS key (Mhi x) = false := by rw [← q]; exact ltS_irrefl _
        rw [h3] at hG
        rw [decide_eq_true q] at hE
        have HC2 := hide (show cntK X key (j + 1) = N + 1 by rw [HCS.out]; unfold inK; rw [h1, h2]; simp)
        clear h1 h2 h3 q HCS
        go_wp2
        go_roundw
        case rel => exact ⟨j + 1, by omega, by go_num, by rw [HC2.out]; rfl, hB⟩
        case measure => simp only [intOf]; omega
      · have h3 : ltS key (Mhi x) = false := ltS_asymm q
        rw [h3] at hG
        rw [decide_eq_false (fun e => by rw [e, ltS_irrefl] at q; cases q)] at hE
        have HC2 := hide (show cntK X key (j + 1) = N by rw [HCS.out]; unfold inK; rw [h1, q]; simp)
        clear h1 h3 q HCS
        go_wp2
        go_roundw
        case rel => exact ⟨j + 1, by omega, by go_num, by rw [HC2.out], hB⟩
        case measure => simp only [intOf]; omega
    · have hd : decide ((j : Int) < nx') = false := by simpa using (by omega : ¬ (j : Int) < nx')
      have HE := hide (show cntK X key j = (X.filter (inK key)).length by unfold cntK; rw [List.take_of_length_le (by have := HNX.out; omega)])
      have HBW := hide hBW
      clear hBW
      go_wp2
      go_ret
      exact ⟨by rw [HE.out]; rfl, HBW.out⟩
end Go.Proofs.Ytepfojlclgnicaa

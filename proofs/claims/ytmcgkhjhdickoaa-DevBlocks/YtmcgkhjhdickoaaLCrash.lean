/-
  What the statement DevCrash does: it answers true, and changes nothing that was there.
-/
import Derived.Test.YtmcgkhjhdickoaaL2b
namespace Go.Proofs.Ytmcgkhjhdickoaa
open Go.RowKit
set_option linter.unusedVariables false
set_option linter.unusedSimpArgs false

theorem kept_take (l : List Pu) (K : List Bool) : ∀ i, K.length ≤ i → kept (l.take i) K = kept l K := by
  induction l generalizing K with
  | nil => intro i _; simp
  | cons p l ih =>
    intro i hi
    cases K with
    | nil =>
      have e : ∀ x : List Pu, kept x [] = [] := fun x => by cases x <;> rfl
      rw [e, e]
    | cons b K =>
      cases i with
      | zero => simp at hi
      | succ i =>
        have := ih K i (by simpa using hi)
        have e : ∀ x : List Pu, kept (p :: x) (b :: K) = if b then p :: kept x K else kept x K := fun x => rfl
        rw [List.take_succ_cons, e, e, this]
/-- What want is, some way through what waits. -/
def wantD (d : Dk) (K : List Bool) (n i : Nat) : List UInt8 := (lastP n (kept (d.2.1.take i) K)).getD (blk d.1 n)
theorem want_step (d : Dk) (K : List Bool) (n i : Nat) (hi : i < d.2.1.length) (hk : i < K.length) : wantD d K n (i + 1) = if K[i] = true ∧ (d.2.1[i]).1 = n then (d.2.1[i]).2 else wantD d K n i := by
  unfold wantD
  rw [kept_snoc d.2.1 K i hi, List.getElem?_eq_getElem hk]
  by_cases hb : K[i] = true
  · rw [hb, if_pos rfl, lastP_snoc]
    by_cases he : (d.2.1[i]).1 = n
    · rw [if_pos he.symm, if_pos ⟨rfl, he⟩]; rfl
    · rw [if_neg (fun h => he h.symm), if_neg (fun h => he h.2)]
  · rw [if_neg (by simpa using hb), if_neg (fun h => hb h.1), List.append_nil]
theorem want_end (d : Dk) (K : List Bool) (n i : Nat) (h : d.2.1.length ≤ i ∨ K.length ≤ i) : wantD d K n i = (lastP n (kept d.2.1 K)).getD (blk d.1 n) := by
  unfold wantD
  rcases h with h | h
  · rw [List.take_of_length_le h]
  · rw [kept_take _ _ _ h]
theorem crash_ok {d : Dk} (K : List Bool) (h : okD d = true) : okD (setBs d.1 (kept d.2.1 K), [], []) = true ∧ (setBs d.1 (kept d.2.1 K)).length = d.1.length := by
  obtain ⟨hf, _, _⟩ := Fine.of_ok h
  have hp : ∀ p ∈ kept d.2.1 K, 0 ≤ p.1 ∧ 128 * p.1.toNat + 128 ≤ d.1.length ∧ p.2.length = 128 := fun p hp => by
    have := putE_ok (hf.2.2.2 p (kept_mem _ _ _ hp))
    have := hf.1
    omega
  have hl : (setBs d.1 (kept d.2.1 K)).length = d.1.length := setBs_len d.1 _ d.1 rfl hp
  refine ⟨?_, hl⟩
  obtain ⟨h1, h2, h3, _⟩ := (okD_iff d).1 h
  rw [okD_iff]
  have hm : mny (setBs d.1 (kept d.2.1 K), [], []) = mny d := by unfold mny; rw [hl]
  rw [hm]
  exact ⟨by rw [hl]; exact h1, h2, h3, by simp, by simp, by simp, by simp⟩
theorem crash_block {d : Dk} (K : List Bool) (n : Nat) (h : okD d = true) (hn : n < mny d) : blockD (setBs d.1 (kept d.2.1 K), [], []) n = (lastP n (kept d.2.1 K)).getD (blk d.1 n) := by
  obtain ⟨hf, _, _⟩ := Fine.of_ok h
  obtain ⟨h1, h2⟩ := crash_ok K h
  have hm : mny (setBs d.1 (kept d.2.1 K), [], []) = mny d := by unfold mny; rw [h2]
  unfold blockD readD
  rw [if_neg (by unfold chk; rw [h1]; simp), if_neg (by rw [hm]; omega)]
  show blk (setBs d.1 (kept d.2.1 K)) n = _
  rw [blk_setBs d.1 n _ d.1 rfl (fun p hp => by
    have := putE_ok (hf.2.2.2 p (kept_mem _ _ _ hp))
    have := hf.1
    omega)]

theorem wrapc {k q n1 c1 : Nat} (h : n1 = 128 * q) (hk : k < q) (hc : n1 ≤ c1) (hq : q ≤ 4096) : wrap64 (128 * (k : Int)) = ((128 * k : Nat) : Int) ∧ wrap64 (128 * (k : Int) + 128) = ((128 * k + 128 : Nat) : Int) ∧ 128 * k + 128 ≤ n1 ∧ ¬ 128 * k = c1 ∧ 128 * k + 128 ≤ c1 := by
  unfold wrap64
  refine ⟨by omega, by omega, by omega, by omega, by omega⟩

set_option maxHeartbeats 2000000 in
set_option maxRecDepth 100000 in
theorem devcrash_any {d : Dk} {v : Value} (K : List Bool) (a : Option Addr) (n c : Nat) (w : World) (hD : RdD w v d) (hK : RdK w (.slice a n c) K) (hn : n = K.length) :
    Calls Try.prog 7 #[v, .slice a n c] w fun e w' => e = .returned (.bool true) ∧ Below w.heap.size w w' := by
  obtain ⟨a1, c1, a2, c2, a3, c3, rfl, h1, h2, h3⟩ := hD.form
  have hm1 := h1.len_le
  have HD := hide hD
  have H1 := hide h1
  have H2 := hide h2
  have HK := hide hK
  have HN := hide hn
  have hnm : n ≤ maxLen := hn ▸ hK.len_le
  clear hD h1 h2 h3 hK hn
  unfold maxLen at hnm hm1
  generalize e1 : d.1.length = n1 at *
  generalize e2 : d.2.1.length = n2 at *
  generalize e3 : d.2.2.length = n3 at *
  have E1 := hide e1
  have E2 := hide e2
  clear e1 e2 e3
  obtain ⟨w1, ew⟩ : ∃ w1, w.alloc (.cells #[.slice a1 n1 c1, .slice a2 n2 c2, .slice a3 n3 c3] 26) = w1 := ⟨_, rfl⟩
  have hb1 : Below w.heap.size w w1 := by rw [← ew]; exact (Below.refl _ _).alloc (Nat.le_refl _) _
  have hr1 : w1.heap[w.heap.size]? = some (.cells #[.slice a1 n1 c1, .slice a2 n2 c2, .slice a3 n3 c3] 26 (0, 0)) := by rw [← ew]; exact heap_alloc_new _ _
  go_enter Try.func7, Try.ntmps7
  go_wp2_with fail
  clear ew
  refine (alive_any _).mono ?_
  rintro e w2 ⟨rfl, hb2⟩
  have hB2 : Below w.heap.size w w2 := hb1.trans (hb2.mono hb1.size)
  have hr2 := keeps_block _ _ _ _ hr1 hb2
  obtain ⟨k0, k1, k2, _⟩ := cells3 hr2
  clear hb1 hr1 hb2
  go_wp2_with fail
  refine (great_any (d := d) _ (HD.out.carry hB2)).mono ?_
  rintro e w3 ⟨⟨r, rfl, hr⟩, hb3⟩
  have hB3 : Below w.heap.size w w3 := hB2.trans (hb3.mono hB2.size)
  have hr3 := keeps_block _ _ _ _ hr2 hb3
  clear k0 k1 k2 hr2 hb3 hr hB2
  obtain ⟨k0, k1, k2, _⟩ := cells3 hr3
  cases r
  case true =>
    go_wp2
    go_ret
    exact ⟨rfl, hB3⟩
  by_cases g1 : 10000 < n
  · have g1' : (10000 : Int) < n := by omega
    go_wp2
    go_ret
    exact ⟨rfl, hB3⟩
  have g1' : decide ((10000 : Int) < n) = false := by simpa using (by omega : ¬ (10000 : Int) < n)
  by_cases g2 : 20000 < n1
  · have g2' : (20000 : Int) < n1 := by omega
    go_wp2
    go_ret
    exact ⟨rfl, hB3⟩
  have g2' : decide ((20000 : Int) < n1) = false := by simpa using (by omega : ¬ (20000 : Int) < n1)
  go_wp2_with fail
  refine (crash_any (d := d) K a n c _ (HD.out.carry hB3) (HK.out.carry hB3) HN.out).mono ?_
  rintro e w4 ⟨dv, rfl, hO4, hb4⟩
  obtain ⟨p1, t1, p2, t2, p3, t3, rfl⟩ := hO4.form
  have hB4 : Below w.heap.size w w4 := hB3.trans (hb4.mono hB3.size)
  have hr4 := keeps_block _ _ _ _ hr3 hb4
  clear k0 k1 k2 hr3 hb4 hB3
  rcases chk_cases d with ⟨hok, hck⟩ | ⟨hok, hck⟩
  · have ec : crashD d K = ((setBs d.1 (kept d.2.1 K), [], []), 0) := by unfold crashD; rw [if_neg (by rw [hck]; decide)]
    rw [ec] at hO4 ⊢
    have HOK := hide hok
    obtain ⟨xk, xl⟩ := crash_ok K hok
    obtain ⟨xd, exd⟩ : ∃ x, setBs d.1 (kept d.2.1 K) = x := ⟨_, rfl⟩
    rw [exd] at hO4 ⊢
    rw [exd, E1.out] at xl
    have HXL := hide xl
    have hO4 : OwD w4 _ (.agg #[.slice p1 xd.length t1, .slice p2 0 t2, .slice p3 0 t3]) (xd, [], []) := hO4
    clear hck hok xk ec xl
    dsimp only [List.length_nil]
    rw [HXL.out] at hO4 ⊢
    obtain ⟨w5, ew5⟩ : ∃ w5, w4.alloc (.cells #[.slice p1 n1 t1, .slice p2 0 t2, .slice p3 0 t3] 26) = w5 := ⟨_, rfl⟩
    have hb5 : Below w4.heap.size w4 w5 := by rw [← ew5]; exact (Below.refl _ _).alloc (Nat.le_refl _) _
    have hx5 : w5.heap[w4.heap.size]? = some (.cells #[.slice p1 n1 t1, .slice p2 0 t2, .slice p3 0 t3] 26 (0, 0)) := by rw [← ew5]; exact heap_alloc_new _ _
    have hr5 := keeps_block _ _ _ _ hr4 hb5
    have HO5 := hide (hO4.carry hb5).rd
    have hB5 : Below w.heap.size w w5 := hB4.trans (hb5.mono hB4.size)
    obtain ⟨k0, k1, k2, _⟩ := cells3 hr5
    obtain ⟨x0, x1, x2, _⟩ := cells3 hx5
    clear hO4 hr4 hb5 hB4
    go_wp2
    clear ew5
    obtain ⟨hfine, hq1, hq2⟩ := Fine.of_ok HOK.out
    have HF := hide hfine
    obtain ⟨q, eq⟩ : ∃ q, mny d = q := ⟨_, rfl⟩
    have HQ := hide eq
    have HNQ := hide (show n1 = 128 * q by rw [← E1.out, hfine.1, eq])
    have hdiv : ((n1 : Int) / 128) = (q : Int) := by have := HNQ.out; omega
    have hq4 : q ≤ 4096 := by omega
    have hwq : wrap64 (q : Int) = q := by unfold wrap64; omega
    have HBK := hide (fun k hk => crash_block (d := d) K k HOK.out hk)
    rw [exd] at HBK
    clear hfine hq1 hq2 eq exd
    go_loopw [8] (fun i wr => ∃ k : Nat, k ≤ q ∧ i = .int .i64 k ∧ Below w5.heap.size w5 wr) (fun i _ => q - (intOf i).toNat)
    case atStart => exact ⟨0, Nat.zero_le _, rfl, Below.refl _ _⟩
    case round =>
      obtain ⟨k, hk, rfl, hbel⟩ := hrel
      have hBr : Below w.heap.size w wr := hB5.trans (hbel.mono hB5.size)
      obtain ⟨m0, m1, m2, _⟩ := cells3 (keeps_block _ _ _ _ hr5 hbel)
      obtain ⟨y0, y1, y2, _⟩ := cells3 (keeps_block _ _ _ _ hx5 hbel)
      have HXR := hide (HO5.out.carry hbel)
      by_cases hlt : k < q
      · have hlt' : (k : Int) < q := by omega
        obtain ⟨b, off, rfl, en, hnc, hrd⟩ := rd_sub (H1.out.carry hBr) (128 * k) (128 * k + 128) (by omega) (by have := E1.out; have := HNQ.out; omega)
        have ebk : (d.1.drop (128 * k)).take (128 * k + 128 - 128 * k) = wantD d K k 0 := by
          unfold wantD blk
          rw [show 128 * k + 128 - 128 * k = 128 by omega]
          have : kept (d.2.1.take 0) K = [] := by cases K <;> rfl
          rw [this]; rfl
        rw [ebk, show 128 * k + 128 - 128 * k = 128 by omega] at hrd
        have hconv := conv_rd (P := Try.prog) 22 5 9 Try.underlying22 Try.underlying5 Try.underlying9 hrd
        obtain ⟨hw1, hw2, hh1, hh2, hh3⟩ := wrapc (k := k) HNQ.out hlt hnc hq4
        have hx9 : 128 * k + 128 - 128 * k = 128 := by omega
        clear en hrd ebk hnc
        go_wp2
        clear hconv hw1 hw2 hh1 hh2 hh3 hx9
        obtain ⟨wk, ewk⟩ : ∃ wk, wk = wr := ⟨_, rfl⟩
        rw [← ewk]
        rw [← ewk] at hbel hBr m0 m1 m2 y0 y1 y2 HXR
        clear ewk
        go_loopw [9, 10] (fun s i wq => ∃ j : Nat, j ≤ n2 ∧ j ≤ n ∧ s = .string (bs (wantD d K k j)) ∧ i = .int .i64 j ∧ wq = wk) (fun _ i _ => n2 - (intOf i).toNat)
        case atStart => exact ⟨0, Nat.zero_le _, Nat.zero_le _, rfl, rfl, rfl⟩
        case round =>
          obtain ⟨j, hj, hjn, rfl, rfl, rfl⟩ := hrel
          by_cases hj2 : j < n2 ∧ j < n
          · obtain ⟨hj2, hjn2⟩ := hj2
            have hj2' : (j : Int) < n2 := by omega
            have hjn' : (j : Int) < n := by omega
            have hjl : j < d.2.1.length := by have := E2.out; omega
            have hjK : j < K.length := by have := HN.out; omega
            obtain ⟨b2, o2, rfl, q0, x, m, c', q1', q2, q3⟩ := (H2.out.carry hBr).at j hjl
            obtain ⟨b5, o5, rfl, s0⟩ := (HK.out.carry hBr).at j hjK
            have HS := hide (want_step d K k j hjl hjK)
            have hcv := conv_rd (P := Try.prog) 22 5 9 Try.underlying22 Try.underlying5 Try.underlying9 q2
            clear q2 q3
            cases hb : K[j] with
            | false =>
              rw [hb] at s0
              have HS2 := hide (show wantD d K k (j + 1) = wantD d K k j by rw [HS.out, if_neg (by rw [hb]; simp)])
              clear hb
              go_wp2
              go_roundw
              case rel => exact ⟨j + 1, by omega, by omega, by rw [HS2.out], by go_num, by first | rfl | trivial⟩
              case measure => simp [intOf] <;> omega
            | true =>
              rw [hb] at s0
              by_cases hnk : (d.2.1[j]).1 = k
              · have HS2 := hide (show wantD d K k (j + 1) = (d.2.1[j]).2 by rw [HS.out, if_pos ⟨hb, hnk⟩])
                rw [hnk] at q0
                clear hb hnk
                go_wp2
                go_roundw
                case rel => exact ⟨j + 1, by omega, by omega, by rw [HS2.out], by go_num, by first | rfl | trivial⟩
                case measure => simp [intOf] <;> omega
              · have HS2 := hide (show wantD d K k (j + 1) = wantD d K k j by rw [HS.out, if_neg (fun h => hnk h.2)])
                have hnk' : ((d.2.1[j]).1 == (k : Int)) = false := by simpa using hnk
                generalize (d.2.1[j]).1 = N at *
                clear hb
                go_wp2
                go_roundw
                case rel => exact ⟨j + 1, by omega, by omega, by rw [HS2.out], by go_num, by first | rfl | trivial⟩
                case measure => simp [intOf] <;> omega
          · have HFIN := hide (show blockD (xd, [], []) (k : Int) = wantD d K k j by
              rw [want_end d K k j (by have := E2.out; have := HN.out; omega)]
              exact HBK.out k (by have := HQ.out; omega))
            by_cases hj3 : ¬ j < n2
            · have hj3' : decide ((j : Int) < n2) = false := by simpa using (by omega : ¬ (j : Int) < n2)
              go_wp2_with fail
              refine (block_any (d := (xd, [], [])) (k : Int) _ HXR.out).mono ?_
              rintro e w7 ⟨rfl, hb7⟩
              rw [HFIN.out]
              have hB7 := hbel.trans (hb7.mono hbel.size)
              clear hb7
              go_wp2
              go_roundw
              case rel => exact ⟨k + 1, by omega, by go_num, hB7⟩
              case measure => simp [intOf] <;> omega
            · have hj4 : ¬ j < n := fun h => hj2 ⟨Classical.byContradiction hj3, h⟩
              have hj3' : (j : Int) < n2 := by omega
              have hj4' : decide ((j : Int) < n) = false := by simpa using (by omega : ¬ (j : Int) < n)
              go_wp2_with fail
              refine (block_any (d := (xd, [], [])) (k : Int) _ HXR.out).mono ?_
              rintro e w7 ⟨rfl, hb7⟩
              rw [HFIN.out]
              have hB7 := hbel.trans (hb7.mono hbel.size)
              clear hb7
              go_wp2
              go_roundw
              case rel => exact ⟨k + 1, by omega, by go_num, hB7⟩
              case measure => simp [intOf] <;> omega
      · have hlt' : decide ((k : Int) < q) = false := by simpa using (by omega : ¬ (k : Int) < q)
        go_wp2
        go_ret
        exact ⟨rfl, hBr⟩
  · have ec : crashD d K = (dz, 20) := by unfold crashD; rw [if_pos (by rw [hck]; decide), hck]
    rw [ec] at hO4 ⊢
    have hB5 : ∀ o, Below w.heap.size w (w4.alloc o) := fun o => hB4.alloc hB4.size o
    clear hck hok ec hO4
    dsimp only [dz, List.length_nil]
    go_wp2
    go_ret
    exact ⟨rfl, hB5 _⟩

end Go.Proofs.Ytmcgkhjhdickoaa

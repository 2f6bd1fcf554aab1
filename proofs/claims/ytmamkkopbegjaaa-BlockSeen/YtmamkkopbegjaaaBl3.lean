/-
  What the statement BlockSeen answers.
-/
import Derived.Test.YtmamkkopbegjaaaBl2
namespace Go.Proofs.Ytmamkkopbegjaaa
open Go.RowKit
set_option linter.unusedVariables false
set_option linter.unusedSimpArgs false

theorem eqS_any (p q : Ent) (wx : World) : (binOp .eql 29 (.agg #[.string (bs p.1), .int .i64 p.2.1, .bool p.2.2.1, .string (bs p.2.2.2)]) (.agg #[.string (bs q.1), .int .i64 q.2.1, .bool q.2.2.1, .string (bs q.2.2.2)])).run Try.prog wx = .ok (.bool (decide (p = q))) wx := by
  rw [run_eql_struct, run_equal_ent wx p q]; rfl
theorem mem_take_succ (x : Ent) (l : List Ent) (k : Nat) (h : k < l.length) : decide (x ∈ l.take (k + 1)) = (decide (x ∈ l.take k) || decide (l[k] = x)) := by
  rw [List.take_succ_eq_append_getElem h, Bool.eq_iff_iff]
  simp only [decide_eq_true_iff, Bool.or_eq_true, List.mem_append, List.mem_singleton, eq_comm (a := x)]
theorem fd_wr {l : List Ent} (h : wrKE l = 0) (key : List UInt8) (seq : Int) (hk : ¬ (key.length < 1 ∨ 64 < key.length)) (hs : ¬ (seq < 0 ∨ 1099511627776 < seq)) : fdE (wrKL l) key seq = 0 ∧ ((fdB (wrKL l) key seq = false ∧ fdV (wrKL l) key seq = zE ∧ findK l key seq = none) ∨ ∃ x, fdB (wrKL l) key seq = true ∧ fdV (wrKL l) key seq = x ∧ findK l key seq = some x) := by
  obtain ⟨h1, h2⟩ := rdK_wr h
  have e := fd_e4 (key := key) (seq := seq) h1 hk hs
  refine ⟨e, ?_⟩
  cases hf : findK l key seq with
  | none =>
    have := fd_none e (by rw [h2]; exact hf)
    exact .inl ⟨this.2, this.1, rfl⟩
  | some x =>
    have := fd_some e (by rw [h2]; exact hf)
    exact .inr ⟨x, this.2, this.1, rfl⟩

set_option maxHeartbeats 4000000 in
set_option maxRecDepth 100000 in
theorem blockSeen_any (a : Option Addr) (n c : Nat) (l : List Ent) (key : List UInt8) (seq : Int) (w : World) (hrd : RdN w (.slice a n c) l) :
    Calls Try.prog 7 #[.slice a n c, .string (bs key), .int .i64 seq] w fun e w' => e = .returned (.bool true) ∧ Below w.heap.size w w' := by
  have HR := hide hrd
  have HN := hide hrd.len
  clear hrd
  have hs1 := bs_size key
  obtain ⟨kl, hkl⟩ : ∃ kl, kl = key.length := ⟨_, rfl⟩
  rw [← hkl] at hs1
  have HKL := hide hkl
  clear hkl
  go_enter Try.func7, Try.ntmps7
  go_wp2_with fail
  refine (alive_bl w).mono ?_
  rintro e w1 ⟨rfl, b1⟩
  have HB1 := hide b1
  clear b1
  go_wp2_with fail
  refine (heavy_bl a n c l w1 (HR.out.carry HB1.out)).mono ?_
  rintro e w2 ⟨bo, rfl, hb, b2⟩
  have HB2 := hide (show Below w.heap.size w w2 from HB1.out.trans (b2.mono HB1.out.size))
  clear b2 HB1
  cases bo with
  | true =>
    go_wp2
    go_ret
    exact ⟨rfl, HB2.out⟩
  | false =>
  have HL := hide (hb.out rfl)
  clear hb
  by_cases hg : 1000 < kl
  · have hg' : (1000 : Int) < kl := by omega
    go_wp2
    go_ret
    exact ⟨rfl, HB2.out⟩
  have hg' : decide ((1000 : Int) < kl) = false := by simpa using (by omega : ¬ (1000 : Int) < kl)
  have hw := write_bk a n c l w2 (HR.out.carry HB2.out)
  go_wp2_with fail
  clear hg hg'
  refine hw.mono ?_
  rintro e w3 ⟨v3, rfl, o3, b3⟩
  have HB3 := hide (show Below w.heap.size w w3 from HB2.out.trans (b3.mono HB2.out.size))
  have HR3 := hide o3.rd
  obtain ⟨a3, c3, rfl⟩ := o3.form
  obtain ⟨n3, hn3⟩ : ∃ n3, n3 = (wrKL l).length := ⟨_, rfl⟩
  rw [← hn3] at HR3 ⊢
  clear hw o3 b3 HB2 hn3
  by_cases he : wrKE l = 0
  case neg =>
    have he' : (wrKE l == 0) = false := by simpa using he
    generalize wrKE l = x at *
    clear he
    go_wp2
    go_ret
    exact ⟨rfl, HB3.out⟩
  have HW := hide he
  have HCH := hide (wrK_ok he).2.2.1
  rw [he]
  clear he
  have hf := find_bk a3 n3 c3 (wrKL l) key seq w3 HR3.out
  by_cases g : (kl < 1 ∨ 64 < kl) ∨ (seq < 0 ∨ 1099511627776 < seq)
  · obtain ⟨E, hE, hE0⟩ : ∃ E, fdE (wrKL l) key seq = E ∧ E ≠ 0 := by
      obtain ⟨h1, _⟩ := rdK_wr HW.out
      by_cases gk : key.length < 1 ∨ 64 < key.length
      · exact ⟨3, fd_e2 h1 gk, by decide⟩
      · rcases g with g | g
        · rw [HKL.out] at g; exact absurd g gk
        · exact ⟨2, fd_e3 h1 gk g, by decide⟩
    obtain ⟨f1, f2⟩ := fd_bad (b := wrKL l) (key := key) (seq := seq) (by rw [hE]; exact hE0)
    rw [hE, f1, f2] at hf
    have hE' : (E == 0) = false := by simpa using hE0
    have HG := hide g
    clear hE hE0 f1 f2 g
    go_wp2_with fail
    refine hf.mono ?_
    rintro e w4 ⟨rfl, b4⟩
    have HB4 := hide (show Below w.heap.size w w4 from HB3.out.trans (b4.mono HB3.out.size))
    have HB5 := hide (show ∀ o, Below w.heap.size w (w4.alloc o) from fun o => HB4.out.trans (((Below.refl _ _).alloc (Nat.le_refl _) o).mono HB4.out.size))
    clear hf b4
    by_cases q1 : kl < 1
    · have q1' : (kl : Int) < 1 := by omega
      go_wp2
      go_ret
      exact ⟨rfl, HB5.out _⟩
    have q1' : decide ((kl : Int) < 1) = false := by simpa using (by omega : ¬ (kl : Int) < 1)
    by_cases q2 : 64 < kl
    · have q2' : (64 : Int) < kl := by omega
      go_wp2
      go_ret
      exact ⟨rfl, HB5.out _⟩
    have q2' : decide ((64 : Int) < kl) = false := by simpa using (by omega : ¬ (64 : Int) < kl)
    by_cases q3 : seq < 0
    · go_wp2
      go_ret
      exact ⟨rfl, HB5.out _⟩
    have q3' : decide (seq < 0) = false := by simpa using q3
    have q4 : 1099511627776 < seq := by have := HG.out; omega
    go_wp2
    go_ret
    exact ⟨rfl, HB5.out _⟩
  obtain ⟨hE, hcase⟩ := fd_wr HW.out key seq (by rw [← HKL.out]; omega) (by omega)
  rw [hE] at hf
  have hn11 : n ≤ 1100 := by have := HL.out; have := HN.out; omega
  clear g hE
  rcases hcase with ⟨f1, f2, f3⟩ | ⟨x, f1, f2, f3⟩
  · rw [f1, f2] at hf
    have HNO := hide f3
    clear f1 f2 f3
    go_wp2_with fail
    refine hf.mono ?_
    rintro e w4 ⟨rfl, b4⟩
    have HB4 := hide (show Below w.heap.size w w4 from HB3.out.trans (b4.mono HB3.out.size))
    clear hf b4 HB3
    obtain ⟨w5, hw5⟩ : ∃ w5, w5 = w4.alloc (.cells #[.string (bs zE.1), .int .i64 zE.2.1, .bool zE.2.2.1, .string (bs zE.2.2.2)] 29) := ⟨_, rfl⟩
    have hb5 : Below w4.heap.size w4 w5 := by rw [hw5]; exact (Below.refl _ _).alloc (Nat.le_refl _) _
    have HB5 := hide (show Below w.heap.size w w5 from HB4.out.trans (hb5.mono HB4.out.size))
    clear hb5 HB4
    go_wp2
    rw [← hw5]
    clear hw5
    go_loopw [14, 13] (fun i t wr => ∃ k : Nat, k ≤ n ∧ i = .int .i64 k ∧ t = .bool true ∧ Hid (Below w.heap.size w wr)) (fun i _ _ => n - (intOf i).toNat)
    case atStart => exact ⟨0, Nat.zero_le _, rfl, rfl, HB5⟩
    case round =>
      obtain ⟨k, hk, rfl, rfl, hbel⟩ := hrel
      by_cases hlt : k < n
      · have hlt' : (k : Int) < n := by omega
        have hkl : k < l.length := by have := HN.out; omega
        obtain ⟨b, off, e1, q0, q1, q2, q3⟩ := RdN.cells HR.out hbel.out k hkl
        subst e1
        have HM := hide (List.getElem_mem hkl)
        obtain ⟨y, hy⟩ : ∃ y : Ent, y = l[k] := ⟨_, rfl⟩
        rw [← hy] at q0 q1 q2 q3 HM
        clear hy hkl
        have heq := eqK_bs y.1 key
        by_cases h1 : y.1 = key
        · rw [decide_eq_true h1] at heq
          have h2 : decide (y.2.1 ≤ seq) = false := decide_eq_false (fun h2 => find_no HNO.out HM.out h1 h2)
          clear h1
          go_wp2
          go_quiet (fail)
          have HBd := hide (show Below w.heap.size w (wr.drewN nq) from belowX_drewN hbel.out _)
          generalize wr.drewN nq = we at *
          go_wp2
          go_quiet (fail)
          go_wp2
          go_roundw
          case rel => exact ⟨k + 1, by omega, by go_num, rfl, hide (belowX_drewN HBd.out _)⟩
          case measure => simp only [intOf]; omega
        · rw [decide_eq_false h1] at heq
          clear h1
          go_wp2
          go_quiet (fail)
          have HBd := hide (show Below w.heap.size w (wr.drewN nq) from belowX_drewN hbel.out _)
          generalize wr.drewN nq = we at *
          go_wp2
          go_quiet (fail)
          go_wp2
          go_roundw
          case rel => exact ⟨k + 1, by omega, by go_num, rfl, hide (belowX_drewN HBd.out _)⟩
          case measure => simp only [intOf]; omega
      · have hd : decide ((k : Int) < n) = false := by simpa using (by omega : ¬ (k : Int) < n)
        go_wp2
        go_ret
        exact ⟨rfl, hbel.out⟩
  · rw [f1, f2] at hf
    have HMO := hide (fun y hy h1 h2 => find_most HCH.out f3 (y := y) hy h1 h2)
    have HME := hide (find_mem f3)
    clear f1 f2 f3
    go_wp2_with fail
    refine hf.mono ?_
    rintro e w4 ⟨rfl, b4⟩
    have HB4 := hide (show Below w.heap.size w w4 from HB3.out.trans (b4.mono HB3.out.size))
    clear hf b4 HB3
    obtain ⟨w5, hw5⟩ : ∃ w5, w5 = w4.alloc (.cells #[.string (bs x.1), .int .i64 x.2.1, .bool x.2.2.1, .string (bs x.2.2.2)] 29) := ⟨_, rfl⟩
    have hb5 : Below w4.heap.size w4 w5 := by rw [hw5]; exact (Below.refl _ _).alloc (Nat.le_refl _) _
    have HB5 := hide (show Below w.heap.size w w5 from HB4.out.trans (hb5.mono HB4.out.size))
    have HX5 := hide (show EntAt w5 w4.heap.size x by rw [hw5]; exact EntAt.new w4 x)
    obtain ⟨X, hX⟩ : ∃ X, X = w4.heap.size := ⟨_, rfl⟩
    rw [← hX] at HX5
    clear hb5 HB4
    go_wp2
    rw [← hw5]
    try rw [← hX]
    clear hw5 hX
    go_loopw [14, 13] (fun i t wr => ∃ k : Nat, k ≤ n ∧ i = .int .i64 k ∧ ∃ bt, t = .bool bt ∧ Hid (bt = decide (x ∈ l.take k)) ∧ Hid (EntAt wr X x) ∧ Hid (Below w.heap.size w wr)) (fun i _ _ => n - (intOf i).toNat)
    case atStart => exact ⟨0, Nat.zero_le _, rfl, false, rfl, hide (by simp), HX5, HB5⟩
    case round =>
      obtain ⟨k, hk, rfl, bt, rfl, hbt, hat, hbel⟩ := hrel
      clear HX5 HB5
      by_cases hlt : k < n
      · have hlt' : (k : Int) < n := by omega
        have hkl : k < l.length := by have := HN.out; omega
        obtain ⟨b, off, e1, q0, q1, q2, q3⟩ := RdN.cells HR.out hbel.out k hkl
        subst e1
        have HM := hide (List.getElem_mem hkl)
        have HT := hide (mem_take_succ x l k hkl)
        rw [← hbt.out] at HT
        obtain ⟨y, hy⟩ : ∃ y : Ent, y = l[k] := ⟨_, rfl⟩
        rw [← hy] at q0 q1 q2 q3 HM HT
        clear hy hkl hbt
        obtain ⟨x0, x1, x2, x3⟩ := hat.out.cells
        have heq := eqK_bs y.1 key
        have heg : ∀ op x y xs ys wx, (eqGuard op 29 x y (.agg xs) (.agg ys)).run Try.prog wx = .ok () wx := fun op x y xs ys wx => run_eqGuard_agg wx op 29 x y xs ys (by kernel_rfl)
        have hst := fun wx => eqS_any y x wx
        by_cases h1 : y.1 = key
        · rw [decide_eq_true h1] at heq
          by_cases h2 : y.2.1 ≤ seq
          · have h3 : decide (x.2.1 < y.2.1) = false := decide_eq_false (by have := HMO.out y HM.out h1 h2; omega)
            clear h1
            go_wp2
            go_quiet (fail)
            have HBd := hide (show Below w.heap.size w (wr.drewN nq) from belowX_drewN hbel.out _)
            have HXd := hide (show EntAt (wr.drewN nq) X x from hat.out)
            have r0 : (wr.drewN nq).cell? ⟨b, off + k * 4, none⟩ = some (.string (bs y.1)) := q0
            have r1 : (wr.drewN nq).cell? ⟨b, off + k * 4 + 1, none⟩ = some (.int .i64 y.2.1) := q1
            have r2 : (wr.drewN nq).cell? ⟨b, off + k * 4 + 2, none⟩ = some (.bool y.2.2.1) := q2
            have r3 : (wr.drewN nq).cell? ⟨b, off + k * 4 + 3, none⟩ = some (.string (bs y.2.2.2)) := q3
            clear x0 x1 x2 x3 q0 q1 q2 q3
            generalize wr.drewN nq = we at *
            obtain ⟨x0, x1, x2, x3⟩ := HXd.out.cells
            cases bt with
            | true =>
              go_wp2
              go_quiet (fail)
              go_wp2
              go_roundw
              case rel => exact ⟨k + 1, by omega, by go_num, _, rfl, hide (by rw [HT.out]; try simp), hide (show EntAt (we.drewN _) X x from HXd.out), hide (belowX_drewN HBd.out _)⟩
              case measure => simp only [intOf]; omega
            | false =>
              rw [Bool.false_or] at HT
              generalize decide (y = x) = dd at *
              go_wp2
              go_quiet (fail)
              go_wp2
              go_roundw
              case rel => exact ⟨k + 1, by omega, by go_num, _, rfl, hide (by rw [HT.out]; try simp), hide (show EntAt (we.drewN _) X x from HXd.out), hide (belowX_drewN HBd.out _)⟩
              case measure => simp only [intOf]; omega
          · have h2' : decide (y.2.1 ≤ seq) = false := decide_eq_false h2
            clear h1 h2
            go_wp2
            go_quiet (fail)
            have HBd := hide (show Below w.heap.size w (wr.drewN nq) from belowX_drewN hbel.out _)
            have HXd := hide (show EntAt (wr.drewN nq) X x from hat.out)
            have r0 : (wr.drewN nq).cell? ⟨b, off + k * 4, none⟩ = some (.string (bs y.1)) := q0
            have r1 : (wr.drewN nq).cell? ⟨b, off + k * 4 + 1, none⟩ = some (.int .i64 y.2.1) := q1
            have r2 : (wr.drewN nq).cell? ⟨b, off + k * 4 + 2, none⟩ = some (.bool y.2.2.1) := q2
            have r3 : (wr.drewN nq).cell? ⟨b, off + k * 4 + 3, none⟩ = some (.string (bs y.2.2.2)) := q3
            clear x0 x1 x2 x3 q0 q1 q2 q3
            generalize wr.drewN nq = we at *
            obtain ⟨x0, x1, x2, x3⟩ := HXd.out.cells
            cases bt with
            | true =>
              go_wp2
              go_quiet (fail)
              go_wp2
              go_roundw
              case rel => exact ⟨k + 1, by omega, by go_num, _, rfl, hide (by rw [HT.out]; try simp), hide (show EntAt (we.drewN _) X x from HXd.out), hide (belowX_drewN HBd.out _)⟩
              case measure => simp only [intOf]; omega
            | false =>
              rw [Bool.false_or] at HT
              generalize decide (y = x) = dd at *
              go_wp2
              go_quiet (fail)
              go_wp2
              go_roundw
              case rel => exact ⟨k + 1, by omega, by go_num, _, rfl, hide (by rw [HT.out]; try simp), hide (show EntAt (we.drewN _) X x from HXd.out), hide (belowX_drewN HBd.out _)⟩
              case measure => simp only [intOf]; omega
        · rw [decide_eq_false h1] at heq
          clear h1
          go_wp2
          go_quiet (fail)
          have HBd := hide (show Below w.heap.size w (wr.drewN nq) from belowX_drewN hbel.out _)
          have HXd := hide (show EntAt (wr.drewN nq) X x from hat.out)
          have r0 : (wr.drewN nq).cell? ⟨b, off + k * 4, none⟩ = some (.string (bs y.1)) := q0
          have r1 : (wr.drewN nq).cell? ⟨b, off + k * 4 + 1, none⟩ = some (.int .i64 y.2.1) := q1
          have r2 : (wr.drewN nq).cell? ⟨b, off + k * 4 + 2, none⟩ = some (.bool y.2.2.1) := q2
          have r3 : (wr.drewN nq).cell? ⟨b, off + k * 4 + 3, none⟩ = some (.string (bs y.2.2.2)) := q3
          clear x0 x1 x2 x3 q0 q1 q2 q3
          generalize wr.drewN nq = we at *
          obtain ⟨x0, x1, x2, x3⟩ := HXd.out.cells
          cases bt with
          | true =>
            go_wp2
            go_quiet (fail)
            go_wp2
            go_roundw
            case rel => exact ⟨k + 1, by omega, by go_num, _, rfl, hide (by rw [HT.out]; try simp), hide (show EntAt (we.drewN _) X x from HXd.out), hide (belowX_drewN HBd.out _)⟩
            case measure => simp only [intOf]; omega
          | false =>
            rw [Bool.false_or] at HT
            generalize decide (y = x) = dd at *
            go_wp2
            go_quiet (fail)
            go_wp2
            go_roundw
            case rel => exact ⟨k + 1, by omega, by go_num, _, rfl, hide (by rw [HT.out]; try simp), hide (show EntAt (we.drewN _) X x from HXd.out), hide (belowX_drewN HBd.out _)⟩
            case measure => simp only [intOf]; omega
      · have hd : decide ((k : Int) < n) = false := by simpa using (by omega : ¬ (k : Int) < n)
        have hbt' : bt = true := by
          rw [hbt.out, decide_eq_true_iff, List.take_of_length_le (by have := HN.out; omega)]
          exact HME.out.1
        subst hbt'
        obtain ⟨x0, x1, x2, x3⟩ := hat.out.cells
        have heq : ((bs x.1).toList == (bs key).toList) = true := by rw [eqK_bs]; exact decide_eq_true HME.out.2.1
        have hle : x.2.1 ≤ seq := HME.out.2.2
        go_wp2
        go_ret
        exact ⟨by simp, hbel.out⟩
end Go.Proofs.Ytmamkkopbegjaaa

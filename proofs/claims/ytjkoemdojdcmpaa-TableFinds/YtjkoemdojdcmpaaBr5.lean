/-
  What the document's Asked, Seen and Find of layer 12 do.
-/
import Derived.Test.YtjkoemdojdcmpaaBr4
namespace Go.Proofs.Ytjkoemdojdcmpaa
open Go.RowKit
set_option linter.unusedVariables false
set_option linter.unusedSimpArgs false

def askK (key : List UInt8) (seq : Int) : Int := if key.length < 1 ∨ 64 < key.length then 3 else if seq < 0 ∨ 1099511627776 < seq then 2 else 0
set_option maxRecDepth 100000 in
theorem rasked_br (key : List UInt8) (seq : Int) (w : World) :
    Calls Try.prog 37 #[.string (bs key), .int .i64 seq] w fun e w' => e = .returned (.int .i64 (askK key seq)) ∧ w' = w := by
  by_cases h : key.length < 1 ∨ 64 < key.length
  · have HE := hide (show askK key seq = 3 by unfold askK; rw [if_pos h])
    have hk := fun wx => rkeyF_bk key wx h
    go_enter Try.func37, Try.ntmps37
    go_wp2_with (go_at_call 63; refine (hk _).mono ?_; rintro e wc ⟨rfl, rfl⟩)
    go_ret
    exact ⟨ret_i64B HE.out.symm, rfl⟩
  · have hk := fun wx => rkeyT_bk key wx (by omega) (by omega)
    by_cases h2 : seq < 0
    · have HE := hide (show askK key seq = 2 by unfold askK; rw [if_neg h, if_pos (.inl h2)])
      go_enter Try.func37, Try.ntmps37
      go_wp2_with (go_at_call 63; refine (hk _).mono ?_; rintro e wc ⟨rfl, rfl⟩)
      go_ret
      exact ⟨ret_i64B HE.out.symm, rfl⟩
    have h2' : decide (seq < 0) = false := by simpa using h2
    by_cases h3 : 1099511627776 < seq
    · have HE := hide (show askK key seq = 2 by unfold askK; rw [if_neg h, if_pos (.inr h3)])
      go_enter Try.func37, Try.ntmps37
      go_wp2_with (go_at_call 63; refine (hk _).mono ?_; rintro e wc ⟨rfl, rfl⟩)
      go_ret
      exact ⟨ret_i64B HE.out.symm, rfl⟩
    have h3' : decide (1099511627776 < seq) = false := by simpa using h3
    have HE := hide (show askK key seq = 0 by unfold askK; rw [if_neg h, if_neg (by omega)])
    go_enter Try.func37, Try.ntmps37
    go_wp2_with (go_at_call 63; refine (hk _).mono ?_; rintro e wc ⟨rfl, rfl⟩)
    go_ret
    exact ⟨ret_i64B HE.out.symm, rfl⟩

def OutK (o : Option Ent) (x : Ent) (is : Bool) : Prop := x = o.getD zE ∧ is = o.isSome
set_option maxHeartbeats 4000000 in
set_option maxRecDepth 100000 in
theorem rseen_br (a : Option Addr) (n c : Nat) (l : List Ent) (key : List UInt8) (seq : Int) (w : World) (hrd : RdN w (.slice a n c) l) (hn6 : n ≤ 1000000) (hc : chS zE l = true) :
    Calls Try.prog 38 #[.slice a n c, .string (bs key), .int .i64 seq] w fun e w' => ∃ x is, e = .returned (.tuple #[.agg #[.string (bs x.1), .int .i64 x.2.1, .bool x.2.2.1, .string (bs x.2.2.2)], .bool is]) ∧ OutK (findK l key seq) x is ∧ Below w.heap.size w w' := by
  have HN := hide hrd.len
  have HRD := hide hrd
  have HC := hide hc
  clear hrd hc
  obtain ⟨w0, hw0⟩ : ∃ w0, w0 = w.alloc (.cells #[.string { data := #[] }, .int .i64 0, .bool false, .string { data := #[] }] 31) := ⟨_, rfl⟩
  have hb0 : Below w.heap.size w w0 := by rw [hw0]; exact (Below.refl _ _).alloc (Nat.le_refl _) _
  have hr0 : EntAt w0 w.heap.size zE := by rw [hw0]; exact EntAt.new w zE
  have hs0 : w0.heap.size = w.heap.size + 1 := by rw [hw0]; simp
  obtain ⟨w1, hw1⟩ : ∃ w1, w1 = w0.alloc (.cells #[.string { data := #[] }, .int .i64 0, .bool false, .string { data := #[] }] 31) := ⟨_, rfl⟩
  have hb1 : Below w0.heap.size w0 w1 := by rw [hw1]; exact (Below.refl _ _).alloc (Nat.le_refl _) _
  have HO1 := hide (show EntAt w1 (w.heap.size + 1) zE by rw [hw1, ← hs0]; exact EntAt.new w0 zE)
  have HR1 := hide (hr0.carry hb1)
  have HB1 := hide (show Below w.heap.size w w1 from hb0.trans (hb1.mono hb0.size))
  obtain ⟨R, hR⟩ : ∃ R, R = w.heap.size := ⟨_, rfl⟩
  obtain ⟨O, hO⟩ : ∃ O, O = w.heap.size + 1 := ⟨_, rfl⟩
  rw [← hO] at HO1
  rw [← hR] at HR1
  have HR0 := hide (show w.heap.size ≤ R from Nat.le_of_eq hR.symm)
  have HO0 := hide (show w.heap.size ≤ O by rw [hO]; exact Nat.le_succ _)
  have HRO := hide (show R ≠ O by rw [hR, hO]; omega)
  rw [hw0] at hw1
  clear hb0 hr0 hs0 hb1 hw0
  go_enter Try.func38, Try.ntmps38
  go_wp2
  rw [← hw1]
  try rw [← hO]
  try rw [← hR]
  clear hw1 hR hO
  go_loopw [10, 9] (fun i t wr => ∃ k : Nat, k ≤ n ∧ i = .int .i64 k ∧ ∃ is x, t = .bool is ∧ Hid (OutK (findK (l.take k) key seq) x is) ∧ Hid (EntAt wr O x) ∧ Hid (EntAt wr R zE) ∧ Hid (Below w.heap.size w wr)) (fun i _ _ => n - (intOf i).toNat)
  case atStart => exact ⟨0, Nat.zero_le _, rfl, false, zE, rfl, hide ⟨rfl, rfl⟩, HO1, HR1, HB1⟩
  case round =>
    obtain ⟨k, hk, rfl, is, x, rfl, hout, hat, har, hbel⟩ := hrel
    clear HO1 HR1 HB1
    by_cases hlt : k < n
    · have hlt' : (k : Int) < n := by omega
      have hkl : k < l.length := by have := HN.out; omega
      obtain ⟨b, off, e1, q0, q1, q2, q3⟩ := RdN.cells HRD.out hbel.out k hkl
      subst e1
      have HF := hide (find_take l key seq k hkl)
      have HNT := hide (fun y h h1 => find_not HC.out (key := key) (seq := seq) (x := y) hkl h h1)
      obtain ⟨y, hy⟩ : ∃ y : Ent, y = l[k] := ⟨_, rfl⟩
      rw [← hy] at q0 q1 q2 q3 HF HNT
      clear hy hkl
      obtain ⟨x0, x1, x2, x3⟩ := hat.out.cells
      have heq := eqK_bs y.1 key
      have HH := hide (show hitK key seq y = (decide (y.1 = key) && decide (y.2.1 ≤ seq)) from rfl)
      cases hfk : findK (l.take k) key seq with
      | some z =>
        have hxz : x = z ∧ is = true := by have := hout.out; rw [hfk] at this; exact ⟨this.1, this.2⟩
        obtain ⟨rfl, rfl⟩ := hxz
        have HNEW := hide (show OutK (findK (l.take (k + 1)) key seq) x true by rw [HF.out, hfk]; exact ⟨rfl, rfl⟩)
        by_cases h1 : y.1 = key
        · rw [decide_eq_true h1] at heq
          have h3 : decide (x.2.1 < y.2.1) = false := decide_eq_false (by have := HNT.out x hfk h1; omega)
          clear h1 hfk
          by_cases h2 : y.2.1 ≤ seq
          · clear HH
            go_wp2
            go_quiet (fail)
            go_wp2
            go_roundw
            case rel => exact ⟨k + 1, by omega, by go_num, _, _, rfl, HNEW, hide (show EntAt (wr.drewN _) O x from hat.out), hide (show EntAt (wr.drewN _) R zE from har.out), hide (belowX_drewN hbel.out _)⟩
            case measure => simp only [intOf]; omega
          · have h2' : decide (y.2.1 ≤ seq) = false := decide_eq_false h2
            clear h2 HH
            go_wp2
            go_quiet (fail)
            go_wp2
            go_roundw
            case rel => exact ⟨k + 1, by omega, by go_num, _, _, rfl, HNEW, hide (show EntAt (wr.drewN _) O x from hat.out), hide (show EntAt (wr.drewN _) R zE from har.out), hide (belowX_drewN hbel.out _)⟩
            case measure => simp only [intOf]; omega
        · rw [decide_eq_false h1] at heq
          clear h1 hfk HH
          go_wp2
          go_quiet (fail)
          go_wp2
          go_roundw
          case rel => exact ⟨k + 1, by omega, by go_num, _, _, rfl, HNEW, hide (show EntAt (wr.drewN _) O x from hat.out), hide (show EntAt (wr.drewN _) R zE from har.out), hide (belowX_drewN hbel.out _)⟩
          case measure => simp only [intOf]; omega
      | none =>
        have hxz : x = zE ∧ is = false := by have := hout.out; rw [hfk] at this; exact ⟨this.1, this.2⟩
        obtain ⟨rfl, rfl⟩ := hxz
        rw [hfk] at HF
        simp only at HF
        by_cases h1 : y.1 = key
        · rw [decide_eq_true h1] at heq HH
          clear h1 hfk
          by_cases h2 : y.2.1 ≤ seq
          · rw [decide_eq_true h2] at HH
            have HNEW := hide (show OutK (findK (l.take (k + 1)) key seq) y true by rw [HF.out, HH.out]; exact ⟨rfl, rfl⟩)
            clear HH HF
            go_wp2
            go_quiet (fail)
            have HBd := hide (show Below w.heap.size w (wr.drewN nq) from belowX_drewN hbel.out _)
            have HOd := hide (show EntAt (wr.drewN nq) O zE from hat.out)
            have HRd := hide (show EntAt (wr.drewN nq) R zE from har.out)
            have t0 : (wr.drewN nq).cell? ⟨b, off + k * 4, none⟩ = some (.string (bs y.1)) := q0
            have t1 : (wr.drewN nq).cell? ⟨b, off + k * 4 + 1, none⟩ = some (.int .i64 y.2.1) := q1
            have t2 : (wr.drewN nq).cell? ⟨b, off + k * 4 + 2, none⟩ = some (.bool y.2.2.1) := q2
            have t3 : (wr.drewN nq).cell? ⟨b, off + k * 4 + 3, none⟩ = some (.string (bs y.2.2.2)) := q3
            clear x0 x1 x2 x3 q0 q1 q2 q3 hat har hbel
            generalize wr.drewN nq = we at *
            obtain ⟨x0, x1, x2, x3⟩ := HOd.out.cells
            have f0 := HOd.out.fz 0
            have f1 := HOd.out.fz 1
            have f2 := HOd.out.fz 2
            have f3 := HOd.out.fz 3
            obtain ⟨w9, hw9⟩ : ∃ w9, w9 = set4 we O (.string (bs y.1)) (.int .i64 y.2.1) (.bool y.2.2.1) (.string (bs y.2.2.2)) := ⟨_, rfl⟩
            have HO9 := hide (show EntAt w9 O y by rw [hw9]; exact HOd.out.put y)
            have HR9 := hide (show EntAt w9 R zE by rw [hw9]; exact HRd.out.other HRO.out _ _ _ _)
            have HB9 := hide (show Below w.heap.size w w9 by rw [hw9]; exact below_set4 HBd.out HO0.out _ _ _ _)
            unfold set4 at hw9
            clear HOd HRd HBd
            go_wp2
            rw [← hw9]
            clear hw9 x0 x1 x2 x3 f0 f1 f2 f3 t0 t1 t2 t3
            go_roundw
            case rel => exact ⟨k + 1, by omega, by go_num, _, _, rfl, HNEW, HO9, HR9, HB9⟩
            case measure => simp only [intOf]; omega
          · rw [decide_eq_false h2] at HH
            have h2' : decide (y.2.1 ≤ seq) = false := decide_eq_false h2
            have HNEW := hide (show OutK (findK (l.take (k + 1)) key seq) zE false by rw [HF.out, HH.out]; exact ⟨rfl, rfl⟩)
            clear h2 HH HF
            go_wp2
            go_quiet (fail)
            go_wp2
            go_roundw
            case rel => exact ⟨k + 1, by omega, by go_num, _, _, rfl, HNEW, hide (show EntAt (wr.drewN _) O zE from hat.out), hide (show EntAt (wr.drewN _) R zE from har.out), hide (belowX_drewN hbel.out _)⟩
            case measure => simp only [intOf]; omega
        · rw [decide_eq_false h1] at heq HH
          have HNEW := hide (show OutK (findK (l.take (k + 1)) key seq) zE false by rw [HF.out, HH.out]; exact ⟨rfl, rfl⟩)
          clear h1 hfk HH HF
          go_wp2
          go_quiet (fail)
          go_wp2
          go_roundw
          case rel => exact ⟨k + 1, by omega, by go_num, _, _, rfl, HNEW, hide (show EntAt (wr.drewN _) O zE from hat.out), hide (show EntAt (wr.drewN _) R zE from har.out), hide (belowX_drewN hbel.out _)⟩
          case measure => simp only [intOf]; omega
    · have hd : decide ((k : Int) < n) = false := by simpa using (by omega : ¬ (k : Int) < n)
      have HE := hide (show OutK (findK l key seq) x is by
        have h1 := hout.out
        rwa [List.take_of_length_le (by have := HN.out; omega)] at h1)
      obtain ⟨x0, x1, x2, x3⟩ := hat.out.cells
      obtain ⟨r0, r1, r2, r3⟩ := har.out.cells
      have f0 := har.out.fz 0
      have f1 := har.out.fz 1
      have f2 := har.out.fz 2
      have f3 := har.out.fz 3
      have hp9 := har.out.put x
      have HB9 := hide (below_set4 hbel.out HR0.out (.string (bs x.1)) (.int .i64 x.2.1) (.bool x.2.2.1) (.string (bs x.2.2.2)))
      obtain ⟨w9, hw9⟩ : ∃ w9, w9 = set4 wr R (.string (bs x.1)) (.int .i64 x.2.1) (.bool x.2.2.1) (.string (bs x.2.2.2)) := ⟨_, rfl⟩
      rw [← hw9] at hp9 HB9
      unfold set4 at hw9
      obtain ⟨z0, z1, z2, z3⟩ := hp9.cells
      clear hp9
      go_wp2
      rw [← hw9]
      clear x0 x1 x2 x3 r0 r1 r2 r3 f0 f1 f2 f3
      refine bodyPost_ret (v := .tuple #[.agg #[.string (bs x.1), .int .i64 x.2.1, .bool x.2.2.1, .string (bs x.2.2.2)], .bool is]) ?_ rfl ⟨x, is, rfl, HE.out, HB9.out⟩
      clear hw9
      simp [results, Try.results38, go_sem, *]

end Go.Proofs.Ytjkoemdojdcmpaa

/-
  What the statement PickNames answers.
-/
import Derived.Test.YthhlckdglifmeaaLk4
namespace Go.Proofs.Ythhlckdglifmeaa
open Go.RowKit
set_option linter.unusedVariables false
set_option linter.unusedSimpArgs false
set_option synthInstance.maxHeartbeats 400000
set_option synthInstance.maxSize 4000

theorem own_ne {w : World} {base : Nat} {u v : Value} {x y : Mta} {l r : List Mta} (h : OwM w base u (x :: l)) (k : OwM w base v (y :: r)) (hne : x.1 ≠ y.1) (g : Nat) (hu : u.ownBlock = some g) : v.ownBlock ≠ some g := by
  intro hv
  obtain ⟨a, c, rfl⟩ := OwG.form h
  obtain ⟨a', c', rfl⟩ := OwG.form k
  obtain ⟨b, off, rfl, p0, -⟩ := RdM.cells (OwG.rd ecM_len h) (Below.refl _ _) 0 (by simp)
  obtain ⟨b', off', rfl, p1, -⟩ := RdM.cells (OwG.rd ecM_len k) (Below.refl _ _) 0 (by simp)
  have e1 : off = 0 := by
    rcases h.2 with ⟨e, _⟩ | ⟨g', cap, cur, e, _⟩
    · cases e
    · cases e; rfl
  have e2 : off' = 0 := by
    rcases k.2 with ⟨e, _⟩ | ⟨g', cap, cur, e, _⟩
    · cases e
    · cases e; rfl
  subst e1 e2
  simp only [Value.ownBlock, Option.some.injEq] at hu hv
  subst hu
  subst hv
  rw [p0] at p1
  simp only [Option.some.injEq, Value.string.injEq] at p1
  have : x.1 = y.1 := by
    have h1 := congrArg ByteArray.data p1
    simpa [bs] using h1
  exact hne this
theorem add_at {w : World} {base g n c k : Nat} {a0 : Option Addr} {n0 c0 : Nat} {l0 : List Mta} {S : Lvs} (h : OwVw w base (.slice (some ⟨g, 0, none⟩) n c) S) (hk : k < S.length) (hS : S[k] = (.slice a0 n0 c0, l0)) (hne : ∀ j (hj : j < S.length), j ≠ k → ∀ gg, (S[j]).1.ownBlock = some gg → (Value.slice a0 n0 c0).ownBlock ≠ some gg) (hb : base ≤ w.heap.size) (hl : l0.length ≤ 100000) (m : Mta) :
    ∃ g8 n8 c8 w8, (Builtin.append_ #[26, 26] 26 #[.slice a0 n0 c0, .slice (some ⟨w.heap.size, 0, none⟩) 1 1]).run Try.prog (w.alloc (.cells #[.string (bs m.1), .int .i64 m.2.1, .int .i64 m.2.2.1, .string (bs (Mlo m)), .string (bs (Mhi m))] 28)) = .ok (.slice (some ⟨g8, 0, none⟩) n8 c8) w8 ∧
      Below base w w8 ∧ w8.cell? ⟨g, k, none⟩ = some (.slice a0 n0 c0) ∧ w8.frozen? ⟨g, k, none⟩ = false ∧
      OwVw (w8.setCell ⟨g, k, none⟩ (.slice (some ⟨g8, 0, none⟩) n8 c8)) base (.slice (some ⟨g, 0, none⟩) n c) (S.set k (.slice (some ⟨g8, 0, none⟩) n8 c8, l0 ++ [m])) ∧ Below base w (w8.setCell ⟨g, k, none⟩ (.slice (some ⟨g8, 0, none⟩) n8 c8)) ∧ KeepG 28 w w8 ∧ KeepG 26 w8 (w8.setCell ⟨g, k, none⟩ (.slice (some ⟨g8, 0, none⟩) n8 c8)) := by
  obtain ⟨g8, n8, c8, w8, hn8, hr, ho, hbl, hk8, hon⟩ := app_metaO (h.2 (.slice a0 n0 c0, l0) (hS ▸ List.getElem_mem hk)) hb (by show l0.length ≤ 1000000; omega) m
  have hO8 : OwG 1 ecW 26 w8 base (.slice (some ⟨g, 0, none⟩) n c) S := OwG.keep h.1 hk8 (by decide)
  have hb8 : base ≤ w8.heap.size := Nat.le_trans hb hbl.size
  obtain ⟨s1, s2, s3⟩ := hO8.setW1 k (.slice (some ⟨g8, 0, none⟩) n8 c8, l0 ++ [m]) hb8
  refine ⟨g8, n8, c8, w8, hr, hbl, ?_, hO8.fzV k, ⟨s1, fun p hp => ?_⟩, hbl.trans s2, hk8, s3⟩
  · obtain ⟨b, off, e, hc⟩ := RdG.atB (OwG.rd ecW_len hO8) (Below.refl _ _) k hk
    have h1 := hc 0 (.slice a0 n0 c0) (by rw [hS]; rfl)
    cases e
    simpa using h1
  · obtain ⟨j, hj, rfl⟩ := List.getElem_of_mem hp
    rw [List.length_set] at hj
    rw [List.getElem_set]
    split
    · exact OwG.keep ho s3 (by decide)
    · rename_i hjk
      exact OwG.keep (OwG.only (h.2 S[j] (List.getElem_mem hj)) hon (hne j hj fun e => hjk e.symm)) s3 (by decide)

def tG : Mta := ([103], 1, 1, [97], [98])
def alph (j : Nat) : UInt8 := UInt8.ofNat (97 + j)
def tRow (j : Nat) : Mta := ([116, alph j], 1, 1, [alph j], [alph j])
def rowP (j : Nat) : List Mta := (List.range j).map tRow
theorem rowP_s (j : Nat) : rowP (j + 1) = rowP j ++ [tRow j] := by unfold rowP; rw [List.range_succ, List.map_append]; rfl
theorem alpha_at {j : Nat} (h : j < 11) : ({ data := #[97, 98, 99, 100, 101, 102, 103, 104, 105, 106, 107, 108, 109, 110, 111, 112] } : ByteArray).extract j (j + 1) = bs [alph j] := by
  rcases j with _ | _ | _ | _ | _ | _ | _ | _ | _ | _ | _ | j
  iterate 11 (first | rfl | decide)
  omega
theorem tcat_at (c : UInt8) : ({ data := #[116] } : ByteArray) ++ bs [c] = bs [116, c] := rfl
def fiveS (u v : Value) (j : Nat) : Lvs := [(u, fourA ++ [tG]), (v, rowP j), (.slice none 0 0, []), (.slice none 0 0, [])]

def fiveL : List (List Mta) := [fourA ++ [tG], rowP 11, [], []]
theorem five_p : pckW (fiveL, 1, 0, logS) = (1, [tRow 0], []) ∧ pckE (fiveL, 1, 0, logS) = 0 := by decide +kernel
def fiveN (k : Int) : Int := if k = 1 then 3 else if k = 0 then 2 else 0
def fiveE (k : Int) : Int := if k = 4 then 2 else 0
theorem five_s (k : Int) (h : k = 1 ∨ k = 0 ∨ k = 3 ∨ k = 4) : scrN (fiveL, 1, 0, logS) k = fiveN k ∧ scrE (fiveL, 1, 0, logS) k = fiveE k := by
  rcases h with rfl | rfl | rfl | rfl <;> decide +kernel
theorem zero_n : nedB ([], 0, 0, []) = false ∧ chkV ([], 0, 0, []) = 8 := by decide +kernel
theorem pick_five {g base : Nat} {u v : Value} {w : World} (h : OwVw w base (.slice (some ⟨g, 0, none⟩) 4 4) (fiveS u v 11)) :
    Calls Try.prog 8 #[.agg #[.slice (some ⟨g, 0, none⟩) 4 4, .int .i64 1, .int .i64 0, .string (bs logS)]] w fun e w' => AnsW w.heap.size 1 [tRow 0] [] 0 e w' ∧ Below w.heap.size w w' := by
  have hc := pick_pk (some ⟨g, 0, none⟩) 4 4 (fiveS u v 11) 1 0 logS w h.rd (by decide) (by show fiveL.flatten.length ≤ 100000; decide)
  rwa [show (lvs (fiveS u v 11), (1 : Int), (0 : Int), logS) = (fiveL, 1, 0, logS) from rfl, five_p.1, five_p.2] at hc
theorem score_five {g base : Nat} {u v : Value} {w : World} (k : Int) (h : OwVw w base (.slice (some ⟨g, 0, none⟩) 4 4) (fiveS u v 11)) (hk : k = 1 ∨ k = 0 ∨ k = 3 ∨ k = 4 := by decide) :
    Calls Try.prog 9 #[.agg #[.slice (some ⟨g, 0, none⟩) 4 4, .int .i64 1, .int .i64 0, .string (bs logS)], .int .i64 k] w fun e w' => e = .returned (.tuple #[.int .i64 (fiveN k), .int .i64 (fiveE k)]) ∧ Below w.heap.size w w' := by
  have hc := score_pk (some ⟨g, 0, none⟩) 4 4 (fiveS u v 11) 1 0 logS k w h.rd (by decide) (by show fiveL.flatten.length ≤ 100000; decide)
  rwa [show (lvs (fiveS u v 11), (1 : Int), (0 : Int), logS) = (fiveL, 1, 0, logS) from rfl, (five_s k hk).1, (five_s k hk).2] at hc
theorem need_zero (w : World) :
    Calls Try.prog 10 #[.agg #[.slice none 0 0, .int .i64 0, .int .i64 0, .string { data := #[] }]] w fun e w' => e = .returned (.tuple #[.bool false, .int .i64 8]) ∧ Below w.heap.size w w' := by
  have hc := need_pk none 0 0 [] 0 0 [] w (RdVw.nil w) (by decide) (by decide)
  rwa [show (lvs ([] : Lvs), (0 : Int), (0 : Int), ([] : List UInt8)) = ([], 0, 0, []) from rfl, zero_n.1, zero_n.2] at hc

set_option maxHeartbeats 8000000 in
set_option maxRecDepth 100000 in
theorem pickNames_any (w : World) : Calls Try.prog 3 #[] w fun e w' => e = .returned (.bool true) ∧ Below w.heap.size w w' := by
  have hc := four_lk w
  go_enter Try.func3, Try.ntmps3
  go_wp2_with fail
  refine hc.mono ?_
  rintro e w1 ⟨g, g1, g2, rfl, hO, h12, b1⟩
  obtain ⟨w2, hw2⟩ : ∃ w2, w2 = w1.alloc (.cells #[.slice (some ⟨g, 0, none⟩) 4 4, .int .i64 1, .int .i64 0, .string (bs logS)] 24) := ⟨_, rfl⟩
  have hb2 : Below w1.heap.size w1 w2 := by rw [hw2]; exact (Below.refl _ _).alloc (Nat.le_refl _) _
  obtain ⟨A, hA⟩ : ∃ A, A = w1.heap.size := ⟨_, rfl⟩
  have HV2 := hide (show VvAt w2 A (.slice (some ⟨g, 0, none⟩) 4 4) 1 0 logS by rw [hw2, hA]; exact VvAt.new w1 _ _ _ _)
  have HO2 := hide (hO.carry hb2)
  have HB2 := hide (b1.trans (hb2.mono b1.size))
  have H12 := hide h12
  clear hc b1 hO hb2 h12
  go_wp2_with fail
  rw [← hw2, ← hA]
  clear hw2 hA
  have hK : Keeps (fun wx => VvAt wx A (.slice (some ⟨g, 0, none⟩) 4 4) 1 0 logS ∧ wx.cell? ⟨g, 0, none⟩ = some (.slice (some ⟨g1, 0, none⟩) 4 4) ∧ Below w.heap.size w wx) := fun u1 u2 h hb => ⟨h.1.carry hb, keeps_cell _ _ _ _ h.2.1 hb, h.2.2.trans (hb.mono h.2.2.size)⟩
  have hS0 : VvAt w2 A (.slice (some ⟨g, 0, none⟩) 4 4) 1 0 logS ∧ w2.cell? ⟨g, 0, none⟩ = some (.slice (some ⟨g1, 0, none⟩) 4 4) ∧ Below w.heap.size w w2 := by
    refine ⟨HV2.out, ?_, HB2.out⟩
    obtain ⟨b, off, e, hc⟩ := RdG.atB (OwG.rd ecW_len HO2.out.1) (Below.refl _ _) 0 (by simp [fourS])
    have h1 := hc 0 (.slice (some ⟨g1, 0, none⟩) 4 4) rfl
    cases e
    simpa using h1
  refine regL_begin hK 10 (by kernel_rfl) hS0 ?_
  intro hS
  clear hS0
  have hdr : Below w2.heap.size w2 w2.drew := (Below.refl _ _).drew
  have HVd := hide (HV2.out.carry hdr)
  have HOd := hide (HO2.out.carry hdr)
  clear hdr HV2 HO2 HB2
  generalize w2.drew = wd at *
  refine regL_plan [0, 1, 2, 3, 4, 5] (fuel := 5) (a' := ?qa1) (by kernel_rfl) (by kernel_rfl) (by kernel_rfl) ?qp1 hS ?qn1
  case qp1 =>
    iterate 6 (apply Yl.cons rfl (by kernel_rfl); focus (rintro wx ⟨hx1, hx2, hx3⟩; obtain ⟨v0, v1, v2, v3⟩ := hx1.cells; go_simp; all_goals (with_reducible rfl)); try simp only [Act.put, List.setIfInBounds_toArray, List.set_cons_zero, List.set_cons_succ])
    exact Yl.nil
  refine regL_callg (i := 6) (R := fun v wy => v = .agg #[.string (bs [103]), .int .i64 1, .int .i64 1, .string (bs [97]), .string (bs [98])] ∧ Below wd.heap.size wd wy) rfl (by kernel_rfl) (by kernel_rfl) (by go_simp; first | done | ((repeat' apply And.intro) <;> rfl)) ((table_lk [103] [97] [98] wd).mono fun e wy ⟨h1, h2⟩ => ⟨_, h1, rfl, h2⟩) ?_
  rintro vt w4 ⟨rfl, b4⟩
  have hS4 := hK _ _ hS b4
  refine ⟨hS4, ?_⟩
  try simp only [Act.put, List.setIfInBounds_toArray, List.set_cons_zero, List.set_cons_succ]
  have HO4 := hide (HOd.out.carry b4)
  have HV4 := hide (HVd.out.carry b4)
  clear hS b4 HOd HVd
  obtain ⟨g8, n8, c8, w8, hr8, hbl8, hq8, hf8, ho9, hbl9, hk8, hk9⟩ := add_at (k := 0) HO4.out (by simp [fourS]) rfl (by
    intro j hj hj0 gg e1 e2
    have h12 := H12.out
    simp [fourS] at hj
    rcases j with _ | _ | _ | _ | j
    · exact hj0 rfl
    · simp [fourS, Value.ownBlock] at e1 e2; omega
    · simp [fourS, Value.ownBlock] at e1
    · simp [fourS, Value.ownBlock] at e1
    · omega) hS4.2.2.size (by decide) tG
  obtain ⟨w5, hw5⟩ : ∃ w5, w5 = w4.alloc (.cells #[.string (bs [103]), .int .i64 1, .int .i64 1, .string (bs [97]), .string (bs [98])] 28) := ⟨_, rfl⟩
  have hb5 : Below w4.heap.size w4 w5 := by rw [hw5]; exact (Below.refl _ _).alloc (Nat.le_refl _) _
  have hS5 := hK _ _ hS4 hb5
  refine regL_run (i := 7) (v := .slice (some ⟨w4.heap.size, 0, none⟩) 1 1) (w' := w5) rfl (by kernel_rfl) (by kernel_rfl) (by rw [hw5]; go_simp) (fun _ => hS5) ?_
  try simp only [Act.put, List.setIfInBounds_toArray, List.set_cons_zero, List.set_cons_succ]
  have hr9 : (Builtin.append_ #[26, 26] 26 #[.slice (some ⟨g1, 0, none⟩) 4 4, .slice (some ⟨w4.heap.size, 0, none⟩) 1 1]).run Try.prog w5 = .ok (.slice (some ⟨g8, 0, none⟩) n8 c8) w8 := by rw [hw5]; exact hr8
  have hS8 : VvAt w8 A (.slice (some ⟨g, 0, none⟩) 4 4) 1 0 logS ∧ w8.cell? ⟨g, 0, none⟩ = some (.slice (some ⟨g1, 0, none⟩) 4 4) ∧ Below w.heap.size w w8 := ⟨VvAt.keep hS4.1 hk8 (by decide), hq8, hS4.2.2.trans hbl8⟩
  refine regL_run (i := 8) (v := .slice (some ⟨g8, 0, none⟩) n8 c8) (w' := w8) rfl (by kernel_rfl) (by kernel_rfl) (exec_appY rfl rfl rfl hr9) (fun _ => hS8) ?_
  try simp only [Act.put, List.setIfInBounds_toArray, List.set_cons_zero, List.set_cons_succ]
  refine regL_plan [9] (fuel := 1) (a' := ?qb1) (by kernel_rfl) (by kernel_rfl) (by kernel_rfl) ?qbp1 hS8 ?qbn1
  case qbp1 =>
    iterate 1 (apply Yl.cons rfl (by kernel_rfl); focus (rintro wx _; go_simp; all_goals (with_reducible rfl)); try simp only [Act.put, List.setIfInBounds_toArray, List.set_cons_zero, List.set_cons_succ])
    exact Yl.nil
  have HO9 := hide ho9
  have HV9 := hide (VvAt.keep hS8.1 hk9 (by decide))
  have HB9 := hide (hS4.2.2.trans hbl9)
  obtain ⟨w9, hw9⟩ : ∃ w9, w9 = w8.setCell ⟨g, 0, none⟩ (.slice (some ⟨g8, 0, none⟩) n8 c8) := ⟨_, rfl⟩
  rw [← hw9] at HO9 HV9 HB9
  clear hS4 hS5 hb5 hw5 hr8 hr9 hbl8 ho9 hbl9 hk8 hk9 HO4 HV4
  refine regL_last (i := 10) (w' := w9) rfl (by kernel_rfl) (by kernel_rfl) (by kernel_rfl) (by rw [hw9]; go_simp) ?_
  try simp only [Act.put, List.setIfInBounds_toArray, List.set_cons_zero, List.set_cons_succ]
  refine wpAnyL_done (by kernel_rfl) ?_ _
  refine NoPanic.normal ?_
  clear hS8 hw9 hK hq8 hf8 H12
  obtain ⟨h1, h2, h3⟩ := OwG.setW1 HO9.out.1 1 (.slice none 0 0, []) HB9.out.size
  have q9 : w9.cell? ⟨g, 1, none⟩ = some (.slice (some ⟨g2, 0, none⟩) 2 2) := by
    obtain ⟨b, off, e, hc⟩ := RdG.atB (OwG.rd ecW_len HO9.out.1) (Below.refl _ _) 1 (by simp [fourS])
    have h1 := hc 0 (.slice (some ⟨g2, 0, none⟩) 2 2) rfl
    cases e
    simpa using h1
  have f9 := OwG.fzV HO9.out.1 1
  have HO10 := hide (show OwVw (w9.setCell ⟨g, 1, none⟩ (.slice none 0 0)) w.heap.size (.slice (some ⟨g, 0, none⟩) 4 4) (fiveS (.slice (some ⟨g8, 0, none⟩) n8 c8) (.slice none 0 0) 0) from ⟨h1, fun p hp => by
    simp only [fiveS, List.mem_cons, List.not_mem_nil, or_false] at hp
    rcases hp with rfl | rfl | rfl | rfl
    · exact OwG.keep (HO9.out.2 (.slice (some ⟨g8, 0, none⟩) n8 c8, fourA ++ [tG]) (by simp [fourS])) h3 (by decide)
    · exact OwG.nil _ _
    · exact OwG.nil _ _
    · exact OwG.nil _ _⟩)
  have HV10 := hide (VvAt.keep HV9.out h3 (by decide))
  have HB10 := hide (HB9.out.trans h2)
  obtain ⟨v0, v1, v2, v3⟩ := HV9.out.cells
  obtain ⟨w10, hw10⟩ : ∃ w10, w10 = w9.setCell ⟨g, 1, none⟩ (.slice none 0 0) := ⟨_, rfl⟩
  rw [← hw10] at HO10 HV10 HB10
  clear h1 h2 h3 HO9 HV9 HB9
  go_wp2_with fail
  rw [← hw10]
  clear hw10 q9 f9 v0 v1 v2 v3
  go_loopw [2, 3] (fun i s wr => ∃ (j : Nat) (a0 : Option Addr) (n0 c0 : Nat), j ≤ 11 ∧ i = .int .i64 j ∧ (j = 0 → a0 = none ∧ n0 = 0 ∧ c0 = 0) ∧ Hid (OwVw wr w.heap.size (.slice (some ⟨g, 0, none⟩) 4 4) (fiveS (.slice (some ⟨g8, 0, none⟩) n8 c8) (.slice a0 n0 c0) j)) ∧ Hid (VvAt wr A (.slice (some ⟨g, 0, none⟩) 4 4) 1 0 logS) ∧ Hid (Below w.heap.size w wr)) (fun i _ _ => 11 - (intOf i).toNat)
  case atStart => exact ⟨0, none, 0, 0, Nat.zero_le _, rfl, fun _ => ⟨rfl, rfl, rfl⟩, HO10, HV10, HB10⟩
  case round =>
    obtain ⟨j, a0, n0, c0, hj, rfl, hj0, HOr, HVr, HBr⟩ := hrel
    by_cases hlt : j < 11
    · have hlt' : (j : Int) < 11 := by omega
      go_wp2_with fail
      rw [alpha_at hlt]
      have hK : Keeps (fun wx => VvAt wx A (.slice (some ⟨g, 0, none⟩) 4 4) 1 0 logS ∧ wx.cell? ⟨g, 1, none⟩ = some (.slice a0 n0 c0) ∧ Below w.heap.size w wx) := fun u1 u2 h hb => ⟨h.1.carry hb, keeps_cell _ _ _ _ h.2.1 hb, h.2.2.trans (hb.mono h.2.2.size)⟩
      have hS0 : VvAt wr A (.slice (some ⟨g, 0, none⟩) 4 4) 1 0 logS ∧ wr.cell? ⟨g, 1, none⟩ = some (.slice a0 n0 c0) ∧ Below w.heap.size w wr := by
        refine ⟨HVr.out, ?_, HBr.out⟩
        obtain ⟨b, off, e, hc⟩ := RdG.atB (OwG.rd ecW_len HOr.out.1) (Below.refl _ _) 1 (by simp [fiveS])
        have h1 := hc 0 (.slice a0 n0 c0) rfl
        cases e
        simpa using h1
      refine regL_begin hK 14 (by kernel_rfl) hS0 ?_
      intro hS
      clear hS0
      have hdr : Below wr.heap.size wr wr.drew := (Below.refl _ _).drew
      have HVd := hide (HVr.out.carry hdr)
      have HOd := hide (HOr.out.carry hdr)
      clear hdr HVr HOr HBr
      generalize wr.drew = wd at *
      refine regL_plan [0, 1, 2, 3, 4, 5, 6, 7, 8, 9] (fuel := 5) (a' := ?ra1) (by kernel_rfl) (by kernel_rfl) (by kernel_rfl) ?rp1 hS ?rn1
      case rp1 =>
        iterate 10 (apply Yl.cons rfl (by kernel_rfl); focus (rintro wx ⟨hx1, hx2, hx3⟩; obtain ⟨v0, v1, v2, v3⟩ := hx1.cells; have hsz : (bs [alph j]).size = 1 := rfl; have hct := tcat_at (alph j); go_simp; all_goals (with_reducible rfl)); try simp only [Act.put, List.setIfInBounds_toArray, List.set_cons_zero, List.set_cons_succ])
        exact Yl.nil
      refine regL_callg (i := 10) (R := fun v wy => v = .agg #[.string (bs [116, alph j]), .int .i64 1, .int .i64 1, .string (bs [alph j]), .string (bs [alph j])] ∧ Below wd.heap.size wd wy) rfl (by kernel_rfl) (by kernel_rfl) (by go_simp; first | done | exact tcat_at (alph j) | ((repeat' apply And.intro) <;> first | rfl | exact tcat_at (alph j))) ((table_lk [116, alph j] [alph j] [alph j] wd).mono fun e wy ⟨h1, h2⟩ => ⟨_, h1, rfl, h2⟩) ?_
      rintro vt w14 ⟨rfl, b14⟩
      have hS4 := hK _ _ hS b14
      refine ⟨hS4, ?_⟩
      try simp only [Act.put, List.setIfInBounds_toArray, List.set_cons_zero, List.set_cons_succ]
      have HO4 := hide (HOd.out.carry b14)
      clear hS b14 HOd HVd
      obtain ⟨g9, n9, c9, w8, hr8, hbl8, hq8, hf8, ho9, hbl9, hk8, hk9⟩ := add_at (k := 1) HO4.out (by simp [fiveS]) rfl (by
        intro q hq hq0 gg e1 e2
        simp only [fiveS, List.length_cons, List.length_nil] at hq
        rcases q with _ | _ | _ | _ | q
        · rcases j with _ | j
          · obtain ⟨rfl, rfl, rfl⟩ := hj0 rfl
            cases e2
          · have ha := HO4.out.2 (.slice (some ⟨g8, 0, none⟩) n8 c8, fourA ++ [tG]) (by simp [fiveS])
            have hb := HO4.out.2 (.slice a0 n0 c0, rowP (j + 1)) (by simp [fiveS])
            have hr : rowP (j + 1) = tRow 0 :: (rowP (j + 1)).tail := by unfold rowP; rw [List.range_succ_eq_map]; rfl
            simp only at ha hb
            rw [hr] at hb
            exact own_ne ha hb (by decide) gg e1 e2
        · exact hq0 rfl
        · cases e1
        · cases e1
        · omega) hS4.2.2.size (by simp [rowP]; omega) (tRow j)
      obtain ⟨w15, hw5⟩ : ∃ w5, w5 = w14.alloc (.cells #[.string (bs [116, alph j]), .int .i64 1, .int .i64 1, .string (bs [alph j]), .string (bs [alph j])] 28) := ⟨_, rfl⟩
      have hb5 : Below w14.heap.size w14 w15 := by rw [hw5]; exact (Below.refl _ _).alloc (Nat.le_refl _) _
      have hS5 := hK _ _ hS4 hb5
      refine regL_run (i := 11) (v := .slice (some ⟨w14.heap.size, 0, none⟩) 1 1) (w' := w15) rfl (by kernel_rfl) (by kernel_rfl) (by rw [hw5]; go_simp) (fun _ => hS5) ?_
      try simp only [Act.put, List.setIfInBounds_toArray, List.set_cons_zero, List.set_cons_succ]
      have hr9 : (Builtin.append_ #[26, 26] 26 #[.slice a0 n0 c0, .slice (some ⟨w14.heap.size, 0, none⟩) 1 1]).run Try.prog w15 = .ok (.slice (some ⟨g9, 0, none⟩) n9 c9) w8 := by rw [hw5]; exact hr8
      have hS8 : VvAt w8 A (.slice (some ⟨g, 0, none⟩) 4 4) 1 0 logS ∧ w8.cell? ⟨g, 1, none⟩ = some (.slice a0 n0 c0) ∧ Below w.heap.size w w8 := ⟨VvAt.keep hS4.1 hk8 (by decide), hq8, hS4.2.2.trans hbl8⟩
      refine regL_run (i := 12) (v := .slice (some ⟨g9, 0, none⟩) n9 c9) (w' := w8) rfl (by kernel_rfl) (by kernel_rfl) (exec_appY rfl rfl rfl hr9) (fun _ => hS8) ?_
      try simp only [Act.put, List.setIfInBounds_toArray, List.set_cons_zero, List.set_cons_succ]
      refine regL_plan [13] (fuel := 1) (a' := ?rb1) (by kernel_rfl) (by kernel_rfl) (by kernel_rfl) ?rbp1 hS8 ?rbn1
      case rbp1 =>
        iterate 1 (apply Yl.cons rfl (by kernel_rfl); focus (rintro wx _; go_simp; all_goals (with_reducible rfl)); try simp only [Act.put, List.setIfInBounds_toArray, List.set_cons_zero, List.set_cons_succ])
        exact Yl.nil
      have HO9 := hide (show OwVw (w8.setCell ⟨g, 1, none⟩ (.slice (some ⟨g9, 0, none⟩) n9 c9)) w.heap.size (.slice (some ⟨g, 0, none⟩) 4 4) (fiveS (.slice (some ⟨g8, 0, none⟩) n8 c8) (.slice (some ⟨g9, 0, none⟩) n9 c9) (j + 1)) by
        have h : fiveS (.slice (some ⟨g8, 0, none⟩) n8 c8) (.slice (some ⟨g9, 0, none⟩) n9 c9) (j + 1) = (fiveS (.slice (some ⟨g8, 0, none⟩) n8 c8) (.slice a0 n0 c0) j).set 1 (.slice (some ⟨g9, 0, none⟩) n9 c9, rowP j ++ [tRow j]) := by unfold fiveS; rw [rowP_s]; rfl
        rw [h]; exact ho9)
      have HV9 := hide (VvAt.keep hS8.1 hk9 (by decide))
      have HB9 := hide (hS4.2.2.trans hbl9)
      obtain ⟨w19, hw9⟩ : ∃ w9, w9 = w8.setCell ⟨g, 1, none⟩ (.slice (some ⟨g9, 0, none⟩) n9 c9) := ⟨_, rfl⟩
      rw [← hw9] at HO9 HV9 HB9
      clear hS4 hS5 hb5 hw5 hr8 hr9 hbl8 ho9 hbl9 hk8 hk9 HO4 hj0
      refine regL_last (i := 14) (w' := w19) rfl (by kernel_rfl) (by kernel_rfl) (by kernel_rfl) (by rw [hw9]; go_simp) ?_
      try simp only [Act.put, List.setIfInBounds_toArray, List.set_cons_zero, List.set_cons_succ]
      refine wpAnyL_done (by kernel_rfl) ?_ _
      refine NoPanic.normal ?_
      clear hS8 hw9 hK hq8 hf8
      go_wp2
      go_roundw
      case rel => exact ⟨j + 1, _, _, _, by omega, by go_num, fun h => by omega, HO9, HV9, HB9⟩
      case measure => simp only [intOf]; omega
    have hd : decide ((j : Int) < 11) = false := by simpa using (by omega : ¬ (j : Int) < 11)
    obtain rfl : j = 11 := by omega
    clear hj0
    obtain ⟨u, hu⟩ : ∃ u : Value, u = .slice (some ⟨g8, 0, none⟩) n8 c8 := ⟨_, rfl⟩
    obtain ⟨v, hv⟩ : ∃ v : Value, v = .slice a0 n0 c0 := ⟨_, rfl⟩
    rw [← hu, ← hv] at HOr
    clear hu hv HO10 HV10 HB10
    have hc := pick_five HOr.out
    obtain ⟨v0, v1, v2, v3⟩ := HVr.out.cells
    go_wp2_with fail
    clear hd
    refine hc.mono ?_
    rintro e w21 ⟨⟨au, nu, cu, al, nl, cl, rfl, oU, oL⟩, b21⟩
    obtain ⟨w22, hw22⟩ : ∃ w22, w22 = w21.alloc (.cells #[.int .i64 1, .slice au nu cu, .slice al nl cl] 31) := ⟨_, rfl⟩
    have hb22 : Below w21.heap.size w21 w22 := by rw [hw22]; exact (Below.refl _ _).alloc (Nat.le_refl _) _
    obtain ⟨D, hD⟩ : ∃ A, A = w21.heap.size := ⟨_, rfl⟩
    have HW22 := hide (show WkAt w22 D 1 (.slice au nu cu) (.slice al nl cl) by rw [hw22, hD]; exact WkAt.new w21 _ _ _)
    have HU22 := hide (OwG.rd ecM_len (OwG.carry oU hb22))
    have b222 : Below wr.heap.size wr w22 := b21.trans (hb22.mono b21.size)
    have HV22 := hide (HVr.out.carry b222)
    have HO22 := hide (HOr.out.carry b222)
    have HB22 := hide (HBr.out.trans (b222.mono HBr.out.size))
    have hnu : nu = 1 := HU22.out.len
    subst hnu
    clear hc b21 oU oL hb22 b222 HVr HOr HBr v0 v1 v2 v3
    have hc := score_five 1 HO22.out
    obtain ⟨v0, v1, v2, v3⟩ := HV22.out.cells
    rw [hw22] at v0 v1 v2 v3
    go_wp2_with fail
    rw [← hw22]
    try rw [← hD]
    clear hw22 hD v0 v1 v2 v3
    refine hc.mono ?_
    rintro e w23 ⟨rfl, b23⟩
    have HW23 := hide (HW22.out.carry b23)
    have HU23 := hide (HU22.out.carry b23)
    have HV23 := hide (HV22.out.carry b23)
    have HO23 := hide (HO22.out.carry b23)
    have HB23 := hide (HB22.out.trans (b23.mono HB22.out.size))
    clear hc b23 HW22 HU22 HV22 HO22 HB22
    have hc := score_five 0 HO23.out
    obtain ⟨v0, v1, v2, v3⟩ := HV23.out.cells
    go_wp2_with fail
    clear v0 v1 v2 v3
    refine hc.mono ?_
    rintro e w24 ⟨rfl, b24⟩
    have HW24 := hide (HW23.out.carry b24)
    have HU24 := hide (HU23.out.carry b24)
    have HV24 := hide (HV23.out.carry b24)
    have HO24 := hide (HO23.out.carry b24)
    have HB24 := hide (HB23.out.trans (b24.mono HB23.out.size))
    clear hc b24 HW23 HU23 HV23 HO23 HB23
    have hc := score_five 3 HO24.out
    obtain ⟨v0, v1, v2, v3⟩ := HV24.out.cells
    go_wp2_with fail
    clear v0 v1 v2 v3
    refine hc.mono ?_
    rintro e w25 ⟨rfl, b25⟩
    have HW25 := hide (HW24.out.carry b25)
    have HU25 := hide (HU24.out.carry b25)
    have HV25 := hide (HV24.out.carry b25)
    have HO25 := hide (HO24.out.carry b25)
    have HB25 := hide (HB24.out.trans (b25.mono HB24.out.size))
    clear hc b25 HW24 HU24 HV24 HO24 HB24
    have hc := score_five 4 HO25.out
    obtain ⟨v0, v1, v2, v3⟩ := HV25.out.cells
    go_wp2_with fail
    clear v0 v1 v2 v3
    refine hc.mono ?_
    rintro e w26 ⟨rfl, b26⟩
    have HW26 := hide (HW25.out.carry b26)
    have HU26 := hide (HU25.out.carry b26)
    have HB26 := hide (HB25.out.trans (b26.mono HB25.out.size))
    clear hc b26 HW25 HU25 HB25 HV25 HO25
    have hc := need_zero w26
    go_wp2_with fail
    refine hc.mono ?_
    rintro e w27 ⟨rfl, b27⟩
    have HW27 := hide (HW26.out.carry b27)
    have HU27 := hide (HU26.out.carry b27)
    have HB27 := hide (HB26.out.trans (b27.mono HB26.out.size))
    clear hc b27 HW26 HU26 HB26
    have hc := alive_lk w27
    go_wp2_with fail
    refine hc.mono ?_
    rintro e w28 ⟨rfl, b28⟩
    have HW28 := hide (HW27.out.carry b28)
    have HU28 := hide (HU27.out.carry b28)
    have HB28 := hide (HB27.out.trans (b28.mono HB27.out.size))
    clear hc b28 HW27 HU27 HB27
    obtain ⟨b, off, rfl, q0, q1, q2, q3, q4⟩ := RdM.cells HU28.out (Below.refl _ _) 0 (by decide)
    have q0' : w28.cell? ⟨b, off, none⟩ = some (.string { data := #[116, 97] }) := by
      have h : w28.cell? ⟨b, off + 0 * 5, none⟩ = some (.string { data := #[116, 97] }) := q0
      simpa using h
    obtain ⟨k0, k1, k2⟩ := HW28.out.cells
    clear q0 q1 q2 q3 q4 HU28 HW28
    go_wp2
    go_ret
    exact ⟨rfl, HB28.out⟩
end Go.Proofs.Ythhlckdglifmeaa

/-
  The document's Add and Swap.
-/
import Derived.Test.YtepfojlclgnicaaRv4
namespace Go.Proofs.Ytepfojlclgnicaa
open Go.RowKit
set_option linter.unusedVariables false
set_option linter.unusedSimpArgs false
set_option synthInstance.maxHeartbeats 400000
set_option synthInstance.maxSize 4000

theorem OwVw.addr {w : World} {base : Nat} {a : Option Addr} {n c : Nat} {S : Lvs} (h : OwVw w base (.slice a n c) S) (hl : 0 < S.length) : ∃ g, a = some ⟨g, 0, none⟩ := by
  rcases h.1.2 with ⟨e, hn⟩ | ⟨g, cap, cur, e, _⟩
  · omega
  · cases e; exact ⟨g, rfl⟩
theorem add_rowK {w : World} {base g n c : Nat} {a0 : Option Addr} {n0 c0 : Nat} {l0 : List Mta} {S : Lvs} (h : OwVw w base (.slice (some ⟨g, 0, none⟩) n c) ((.slice a0 n0 c0, l0) :: S)) (hA : ApW ((.slice a0 n0 c0, l0) :: S)) (hb : base ≤ w.heap.size) (hl : l0.length ≤ 100000) (m : Mta) :
    ∃ g8 n8 c8 w8, (Builtin.append_ #[33, 33] 33 #[.slice a0 n0 c0, .slice (some ⟨w.heap.size, 0, none⟩) 1 1]).run Try.prog (w.alloc (.cells #[.string (bs m.1), .int .i64 m.2.1, .int .i64 m.2.2.1, .string (bs (Mlo m)), .string (bs (Mhi m))] 28)) = .ok (.slice (some ⟨g8, 0, none⟩) n8 c8) w8 ∧
      Below base w w8 ∧ w8.cell? ⟨g, 0, none⟩ = some (.slice a0 n0 c0) ∧ w8.frozen? ⟨g, 0, none⟩ = false ∧
      OwVw (w8.setCell ⟨g, 0, none⟩ (.slice (some ⟨g8, 0, none⟩) n8 c8)) base (.slice (some ⟨g, 0, none⟩) n c) ((.slice (some ⟨g8, 0, none⟩) n8 c8, l0 ++ [m]) :: S) ∧ Below base w (w8.setCell ⟨g, 0, none⟩ (.slice (some ⟨g8, 0, none⟩) n8 c8)) ∧ KeepG 28 w w8 ∧ KeepG 33 w8 (w8.setCell ⟨g, 0, none⟩ (.slice (some ⟨g8, 0, none⟩) n8 c8)) := by
  obtain ⟨g8, n8, c8, w8, hn8, hr, ho, hbl, hk, hon⟩ := app_metaO (h.2 (.slice a0 n0 c0, l0) (by simp)) hb (by show l0.length ≤ 1000000; omega) m
  have hO8 : OwG 1 ecW 33 w8 base (.slice (some ⟨g, 0, none⟩) n c) ((.slice a0 n0 c0, l0) :: S) := OwG.keep h.1 hk (by decide)
  have hb8 : base ≤ w8.heap.size := Nat.le_trans hb hbl.size
  obtain ⟨s1, s2, s3⟩ := hO8.setW1 0 (.slice (some ⟨g8, 0, none⟩) n8 c8, l0 ++ [m]) hb8
  refine ⟨g8, n8, c8, w8, hr, hbl, ?_, hO8.fzV 0, ⟨s1, fun p hp => ?_⟩, hbl.trans s2, hk, s3⟩
  · obtain ⟨b, off, e, hc⟩ := RdG.atB (OwG.rd ecW_len hO8) (Below.refl _ _) 0 (by simp)
    have h1 := hc 0 (.slice a0 n0 c0) rfl
    cases e
    simpa using h1
  · rcases List.mem_cons.1 hp with rfl | hp
    · exact OwG.keep ho s3 (by decide)
    · have hne : ∀ gg, p.1.ownBlock = some gg → (Value.slice a0 n0 c0).ownBlock ≠ some gg := fun gg h1 h2 => (List.pairwise_cons.1 hA).1 p hp gg h2 h1
      exact OwG.keep (OwG.only (h.2 p (List.mem_cons_of_mem _ hp)) hon hne) s3 (by decide)

set_option maxHeartbeats 8000000 in
set_option maxRecDepth 100000 in
theorem radd_vn (a : Option Addr) (n c : Nat) (R : Lvs) (nx sq : Int) (lg : List UInt8) (m : Mta) (w : World) (hrd : RdVw w (.slice a n c) R) (hn : n ≤ 1000) (hT : (lvs R).flatten.length ≤ 100000) :
    Calls Try.prog 19 #[.agg #[.slice a n c, .int .i64 nx, .int .i64 sq, .string (bs lg)], .agg #[.string (bs m.1), .int .i64 m.2.1, .int .i64 m.2.2.1, .string (bs (Mlo m)), .string (bs (Mhi m))]] w fun e w' => AnsV w.heap.size (addV (lvs R, nx, sq, lg) m) (addE (lvs R, nx, sq, lg) m) e w' ∧ Below w.heap.size w w' := by
  have HR := hide hrd
  obtain ⟨w1, hw1⟩ : ∃ w1, w1 = w.alloc (.cells #[.slice a n c, .int .i64 nx, .int .i64 sq, .string (bs lg)] 24) := ⟨_, rfl⟩
  have hb1 : Below w.heap.size w w1 := by rw [hw1]; exact (Below.refl _ _).alloc (Nat.le_refl _) _
  have hs1 : w1.heap.size = w.heap.size + 1 := by rw [hw1]; simp
  obtain ⟨w2, hw2⟩ : ∃ w2, w2 = w1.alloc (.cells #[.string (bs m.1), .int .i64 m.2.1, .int .i64 m.2.2.1, .string (bs (Mlo m)), .string (bs (Mhi m))] 28) := ⟨_, rfl⟩
  have hb2 : Below w1.heap.size w1 w2 := by rw [hw2]; exact (Below.refl _ _).alloc (Nat.le_refl _) _
  have hs2 : w2.heap.size = w.heap.size + 2 := by rw [hw2]; simp [hs1]
  obtain ⟨w3, hw3⟩ : ∃ w3, w3 = w2.alloc (.cells #[.slice none 0 0, .int .i64 0, .int .i64 0, .string { data := #[] }] 24) := ⟨_, rfl⟩
  have hb3 : Below w2.heap.size w2 w3 := by rw [hw3]; exact (Below.refl _ _).alloc (Nat.le_refl _) _
  have HV3 := hide ((show VvAt w1 w.heap.size (.slice a n c) nx sq lg by rw [hw1]; exact VvAt.new w _ nx sq lg).carry hb2 |>.carry hb3)
  have HM3 := hide ((show MvAt w2 (w.heap.size + 1) m by rw [hw2, ← hs1]; exact MvAt.new w1 m).carry hb3)
  have HZ3 := hide (show VvAt w3 (w.heap.size + 2) (.slice none 0 0) 0 0 [] by rw [hw3, ← hs2]; exact VvAt.new w2 _ 0 0 [])
  have HB3 := hide ((hb1.trans (hb2.mono hb1.size)).trans (hb3.mono (Nat.le_trans hb1.size hb2.size)))
  have hs3 : w3.heap.size = w.heap.size + 3 := by rw [hw3]; simp [hs2]
  have HS3 := hide hs3
  have hc := rcheck_vn a n c R nx sq lg w3 (HR.out.carry HB3.out) hn hT
  have HTF := hide hT
  obtain ⟨V, hV⟩ : ∃ V, V = (lvs R, nx, sq, lg) := ⟨_, rfl⟩
  rw [← hV] at hc ⊢
  have HV := hide hV
  clear hV hb1 hb2 hb3 hs1 hs2 hs3 hrd hT
  obtain ⟨v0, v1, v2, v3⟩ := HV3.out.cells
  rw [hw3] at v0 v1 v2 v3
  rw [hw2, hw1] at v0 v1 v2 v3
  go_enter Try.func19, Try.ntmps19
  go_wp2_with fail
  rw [← hw1]
  rw [← hw2]
  rw [← hw3]
  clear v0 v1 v2 v3
  clear hw1 hw2 hw3
  refine hc.mono ?_
  rintro e w4 ⟨rfl, b4⟩
  have HV4 := hide (HV3.out.carry b4)
  have HM4 := hide (HM3.out.carry b4)
  have HZ4 := hide (HZ3.out.carry b4)
  have HB4 := hide (HB3.out.trans (b4.mono HB3.out.size))
  have HS4 := hide (show w.heap.size + 3 ≤ w4.heap.size by have := b4.size; have := HS3.out; omega)
  clear hc b4 HV3 HM3 HZ3 HB3 HS3
  by_cases hk : chkV V = 0
  · have hE : addE V m = chkV (setVs V (addL V.1 m)) ∧ addV V m = ckdV (setVs V (addL V.1 m)) := by
      unfold addE addV
      rw [if_neg (by simpa using hk), if_neg (by simpa using hk)]; exact ⟨rfl, rfl⟩
    have HE := hide hE
    have h4 : (lvs R).length = 4 ∧ (lvs R).flatten.length ≤ 32 := by
      have := chkV_ok.1 hk
      rw [HV.out] at this
      exact ⟨(mayV_iff.1 this.2).1, this.1⟩
    obtain rfl : n = 4 := by have := HR.out.len; rw [this, ← lvs_len, h4.1]
    have HT4 := hide h4
    rw [hk]
    clear hE h4
    have hd := rtwin_vn a 4 c R nx sq lg w4 (HR.out.carry HB4.out) (by omega) HTF.out
    obtain ⟨v0, v1, v2, v3⟩ := HV4.out.cells
    go_wp2_with fail
    refine hd.mono ?_
    rintro e w5 ⟨ag, cg, S, rfl, o5, hSL, hAp, b5⟩
    clear hd v0 v1 v2 v3
    obtain ⟨g, rfl⟩ := OwVw.addr o5 (by rw [← lvs_len, hSL, HT4.out.1]; omega)
    obtain ⟨p0, p1, p2, p3, rfl⟩ := four_lv (S := S) (by rw [hSL]; exact HT4.out.1)
    obtain ⟨a0, c0, ep0⟩ := OwG.form (o5.2 p0 (by simp))
    obtain ⟨q0, l0⟩ := p0
    simp only at ep0
    subst ep0
    have hl0 : l0.length ≤ 100000 := by
      have h1 := HT4.out.2
      rw [← hSL] at h1
      simp [lvs] at h1
      omega
    obtain ⟨n0, hn0⟩ : ∃ n0, n0 = l0.length := ⟨_, rfl⟩
    rw [← hn0] at o5 hAp
    obtain ⟨w6, hw6⟩ : ∃ w6, w6 = w5.alloc (.cells #[.slice (some ⟨g, 0, none⟩) 4 cg, .int .i64 nx, .int .i64 sq, .string (bs lg)] 24) := ⟨_, rfl⟩
    have hb6 : Below w5.heap.size w5 w6 := by rw [hw6]; exact (Below.refl _ _).alloc (Nat.le_refl _) _
    obtain ⟨A, hA⟩ : ∃ A, A = w5.heap.size := ⟨_, rfl⟩
    have HT6 := hide (show VvAt w6 A (.slice (some ⟨g, 0, none⟩) 4 cg) nx sq lg by rw [hw6, hA]; exact VvAt.new w5 _ _ _ _)
    have HO6 := hide (o5.carry hb6)
    have HA6 := hide hAp
    have HM6 := hide ((HM4.out.carry b5).carry hb6)
    have HZ6 := hide ((HZ4.out.carry b5).carry hb6)
    have HB6 := hide ((HB4.out.trans (b5.mono HB4.out.size)).trans (hb6.mono (Nat.le_trans HB4.out.size b5.size)))
    have HS6 := hide (Nat.le_trans b5.size hb6.size)
    have HN0 := hide hn0
    have HSL := hide hSL
    clear hAp b5 o5 hb6 HV4 HM4 HZ4 HB4 hn0 hSL
    go_wp2_with fail
    rw [← hw6, ← hA]
    clear hw6 hA
    have hK : Keeps (fun wx => VvAt wx A (.slice (some ⟨g, 0, none⟩) 4 cg) nx sq lg ∧ MvAt wx (w.heap.size + 1) m ∧ wx.cell? ⟨g, 0, none⟩ = some (.slice a0 n0 c0) ∧ Below w.heap.size w wx) := fun w1 w2 h hb => ⟨h.1.carry hb, h.2.1.carry hb, by rw [hb.cell (World.block_lt_of_cell? w1 _ h.2.2.1)]; exact h.2.2.1, h.2.2.2.trans (hb.mono h.2.2.2.size)⟩
    have hS0 : VvAt w6 A (.slice (some ⟨g, 0, none⟩) 4 cg) nx sq lg ∧ MvAt w6 (w.heap.size + 1) m ∧ w6.cell? ⟨g, 0, none⟩ = some (.slice a0 n0 c0) ∧ Below w.heap.size w w6 := by
      refine ⟨HT6.out, HM6.out, ?_, HB6.out⟩
      obtain ⟨b, off, e, hc⟩ := RdG.atB (OwG.rd ecW_len HO6.out.1) (Below.refl _ _) 0 (by simp)
      have h1 := hc 0 (.slice a0 n0 c0) rfl
      cases e
      simpa using h1
    refine regL_begin hK 10 (by kernel_rfl) hS0 ?_
    intro hS
    clear hS0
    have hdr : Below w6.heap.size w6 w6.drew := (Below.refl _ _).drew
    have HOd := hide (HO6.out.carry hdr)
    have HTd := hide (HT6.out.carry hdr)
    have HZd := hide (HZ6.out.carry hdr)
    have HBd := hide (HB6.out.trans (hdr.mono HB6.out.size))
    have HSd := hide (Nat.le_trans HS6.out hdr.size)
    clear HO6 HT6 HZ6 HB6 HS6 HM6 hdr
    generalize w6.drew = wd at *
    refine regL_plan [0, 1, 2, 3, 4, 5, 6] (fuel := 4) (a' := ?qa1) (by kernel_rfl) (by kernel_rfl) (by kernel_rfl) ?qp1 hS ?qn1
    case qp1 =>
      iterate 7 (apply Yl.cons rfl (by kernel_rfl); focus (rintro wx ⟨hx1, hx2, x5, _⟩; obtain ⟨v0, v1, v2, v3⟩ := hx1.cells; obtain ⟨m0, m1, m2, m3, m4⟩ := hx2.cells; go_simp; all_goals (with_reducible rfl)); try simp only [Act.put, List.setIfInBounds_toArray, List.set_cons_zero, List.set_cons_succ])
      exact Yl.nil
    obtain ⟨w7, hw7⟩ : ∃ w7, w7 = wd.alloc (.cells #[.string (bs m.1), .int .i64 m.2.1, .int .i64 m.2.2.1, .string (bs (Mlo m)), .string (bs (Mhi m))] 28) := ⟨_, rfl⟩
    have hb7 : Below wd.heap.size wd w7 := by rw [hw7]; exact (Below.refl _ _).alloc (Nat.le_refl _) _
    have hS7 := hK _ _ hS hb7
    refine regL_run (i := 7) (v := .slice (some ⟨wd.heap.size, 0, none⟩) 1 1) (w' := w7) rfl (by kernel_rfl) (by kernel_rfl) (by rw [hw7]; go_simp) (fun _ => hS7) ?_
    try simp only [Act.put, List.setIfInBounds_toArray, List.set_cons_zero, List.set_cons_succ]
    obtain ⟨g8, n8, c8, w8, hr8, bw8, cw8, fw8, ow9, bw9, kw8, kw9⟩ := add_rowK HOd.out HA6.out HSd.out hl0 m
    rw [← hw7] at hr8
    have hlow : w.heap.size + 3 ≤ w4.heap.size := HS4.out
    have hB8 : Below w.heap.size w w8 := HBd.out.trans (bw8.mono (by omega))
    have hS8 : VvAt w8 A (.slice (some ⟨g, 0, none⟩) 4 cg) nx sq lg ∧ MvAt w8 (w.heap.size + 1) m ∧ w8.cell? ⟨g, 0, none⟩ = some (.slice a0 n0 c0) ∧ Below w.heap.size w w8 := ⟨HTd.out.keep kw8 (by decide), hS.2.1.low bw8 (by omega), cw8, hB8⟩
    refine regL_run (i := 8) (v := .slice (some ⟨g8, 0, none⟩) n8 c8) (w' := w8) rfl (by kernel_rfl) (by kernel_rfl) (exec_appY rfl rfl rfl hr8) (fun _ => hS8) ?_
    try simp only [Act.put, List.setIfInBounds_toArray, List.set_cons_zero, List.set_cons_succ]
    refine regL_plan [9] (fuel := 1) (a' := ?qb1) (by kernel_rfl) (by kernel_rfl) (by kernel_rfl) ?qbp1 hS8 ?qbn1
    case qbp1 =>
      iterate 1 (apply Yl.cons rfl (by kernel_rfl); focus (rintro wx _; go_simp; all_goals (with_reducible rfl)); try simp only [Act.put, List.setIfInBounds_toArray, List.set_cons_zero, List.set_cons_succ])
      exact Yl.nil
    have HT9 := hide ((HTd.out.keep kw8 (by decide)).keep kw9 (by decide))
    have HZ9 := hide (HZd.out.low bw9 (by omega))
    have HB9' := hide (show Below w.heap.size w (w8.setCell ⟨g, 0, none⟩ (.slice (some ⟨g8, 0, none⟩) n8 c8)) from HBd.out.trans (bw9.mono (by omega)))
    have HO9 := hide ow9
    have hbs9 := bw9.size
    obtain ⟨w9, hw9⟩ : ∃ w9, w9 = w8.setCell ⟨g, 0, none⟩ (.slice (some ⟨g8, 0, none⟩) n8 c8) := ⟨_, rfl⟩
    rw [← hw9] at HT9 HZ9 HB9' HO9 hbs9
    clear hS hS7 hb7 hw7 hr8 bw8 ow9 bw9 kw8 kw9 hB8 HTd HZd HBd HOd
    refine regL_last (i := 10) (w' := w9) rfl (by kernel_rfl) (by kernel_rfl) (by kernel_rfl) (by rw [hw9]; go_simp) ?_
    try simp only [Act.put, List.setIfInBounds_toArray, List.set_cons_zero, List.set_cons_succ]
    refine wpAnyL_done (by kernel_rfl) ?_ _
    refine NoPanic.normal ?_
    clear hS8 cw8 fw8 hw9 hK
    have HL9 := hide (show lvs ((Value.slice (some ⟨g8, 0, none⟩) n8 c8, l0 ++ [m]) :: [p1, p2, p3]) = addL V.1 m by
      have := HSL.out
      rw [HV.out]
      simp only [← this]
      rfl)
    have HF9 := hide (show (lvs ((Value.slice (some ⟨g8, 0, none⟩) n8 c8, l0 ++ [m]) :: [p1, p2, p3])).flatten.length ≤ 100000 by
      have h1 := HT4.out.2
      rw [← HSL.out] at h1
      simp [lvs] at h1 ⊢
      omega)
    obtain ⟨S9, hS9⟩ : ∃ S9, S9 = (Value.slice (some ⟨g8, 0, none⟩) n8 c8, l0 ++ [m]) :: [p1, p2, p3] := ⟨_, rfl⟩
    rw [← hS9] at HO9 HL9 HF9
    clear hS9 HSL HN0 hl0
    have hc := rcheck_vn (some ⟨g, 0, none⟩) 4 cg S9 nx sq lg w9 HO9.out.rd (by omega) HF9.out
    have HCS := hide (show (lvs S9, nx, sq, lg) = setVs V (addL V.1 m) by rw [HL9.out]; rw [HV.out]; rfl)
    obtain ⟨v0, v1, v2, v3⟩ := HT9.out.cells
    go_wp2_with fail
    refine hc.mono ?_
    rintro e w10 ⟨rfl, b10⟩
    have hlow4 : w.heap.size + 3 ≤ w4.heap.size := HS4.out
    have HO_w10 := hide (OwVw.mono (HO9.out.carry b10) hlow4)
    have HZ_w10 := hide (HZ9.out.carry b10)
    have HT_w10 := hide (HT9.out.carry b10)
    have HB_w10 := hide (HB9'.out.trans (b10.mono HB9'.out.size))
    rw [HCS.out]
    clear hc b10 v0 v1 v2 v3 HT9 HZ9 HO9 HB9' hk
    try rw [show w.heap.size + 1 + 1 = w.heap.size + 2 from rfl]
    by_cases hk2 : chkV (setVs V (addL V.1 m)) = 0
    · have HEK := hide (show addE V m = 0 ∧ addV V m = (lvs S9, nx, sq, lg) from ⟨by rw [HE.out.1, hk2], by rw [HE.out.2]; unfold ckdV; rw [if_pos hk2, ← HCS.out]⟩)
      rw [hk2]
      clear hk2
      obtain ⟨r0, r1, r2, r3⟩ := HZ_w10.out.cells
      have f0 := HZ_w10.out.fz 0
      have f1 := HZ_w10.out.fz 1
      have f2 := HZ_w10.out.fz 2
      have f3 := HZ_w10.out.fz 3
      have hp9 : VvAt (set4v w10 (w.heap.size + 2) (.slice (some ⟨g, 0, none⟩) 4 cg) (.int .i64 nx) (.int .i64 sq) (.string (bs lg))) (w.heap.size + 2) (.slice (some ⟨g, 0, none⟩) 4 cg) nx sq lg := VvAt.put (v' := .slice (some ⟨g, 0, none⟩) 4 cg) (nx' := nx) (sq' := sq) (lg' := lg) HZ_w10.out
      have HB9 := hide (show Below w.heap.size w (set4v w10 (w.heap.size + 2) (.slice (some ⟨g, 0, none⟩) 4 cg) (.int .i64 nx) (.int .i64 sq) (.string (bs lg))) from below_set4v HB_w10.out (by omega) _ _ _ _)
      have HO13 := hide (show OwVw (set4v w10 (w.heap.size + 2) (.slice (some ⟨g, 0, none⟩) 4 cg) (.int .i64 nx) (.int .i64 sq) (.string (bs lg))) w.heap.size (.slice (some ⟨g, 0, none⟩) 4 cg) S9 from OwVw.mono (HO_w10.out.set4v (by omega) _ _ _ _) (by omega))
      obtain ⟨x0, x1, x2, x3⟩ := HT_w10.out.cells
      obtain ⟨w9, hw9⟩ : ∃ w9, w9 = set4v w10 (w.heap.size + 2) (.slice (some ⟨g, 0, none⟩) 4 cg) (.int .i64 nx) (.int .i64 sq) (.string (bs lg)) := ⟨_, rfl⟩
      rw [← hw9] at hp9 HB9 HO13
      unfold set4v at hw9
      obtain ⟨z0, z1, z2, z3⟩ := hp9.cells
      clear hp9
      go_wp2
      rw [← hw9]
      clear r0 r1 r2 r3 f0 f1 f2 f3 x0 x1 x2 x3
      refine bodyPost_ret (v := .tuple #[.agg #[.slice (some ⟨g, 0, none⟩) 4 cg, .int .i64 nx, .int .i64 sq, .string (bs lg)], .int .i64 0]) ?_ rfl ⟨by rw [HEK.out.1, HEK.out.2]; exact ⟨_, S9, rfl, HO13.out, rfl⟩, HB9.out⟩
      clear hw9
      try simp only [show bs ([] : List UInt8) = { data := #[] } from rfl, Int.natCast_zero, Int.ofNat_zero, Int.cast_ofNat_Int] at z0 z1 z2 z3
      simp [results, Try.results19, go_sem, *]
    · have HEK := hide (show addE V m = chkV (setVs V (addL V.1 m)) ∧ addV V m = zerV from ⟨HE.out.1, by rw [HE.out.2]; unfold ckdV; rw [if_neg hk2]⟩)
      have hk' : (chkV (setVs V (addL V.1 m)) != 0) = true := by simpa using hk2
      clear hk2 HE HCS
      obtain ⟨K, hK⟩ : ∃ K, K = chkV (setVs V (addL V.1 m)) := ⟨_, rfl⟩
      rw [← hK] at hk' HEK ⊢
      clear hK
      obtain ⟨r0, r1, r2, r3⟩ := HZ_w10.out.cells
      have f0 := HZ_w10.out.fz 0
      have f1 := HZ_w10.out.fz 1
      have f2 := HZ_w10.out.fz 2
      have f3 := HZ_w10.out.fz 3
      have hp9 : VvAt (set4v w10 (w.heap.size + 2) (.slice none 0 0) (.int .i64 0) (.int .i64 0) (.string { data := #[] })) (w.heap.size + 2) (.slice none 0 0) 0 0 [] := VvAt.put (v' := .slice none 0 0) (nx' := 0) (sq' := 0) (lg' := []) HZ_w10.out
      have HB9 := hide (show Below w.heap.size w (set4v w10 (w.heap.size + 2) (.slice none 0 0) (.int .i64 0) (.int .i64 0) (.string { data := #[] })) from below_set4v HB_w10.out (by omega) _ _ _ _)
      obtain ⟨w9, hw9⟩ : ∃ w9, w9 = set4v w10 (w.heap.size + 2) (.slice none 0 0) (.int .i64 0) (.int .i64 0) (.string { data := #[] }) := ⟨_, rfl⟩
      rw [← hw9] at hp9 HB9
      unfold set4v at hw9
      obtain ⟨z0, z1, z2, z3⟩ := hp9.cells
      clear hp9
      go_wp2
      rw [← hw9]
      clear r0 r1 r2 r3 f0 f1 f2 f3
      refine bodyPost_ret (v := .tuple #[.agg #[.slice none 0 0, .int .i64 0, .int .i64 0, .string { data := #[] }], .int .i64 K]) ?_ rfl ⟨by rw [HEK.out.1, HEK.out.2]; exact ⟨_, [], rfl, OwVw.nil _ _, rfl⟩, HB9.out⟩
      clear hw9
      try simp only [show bs ([] : List UInt8) = { data := #[] } from rfl, Int.natCast_zero, Int.ofNat_zero, Int.cast_ofNat_Int] at z0 z1 z2 z3
      simp [results, Try.results19, go_sem, *]
  · have hE : addE V m = chkV V ∧ addV V m = zerV := by
      unfold addE addV
      rw [if_pos hk, if_pos hk]; exact ⟨rfl, rfl⟩
    have HE := hide hE
    clear hE
    have hk' : (chkV V != 0) = true := by simpa using hk
    clear hk
    obtain ⟨K, hK⟩ : ∃ K, K = chkV V := ⟨_, rfl⟩
    rw [← hK] at hk' HE ⊢
    clear hK
    obtain ⟨r0, r1, r2, r3⟩ := HZ4.out.cells
    have f0 := HZ4.out.fz 0
    have f1 := HZ4.out.fz 1
    have f2 := HZ4.out.fz 2
    have f3 := HZ4.out.fz 3
    have hp9 : VvAt (set4v w4 (w.heap.size + 2) (.slice none 0 0) (.int .i64 0) (.int .i64 0) (.string { data := #[] })) (w.heap.size + 2) (.slice none 0 0) 0 0 [] := VvAt.put (v' := .slice none 0 0) (nx' := 0) (sq' := 0) (lg' := []) HZ4.out
    have HB9 := hide (show Below w.heap.size w (set4v w4 (w.heap.size + 2) (.slice none 0 0) (.int .i64 0) (.int .i64 0) (.string { data := #[] })) from below_set4v HB4.out (by omega) _ _ _ _)
    obtain ⟨w9, hw9⟩ : ∃ w9, w9 = set4v w4 (w.heap.size + 2) (.slice none 0 0) (.int .i64 0) (.int .i64 0) (.string { data := #[] }) := ⟨_, rfl⟩
    rw [← hw9] at hp9 HB9
    unfold set4v at hw9
    obtain ⟨z0, z1, z2, z3⟩ := hp9.cells
    clear hp9
    go_wp2
    rw [← hw9]
    clear r0 r1 r2 r3 f0 f1 f2 f3
    refine bodyPost_ret (v := .tuple #[.agg #[.slice none 0 0, .int .i64 0, .int .i64 0, .string { data := #[] }], .int .i64 K]) ?_ rfl ⟨by rw [HE.out.1, HE.out.2]; exact ⟨_, [], rfl, OwVw.nil _ _, rfl⟩, HB9.out⟩
    clear hw9
    try simp only [show bs ([] : List UInt8) = { data := #[] } from rfl, Int.natCast_zero, Int.ofNat_zero, Int.cast_ofNat_Int] at z0 z1 z2 z3
    simp [results, Try.results19, go_sem, *]
end Go.Proofs.Ytepfojlclgnicaa

/-
  What the statement TableNames answers.
-/
import Derived.Test.YtjkoemdojdcmpaaLt1
namespace Go.Proofs.Ytjkoemdojdcmpaa
open Go.RowKit
set_option linter.unusedVariables false
set_option linter.unusedSimpArgs false

theorem Try.fieldsM : (Try.prog.fieldsOf 26).toList.map (fun f => (f.type, f.offset, f.name == "_")) = [(9, 0, false), (3, 1, false), (3, 2, false), (9, 3, false), (9, 4, false)] := by kernel_rfl
theorem run_equal_meta (w : World) (m : MetaT) : (Op.equalIn 10000 26 (mtV m) (mtV m)).run Try.prog w = .ok true w := by
  unfold mtV
  rw [run_equalIn_struct w 9999 26 _ _ (by kernel_rfl) (by kernel_rfl)]
  have hf := Try.fieldsM
  generalize (Try.prog.fieldsOf 26).toList = fs at hf
  rcases fs with _ | ⟨f0, _ | ⟨f1, _ | ⟨f2, _ | ⟨f3, _ | ⟨f4, _ | ⟨f5, fs⟩⟩⟩⟩⟩⟩
  · simp at hf
  · simp at hf
  · simp at hf
  · simp at hf
  · simp at hf
  · simp only [List.map_cons, List.map_nil, List.cons.injEq, Prod.mk.injEq, and_true] at hf
    obtain ⟨⟨t0, o0, n0⟩, ⟨t1, o1, n1⟩, ⟨t2, o2, n2⟩, ⟨t3, o3, n3⟩, ⟨t4, o4, n4⟩⟩ := hf
    have n0' : f0.name ≠ "_" := by simpa using n0
    have n1' : f1.name ≠ "_" := by simpa using n1
    have n2' : f2.name ≠ "_" := by simpa using n2
    have n3' : f3.name ≠ "_" := by simpa using n3
    have n4' : f4.name ≠ "_" := by simpa using n4
    simp only [Op.eqFields, n0', n1', n2', n3', n4', ne_eq, not_false_eq_true, if_true, t0, t1, t2, t3, t4, o0, o1, o2, o3, o4]
    simp [go_sem]
  · simp at hf
theorem eqM_same (m : MetaT) (wx : World) : (binOp .eql 26 (mtV m) (mtV m)).run Try.prog wx = .ok (.bool true) wx := by
  have := run_equal_meta wx m
  unfold mtV at this ⊢
  rw [run_eql_struct, this]; rfl
theorem eqM_guard (op : BinOp) (x y : Operand) (xs ys : Array Value) (wx : World) : (eqGuard op 26 x y (.agg xs) (.agg ys)).run Try.prog wx = .ok () wx := run_eqGuard_agg wx op 26 x y xs ys (by kernel_rfl)
theorem tw_b5 : gtTE twT [98] 5 = 0 ∧ gtTV twT [98] 5 = ([98], 1, true, []) ∧ gtTB twT [98] 5 = true := tw_get (by decide) (by decide)
theorem tw_a1 : gtTE twT [97] 1 = 0 ∧ gtTV twT [97] 1 = zE ∧ gtTB twT [97] 1 = false := tw_get (by decide) (by decide)
theorem tw_c5 : gtTE twT [99] 5 = 0 ∧ gtTV twT [99] 5 = zE ∧ gtTB twT [99] 5 = false := tw_get (by decide) (by decide)
theorem tw_no : gtTE twT [] 1 = 3 ∧ gtTV twT [] 1 = zE ∧ gtTB twT [] 1 = false := by
  have e := gt_e2 (seq := 1) tw_rd.1 (key := []) (by decide)
  have := gt_bad (b := twT) (key := []) (seq := 1) (by rw [e]; decide)
  exact ⟨e, this.1, this.2⟩
theorem tw_rng (x y : List UInt8) (h : ¬ (64 < x.length ∨ 64 < y.length)) : rgTE twT x y = 0 ∧ rgTL twT x y = partM twoK x y := by
  have := rg_e3 (x := x) (y := y) tw_rd.1 h
  rwa [tw_rd.2] at this
theorem tw_r1 : rgTE twT [] [98] = 0 ∧ rgTL twT [] [98] = [([97], 2, false, [120])] := by
  obtain ⟨h1, h2⟩ := tw_rng [] [98] (by decide)
  exact ⟨h1, h2.trans (by decide)⟩
theorem tw_r2 : rgTE twT [98] [] = 0 ∧ rgTL twT [98] [] = [([98], 1, true, [])] := by
  obtain ⟨h1, h2⟩ := tw_rng [98] [] (by decide)
  exact ⟨h1, h2.trans (by decide)⟩
theorem tw_r3 : rgTE twT [99] [97] = 0 ∧ rgTL twT [99] [97] = [] := by
  obtain ⟨h1, h2⟩ := tw_rng [99] [97] (by decide)
  exact ⟨h1, h2.trans (by decide)⟩
theorem tw_b0 : bldE [] = 4 ∧ bldL [] = [] ∧ bldM [] = (0, 0, [], []) := bld_many (by decide)
theorem tw_r0 : rdTE [] = 8 ∧ rdTL [] = [] := rdT_none (by decide) (fun l hl => by
  obtain ⟨x, h, _⟩ := hl.parts
  simp at h)

set_option maxHeartbeats 8000000 in
set_option maxRecDepth 100000 in
theorem tableNames_any (w : World) : Calls Try.prog 3 #[] w fun e w' => e = .returned (.bool true) ∧ Below w.heap.size w w' := by
  have B97 := hide (show bs [97] = { data := #[97] } from rfl)
  have B98 := hide (show bs [98] = { data := #[98] } from rfl)
  have B99 := hide (show bs [99] = { data := #[99] } from rfl)
  have B120 := hide (show bs [120] = { data := #[120] } from rfl)
  have B0 := hide (show bs [] = { data := #[] } from rfl)
  go_enter Try.func3, Try.ntmps3
  go_wp2_with fail
  refine (two_tb w).mono ?_
  rintro e w1 ⟨a1, c1, rfl, o1, b1⟩
  have HB_w1 := hide b1
  have HT_w1 := hide o1.rd
  clear b1 o1
  have hc := alive_tb w1
  go_wp2_with fail
  refine hc.mono ?_
  rintro e w2 ⟨rfl, b2⟩
  clear hc
  have HT_w2 := hide (HT_w1.out.carry b2)
  have HB_w2 := hide (show Below w.heap.size w w2 from HB_w1.out.trans (b2.mono HB_w1.out.size))
  clear HT_w1 HB_w1
  clear b2
  have ho := World.ownsRow_lit (base := w2.heap.size) (e := 31) (size := 4) w2 #[.string { data := #[97] }, .int .i64 2, .bool false, .string { data := #[120] }, .string { data := #[98] }, .int .i64 1, .bool true, .string { data := #[] }] 2 (Nat.le_refl _) (by decide) rfl
  have hO : OwN (w2.alloc (.cells #[.string { data := #[97] }, .int .i64 2, .bool false, .string { data := #[120] }, .string { data := #[98] }, .int .i64 1, .bool true, .string { data := #[] }] 31)) w2.heap.size (.slice (some ⟨w2.heap.size, 0, none⟩) 2 2) twoK := ho
  clear ho
  obtain ⟨w3, hw3⟩ : ∃ w3, w3 = w2.alloc (.cells #[.string { data := #[97] }, .int .i64 2, .bool false, .string { data := #[120] }, .string { data := #[98] }, .int .i64 1, .bool true, .string { data := #[] }] 31) := ⟨_, rfl⟩
  rw [← hw3] at hO
  have bw3 : Below w2.heap.size w2 w3 := by rw [hw3]; exact (Below.refl _ _).alloc (Nat.le_refl _) _
  have HO := hide (OwG.rd ecN_len hO)
  obtain ⟨Z, hZ⟩ : ∃ Z, Z = w2.heap.size := ⟨_, rfl⟩
  rw [← hZ] at HO
  clear hO
  have HT_w3 := hide (HT_w2.out.carry bw3)
  have HB_w3 := hide (show Below w.heap.size w w3 from HB_w2.out.trans (bw3.mono HB_w2.out.size))
  clear HT_w2 HB_w2
  clear bw3
  have hc := build_tb (some ⟨Z, 0, none⟩) 2 2 twoK w3 HO.out
  rw [tw_bld.1, tw_bld.2.1, tw_bld.2.2] at hc
  unfold mtV at hc
  simp only [B97.out, B98.out] at hc
  go_wp2_with fail
  rw [← hw3]
  try rw [← hZ]
  clear hw3 hZ
  refine hc.mono ?_
  rintro e w4 ⟨v4, rfl, o4, b4⟩
  clear hc
  have HT_w4 := hide (HT_w3.out.carry b4)
  have HB_w4 := hide (show Below w.heap.size w w4 from HB_w3.out.trans (b4.mono HB_w3.out.size))
  clear HT_w3 HB_w3
  clear b4 o4 HO
  obtain ⟨w5, hw5⟩ : ∃ w5, w5 = w4.alloc (.cells #[.string { data := #[] }, .int .i64 37, .int .i64 2, .string { data := #[97] }, .string { data := #[98] }] 26) := ⟨_, rfl⟩
  have bw5 : Below w4.heap.size w4 w5 := by rw [hw5]; exact (Below.refl _ _).alloc (Nat.le_refl _) _
  have HMM_w5 := hide (show MtAt w5 w4.heap.size (37, 2, [97], [98]) by rw [hw5]; exact MtAt.new w4 (37, 2, [97], [98]))
  obtain ⟨M, hM⟩ : ∃ M, M = w4.heap.size := ⟨_, rfl⟩
  rw [← hM] at HMM_w5
  have HT_w5 := hide (HT_w4.out.carry bw5)
  have HB_w5 := hide (show Below w.heap.size w w5 from HB_w4.out.trans (bw5.mono HB_w4.out.size))
  clear HT_w4 HB_w4
  clear bw5
  have hc := get_tb a1 37 c1 twT [98] 5 w5 HT_w5.out
  rw [tw_b5.1, tw_b5.2.1, tw_b5.2.2] at hc
  simp only [B97.out, B98.out, B99.out, B120.out, B0.out, zE] at hc
  go_wp2_with fail
  rw [← hw5]
  try rw [← hM]
  clear hw5 hM
  refine hc.mono ?_
  rintro e w6 ⟨rfl, bw6⟩
  clear hc
  have HT_w6 := hide (HT_w5.out.carry bw6)
  have HMM_w6 := hide (HMM_w5.out.carry bw6)
  have HB_w6 := hide (show Below w.heap.size w w6 from HB_w5.out.trans (bw6.mono HB_w5.out.size))
  clear HT_w5 HMM_w5 HB_w5
  clear bw6
  obtain ⟨w7, hw7⟩ : ∃ w7, w7 = w6.alloc (.cells #[.string { data := #[98] }, .int .i64 1, .bool true, .string { data := #[] }] 31) := ⟨_, rfl⟩
  have bw7 : Below w6.heap.size w6 w7 := by rw [hw7]; exact (Below.refl _ _).alloc (Nat.le_refl _) _
  have HXX_w7 := hide (show EntAt w7 w6.heap.size ([98], 1, true, []) by rw [hw7]; exact EntAt.new w6 ([98], 1, true, []))
  obtain ⟨X, hX⟩ : ∃ X, X = w6.heap.size := ⟨_, rfl⟩
  rw [← hX] at HXX_w7
  have HT_w7 := hide (HT_w6.out.carry bw7)
  have HMM_w7 := hide (HMM_w6.out.carry bw7)
  have HB_w7 := hide (show Below w.heap.size w w7 from HB_w6.out.trans (bw7.mono HB_w6.out.size))
  clear HT_w6 HMM_w6 HB_w6
  clear bw7
  have hc := get_tb a1 37 c1 twT [97] 1 w7 HT_w7.out
  rw [tw_a1.1, tw_a1.2.1, tw_a1.2.2] at hc
  simp only [B97.out, B98.out, B99.out, B120.out, B0.out, zE] at hc
  go_wp2_with fail
  rw [← hw7]
  try rw [← hX]
  clear hw7 hX
  refine hc.mono ?_
  rintro e w8 ⟨rfl, bw8⟩
  clear hc
  have HT_w8 := hide (HT_w7.out.carry bw8)
  have HMM_w8 := hide (HMM_w7.out.carry bw8)
  have HXX_w8 := hide (HXX_w7.out.carry bw8)
  have HB_w8 := hide (show Below w.heap.size w w8 from HB_w7.out.trans (bw8.mono HB_w7.out.size))
  clear HT_w7 HMM_w7 HXX_w7 HB_w7
  clear bw8
  obtain ⟨w9, hw9⟩ : ∃ w9, w9 = w8.alloc (.cells #[.string { data := #[] }, .int .i64 0, .bool false, .string { data := #[] }] 31) := ⟨_, rfl⟩
  have bw9 : Below w8.heap.size w8 w9 := by rw [hw9]; exact (Below.refl _ _).alloc (Nat.le_refl _) _
  have HYY_w9 := hide (show EntAt w9 w8.heap.size zE by rw [hw9]; exact EntAt.new w8 zE)
  obtain ⟨Y, hY⟩ : ∃ Y, Y = w8.heap.size := ⟨_, rfl⟩
  rw [← hY] at HYY_w9
  have HT_w9 := hide (HT_w8.out.carry bw9)
  have HMM_w9 := hide (HMM_w8.out.carry bw9)
  have HXX_w9 := hide (HXX_w8.out.carry bw9)
  have HB_w9 := hide (show Below w.heap.size w w9 from HB_w8.out.trans (bw9.mono HB_w8.out.size))
  clear HT_w8 HMM_w8 HXX_w8 HB_w8
  clear bw9
  have hc := get_tb a1 37 c1 twT [99] 5 w9 HT_w9.out
  rw [tw_c5.1, tw_c5.2.1, tw_c5.2.2] at hc
  simp only [B97.out, B98.out, B99.out, B120.out, B0.out, zE] at hc
  go_wp2_with fail
  rw [← hw9]
  try rw [← hY]
  clear hw9 hY
  refine hc.mono ?_
  rintro e w10 ⟨rfl, bw10⟩
  clear hc
  have HT_w10 := hide (HT_w9.out.carry bw10)
  have HMM_w10 := hide (HMM_w9.out.carry bw10)
  have HXX_w10 := hide (HXX_w9.out.carry bw10)
  have HYY_w10 := hide (HYY_w9.out.carry bw10)
  have HB_w10 := hide (show Below w.heap.size w w10 from HB_w9.out.trans (bw10.mono HB_w9.out.size))
  clear HT_w9 HMM_w9 HXX_w9 HYY_w9 HB_w9
  clear bw10
  obtain ⟨w11, hw11⟩ : ∃ w11, w11 = w10.alloc (.cells #[.string { data := #[] }, .int .i64 0, .bool false, .string { data := #[] }] 31) := ⟨_, rfl⟩
  have bw11 : Below w10.heap.size w10 w11 := by rw [hw11]; exact (Below.refl _ _).alloc (Nat.le_refl _) _
  have HVV_w11 := hide (show EntAt w11 w10.heap.size zE by rw [hw11]; exact EntAt.new w10 zE)
  obtain ⟨V, hV⟩ : ∃ V, V = w10.heap.size := ⟨_, rfl⟩
  rw [← hV] at HVV_w11
  have HT_w11 := hide (HT_w10.out.carry bw11)
  have HMM_w11 := hide (HMM_w10.out.carry bw11)
  have HXX_w11 := hide (HXX_w10.out.carry bw11)
  have HYY_w11 := hide (HYY_w10.out.carry bw11)
  have HB_w11 := hide (show Below w.heap.size w w11 from HB_w10.out.trans (bw11.mono HB_w10.out.size))
  clear HT_w10 HMM_w10 HXX_w10 HYY_w10 HB_w10
  clear bw11
  have hc := range_tb a1 37 c1 twT [] [98] w11 HT_w11.out
  rw [tw_r1.1, tw_r1.2] at hc
  simp only [B97.out, B98.out, B99.out, B0.out] at hc
  go_wp2_with fail
  rw [← hw11]
  try rw [← hV]
  clear hw11 hV
  refine hc.mono ?_
  rintro e w12 ⟨ak, nk, ck, rfl, ok, bw12⟩
  clear hc
  have HRk_w12 := hide (OwG.rd ecN_len ok)
  obtain rfl : nk = 1 := RdG.len HRk_w12.out
  have HT_w12 := hide (HT_w11.out.carry bw12)
  have HMM_w12 := hide (HMM_w11.out.carry bw12)
  have HXX_w12 := hide (HXX_w11.out.carry bw12)
  have HYY_w12 := hide (HYY_w11.out.carry bw12)
  have HVV_w12 := hide (HVV_w11.out.carry bw12)
  have HB_w12 := hide (show Below w.heap.size w w12 from HB_w11.out.trans (bw12.mono HB_w11.out.size))
  clear HT_w11 HMM_w11 HXX_w11 HYY_w11 HVV_w11 HB_w11
  clear bw12 ok
  have hc := range_tb a1 37 c1 twT [98] [] w12 HT_w12.out
  rw [tw_r2.1, tw_r2.2] at hc
  simp only [B97.out, B98.out, B99.out, B0.out] at hc
  go_wp2_with fail
  refine hc.mono ?_
  rintro e w13 ⟨al, nl, cl, rfl, ol, bw13⟩
  clear hc
  have HRl_w13 := hide (OwG.rd ecN_len ol)
  obtain rfl : nl = 1 := RdG.len HRl_w13.out
  have HT_w13 := hide (HT_w12.out.carry bw13)
  have HMM_w13 := hide (HMM_w12.out.carry bw13)
  have HXX_w13 := hide (HXX_w12.out.carry bw13)
  have HYY_w13 := hide (HYY_w12.out.carry bw13)
  have HVV_w13 := hide (HVV_w12.out.carry bw13)
  have HRk_w13 := hide (RdG.carry HRk_w12.out bw13)
  have HB_w13 := hide (show Below w.heap.size w w13 from HB_w12.out.trans (bw13.mono HB_w12.out.size))
  clear HT_w12 HMM_w12 HXX_w12 HYY_w12 HVV_w12 HRk_w12 HB_w12
  clear bw13 ol
  have hc := range_tb a1 37 c1 twT [99] [97] w13 HT_w13.out
  rw [tw_r3.1, tw_r3.2] at hc
  simp only [B97.out, B98.out, B99.out, B0.out] at hc
  go_wp2_with fail
  refine hc.mono ?_
  rintro e w14 ⟨an, nn, cn, rfl, on, bw14⟩
  clear hc
  have HRn_w14 := hide (OwG.rd ecN_len on)
  obtain rfl : nn = 0 := RdG.len HRn_w14.out
  have HT_w14 := hide (HT_w13.out.carry bw14)
  have HMM_w14 := hide (HMM_w13.out.carry bw14)
  have HXX_w14 := hide (HXX_w13.out.carry bw14)
  have HYY_w14 := hide (HYY_w13.out.carry bw14)
  have HVV_w14 := hide (HVV_w13.out.carry bw14)
  have HRk_w14 := hide (RdG.carry HRk_w13.out bw14)
  have HRl_w14 := hide (RdG.carry HRl_w13.out bw14)
  have HB_w14 := hide (show Below w.heap.size w w14 from HB_w13.out.trans (bw14.mono HB_w13.out.size))
  clear HT_w13 HMM_w13 HXX_w13 HYY_w13 HVV_w13 HRk_w13 HRl_w13 HB_w13
  clear bw14 on
  have hc := build_tb none 0 0 [] w14 (RdG.nil _)
  rw [tw_b0.1, tw_b0.2.1, tw_b0.2.2] at hc
  unfold mtV at hc
  simp only [B0.out, Int.natCast_zero, Int.ofNat_zero, Int.cast_ofNat_Int] at hc
  go_wp2_with fail
  refine hc.mono ?_
  rintro e w15 ⟨v15, rfl, o15, b15⟩
  clear hc
  have HT_w15 := hide (HT_w14.out.carry b15)
  have HMM_w15 := hide (HMM_w14.out.carry b15)
  have HXX_w15 := hide (HXX_w14.out.carry b15)
  have HYY_w15 := hide (HYY_w14.out.carry b15)
  have HVV_w15 := hide (HVV_w14.out.carry b15)
  have HRk_w15 := hide (RdG.carry HRk_w14.out b15)
  have HRl_w15 := hide (RdG.carry HRl_w14.out b15)
  have HRn_w15 := hide (RdG.carry HRn_w14.out b15)
  have HB_w15 := hide (show Below w.heap.size w w15 from HB_w14.out.trans (b15.mono HB_w14.out.size))
  clear HT_w14 HMM_w14 HXX_w14 HYY_w14 HVV_w14 HRk_w14 HRl_w14 HRn_w14 HB_w14
  clear b15 o15
  obtain ⟨w16, hw16⟩ : ∃ w16, w16 = w15.alloc (.cells #[.string { data := #[] }, .int .i64 0, .int .i64 0, .string { data := #[] }, .string { data := #[] }] 26) := ⟨_, rfl⟩
  have bw16 : Below w15.heap.size w15 w16 := by rw [hw16]; exact (Below.refl _ _).alloc (Nat.le_refl _) _
  have HUU_w16 := hide (show MtAt w16 w15.heap.size (0, 0, [], []) by rw [hw16]; exact MtAt.new w15 (0, 0, [], []))
  obtain ⟨U, hU⟩ : ∃ U, U = w15.heap.size := ⟨_, rfl⟩
  rw [← hU] at HUU_w16
  have HT_w16 := hide (HT_w15.out.carry bw16)
  have HMM_w16 := hide (HMM_w15.out.carry bw16)
  have HXX_w16 := hide (HXX_w15.out.carry bw16)
  have HYY_w16 := hide (HYY_w15.out.carry bw16)
  have HVV_w16 := hide (HVV_w15.out.carry bw16)
  have HRk_w16 := hide (RdG.carry HRk_w15.out bw16)
  have HRl_w16 := hide (RdG.carry HRl_w15.out bw16)
  have HRn_w16 := hide (RdG.carry HRn_w15.out bw16)
  have HB_w16 := hide (show Below w.heap.size w w16 from HB_w15.out.trans (bw16.mono HB_w15.out.size))
  clear HT_w15 HMM_w15 HXX_w15 HYY_w15 HVV_w15 HRk_w15 HRl_w15 HRn_w15 HB_w15
  clear bw16
  have hc := read_tb none 0 0 [] w16 (.inl ⟨rfl, .inl rfl⟩)
  rw [tw_r0.1, tw_r0.2] at hc
  go_wp2_with fail
  rw [← hw16]
  try rw [← hU]
  clear hw16 hU
  refine hc.mono ?_
  rintro e w17 ⟨a17, n17, c17, rfl, o17, b17⟩
  clear hc
  have HT_w17 := hide (HT_w16.out.carry b17)
  have HMM_w17 := hide (HMM_w16.out.carry b17)
  have HXX_w17 := hide (HXX_w16.out.carry b17)
  have HYY_w17 := hide (HYY_w16.out.carry b17)
  have HVV_w17 := hide (HVV_w16.out.carry b17)
  have HRk_w17 := hide (RdG.carry HRk_w16.out b17)
  have HRl_w17 := hide (RdG.carry HRl_w16.out b17)
  have HRn_w17 := hide (RdG.carry HRn_w16.out b17)
  have HUU_w17 := hide (HUU_w16.out.carry b17)
  have HB_w17 := hide (show Below w.heap.size w w17 from HB_w16.out.trans (b17.mono HB_w16.out.size))
  clear HT_w16 HMM_w16 HXX_w16 HYY_w16 HVV_w16 HRk_w16 HRl_w16 HRn_w16 HUU_w16 HB_w16
  clear b17 o17
  have hc := get_tb a1 37 c1 twT [] 1 w17 HT_w17.out
  rw [tw_no.1, tw_no.2.1, tw_no.2.2] at hc
  simp only [B97.out, B98.out, B99.out, B120.out, B0.out, zE] at hc
  go_wp2_with fail
  refine hc.mono ?_
  rintro e w18 ⟨rfl, bw18⟩
  clear hc
  have HT_w18 := hide (HT_w17.out.carry bw18)
  have HMM_w18 := hide (HMM_w17.out.carry bw18)
  have HXX_w18 := hide (HXX_w17.out.carry bw18)
  have HYY_w18 := hide (HYY_w17.out.carry bw18)
  have HVV_w18 := hide (HVV_w17.out.carry bw18)
  have HRk_w18 := hide (RdG.carry HRk_w17.out bw18)
  have HRl_w18 := hide (RdG.carry HRl_w17.out bw18)
  have HRn_w18 := hide (RdG.carry HRn_w17.out bw18)
  have HUU_w18 := hide (HUU_w17.out.carry bw18)
  have HB_w18 := hide (show Below w.heap.size w w18 from HB_w17.out.trans (bw18.mono HB_w17.out.size))
  clear HT_w17 HMM_w17 HXX_w17 HYY_w17 HVV_w17 HRk_w17 HRl_w17 HRn_w17 HUU_w17 HB_w17
  clear bw18
  obtain ⟨w19, hw19⟩ : ∃ w19, w19 = w18.alloc (.cells #[.string { data := #[] }, .int .i64 0, .bool false, .string { data := #[] }] 31) := ⟨_, rfl⟩
  have bw19 : Below w18.heap.size w18 w19 := by rw [hw19]; exact (Below.refl _ _).alloc (Nat.le_refl _) _
  have HSS_w19 := hide (show EntAt w19 w18.heap.size zE by rw [hw19]; exact EntAt.new w18 zE)
  obtain ⟨S, hS⟩ : ∃ S, S = w18.heap.size := ⟨_, rfl⟩
  rw [← hS] at HSS_w19
  have HT_w19 := hide (HT_w18.out.carry bw19)
  have HMM_w19 := hide (HMM_w18.out.carry bw19)
  have HXX_w19 := hide (HXX_w18.out.carry bw19)
  have HYY_w19 := hide (HYY_w18.out.carry bw19)
  have HVV_w19 := hide (HVV_w18.out.carry bw19)
  have HRk_w19 := hide (RdG.carry HRk_w18.out bw19)
  have HRl_w19 := hide (RdG.carry HRl_w18.out bw19)
  have HRn_w19 := hide (RdG.carry HRn_w18.out bw19)
  have HUU_w19 := hide (HUU_w18.out.carry bw19)
  have HB_w19 := hide (show Below w.heap.size w w19 from HB_w18.out.trans (bw19.mono HB_w18.out.size))
  clear HT_w18 HMM_w18 HXX_w18 HYY_w18 HVV_w18 HRk_w18 HRl_w18 HRn_w18 HUU_w18 HB_w18
  clear bw19
  obtain ⟨aE, cE, hslE, hrE⟩ := slYl HT_w19.out .i64 25 (by decide)
  have hcv := conv_y (hrE w19 HT_w19.out)
  rw [show bs (twT.drop 25) = { data := #[13, 0, 0, 0, 8, 0, 0, 0, 2, 0, 0, 0] } from rfl] at hcv
  obtain ⟨m0, m1, m2, m3, m4⟩ := HMM_w19.out.cells
  obtain ⟨x0, x1, x2, x3⟩ := HXX_w19.out.cells
  obtain ⟨bk, ok, ek, k0, k1, k2, k3⟩ := RdN.cells HRk_w19.out (Below.refl _ _) 0 (by decide)
  subst ek
  obtain ⟨bl, ol, el, l0, l1, l2, l3⟩ := RdN.cells HRl_w19.out (Below.refl _ _) 0 (by decide)
  subst el
  simp only [List.getElem_cons_zero, Nat.zero_mul, Nat.add_zero, B97.out, B98.out, B120.out, B0.out] at k0 k1 k2 k3 l0 l1 l2 l3
  simp only [B97.out, B98.out, B0.out] at m0 m1 m2 m3 m4 x0 x1 x2 x3
  have heg := fun op x y xs ys wx => eqM_guard op x y xs ys wx
  have hqm : ∀ wx, (binOp .eql 26 (.agg #[.string { data := #[] }, .int .i64 37, .int .i64 2, .string { data := #[97] }, .string { data := #[98] }]) (.agg #[.string { data := #[] }, .int .i64 37, .int .i64 2, .string { data := #[97] }, .string { data := #[98] }])).run Try.prog wx = .ok (.bool true) wx := fun wx => eqM_same (37, 2, [97], [98]) wx
  try simp only [Int.cast_ofNat_Int] at m1 m2
  clear hrE
  rw [hw19] at hcv m0 m1 m2 m3 m4 x0 x1 x2 x3 k0 k1 k2 k3 l0 l1 l2 l3
  go_wp2_with (first | (refine wpList_slY rfl (.tmp 93) (.tmp 96) 22 (by kernel_rfl) rfl rfl rfl hslE ?_) | fail)
  rw [← hw19]
  go_ret
  exact ⟨by simp, HB_w19.out⟩

end Go.Proofs.Ytjkoemdojdcmpaa

/-
  What the statement CodeNames does: it answers true, and changes nothing that was there.
-/
import Derived.Test.YtpammicadnfheaaAlive
import Derived.Test.YtpammicadnfheaaCut
import Derived.Test.YtpammicadnfheaaAbove
namespace Go.Proofs.Ytpammicadnfheaa
open Go.RowKit
set_option linter.unusedVariables false
set_option linter.unusedSimpArgs false

/-- A literal of bytes reads as them. -/
theorem rd_lit (w : World) (l : List UInt8) (arr : Array Value) (harr : arr = (u8v l).toArray) (hl : l.length ≤ maxLen) (n : Nat) (hn : n = l.length) (N : Nat) (hN : w.heap.size = N) :
    Rd (w.alloc (.cells arr 5)) (.slice (some ⟨N, 0, none⟩) n n) l := by
  subst harr hn hN
  refine .inr ⟨w.heap.size, 0, l.length, rfl, Nat.le_refl _, hl, fun j hj => ?_⟩
  have h := World.news_of_block (w := w.alloc (.cells (u8v l).toArray 5)) (heap_alloc_new w _) j (.int .u8 (l[j]).toNat) (by simp [u8v, List.getElem?_eq_getElem hj])
  rwa [Addr.add_lit] at h

theorem names_rd1 : rd [172, 2, 9] = some (300, 2) := by decide +kernel
theorem names_rd2 : rd [128, 0] = none := by decide +kernel
theorem names_ct : ct [2, 97, 98, 7] = some ([97, 98], [7]) := by decide +kernel
theorem names_k1 : ky [(false, 258, [])] = ([1, 0, 0, 0, 0, 0, 0, 1, 2], 0) := by decide +kernel
theorem names_k2 : ky [(true, 0, [97]), (true, 0, [])] = ([2, 97, 0, 0, 2, 0, 0], 0) := by decide +kernel
theorem names_k3 : ky [(true, 0, [0])] = ([2, 0, 255, 0, 0], 0) := by decide +kernel
theorem names_k4 : ky [] = ([], 4) := by decide +kernel
theorem names_a1 : ab [97, 98] = some [97, 99] := by decide +kernel
theorem names_a2 : ab [97, 255] = some [98] := by decide +kernel
theorem names_a3 : ab [255] = none := by decide +kernel
theorem names_p1 : pa [3] = ([], 8) := by decide +kernel
theorem names_p2 : pa [2, 97, 0] = ([], 8) := by decide +kernel
theorem names_s : sm 300 = [172, 2] := by rw [sm_ge (by decide), sm_lt (by decide)]; rfl
theorem names_t : tx [97, 98] = [2, 97, 98] := by rw [tx, sm_lt (by decide)]; rfl
theorem fits_small {l : List Pt} (h : l.all (fun p => decide (p.2.1 < 1000) && decide (p.2.2.length ≤ 1000)) = true) : fits l := by
  intro j hj
  have := List.all_eq_true.1 h l[j] (List.getElem_mem hj)
  simp at this
  exact ⟨by omega, by unfold maxLen; omega⟩

set_option maxHeartbeats 2000000 in
set_option maxRecDepth 100000 in
theorem names_any (w : World) :
    Calls Try.prog 3 #[] w fun e w' => e = .returned (.bool true) ∧ Below w.heap.size w w' := by
  go_enter Try.func3, Try.ntmps3
  go_wp2_with fail
  have b0 : Below w.heap.size w (w.alloc (.cells #[.int .u8 172, .int .u8 2, .int .u8 9] 5)) := (Below.refl _ _).alloc (Nat.le_refl _) _
  refine (read_any (l := [172, 2, 9]) _ (by exact rd_lit w [172, 2, 9] _ rfl (by decide) 3 rfl _ rfl)).mono ?_
  rintro e w1 ⟨rfl, rfl⟩
  rw [names_rd1]
  unfold rdV
  go_wp2_with fail
  have s1 : w.heap.size + 1 = (w.alloc (.cells #[.int .u8 172, .int .u8 2, .int .u8 9] 5)).heap.size := by simp
  rw [s1]
  clear s1
  generalize w.alloc (.cells #[.int .u8 172, .int .u8 2, .int .u8 9] 5) = u1 at *
  refine (read_any (l := [128, 0]) _ (by exact rd_lit u1 [128, 0] _ rfl (by decide) 2 rfl _ rfl)).mono ?_
  rintro e w2 ⟨rfl, rfl⟩
  rw [names_rd2]
  unfold rdV
  have b1 := keeps_below w _ _ b0 ((Below.refl u1.heap.size u1).alloc (Nat.le_refl _) (.cells #[.int .u8 128, .int .u8 0] 5))
  go_wp2_with fail
  have s2 : u1.heap.size + 1 = (u1.alloc (.cells #[.int .u8 128, .int .u8 0] 5)).heap.size := by simp
  rw [s2]
  clear s2
  generalize u1.alloc (.cells #[.int .u8 128, .int .u8 0] 5) = u2 at *
  clear b0
  refine (cut_any (l := [2, 97, 98, 7]) _ (by decide) (by exact rd_lit u2 [2, 97, 98, 7] _ rfl (by decide) 4 rfl _ rfl)).mono ?_
  rintro e w3 ⟨vc, rfl, hcv, hb3⟩
  obtain ⟨x, rfl, hx⟩ : ∃ x, vc = .tuple #[.string { data := #[97, 98] }, x, .int .i64 0] ∧ Rd w3 x [7] := by
    rcases hcv with ⟨h, _⟩ | ⟨t, r, x, h, rfl, hx⟩
    · rw [names_ct] at h; cases h
    · rw [names_ct] at h
      cases h
      exact ⟨x, rfl, own_rd hx⟩
  have b2 := keeps_below w _ _ (keeps_below w _ _ b1 ((Below.refl u2.heap.size u2).alloc (Nat.le_refl _) _)) hb3
  clear hcv hb3 b1
  have X0 := hide hx
  clear hx
  go_wp2_with fail
  refine (num_any _ _).mono ?_
  rintro e z1 ⟨rfl, h1⟩
  have c1 := keeps_below w _ _ b2 h1
  have Y1 := hide ((X0).out.carry h1)
  clear X0 h1 b2
  go_wp2_with fail
  have f2 : fits [(false, 258, [])] := fits_small (by decide)
  have l2 := rdp_lit z1 [(false, 258, [])] _ rfl f2 (by decide) 1 rfl _ rfl
  have g2 : Below z1.heap.size z1 (z1.alloc (.cells (ptsv [(false, 258, [])]).toArray 32)) := (Below.refl _ _).alloc (Nat.le_refl _) _
  refine (key_any (l := [(false, 258, [])]) _ (by decide) (by exact l2)).mono ?_
  rintro e z2 ⟨rfl, h2⟩
  have K2 : Hid (kyV [(false, 258, [])] = .tuple #[.string { data := #[1, 0, 0, 0, 0, 0, 0, 1, 2] }, .int .i64 0]) := by show _ = _; rw [kyV, names_k1]; rfl
  rw [K2.out]
  clear K2 f2 l2
  have c2 := keeps_below w _ _ (keeps_below w _ _ c1 g2) h2
  have Y2 := hide (((Y1).out.carry g2).carry h2)
  clear Y1 g2 h2 c1
  go_wp2_with fail
  refine (txt_any _ _).mono ?_
  rintro e z3 ⟨rfl, h3⟩
  have c3 := keeps_below w _ _ c2 h3
  have Y3 := hide ((Y2).out.carry h3)
  clear Y2 h3 c2
  go_wp2_with fail
  refine (txt_any _ _).mono ?_
  rintro e z4 ⟨rfl, h4⟩
  have c4 := keeps_below w _ _ c3 h4
  have Y4 := hide ((Y3).out.carry h4)
  clear Y3 h4 c3
  go_wp2_with fail
  have f5 : fits [(true, 0, [97]), (true, 0, [])] := fits_small (by decide)
  have l5 := rdp_lit z4 [(true, 0, [97]), (true, 0, [])] _ rfl f5 (by decide) 2 rfl _ rfl
  have g5 : Below z4.heap.size z4 (z4.alloc (.cells (ptsv [(true, 0, [97]), (true, 0, [])]).toArray 32)) := (Below.refl _ _).alloc (Nat.le_refl _) _
  refine (key_any (l := [(true, 0, [97]), (true, 0, [])]) _ (by decide) (by exact l5)).mono ?_
  rintro e z5 ⟨rfl, h5⟩
  have K5 : Hid (kyV [(true, 0, [97]), (true, 0, [])] = .tuple #[.string { data := #[2, 97, 0, 0, 2, 0, 0] }, .int .i64 0]) := by show _ = _; rw [kyV, names_k2]; rfl
  rw [K5.out]
  clear K5 f5 l5
  have c5 := keeps_below w _ _ (keeps_below w _ _ c4 g5) h5
  have Y5 := hide (((Y4).out.carry g5).carry h5)
  clear Y4 g5 h5 c4
  go_wp2_with fail
  refine (txt_any _ _).mono ?_
  rintro e z6 ⟨rfl, h6⟩
  have c6 := keeps_below w _ _ c5 h6
  have Y6 := hide ((Y5).out.carry h6)
  clear Y5 h6 c5
  go_wp2_with fail
  have f7 : fits [(true, 0, [0])] := fits_small (by decide)
  have l7 := rdp_lit z6 [(true, 0, [0])] _ rfl f7 (by decide) 1 rfl _ rfl
  have g7 : Below z6.heap.size z6 (z6.alloc (.cells (ptsv [(true, 0, [0])]).toArray 32)) := (Below.refl _ _).alloc (Nat.le_refl _) _
  refine (key_any (l := [(true, 0, [0])]) _ (by decide) (by exact l7)).mono ?_
  rintro e z7 ⟨rfl, h7⟩
  have K7 : Hid (kyV [(true, 0, [0])] = .tuple #[.string { data := #[2, 0, 255, 0, 0] }, .int .i64 0]) := by show _ = _; rw [kyV, names_k3]; rfl
  rw [K7.out]
  clear K7 f7 l7
  have c7 := keeps_below w _ _ (keeps_below w _ _ c6 g7) h7
  have Y7 := hide (((Y6).out.carry g7).carry h7)
  clear Y6 g7 h7 c6
  go_wp2_with fail
  refine (above_any [97, 98] _ (by decide)).mono ?_
  rintro e z8 ⟨rfl, h8⟩
  rw [names_a1]
  unfold abV
  have c8 := keeps_below w _ _ c7 h8
  have Y8 := hide ((Y7).out.carry h8)
  clear Y7 h8 c7
  go_wp2_with fail
  refine (above_any [97, 255] _ (by decide)).mono ?_
  rintro e z9 ⟨rfl, h9⟩
  rw [names_a2]
  unfold abV
  have c9 := keeps_below w _ _ c8 h9
  have Y9 := hide ((Y8).out.carry h9)
  clear Y8 h9 c8
  go_wp2_with fail
  refine (above_any [255] _ (by decide)).mono ?_
  rintro e z10 ⟨rfl, h10⟩
  rw [names_a3]
  unfold abV
  have c10 := keeps_below w _ _ c9 h10
  have Y10 := hide ((Y9).out.carry h10)
  clear Y9 h10 c9
  go_wp2_with fail
  refine (key_any (l := []) _ (by decide) (.inl ⟨rfl, .inl rfl⟩)).mono ?_
  rintro e z11 ⟨rfl, h11⟩
  rw [kyV, names_k4]
  have c11 := keeps_below w _ _ c10 h11
  have Y11 := hide ((Y10).out.carry h11)
  clear Y10 h11 c10
  go_wp2_with fail
  refine (parts_any [3] _ (by decide)).mono ?_
  rintro e z12 ⟨v12, rfl, _, h12⟩
  rw [names_p1]
  have c12 := keeps_below w _ _ c11 h12
  have Y12 := hide ((Y11).out.carry h12)
  clear Y11 h12 c11
  go_wp2_with fail
  refine (parts_any [2, 97, 0] _ (by decide)).mono ?_
  rintro e z13 ⟨v13, rfl, _, h13⟩
  rw [names_p2]
  have c13 := keeps_below w _ _ c12 h13
  have Y13 := hide ((Y12).out.carry h13)
  clear Y12 h13 c12
  go_wp2_with fail
  refine (small_any 300 _ (by decide)).mono ?_
  rintro e z14 ⟨v14, rfl, o14, h14⟩
  rw [names_s] at o14
  have q14 := conv_rd (P := Try.prog) 26 5 9 Try.underlying26 Try.underlying5 Try.underlying9 (own_rd o14)
  have e14 : (bs [172, 2]).toList = [172, 2] := by rw [ByteArray.toList_eq]; rfl
  have c14 := keeps_below w _ _ c13 h14
  have Y14 := hide ((Y13).out.carry h14)
  clear Y13 h14 c13 o14
  go_wp2_with fail
  refine (text_any { data := #[97, 98] } _ (by decide)).mono ?_
  rintro e z15 ⟨v15, rfl, o15, h15⟩
  have t15 : tx (ByteArray.data { data := #[97, 98] }).toList = [2, 97, 98] := names_t
  rw [t15] at o15
  have q15 := conv_rd (P := Try.prog) 26 5 9 Try.underlying26 Try.underlying5 Try.underlying9 (own_rd o15)
  have e15 : (bs [2, 97, 98]).toList = [2, 97, 98] := by rw [ByteArray.toList_eq]; rfl
  have c15 := keeps_below w _ _ c14 h15
  have Y15 := hide ((Y14).out.carry h15)
  clear Y14 h15 c14 o15 t15
  have q0 := conv_rd (P := Try.prog) 26 5 9 Try.underlying26 Try.underlying5 Try.underlying9 Y15.out
  have e0 : (bs [7]).toList = [7] := by rw [ByteArray.toList_eq]; rfl
  have e1 : (bs [97, 99]).toList = [97, 99] := by rw [ByteArray.toList_eq]; rfl
  have e2 : (bs [98]).toList = [98] := by rw [ByteArray.toList_eq]; rfl
  go_wp2_with fail
  refine (alive_any _).mono ?_
  rintro e zz ⟨rfl, hz⟩
  go_wp2
  go_ret
  exact ⟨rfl, keeps_below w _ _ c15 hz⟩

end Go.Proofs.Ytpammicadnfheaa

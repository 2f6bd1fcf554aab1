/-
  What the statement MergeTells answers.
-/
import Derived.Test.YtdgjinfaopkalaaLg4
import Derived.Test.YtdgjinfaopkalaaWov
namespace Go.Proofs.Ytdgjinfaopkalaa
open Go.RowKit
set_option linter.unusedVariables false
set_option linter.unusedSimpArgs false

theorem ans_at (l : List Ent) (s : Int) : ansG l s (seeD s l) = ansG l s (lseG s false l) := by
  by_cases h : askG l s = 0
  · rw [ansG_ok h, ansG_ok h, seeD_is (chkG_ok.1 (askG_ok.1 h).1).2]
  · rw [ansG_bad h, ansG_bad h]
theorem ans_live (l : List Ent) (s : Int) : ansG l s ((seeD s l).filter fun e => !e.2.2.1) = ansG l s (lseG s true l) := by
  by_cases h : askG l s = 0
  · rw [ansG_ok h, ansG_ok h, aliD_is (chkG_ok.1 (askG_ok.1 h).1).2]
  · rw [ansG_bad h, ansG_bad h]
theorem ans_drop (l : List Ent) (s : Int) (d : Bool) : ansG l s (lefP l s d l.length) = ansG l s (drpG s d l) := by
  by_cases h : askG l s = 0
  · rw [ansG_ok h, ansG_ok h, lefP_is (chkG_ok.1 (askG_ok.1 h).1).2]; rfl
  · rw [ansG_bad h, ansG_bad h]
theorem ans_len {l r : List Ent} {s : Int} (h : askG l s = 0 → r.length ≤ 1000000) : (ansG l s r).length ≤ 1000000 := by
  by_cases e : askG l s = 0
  · rw [ansG_ok e]; exact h e
  · rw [ansG_bad e]; exact Nat.zero_le _

def CarL (w wx : World) : Prop := Below w.heap.size w wx
theorem CarL.carry {w wx wy : World} (h : CarL w wx) (hb : Below wx.heap.size wx wy) : CarL w wy := Below.trans h (hb.mono (Below.size h))
theorem CarL.size {w wx : World} (h : CarL w wx) : w.heap.size ≤ wx.heap.size := Below.size h

set_option maxHeartbeats 8000000 in
set_option maxRecDepth 100000 in
theorem mergeTells_any (a : Option Addr) (n c : Nat) (l : List Ent) (s : Int) (d : Bool) (w : World) (hrd : RdN w (.slice a n c) l) :
    Calls Try.prog 5 #[.slice a n c, .int .i64 s, .bool d] w fun e w' => e = .returned (.bool true) ∧ Below w.heap.size w w' := by
  have HN := hide hrd.len
  have HR_w := hide hrd
  have HR0 := hide hrd
  clear hrd
  obtain ⟨w2, hw2⟩ : ∃ w2, w2 = w.alloc (.cells #[.slice a n c] 22) := ⟨_, rfl⟩
  have hb2 : Below w.heap.size w w2 := by rw [hw2]; exact (Below.refl _ _).alloc (Nat.le_refl _) _
  have hg := rgreat_mg _ 1 1 _ w2 (by rw [hw2]; exact rdR_one HR_w.out)
  have HB_w2 := hide hb2
  have HR_w2 := hide (HR_w.out.carry hb2)
  obtain ⟨A, hA⟩ : ∃ A, A = w.heap.size := ⟨_, rfl⟩
  rw [← hA] at hg
  clear hb2 HR_w
  go_enter Try.func5, Try.ntmps5
  go_wp2_with fail
  rw [← hw2]
  try rw [← hA]
  clear hw2 hA
  refine hg.mono ?_
  rintro e w3 ⟨bg, rfl, hgr, b3⟩
  have HB_w3 := hide (show Below w.heap.size w w3 from HB_w2.out.trans (b3.mono HB_w2.out.size))
  have HR_w3 := hide (HR_w2.out.carry b3)
  clear hg b3 HB_w2 HR_w2
  cases bg with
  | true =>
    go_wp2
    go_ret
    exact ⟨rfl, HB_w3.out⟩
  | false =>
  have HNL := hide (show l.length ≤ 70000 from (hgr.out rfl).2 _ (List.mem_singleton.2 rfl))
  clear hgr
  obtain ⟨x, hx⟩ : ∃ x, x = askG l s := ⟨_, rfl⟩
  obtain ⟨y, hy⟩ : ∃ y, y = chkG l := ⟨_, rfl⟩
  obtain ⟨X, hX⟩ : ∃ X, X = ansG l s (lseG s false l) := ⟨_, rfl⟩
  obtain ⟨Y, hY⟩ : ∃ Y, Y = ansG l s (lseG s true l) := ⟨_, rfl⟩
  obtain ⟨Z, hZ⟩ : ∃ Z, Z = ansG l s (drpG s d l) := ⟨_, rfl⟩
  have LX := hide (show X.length ≤ 1000000 by
    rw [hX]; exact ans_len fun _ => Nat.le_trans (Nat.le_trans (List.length_filter_le _ _) (seeG_len s [] l)) (by have := HNL.out; omega))
  have LY := hide (show Y.length ≤ 1000000 by
    rw [hY]; exact ans_len fun _ => Nat.le_trans (Nat.le_trans (List.length_filter_le _ _) (seeG_len s [] l)) (by have := HNL.out; omega))
  have LZ := hide (show Z.length ≤ 1000000 by
    rw [hZ]; exact ans_len fun h => by
      obtain ⟨D, hD, _, c2, _⟩ := drop_all d h
      rw [hD]; have := HNL.out; omega)
  have C1 := hide (fun a n c w h => hx ▸ hX ▸ at_mg a n c l s w h)
  have C2 := hide (fun a n c w h => hx ▸ hX ▸ (ans_at l s) ▸ rat_mg a n c l s w h)
  have C3 := hide (fun a n c w h => hx ▸ hY ▸ live_mg a n c l s w h)
  have C4 := hide (fun a n c w h => hx ▸ hY ▸ (ans_live l s) ▸ rlive_mg a n c l s w h)
  have C5 := hide (fun a n c w h => hx ▸ hZ ▸ drop_mg a n c l s d w h)
  have C6 := hide (fun a n c w h => hx ▸ hZ ▸ (ans_drop l s d) ▸ rdrop_mg a n c l s d w h)
  have C7 := hide (fun a n c w h => hy ▸ check_mg a n c l w h)
  have C8 := hide (fun a n c w h => hy ▸ rcheck_mg a n c l w h)
  clear hx hy hX hY hZ
  obtain ⟨ao, no, co, w5, hno, hr5, o5, b5⟩ := app_entsG (OwG.nil w3 w3.heap.size) (Nat.le_refl _) HR_w3.out (by have := HNL.out; simp only [List.length_nil]; omega)
  rw [List.nil_append] at hno o5
  have HB_w5 := hide (show Below w.heap.size w w5 from HB_w3.out.trans (b5.mono HB_w3.out.size))
  have HR_w5 := hide (HR_w3.out.carry b5)
  have HO_w5 := hide (OwG.rd ecN_len o5)
  have HO0 := HO_w5
  clear b5 o5 hno
  go_wp2_with (first | (at_builtin; refine wpList_runappY rfl (.tmp 26) (.tmp 27) 22 rfl rfl rfl rfl hr5 ?_) | fail)
  clear hr5
  obtain ⟨v5, hv5⟩ : ∃ v5, v5 = w5 := ⟨_, rfl⟩
  have HC_w5 := hide (show CarL v5 w5 by rw [hv5]; exact Below.refl _ _)
  have HO0' := hide (show RdN v5 (.slice ao no co) l by rw [hv5]; exact HO0.out)
  have HB0' := hide (show Below w.heap.size w v5 by rw [hv5]; exact HB_w5.out)
  have HVV : v5.heap.size ≤ w5.heap.size := by rw [hv5]; exact Nat.le_refl _
  clear hv5 HO0 HR_w3 HB_w3
  have hc := C1.out ao no co w5 HO_w5.out
  go_wp2_with fail
  refine hc.mono ?_
  rintro e w6 ⟨a1, n1, c1, rfl, o1, b6⟩
  clear hc
  have HO_w6 := hide (HO_w5.out.carry b6)
  have HR_w6 := hide (HR_w5.out.carry b6)
  have HC_w6 := hide (HC_w5.out.carry b6)
  have HB_w6 := hide (show Below w.heap.size w w6 from HB_w5.out.trans (b6.mono HB_w5.out.size))
  clear b6 HB_w5 HO_w5 HR_w5 HC_w5
  have H1_w6 := hide o1
  have HV1 := hide (show v5.heap.size ≤ _ from HVV)
  clear HVV
  have LO := hide o1.low
  clear o1
  have hc := C2.out a n c w6 HR_w6.out
  go_wp2_with fail
  refine hc.mono ?_
  rintro e w7 ⟨a2, n2, c2, rfl, o2, b7⟩
  clear hc
  have HO_w7 := hide (HO_w6.out.carry b7)
  have HR_w7 := hide (HR_w6.out.carry b7)
  have HC_w7 := hide (HC_w6.out.carry b7)
  have H1_w7 := hide (H1_w6.out.carry b7)
  have HB_w7 := hide (show Below w.heap.size w w7 from HB_w6.out.trans (b7.mono HB_w6.out.size))
  clear b7 HB_w6 HO_w6 HR_w6 HC_w6 H1_w6
  have H2_w7 := hide (OwG.rd ecN_len o2)
  have LO2 := hide (show LowG (.slice a1 n1 c1) w7.heap.size from H1_w7.out.low)
  clear o2 LO
  have hc := C3.out ao no co w7 HO_w7.out
  go_wp2_with fail
  refine hc.mono ?_
  rintro e w8 ⟨a3, n3, c3, rfl, o3, b8⟩
  clear hc
  have HO_w8 := hide (HO_w7.out.carry b8)
  have HR_w8 := hide (HR_w7.out.carry b8)
  have HC_w8 := hide (HC_w7.out.carry b8)
  have H1_w8 := hide (H1_w7.out.carry b8)
  have H2_w8 := hide (H2_w7.out.carry b8)
  have HB_w8 := hide (show Below w.heap.size w w8 from HB_w7.out.trans (b8.mono HB_w7.out.size))
  clear b8 HB_w7 HO_w7 HR_w7 HC_w7 H1_w7 H2_w7
  have H3_w8 := hide (OwG.rd ecN_len o3)
  clear o3 LO2
  have hc := C4.out a n c w8 HR_w8.out
  go_wp2_with fail
  refine hc.mono ?_
  rintro e w9 ⟨a4, n4, c4, rfl, o4, b9⟩
  clear hc
  have HO_w9 := hide (HO_w8.out.carry b9)
  have HR_w9 := hide (HR_w8.out.carry b9)
  have HC_w9 := hide (HC_w8.out.carry b9)
  have H1_w9 := hide (H1_w8.out.carry b9)
  have H2_w9 := hide (H2_w8.out.carry b9)
  have H3_w9 := hide (H3_w8.out.carry b9)
  have HB_w9 := hide (show Below w.heap.size w w9 from HB_w8.out.trans (b9.mono HB_w8.out.size))
  clear b9 HB_w8 HO_w8 HR_w8 HC_w8 H1_w8 H2_w8 H3_w8
  have H4_w9 := hide (OwG.rd ecN_len o4)
  have LO := hide (show LowG (.slice a1 n1 c1) w9.heap.size from H1_w9.out.low)
  clear o4
  have hc := C5.out ao no co w9 HO_w9.out
  obtain ⟨B9, hB9⟩ : ∃ B, B = w9.heap.size := ⟨_, rfl⟩
  rw [← hB9] at LO
  have HE9 := hide hB9
  have HB9 := hide (show v5.heap.size ≤ B9 by rw [hB9]; exact HC_w9.out.size)
  clear hB9
  go_wp2_with fail
  refine hc.mono ?_
  rintro e w10 ⟨a5, n5, c5, rfl, o5, b10⟩
  clear hc
  have HO_w10 := hide (HO_w9.out.carry b10)
  have HR_w10 := hide (HR_w9.out.carry b10)
  have HC_w10 := hide (HC_w9.out.carry b10)
  have H1_w10 := hide (H1_w9.out.carry b10)
  have H2_w10 := hide (H2_w9.out.carry b10)
  have H3_w10 := hide (H3_w9.out.carry b10)
  have H4_w10 := hide (H4_w9.out.carry b10)
  have HB_w10 := hide (show Below w.heap.size w w10 from HB_w9.out.trans (b10.mono HB_w9.out.size))
  clear b10 HB_w9 HO_w9 HR_w9 HC_w9 H1_w9 H2_w9 H3_w9 H4_w9
  have H5_w10 := hide (show OwN w10 B9 (.slice a5 n5 c5) Z by rw [HE9.out]; exact o5)
  clear o5 HE9
  have hc := C6.out a n c w10 HR_w10.out
  go_wp2_with fail
  refine hc.mono ?_
  rintro e w11 ⟨a6, n6, c6, rfl, o6, b11⟩
  clear hc
  have HO_w11 := hide (HO_w10.out.carry b11)
  have HR_w11 := hide (HR_w10.out.carry b11)
  have HC_w11 := hide (HC_w10.out.carry b11)
  have H1_w11 := hide (H1_w10.out.carry b11)
  have H2_w11 := hide (H2_w10.out.carry b11)
  have H3_w11 := hide (H3_w10.out.carry b11)
  have H4_w11 := hide (H4_w10.out.carry b11)
  have H5_w11 := hide (H5_w10.out.carry b11)
  have HB_w11 := hide (show Below w.heap.size w w11 from HB_w10.out.trans (b11.mono HB_w10.out.size))
  clear b11 HB_w10 HO_w10 HR_w10 HC_w10 H1_w10 H2_w10 H3_w10 H4_w10 H5_w10
  have H6_w11 := hide (OwG.rd ecN_len o6)
  clear o6
  have hc := (decide_eq_true (rfl : X = X)) ▸ sameEntries_bt a1 n1 c1 X a2 n2 c2 X w11 LX.out (OwG.rd ecN_len H1_w11.out) H2_w11.out
  go_wp2_with fail
  refine hc.mono ?_
  rintro e w12 ⟨rfl, b12⟩
  clear hc
  have HO_w12 := hide (HO_w11.out.carry b12)
  have HR_w12 := hide (HR_w11.out.carry b12)
  have HC_w12 := hide (HC_w11.out.carry b12)
  have H1_w12 := hide (H1_w11.out.carry b12)
  have H3_w12 := hide (H3_w11.out.carry b12)
  have H4_w12 := hide (H4_w11.out.carry b12)
  have H5_w12 := hide (H5_w11.out.carry b12)
  have H6_w12 := hide (H6_w11.out.carry b12)
  have HB_w12 := hide (show Below w.heap.size w w12 from HB_w11.out.trans (b12.mono HB_w11.out.size))
  clear b12 HB_w11 HO_w11 HR_w11 HC_w11 H1_w11 H3_w11 H4_w11 H5_w11 H6_w11
  have hc := (decide_eq_true (rfl : Y = Y)) ▸ sameEntries_bt a3 n3 c3 Y a4 n4 c4 Y w12 LY.out H3_w12.out H4_w12.out
  go_wp2_with fail
  refine hc.mono ?_
  rintro e w13 ⟨rfl, b13⟩
  clear hc
  have HO_w13 := hide (HO_w12.out.carry b13)
  have HR_w13 := hide (HR_w12.out.carry b13)
  have HC_w13 := hide (HC_w12.out.carry b13)
  have H1_w13 := hide (H1_w12.out.carry b13)
  have H5_w13 := hide (H5_w12.out.carry b13)
  have H6_w13 := hide (H6_w12.out.carry b13)
  have HB_w13 := hide (show Below w.heap.size w w13 from HB_w12.out.trans (b13.mono HB_w12.out.size))
  clear b13 HB_w12 HO_w12 HR_w12 HC_w12 H1_w12 H5_w12 H6_w12
  have hc := (decide_eq_true (rfl : Z = Z)) ▸ sameEntries_bt a5 n5 c5 Z a6 n6 c6 Z w13 LZ.out (OwG.rd ecN_len H5_w13.out) H6_w13.out
  go_wp2_with fail
  refine hc.mono ?_
  rintro e w14 ⟨rfl, b14⟩
  clear hc
  have HO_w14 := hide (HO_w13.out.carry b14)
  have HR_w14 := hide (HR_w13.out.carry b14)
  have HC_w14 := hide (HC_w13.out.carry b14)
  have H1_w14 := hide (H1_w13.out.carry b14)
  have H5_w14 := hide (H5_w13.out.carry b14)
  have HB_w14 := hide (show Below w.heap.size w w14 from HB_w13.out.trans (b14.mono HB_w13.out.size))
  clear b14 HB_w13 HO_w13 HR_w13 HC_w13 H1_w13 H5_w13
  have hc := C7.out ao no co w14 HO_w14.out
  go_wp2_with fail
  refine hc.mono ?_
  rintro e w15 ⟨rfl, b15⟩
  clear hc
  have HO_w15 := hide (HO_w14.out.carry b15)
  have HR_w15 := hide (HR_w14.out.carry b15)
  have HC_w15 := hide (HC_w14.out.carry b15)
  have H1_w15 := hide (H1_w14.out.carry b15)
  have H5_w15 := hide (H5_w14.out.carry b15)
  have HB_w15 := hide (show Below w.heap.size w w15 from HB_w14.out.trans (b15.mono HB_w14.out.size))
  clear b15 HB_w14 HO_w14 HR_w14 HC_w14 H1_w14 H5_w14
  have hc := C8.out a n c w15 HR_w15.out
  go_wp2_with fail
  refine hc.mono ?_
  rintro e w16 ⟨rfl, b16⟩
  clear hc
  have HC_w16 := hide (HC_w15.out.carry b16)
  have H1_w16 := hide (H1_w15.out.carry b16)
  have H5_w16 := hide (H5_w15.out.carry b16)
  have HB_w16 := hide (show Below w.heap.size w w16 from HB_w15.out.trans (b16.mono HB_w15.out.size))
  clear b16 HB_w15 HC_w15 H1_w15 H5_w15
  clear HR_w15 HO_w15 H2_w11 H3_w12 H4_w12 H6_w13 C1 C2 C3 C4 C5 C6 C7 C8
  have N1 := hide (show n1 ≤ 1000000 by have h1 := (OwG.rd ecN_len H1_w16.out).len; have := LX.out; omega)
  have N5 := hide (show n5 ≤ 1000000 by have h1 := (OwG.rd ecN_len H5_w16.out).len; have := LZ.out; omega)
  have E1 := hide (OwG.rd ecN_len H1_w16.out).len.symm
  have E5 := hide (OwG.rd ecN_len H5_w16.out).len.symm
  go_wp2
  go_loopw [21] (fun i wr => ∃ j : Nat, j ≤ n1 ∧ i = .int .i64 j ∧ (∃ L : List Ent, Hid (L.length = n1) ∧ Hid (OwN wr v5.heap.size (.slice a1 n1 c1) L)) ∧ (∃ G : List Ent, Hid (G.length = n5) ∧ Hid (OwN wr B9 (.slice a5 n5 c5) G)) ∧ Hid (CarL v5 wr)) (fun i _ => n1 - (intOf i).toNat)
  case atStart => exact ⟨0, Nat.zero_le _, rfl, ⟨X, E1, hide (H1_w16.out.mono HV1.out)⟩, ⟨Z, E5, H5_w16⟩, HC_w16⟩
  case round =>
    obtain ⟨j, hj, rfl, ⟨L, hL, ho⟩, ⟨G, hG, hg⟩, hb⟩ := hrel
    have hn1 := N1.out
    clear H1_w16 H5_w16 HC_w16 E1 E5
    by_cases hlt : j < n1
    · have hlt' : (j : Int) < n1 := by omega
      have hjl : j < L.length := by have := hL.out; omega
      obtain ⟨g, u, rfl, q3, f3, -, -⟩ := OwN.place3w ho.out j hjl
      obtain ⟨⟨L', hL', ho'⟩, hb'⟩ := OwN.setW ho.out j hjl [119, 114, 105, 116, 116, 101, 110, 32, 111, 118, 101, 114]
      have HL' := hide (hL'.trans hL.out)
      have HO' := hide ho'
      have HG' := hide (OwG.below1 (j := j * 4 + 3) (u := .string (bs [119, 114, 105, 116, 116, 101, 110, 32, 111, 118, 101, 114])) hg.out (LO.out g n1 c1 rfl))
      have HB' := hide (show CarL v5 _ from Below.trans hb.out hb')
      clear hL ho hb hg hL' ho' hb'
      go_wp2
      go_roundw
      case rel => exact ⟨j + 1, by omega, by go_num, ⟨L', HL', HO'⟩, ⟨G, hG, HG'⟩, HB'⟩
      case measure => simp only [intOf]; omega
    · have hd : decide ((j : Int) < n1) = false := by simpa using (by omega : ¬ (j : Int) < n1)
      clear hL ho
      go_wp2
      clear hlt hd hj
      go_loopw [22] (fun i wr => ∃ j : Nat, j ≤ n5 ∧ i = .int .i64 j ∧ (∃ G : List Ent, Hid (G.length = n5) ∧ Hid (OwN wr B9 (.slice a5 n5 c5) G)) ∧ Hid (CarL v5 wr)) (fun i _ => n5 - (intOf i).toNat)
      case atStart => exact ⟨0, Nat.zero_le _, rfl, ⟨G, hG, hg⟩, hb⟩
      case round =>
        rename_i zi wq
        obtain ⟨j, hj, rfl, ⟨G, hG, hg⟩, hb⟩ := hrel
        have hn5 := N5.out
        by_cases hlt : j < n5
        · have hlt' : (j : Int) < n5 := by omega
          have hjl : j < G.length := by have := hG.out; omega
          obtain ⟨g, u, rfl, q3, f3, -, -⟩ := OwN.place3w hg.out j hjl
          obtain ⟨⟨L', hL', ho'⟩, hb'⟩ := OwN.setW hg.out j hjl [119, 114, 105, 116, 116, 101, 110, 32, 111, 118, 101, 114]
          have HL' := hide (hL'.trans hG.out)
          have HO' := hide ho'
          have HB' := hide (show CarL v5 _ from Below.trans hb.out (hb'.mono HB9.out))
          clear hG hb hg hL' ho' hb'
          go_wp2
          go_roundw
          case rel => exact ⟨j + 1, by omega, by go_num, ⟨L', HL', HO'⟩, HB'⟩
          case measure => simp only [intOf]; omega
        · have hd : decide ((j : Int) < n5) = false := by simpa using (by omega : ¬ (j : Int) < n5)
          have hse := (decide_eq_true (rfl : l = l)) ▸ sameEntries_bt ao no co l a n c l _ (by have := HNL.out; omega) (HO0'.out.carry hb.out) (HR0.out.carry (HB0'.out.trans (Below.mono hb.out HB0'.out.size)))
          have HBe := hide (HB0'.out.trans (Below.mono hb.out HB0'.out.size))
          clear hG hg hb
          go_wp2_with fail
          refine hse.mono ?_
          rintro e w20 ⟨rfl, b20⟩
          have HB20 := hide (HBe.out.trans (b20.mono HBe.out.size))
          clear hse b20
          go_wp2
          go_ret
          exact ⟨rfl, HB20.out⟩
end Go.Proofs.Ytdgjinfaopkalaa

/-
  What the statement MemNames answers.
-/
import Derived.Test.YtoedfbceapfimaaMn1
namespace Go.Proofs.Ytoedfbceapfimaa
open Go.RowKit
set_option linter.unusedVariables false
set_option linter.unusedSimpArgs false

def opA : List Opn := [([97], false, [122])]
def thr4 : List Ent := [([97], 4, false, [122]), ([97], 3, false, [120]), ([97], 1, true, []), ([98], 2, false, [121])]
def badM : List Ent := [([97], 1, false, []), ([97], 2, false, [])]
theorem nam_apl : (aplE thrM 4 opA = 0 ∧ aplM thrM 4 opA = thr4) ∧ (aplE thrM 3 opA = 2 ∧ aplM thrM 3 opA = []) ∧ memE badM = 8 ∧ sizN thrM = 5 ∧ memE thrM = 0 ∧ (rngE thrM [97] [98] = 0 ∧ (rngM thrM [97] [98]).length = 2) ∧ (rngE thrM [98] [] = 0 ∧ (rngM thrM [98] []).length = 1) := by decide +kernel
theorem nam_got : (gotE thr4 [97] 4 = 0 ∧ gotV thr4 [97] 4 = ([97], 4, false, [122]) ∧ gotB thr4 [97] 4 = true) ∧ (gotE thr4 [97] 3 = 0 ∧ gotV thr4 [97] 3 = ([97], 3, false, [120]) ∧ gotB thr4 [97] 3 = true) ∧ (gotE thrM [] 1 = 3 ∧ gotV thrM [] 1 = zeroN ∧ gotB thrM [] 1 = false) ∧ (gotE thrM [99] 9 = 0 ∧ gotV thrM [99] 9 = zeroN ∧ gotB thrM [99] 9 = false) := by decide +kernel
theorem got_told (l : List Ent) (k : List UInt8) (s : Int) {x : Ent} {b : Bool} {e0 : Int} (he : gotE l k s = e0) (hv : gotV l k s = x) (hb : gotB l k s = b) (a : Option Addr) (n c : Nat) (w : World) (hrd : RdN w (.slice a n c) l) :
    Calls Try.prog 10 #[.agg #[.slice a n c], .string (bs k), .int .i64 s] w fun e w' => e = .returned (.tuple #[.agg #[.string (bs x.1), .int .i64 x.2.1, .bool x.2.2.1, .string (bs x.2.2.2)], .bool b, .int .i64 e0]) ∧ Below w.heap.size w w' := by
  subst he hv hb
  exact get_mm a n c l k s w hrd
theorem apl_told (l : List Ent) (s : Int) (m : List Opn) {e0 : Int} {r : List Ent} (he : aplE l s m = e0) (hr : aplM l s m = r) (a : Option Addr) (n c : Nat) (a2 : Option Addr) (n2 c2 : Nat) (w : World) (hrd : RdN w (.slice a n c) l) (hrm : RdO w (.slice a2 n2 c2) m) :
    Calls Try.prog 8 #[.agg #[.slice a n c], .int .i64 s, .slice a2 n2 c2] w fun e w' => ∃ av nv cv, e = .returned (.tuple #[.agg #[.slice av nv cv], .int .i64 e0]) ∧ OwN w' w.heap.size (.slice av nv cv) r ∧ Below w.heap.size w w' := by
  subst he hr
  exact apply_mm a n c l s a2 n2 c2 m w hrd hrm
theorem rng_told (l : List Ent) (x y : List UInt8) {e0 : Int} {k : Nat} (he : rngE l x y = e0) (hk : (rngM l x y).length = k) (a : Option Addr) (n c : Nat) (w : World) (hrd : RdN w (.slice a n c) l) :
    Calls Try.prog 11 #[.agg #[.slice a n c], .string (bs x), .string (bs y)] w fun e w' => ∃ av cv, e = .returned (.tuple #[.slice av k cv, .int .i64 e0]) ∧ Below w.heap.size w w' := by
  subst he hk
  refine (range_mm a n c l x y w hrd).mono ?_
  rintro e w' ⟨av, nv, cv, h1, h2, h3⟩
  obtain ⟨a', c', e'⟩ := OwG.form h2
  cases e'
  exact ⟨av, cv, h1, h3⟩
theorem rdO_one (w : World) (o : Opn) (cs : Array Value) (hcs : cs.toList = ecO o) : RdO (w.alloc (.cells cs 30)) (.slice (some ⟨w.heap.size, 0, none⟩) 1 1) [o] := by
  refine .inr ⟨w.heap.size, 0, 1, rfl, Nat.le_refl _, by unfold maxLen; omega, ?_⟩
  intro j hj i u hu
  obtain rfl : j = 0 := by simpa using hj
  simp only [List.getElem_cons_zero] at hu
  rw [← hcs] at hu
  simpa using hu
theorem rdN_two (w : World) (x y : Ent) (cs : Array Value) (hcs : cs.toList = ecN x ++ ecN y) : RdN (w.alloc (.cells cs 33)) (.slice (some ⟨w.heap.size, 0, none⟩) 2 2) [x, y] := by
  have ho := World.ownsRow_lit (base := w.heap.size) (e := 33) (size := 4) w cs 2 (Nat.le_refl _) (by decide) (by rw [← Array.length_toList, hcs]; rfl)
  refine OwG.rd ecN_len (show OwN _ w.heap.size _ [x, y] from ?_)
  have e : ([x, y].flatMap ecN) = cs.toList := by rw [hcs]; simp
  unfold OwN OwG
  rw [e]
  exact ho

set_option maxHeartbeats 4000000 in
set_option maxRecDepth 100000 in
theorem memNames_any (w : World) :
    Calls Try.prog 3 #[] w fun e w' => e = .returned (.bool true) ∧ Below w.heap.size w w' := by
  obtain ⟨⟨t1, t2⟩, ⟨t3, t4⟩, t5, t6, t7, ⟨t8, t9⟩, ⟨t10, t11⟩⟩ := nam_apl
  obtain ⟨⟨g1, g2, g3⟩, ⟨g4, g5, g6⟩, ⟨g7, g8, g9⟩, ⟨g10, g11, g12⟩⟩ := nam_got
  have HP4 := hide (apl_told thrM 4 opA t1 t2)
  have HP3 := hide (apl_told thrM 3 opA t3 t4)
  have HBD := hide (fun a n c w h => t5 ▸ check_mm a n c badM w h)
  have HSZ := hide (fun a n c w h => t6 ▸ t7 ▸ size_mm a n c thrM w h)
  have HR2 := hide (rng_told thrM [97] [98] t8 t9)
  have HR1 := hide (rng_told thrM [98] [] t10 t11)
  have HG4 := hide (got_told thr4 [97] 4 g1 g2 g3)
  have HG3 := hide (got_told thr4 [97] 3 g4 g5 g6)
  have HGE := hide (got_told thrM [] 1 g7 g8 g9)
  have HGC := hide (got_told thrM [99] 9 g10 g11 g12)
  clear t1 t2 t3 t4 t5 t6 t7 t8 t9 t10 t11 g1 g2 g3 g4 g5 g6 g7 g8 g9 g10 g11 g12
  simp only [zeroN, show bs ([97] : List UInt8) = { data := #[97] } from rfl, show bs ([98] : List UInt8) = { data := #[98] } from rfl, show bs ([99] : List UInt8) = { data := #[99] } from rfl, show bs ([120] : List UInt8) = { data := #[120] } from rfl, show bs ([121] : List UInt8) = { data := #[121] } from rfl, show bs ([122] : List UInt8) = { data := #[122] } from rfl, show bs ([] : List UInt8) = { data := #[] } from rfl] at HP4 HP3 HBD HSZ HR2 HR1 HG4 HG3 HGE HGC
  have HB_w := hide (Below.refl w.heap.size w)
  go_enter Try.func3, Try.ntmps3
  go_wp2_with fail
  refine (three_mm w).mono ?_
  rintro e v1 ⟨a1, c1, rfl, r1, bv1⟩
  have HB_v1 := hide (show Below w.heap.size w v1 from HB_w.out.trans (bv1.mono HB_w.out.size))
  have HT1_v1 := hide (r1)
  clear  HB_w bv1
  clear r1
  obtain ⟨v2, hwv2⟩ : ∃ wN, wN = v1.alloc (.cells #[.string { data := #[97] }, .bool false, .string { data := #[122] }] 30) := ⟨_, rfl⟩
  have bv2 : Below v1.heap.size v1 v2 := by rw [hwv2]; exact (Below.refl _ _).alloc (Nat.le_refl _) _
  obtain ⟨AO1, hAv2⟩ : ∃ A, A = v1.heap.size := ⟨_, rfl⟩
  have HT1_v2 := hide (HT1_v1.out.carry bv2)
  have HB_v2 := hide (show Below w.heap.size w v2 from HB_v1.out.trans (bv2.mono HB_v1.out.size))
  have HO1_v2 := hide (show RdO v2 (.slice (some ⟨AO1, 0, none⟩) 1 1) opA by rw [hAv2, hwv2]; exact rdO_one v1 _ _ rfl)
  clear HT1_v1 HB_v1 bv2
  have hav2 := hAv2.symm
  clear hAv2
  go_wp2_with fail
  rw [← hwv2]
  try rw [hav2]
  clear hwv2 hav2
  refine (HP4.out a1 3 c1 _ 1 1 v2 HT1_v2.out HO1_v2.out).mono ?_
  rintro e v3 ⟨ax, nx, cx, rfl, ox, bv3⟩
  have HB_v3 := hide (show Below w.heap.size w v3 from HB_v2.out.trans (bv3.mono HB_v2.out.size))
  have HX_v3 := hide (OwG.rd ecN_len ox)
  clear HT1_v2 HO1_v2 HB_v2 bv3
  clear ox
  obtain ⟨v4, hwv4⟩ : ∃ wN, wN = v3.alloc (.cells #[.slice ax nx cx] 24) := ⟨_, rfl⟩
  have bv4 : Below v3.heap.size v3 v4 := by rw [hwv4]; exact (Below.refl _ _).alloc (Nat.le_refl _) _
  obtain ⟨AM, hAv4⟩ : ∃ A, A = v3.heap.size := ⟨_, rfl⟩
  have HX_v4 := hide (HX_v3.out.carry bv4)
  have HB_v4 := hide (show Below w.heap.size w v4 from HB_v3.out.trans (bv4.mono HB_v3.out.size))
  have HM_v4 := hide (show MemAt v4 AM (.slice ax nx cx) by rw [hAv4, hwv4]; exact MemAt.new v3 _)
  clear HX_v3 HB_v3 bv4
  have hav4 := hAv4.symm
  clear hAv4
  have m0 := HM_v4.out.cell
  rw [hwv4] at m0
  go_wp2_with fail
  rw [← hwv4]
  try rw [hav4]
  clear hwv4 hav4 m0
  refine (HG4.out ax nx cx v4 HX_v4.out).mono ?_
  rintro e v5 ⟨rfl, bv5⟩
  have HX_v5 := hide (HX_v4.out.carry bv5)
  have HM_v5 := hide (HM_v4.out.carry bv5)
  have HB_v5 := hide (show Below w.heap.size w v5 from HB_v4.out.trans (bv5.mono HB_v4.out.size))
  clear HX_v4 HM_v4 HB_v4 bv5
  obtain ⟨v6, hwv6⟩ : ∃ wN, wN = v5.alloc (.cells #[.string { data := #[97] }, .int .i64 4, .bool false, .string { data := #[122] }] 33) := ⟨_, rfl⟩
  have bv6 : Below v5.heap.size v5 v6 := by rw [hwv6]; exact (Below.refl _ _).alloc (Nat.le_refl _) _
  obtain ⟨AA, hAv6⟩ : ∃ A, A = v5.heap.size := ⟨_, rfl⟩
  have HX_v6 := hide (HX_v5.out.carry bv6)
  have HM_v6 := hide (HM_v5.out.carry bv6)
  have HB_v6 := hide (show Below w.heap.size w v6 from HB_v5.out.trans (bv6.mono HB_v5.out.size))
  have HA_v6 := hide (show EntAt v6 AA ([97], 4, false, [122]) by rw [hAv6, hwv6]; exact heap_alloc_new v5 _)
  clear HX_v5 HM_v5 HB_v5 bv6
  have hav6 := hAv6.symm
  clear hAv6
  have m0 := HM_v6.out.cell
  rw [hwv6] at m0
  go_wp2_with fail
  rw [← hwv6]
  try rw [hav6]
  clear hwv6 hav6 m0
  refine (HG3.out ax nx cx v6 HX_v6.out).mono ?_
  rintro e v7 ⟨rfl, bv7⟩
  have HA_v7 := hide (HA_v6.out.carry bv7)
  have HB_v7 := hide (show Below w.heap.size w v7 from HB_v6.out.trans (bv7.mono HB_v6.out.size))
  clear HX_v6 HM_v6 HA_v6 HB_v6 bv7
  obtain ⟨v8, hwv8⟩ : ∃ wN, wN = v7.alloc (.cells #[.string { data := #[97] }, .int .i64 3, .bool false, .string { data := #[120] }] 33) := ⟨_, rfl⟩
  have bv8 : Below v7.heap.size v7 v8 := by rw [hwv8]; exact (Below.refl _ _).alloc (Nat.le_refl _) _
  obtain ⟨AQ, hAv8⟩ : ∃ A, A = v7.heap.size := ⟨_, rfl⟩
  have HA_v8 := hide (HA_v7.out.carry bv8)
  have HB_v8 := hide (show Below w.heap.size w v8 from HB_v7.out.trans (bv8.mono HB_v7.out.size))
  have HQ_v8 := hide (show EntAt v8 AQ ([97], 3, false, [120]) by rw [hAv8, hwv8]; exact heap_alloc_new v7 _)
  clear HA_v7 HB_v7 bv8
  have hav8 := hAv8.symm
  clear hAv8
  go_wp2_with fail
  rw [← hwv8]
  try rw [hav8]
  clear hwv8 hav8
  refine (three_mm v8).mono ?_
  rintro e v9 ⟨a2, c2, rfl, r2, bv9⟩
  have HA_v9 := hide (HA_v8.out.carry bv9)
  have HQ_v9 := hide (HQ_v8.out.carry bv9)
  have HB_v9 := hide (show Below w.heap.size w v9 from HB_v8.out.trans (bv9.mono HB_v8.out.size))
  have HT2_v9 := hide (r2)
  clear HA_v8 HQ_v8 HB_v8 bv9
  clear r2
  obtain ⟨v10, hwv10⟩ : ∃ wN, wN = v9.alloc (.cells #[.string { data := #[97] }, .bool false, .string { data := #[122] }] 30) := ⟨_, rfl⟩
  have bv10 : Below v9.heap.size v9 v10 := by rw [hwv10]; exact (Below.refl _ _).alloc (Nat.le_refl _) _
  obtain ⟨AO2, hAv10⟩ : ∃ A, A = v9.heap.size := ⟨_, rfl⟩
  have HA_v10 := hide (HA_v9.out.carry bv10)
  have HQ_v10 := hide (HQ_v9.out.carry bv10)
  have HT2_v10 := hide (HT2_v9.out.carry bv10)
  have HB_v10 := hide (show Below w.heap.size w v10 from HB_v9.out.trans (bv10.mono HB_v9.out.size))
  have HO2_v10 := hide (show RdO v10 (.slice (some ⟨AO2, 0, none⟩) 1 1) opA by rw [hAv10, hwv10]; exact rdO_one v9 _ _ rfl)
  clear HA_v9 HQ_v9 HT2_v9 HB_v9 bv10
  have hav10 := hAv10.symm
  clear hAv10
  go_wp2_with fail
  rw [← hwv10]
  try rw [hav10]
  clear hwv10 hav10
  refine (HP3.out a2 3 c2 _ 1 1 v10 HT2_v10.out HO2_v10.out).mono ?_
  rintro e v11 ⟨ay, ny, cy, rfl, oy, bv11⟩
  have HA_v11 := hide (HA_v10.out.carry bv11)
  have HQ_v11 := hide (HQ_v10.out.carry bv11)
  have HB_v11 := hide (show Below w.heap.size w v11 from HB_v10.out.trans (bv11.mono HB_v10.out.size))
  clear HA_v10 HQ_v10 HT2_v10 HO2_v10 HB_v10 bv11
  clear oy
  obtain ⟨v12, hwv12⟩ : ∃ wN, wN = v11.alloc (.cells #[.slice ay ny cy] 24) := ⟨_, rfl⟩
  have bv12 : Below v11.heap.size v11 v12 := by rw [hwv12]; exact (Below.refl _ _).alloc (Nat.le_refl _) _
  obtain ⟨AM9, hAv12⟩ : ∃ A, A = v11.heap.size := ⟨_, rfl⟩
  have HA_v12 := hide (HA_v11.out.carry bv12)
  have HQ_v12 := hide (HQ_v11.out.carry bv12)
  have HB_v12 := hide (show Below w.heap.size w v12 from HB_v11.out.trans (bv12.mono HB_v11.out.size))
  have HM9_v12 := hide (show MemAt v12 AM9 (.slice ay ny cy) by rw [hAv12, hwv12]; exact MemAt.new v11 _)
  clear HA_v11 HQ_v11 HB_v11 bv12
  have hav12 := hAv12.symm
  clear hAv12
  go_wp2_with fail
  rw [← hwv12]
  try rw [hav12]
  clear hwv12 hav12
  refine (three_mm v12).mono ?_
  rintro e v13 ⟨a3, c3, rfl, r3, bv13⟩
  have HA_v13 := hide (HA_v12.out.carry bv13)
  have HQ_v13 := hide (HQ_v12.out.carry bv13)
  have HM9_v13 := hide (HM9_v12.out.carry bv13)
  have HB_v13 := hide (show Below w.heap.size w v13 from HB_v12.out.trans (bv13.mono HB_v12.out.size))
  have HT3_v13 := hide (r3)
  clear HA_v12 HQ_v12 HM9_v12 HB_v12 bv13
  clear r3
  go_wp2_with fail
  refine (HR2.out a3 3 c3 v13 HT3_v13.out).mono ?_
  rintro e v14 ⟨al, cl, rfl, bv14⟩
  have HA_v14 := hide (HA_v13.out.carry bv14)
  have HQ_v14 := hide (HQ_v13.out.carry bv14)
  have HB_v14 := hide (show Below w.heap.size w v14 from HB_v13.out.trans (bv14.mono HB_v13.out.size))
  clear HA_v13 HQ_v13 HM9_v13 HT3_v13 HB_v13 bv14
  go_wp2_with fail
  refine (three_mm v14).mono ?_
  rintro e v15 ⟨a4, c4, rfl, r4, bv15⟩
  have HA_v15 := hide (HA_v14.out.carry bv15)
  have HQ_v15 := hide (HQ_v14.out.carry bv15)
  have HB_v15 := hide (show Below w.heap.size w v15 from HB_v14.out.trans (bv15.mono HB_v14.out.size))
  have HT4_v15 := hide (r4)
  clear HA_v14 HQ_v14 HB_v14 bv15
  clear r4
  go_wp2_with fail
  refine (HR1.out a4 3 c4 v15 HT4_v15.out).mono ?_
  rintro e v16 ⟨ak, ck, rfl, bv16⟩
  have HA_v16 := hide (HA_v15.out.carry bv16)
  have HQ_v16 := hide (HQ_v15.out.carry bv16)
  have HB_v16 := hide (show Below w.heap.size w v16 from HB_v15.out.trans (bv16.mono HB_v15.out.size))
  clear HA_v15 HQ_v15 HT4_v15 HB_v15 bv16
  go_wp2_with fail
  refine (three_mm v16).mono ?_
  rintro e v17 ⟨a5, c5, rfl, r5, bv17⟩
  have HA_v17 := hide (HA_v16.out.carry bv17)
  have HQ_v17 := hide (HQ_v16.out.carry bv17)
  have HB_v17 := hide (show Below w.heap.size w v17 from HB_v16.out.trans (bv17.mono HB_v16.out.size))
  have HT5_v17 := hide (r5)
  clear HA_v16 HQ_v16 HB_v16 bv17
  clear r5
  go_wp2_with fail
  refine (HSZ.out a5 3 c5 v17 HT5_v17.out).mono ?_
  rintro e v18 ⟨rfl, bv18⟩
  have HA_v18 := hide (HA_v17.out.carry bv18)
  have HQ_v18 := hide (HQ_v17.out.carry bv18)
  have HB_v18 := hide (show Below w.heap.size w v18 from HB_v17.out.trans (bv18.mono HB_v17.out.size))
  clear HA_v17 HQ_v17 HT5_v17 HB_v17 bv18
  go_wp2_with fail
  refine (three_mm v18).mono ?_
  rintro e v19 ⟨a6, c6, rfl, r6, bv19⟩
  have HA_v19 := hide (HA_v18.out.carry bv19)
  have HQ_v19 := hide (HQ_v18.out.carry bv19)
  have HB_v19 := hide (show Below w.heap.size w v19 from HB_v18.out.trans (bv19.mono HB_v18.out.size))
  have HT6_v19 := hide (r6)
  clear HA_v18 HQ_v18 HB_v18 bv19
  clear r6
  go_wp2_with fail
  refine (HGE.out a6 3 c6 v19 HT6_v19.out).mono ?_
  rintro e v20 ⟨rfl, bv20⟩
  have HA_v20 := hide (HA_v19.out.carry bv20)
  have HQ_v20 := hide (HQ_v19.out.carry bv20)
  have HB_v20 := hide (show Below w.heap.size w v20 from HB_v19.out.trans (bv20.mono HB_v19.out.size))
  clear HA_v19 HQ_v19 HT6_v19 HB_v19 bv20
  obtain ⟨v21, hwv21⟩ : ∃ wN, wN = v20.alloc (.cells #[.string { data := #[] }, .int .i64 0, .bool false, .string { data := #[] }] 33) := ⟨_, rfl⟩
  have bv21 : Below v20.heap.size v20 v21 := by rw [hwv21]; exact (Below.refl _ _).alloc (Nat.le_refl _) _
  obtain ⟨AZ1, hAv21⟩ : ∃ A, A = v20.heap.size := ⟨_, rfl⟩
  have HA_v21 := hide (HA_v20.out.carry bv21)
  have HQ_v21 := hide (HQ_v20.out.carry bv21)
  have HB_v21 := hide (show Below w.heap.size w v21 from HB_v20.out.trans (bv21.mono HB_v20.out.size))
  have HZ1_v21 := hide (show EntAt v21 AZ1 ([], 0, false, []) by rw [hAv21, hwv21]; exact heap_alloc_new v20 _)
  clear HA_v20 HQ_v20 HB_v20 bv21
  have hav21 := hAv21.symm
  clear hAv21
  go_wp2_with fail
  rw [← hwv21]
  try rw [hav21]
  clear hwv21 hav21
  refine (three_mm v21).mono ?_
  rintro e v22 ⟨a7, c7, rfl, r7, bv22⟩
  have HA_v22 := hide (HA_v21.out.carry bv22)
  have HQ_v22 := hide (HQ_v21.out.carry bv22)
  have HZ1_v22 := hide (HZ1_v21.out.carry bv22)
  have HB_v22 := hide (show Below w.heap.size w v22 from HB_v21.out.trans (bv22.mono HB_v21.out.size))
  have HT7_v22 := hide (r7)
  clear HA_v21 HQ_v21 HZ1_v21 HB_v21 bv22
  clear r7
  go_wp2_with fail
  refine (HGC.out a7 3 c7 v22 HT7_v22.out).mono ?_
  rintro e v23 ⟨rfl, bv23⟩
  have HA_v23 := hide (HA_v22.out.carry bv23)
  have HQ_v23 := hide (HQ_v22.out.carry bv23)
  have HB_v23 := hide (show Below w.heap.size w v23 from HB_v22.out.trans (bv23.mono HB_v22.out.size))
  clear HA_v22 HQ_v22 HZ1_v22 HT7_v22 HB_v22 bv23
  obtain ⟨v24, hwv24⟩ : ∃ wN, wN = v23.alloc (.cells #[.string { data := #[] }, .int .i64 0, .bool false, .string { data := #[] }] 33) := ⟨_, rfl⟩
  have bv24 : Below v23.heap.size v23 v24 := by rw [hwv24]; exact (Below.refl _ _).alloc (Nat.le_refl _) _
  obtain ⟨AZ2, hAv24⟩ : ∃ A, A = v23.heap.size := ⟨_, rfl⟩
  have HA_v24 := hide (HA_v23.out.carry bv24)
  have HQ_v24 := hide (HQ_v23.out.carry bv24)
  have HB_v24 := hide (show Below w.heap.size w v24 from HB_v23.out.trans (bv24.mono HB_v23.out.size))
  have HZ2_v24 := hide (show EntAt v24 AZ2 ([], 0, false, []) by rw [hAv24, hwv24]; exact heap_alloc_new v23 _)
  clear HA_v23 HQ_v23 HB_v23 bv24
  have hav24 := hAv24.symm
  clear hAv24
  obtain ⟨v25, hwv25⟩ : ∃ wN, wN = v24.alloc (.cells #[.string { data := #[97] }, .int .i64 1, .bool false, .string { data := #[] }, .string { data := #[97] }, .int .i64 2, .bool false, .string { data := #[] }] 33) := ⟨_, rfl⟩
  have bv25 : Below v24.heap.size v24 v25 := by rw [hwv25]; exact (Below.refl _ _).alloc (Nat.le_refl _) _
  have hAv25 : (AZ2 + 1) = v24.heap.size := by rw [hwv24, ← hav24]; simp
  have HA_v25 := hide (HA_v24.out.carry bv25)
  have HQ_v25 := hide (HQ_v24.out.carry bv25)
  have HZ2_v25 := hide (HZ2_v24.out.carry bv25)
  have HB_v25 := hide (show Below w.heap.size w v25 from HB_v24.out.trans (bv25.mono HB_v24.out.size))
  have HBD_v25 := hide (show RdN v25 (.slice (some ⟨(AZ2 + 1), 0, none⟩) 2 2) badM by rw [hAv25, hwv25]; exact rdN_two v24 _ _ _ rfl)
  clear HA_v24 HQ_v24 HZ2_v24 HB_v24 bv25
  have hav25 := hAv25.symm
  clear hAv25
  obtain ⟨v26, hwv26⟩ : ∃ wN, wN = v25.alloc (.cells #[.slice (some ⟨AZ2 + 1, 0, none⟩) 2 2] 24) := ⟨_, rfl⟩
  have bv26 : Below v25.heap.size v25 v26 := by rw [hwv26]; exact (Below.refl _ _).alloc (Nat.le_refl _) _
  have hAv26 : (AZ2 + 1 + 1) = v25.heap.size := by rw [hwv25, ← hav25]; simp
  have HA_v26 := hide (HA_v25.out.carry bv26)
  have HQ_v26 := hide (HQ_v25.out.carry bv26)
  have HZ2_v26 := hide (HZ2_v25.out.carry bv26)
  have HBD_v26 := hide (HBD_v25.out.carry bv26)
  have HB_v26 := hide (show Below w.heap.size w v26 from HB_v25.out.trans (bv26.mono HB_v25.out.size))
  have HMB_v26 := hide (show MemAt v26 (AZ2 + 1 + 1) (.slice (some ⟨AZ2 + 1, 0, none⟩) 2 2) by rw [hAv26, hwv26]; exact MemAt.new v25 _)
  clear HA_v25 HQ_v25 HZ2_v25 HBD_v25 HB_v25 bv26
  have hav26 := hAv26.symm
  clear hAv26
  obtain ⟨_, _, _, k3⟩ := HA_v26.out.cells
  simp only [show bs ([122] : List UInt8) = { data := #[122] } from rfl] at k3
  rw [hwv26, hwv25, hwv24] at k3
  obtain ⟨_, _, _, l3⟩ := HQ_v26.out.cells
  simp only [show bs ([120] : List UInt8) = { data := #[120] } from rfl] at l3
  rw [hwv26, hwv25, hwv24] at l3
  go_wp2_with fail
  rw [← hwv24]
  rw [← hwv25]
  rw [← hwv26]
  try rw [hav24]
  try rw [hav25]
  try rw [hav26]
  clear hwv24 hav24 hwv25 hav25 hwv26 hav26 k3 l3
  refine (alive_mm v26).mono ?_
  rintro e v27 ⟨rfl, bv27⟩
  have HA_v27 := hide (HA_v26.out.carry bv27)
  have HQ_v27 := hide (HQ_v26.out.carry bv27)
  have HZ2_v27 := hide (HZ2_v26.out.carry bv27)
  have HBD_v27 := hide (HBD_v26.out.carry bv27)
  have HMB_v27 := hide (HMB_v26.out.carry bv27)
  have HB_v27 := hide (show Below w.heap.size w v27 from HB_v26.out.trans (bv27.mono HB_v26.out.size))
  clear HA_v26 HQ_v26 HZ2_v26 HBD_v26 HMB_v26 HB_v26 bv27
  have m0 := HMB_v27.out.cell
  go_wp2_with fail
  clear m0
  refine (HBD.out _ 2 2 v27 HBD_v27.out).mono ?_
  rintro e v28 ⟨rfl, bv28⟩
  have HA_v28 := hide (HA_v27.out.carry bv28)
  have HQ_v28 := hide (HQ_v27.out.carry bv28)
  have HZ2_v28 := hide (HZ2_v27.out.carry bv28)
  have HBD_v28 := hide (HBD_v27.out.carry bv28)
  have HMB_v28 := hide (HMB_v27.out.carry bv28)
  have HB_v28 := hide (show Below w.heap.size w v28 from HB_v27.out.trans (bv28.mono HB_v27.out.size))
  clear HA_v27 HQ_v27 HZ2_v27 HBD_v27 HMB_v27 HB_v27 bv28
  go_wp2
  go_ret
  exact ⟨rfl, HB_v28.out⟩
end Go.Proofs.Ytoedfbceapfimaa

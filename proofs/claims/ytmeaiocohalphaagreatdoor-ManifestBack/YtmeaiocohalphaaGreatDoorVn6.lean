/-
  What mayBe, Check, checked and New do.
-/
import Derived.Test.YtmeaiocohalphaaGreatDoorVn4
import Derived.Shelf.Slices.In.SortNone
import Derived.Sort.OwnSorted
set_option maxHeartbeats 8000000
set_option maxRecDepth 100000
namespace Go.Proofs.YtmeaiocohalphaaGreatDoor
open Go.RowKit Go.Shelf
set_option linter.unusedVariables false
set_option linter.unusedSimpArgs false
def Tryz.lays190_ren : Go.Shelf.Ren := ⟨fun | 190 => 223 | 125 => 262 | 258 => 261 | 128 => 286 | 129 => 287 | 302 => 277 | 303 => 278 | 304 => 279 | 305 => 280 | 306 => 281 | 307 => 282 | 308 => 283 | 309 => 284 | 310 => 285 | 333 => 291 | 329 => 292 | 330 => 293 | 334 => 294 | 335 => 295 | 336 => 296 | 344 => 298 | n => n, fun | 31 => 48 | 9 => 9 | 3 => 3 | 46 => 231 | 0 => 0 | 51 => 28 | 53 => 148 | 4 => 4 | 183 => 331 | 182 => 330 | 131 => 229 | 5 => 5 | 218 => 337 | 222 => 341 | 228 => 344 | 229 => 177 | n => n, fun | n => n⟩
theorem Tryz.lays190 : Go.Proofs.Lays.n190 Tryz.prog Tryz.lays190_ren := {
 mixed := by kernel_rfl
 f125 := Tryz.func262.trans (congrArg some (by kernel_rfl))
 f128 := Tryz.func286.trans (congrArg some (by kernel_rfl))
 f129 := Tryz.func287.trans (congrArg some (by kernel_rfl))
 f190 := Tryz.func223.trans (congrArg some (by kernel_rfl))
 f258 := Tryz.func261.trans (congrArg some (by kernel_rfl))
 f302 := Tryz.func277.trans (congrArg some (by kernel_rfl))
 f303 := Tryz.func278.trans (congrArg some (by kernel_rfl))
 f304 := Tryz.func279.trans (congrArg some (by kernel_rfl))
 f305 := Tryz.func280.trans (congrArg some (by kernel_rfl))
 f306 := Tryz.func281.trans (congrArg some (by kernel_rfl))
 f307 := Tryz.func282.trans (congrArg some (by kernel_rfl))
 f308 := Tryz.func283.trans (congrArg some (by kernel_rfl))
 f309 := Tryz.func284.trans (congrArg some (by kernel_rfl))
 f310 := Tryz.func285.trans (congrArg some (by kernel_rfl))
 f329 := Tryz.func292.trans (congrArg some (by kernel_rfl))
 f330 := Tryz.func293.trans (congrArg some (by kernel_rfl))
 f333 := Tryz.func291.trans (congrArg some (by kernel_rfl))
 f334 := Tryz.func294.trans (congrArg some (by kernel_rfl))
 f335 := Tryz.func295.trans (congrArg some (by kernel_rfl))
 f336 := Tryz.func296.trans (congrArg some (by kernel_rfl))
 f344 := Tryz.func298.trans (congrArg some (by kernel_rfl))
 t0 := Tryz.underlying0
 a0 := Tryz.isAgg0
 z0 := Tryz.sizeOf0
 v0 := Tryz.zeroValue0
 t3 := Tryz.underlying3
 a3 := Tryz.isAgg3
 z3 := Tryz.sizeOf3
 v3 := Tryz.zeroValue3
 t4 := Tryz.underlying4
 a4 := Tryz.isAgg4
 z4 := Tryz.sizeOf4
 v4 := Tryz.zeroValue4
 t5 := Tryz.underlying5
 a5 := Tryz.isAgg5
 z5 := Tryz.sizeOf5
 v5 := Tryz.zeroValue5
 t9 := Tryz.underlying9
 a9 := Tryz.isAgg9
 z9 := Tryz.sizeOf9
 v9 := Tryz.zeroValue9
 t31 := Tryz.underlying48
 a31 := Tryz.isAgg48
 z31 := Tryz.sizeOf48
 v31 := Tryz.zeroValue48
 t46 := Tryz.underlying231
 a46 := Tryz.isAgg231
 z46 := Tryz.sizeOf231
 v46 := Tryz.zeroValue231
 t51 := Tryz.underlying28
 a51 := Tryz.isAgg28
 z51 := Tryz.sizeOf28
 v51 := Tryz.zeroValue28
 t53 := Tryz.underlying148
 a53 := Tryz.isAgg148
 z53 := Tryz.sizeOf148
 v53 := Tryz.zeroValue148
 t131 := Tryz.underlying229
 a131 := Tryz.isAgg229
 z131 := Tryz.sizeOf229
 v131 := Tryz.zeroValue229
 t182 := Tryz.underlying330
 a182 := Tryz.isAgg330
 z182 := Tryz.sizeOf330
 v182 := Tryz.zeroValue330
 t183 := Tryz.underlying331
 a183 := Tryz.isAgg331
 z183 := Tryz.sizeOf331
 v183 := Tryz.zeroValue331
 t218 := Tryz.underlying337
 a218 := Tryz.isAgg337
 z218 := Tryz.sizeOf337
 v218 := Tryz.zeroValue337
 t222 := Tryz.underlying341
 a222 := Tryz.isAgg341
 z222 := Tryz.sizeOf341
 v222 := Tryz.zeroValue341
 t228 := Tryz.underlying344
 a228 := Tryz.isAgg344
 z228 := Tryz.sizeOf344
 v228 := Tryz.zeroValue344
 t229 := Tryz.underlying177
 a229 := Tryz.isAgg177
 z229 := Tryz.sizeOf177
 v229 := Tryz.zeroValue177 }
abbrev srtS (ks : List (List UInt8)) : List (List UInt8) := ks.mergeSort fun x y => decide (x ≤ y)
theorem flatTS (l : List (List UInt8)) : l.flatMap ecT = l.map encStr := by
 induction l with
 | nil => rfl
 | cons x l ih => rw [List.flatMap_cons, ih]; rfl
theorem sort_vn (g n c base : Nat) (ks : List (List UInt8)) (w : World) (h : OwTx w base (.slice (some ⟨g, 0, none⟩) n c) ks) (hb : base ≤ w.heap.size) (hn : n ≤ 1000000) :
  Calls Tryz.prog 223 #[.slice (some ⟨g, 0, none⟩) n c] w fun e w' => e = .returned (.tuple #[]) ∧ OwTx w' base (.slice (some ⟨g, 0, none⟩) n c) (srtS ks) ∧ Below base w w' := by
 rcases h.2 with ⟨e, _⟩ | ⟨g', cap, cur, e, hbg, hg, h1, h2, h3, h4⟩
 ·cases e
 injection e with e1 e2 e3
 injection e1 with e1
 injection e1 with e1
 subst e1 e2 e3
 rw [Nat.mul_one] at h3
 rw [Nat.mul_one, flatTS] at h4
 have hH := holds_of_block hg h4
 have hgl : g < w.heap.size := (Array.getElem?_eq_some_iff.1 hg).1
 have hc := calls_of_every_depth fun D => Go.Proofs.AnyS.slices_Sort_string_alone Tryz.lays190 D g 0 c ks w hH hgl (by omega)
 refine Calls.mono hc ?_
 rintro e w' ⟨rfl, nn, os, rfl⟩
 have hs := ownsRow_sorted (n := nn) (os := os) (ts := srtS ks) (List.length_mergeSort ks) hbg hg h1 h2 (by simpa using h3)
 refine ⟨rfl, ?_, (Below.refl _ _).grown (grownBy_sorted _) hb fun j hj => by cases hj; exact hbg⟩
 unfold OwTx OwG
 rw [List.length_mergeSort, flatTS]
 exact hs
end Go.Proofs.YtmeaiocohalphaaGreatDoor
namespace Go.Proofs.YtmeaiocohalphaaGreatDoor
open Go.RowKit
set_option linter.unusedVariables false
set_option linter.unusedSimpArgs false
theorem Tryz.infoTxV : (Tryz.prog.info? 9).map (fun i => (i.zero, i.size, i.bytes)) = some (some (.string ByteArray.empty), 1, 16) := by kernel_rfl
theorem app_txV {w : World} {base : Nat} {v : Value} {l : List (List UInt8)} (h : OwTx w base v l) (hb : base ≤ w.heap.size) (hl : l.length ≤ 1000000) (s : List UInt8) :
  ∃ g c w', (Builtin.append_ #[48, 48] 48 #[v, .slice (some ⟨w.heap.size, 0, none⟩) 1 1]).run Tryz.prog (w.alloc (.cells #[.string (bs s)] 9)) = .ok (.slice (some ⟨g, 0, none⟩) (l.length + 1) c) w' ∧
   OwTx w' base (.slice (some ⟨g, 0, none⟩) (l.length + 1) c) (l ++ [s]) ∧ Below base w w' := by
 obtain ⟨g, c, w', h1, h2, h3, _⟩ := app_oneG (P := Tryz.prog) ecT_len (by decide) (by intro x u hu; simp [ecT] at hu; subst hu; rfl) Tryz.underlying48 Tryz.infoTxV rfl h hb (by omega) (by unfold maxLen; omega) s #[.string (bs s)] rfl
 exact ⟨g, c, w', h1, h2, h3⟩
def nmTo (lg : List UInt8) (R : Lvs) (k : Nat) (l : List Mta) (j : Nat) : List (List UInt8) := lg :: (((lvs R).take k).flatten ++ l.take j).map (·.1)
theorem nmTo_len (lg : List UInt8) (R : Lvs) (k : Nat) (l : List Mta) (j : Nat) (hj : j ≤ l.length) : (nmTo lg R k l j).length = cntW R k + j + 1 := by
 unfold nmTo cntW
 simp only [List.length_cons, List.length_map, List.length_append, List.length_take]
 omega
theorem nmTo_s (lg : List UInt8) (R : Lvs) (k : Nat) (l : List Mta) (j : Nat) (hj : j < l.length) : nmTo lg R k l (j + 1) = nmTo lg R k l j ++ [(l[j]).1] := by
 unfold nmTo
 rw [List.take_succ_eq_append_getElem hj, ← List.append_assoc, List.map_append]; rfl
theorem nmTo_next (lg : List UInt8) (R : Lvs) (k : Nat) (hk : k < R.length) (m : List Mta) : nmTo lg R (k + 1) m 0 = nmTo lg R k (R[k]).2 (R[k]).2.length := by
 unfold nmTo
 rw [List.take_succ_eq_append_getElem (by rw [lvs_len]; exact hk), lvs_get hk]
 simp
theorem nmTo_all (lg : List UInt8) (R : Lvs) (l : List Mta) (nx sq : Int) : nmTo lg R R.length l 0 = nmsV (lvs R, nx, sq, lg) := by
 unfold nmTo nmsV
 rw [List.take_of_length_le (by rw [lvs_len]; exact Nat.le_refl _)]
 simp
theorem names_vn (a : Option Addr) (n c : Nat) (R : Lvs) (nx sq : Int) (lg : List UInt8) (w : World) (hrd : RdVw w (.slice a n c) R) (hn : n ≤ 1000) (hT : (lvs R).flatten.length ≤ 100000) :
  Calls Tryz.prog 160 #[.agg #[.slice a n c, .int .i64 nx, .int .i64 sq, .string (bs lg)]] w fun e w' => ∃ g m cv, e = .returned (.slice (some ⟨g, 0, none⟩) m cv) ∧ OwTx w' w.heap.size (.slice (some ⟨g, 0, none⟩) m cv) (srtS (nmsV (lvs R, nx, sq, lg))) ∧ Below w.heap.size w w' := by
 have HN := hide hrd.len
 have HR := hide hrd
 clear hrd
 obtain ⟨w1, hw1⟩ : ∃ w1, w1 = w.alloc (.cells #[.slice a n c, .int .i64 nx, .int .i64 sq, .string (bs lg)] 36) := ⟨_, rfl⟩
 have HB1 := hide (show Below w.heap.size w w1 by rw [hw1]; exact (Below.refl _ _).alloc (Nat.le_refl _) _)
 have HV1 := hide (show VvAt w1 w.heap.size (.slice a n c) nx sq lg by rw [hw1]; exact VvAt.new w _ nx sq lg)
 obtain ⟨v0, v1, v2, v3⟩ := HV1.out.cells
 obtain ⟨w2, hw2⟩ : ∃ w2, w2 = w1.alloc (.cells #[.string (bs lg)] 9) := ⟨_, rfl⟩
 have hb2 : Below w1.heap.size w1 w2 := by rw [hw2]; exact (Below.refl _ _).alloc (Nat.le_refl _) _
 have HB2 := hide (HB1.out.trans (hb2.mono HB1.out.size))
 have HV2 := hide (HV1.out.carry hb2)
 have HO2 := hide (show OwTx w2 w.heap.size (.slice (some ⟨w1.heap.size, 0, none⟩) 1 1) (nmTo lg R 0 [] 0) by
  have ho := World.ownsRow_lit (base := w.heap.size) (e := 9) (size := 1) w1 #[.string (bs lg)] 1 HB1.out.size (by decide) rfl
  rw [hw2]
  exact ho)
 obtain ⟨g2, hg2⟩ : ∃ g, g = w1.heap.size := ⟨_, rfl⟩
 rw [← hg2] at HO2
 have hs1 : w.heap.size + 1 = g2 := by rw [hg2, hw1]; simp
 clear hb2
 obtain ⟨u0, u1, u2, u3⟩ := HV2.out.cells
 rw [hw2] at u0 u1 u2 u3
 rw [← hs1] at HO2
 clear hs1
 go_enter Tryz.func160, Tryz.ntmps160
 go_wp2_with fail
 rw [← hw1]
 clear hw1
 go_wp2_with fail
 rw [← hw2]
 clear hw2 v0 v1 v2 v3 u0 u1 u2 u3 HB1 HV1 HV2 hg2
 go_loopw [14, 3] (fun i v wr => ∃ (k : Nat) (gv mv cv : Nat), k ≤ n ∧ i = .int .i64 k ∧ v = .slice (some ⟨gv, 0, none⟩) mv cv ∧ Hid (OwTx wr w.heap.size (.slice (some ⟨gv, 0, none⟩) mv cv) (nmTo lg R k [] 0)) ∧ Hid (Below w.heap.size w wr)) (fun i _ _ => n - (intOf i).toNat)
 case atStart => exact ⟨0, _, _, _, Nat.zero_le _, rfl, rfl, HO2, HB2⟩
 case round =>
  obtain ⟨k, gv, mv, cv, hk, rfl, rfl, hO, hB⟩ := hrel
  clear HO2 HB2
  by_cases hlt : k < n
  ·have hlt' : (k : Int) < n := by omega
   have hkl : k < R.length := by have := HN.out; omega
   obtain ⟨b, off, ax, nx', cx, rfl, q0, hRx, hnx⟩ := HR.out.cells hB.out k hkl
   have HX := hide hRx
   have HNX := hide hnx
   have HLX := hide (show nx' ≤ 100000 by have := cntW_one hkl; omega)
   have HCX := hide (show cntW R k ≤ 100000 from Nat.le_trans (cntW_le R k) hT)
   have HNE := hide (nmTo_next lg R k hkl [])
   have HO0 := hide (show OwTx wr w.heap.size (.slice (some ⟨gv, 0, none⟩) mv cv) (nmTo lg R k (R[k]).2 0) from hO.out)
   obtain ⟨X, hX⟩ : ∃ X, X = (R[k]).2 := ⟨_, rfl⟩
   rw [← hX] at HX HNX HNE HO0
   clear hRx hnx hX hO
   have hk2 := hk
   go_wp2_with fail
   go_loopw [20, 3] (fun i v wi => ∃ (j : Nat) (gv mv cv : Nat), j ≤ nx' ∧ i = .int .i64 j ∧ v = .slice (some ⟨gv, 0, none⟩) mv cv ∧ Hid (OwTx wi w.heap.size (.slice (some ⟨gv, 0, none⟩) mv cv) (nmTo lg R k X j)) ∧ Hid (Below w.heap.size w wi)) (fun i _ _ => nx' - (intOf i).toNat)
   case atStart => exact ⟨0, gv, mv, cv, Nat.zero_le _, rfl, rfl, HO0, hB⟩
   case round =>
    obtain ⟨j, g3, m3, c3, hj, rfl, rfl, hO, hB3⟩ := hrel
    clear HO0 hB q0
    by_cases jlt : j < nx'
    ·have jlt' : (j : Int) < nx' := by omega
     have hjl : j < X.length := by have := HNX.out; omega
     obtain ⟨bx, ox, rfl, p0, p1, p2, p3, p4⟩ := RdM.cells HX.out hB3.out j hjl
     have HT := hide (nmTo_s lg R k X j hjl)
     have HLN := hide (nmTo_len lg R k X j (by omega))
     obtain ⟨x, hx⟩ : ∃ x, x = X[j] := ⟨_, rfl⟩
     rw [← hx] at p0 p1 p2 p3 p4 HT
     clear hx
     obtain ⟨w4, hw4⟩ : ∃ w4, w4 = wr.alloc (.cells #[.string (bs x.1), .int .i64 x.2.1, .int .i64 x.2.2.1, .string (bs (Mlo x)), .string (bs (Mhi x))] 124) := ⟨_, rfl⟩
     have hb4 : Below wr.heap.size wr w4 := by rw [hw4]; exact (Below.refl _ _).alloc (Nat.le_refl _) _
     obtain ⟨x0, x1, x2, x3, x4⟩ := (show MvAt w4 wr.heap.size x by rw [hw4]; exact MvAt.new wr x).cells
     have hlx := HLX.out
     have hm3 : m3 = (nmTo lg R k X j).length := OwTx.rd hO.out |>.len
     obtain ⟨g, cg, w5, hrun, ho5, hb5⟩ := app_txV (hO.out.carry hb4) (Nat.le_trans hB3.out.size hb4.size) (by rw [HLN.out]; have := HCX.out; have := HLX.out; omega) x.1
     rw [← HT.out] at ho5
     have hs2 : w4.heap.size = wr.heap.size + 1 := by rw [hw4]; simp
     rw [hs2] at hrun
     obtain ⟨m5, hm5⟩ : ∃ m5, m5 = (nmTo lg R k X j).length + 1 := ⟨_, rfl⟩
     rw [← hm5] at hrun ho5
     have HO5 := hide ho5
     have HB5 := hide (show Below w.heap.size w w5 from (hB3.out.trans (hb4.mono hB3.out.size)).trans hb5)
     clear ho5 hb5 hb4 hO hB3 HT HLN hs2 hm5 hm3
     rw [hw4] at hrun x0 x1 x2 x3 x4
     clear hw4
     go_wp2_with (first | (at_builtin; refine wpList_runappY rfl (.tmp 24) (.tmp 27) 48 rfl rfl rfl rfl hrun ?_) | fail)
     go_roundw
     case rel => exact ⟨j + 1, _, _, _, by omega, by go_num, rfl, HO5, HB5⟩
     case measure => simp only [intOf]; omega
    ·have jd : decide ((j : Int) < nx') = false := by simpa using (by omega : ¬ (j : Int) < nx')
     have HO5 := hide (show OwTx wr w.heap.size (.slice (some ⟨g3, 0, none⟩) m3 c3) (nmTo lg R (k + 1) [] 0) by
      rw [HNE.out, ← HNX.out]
      have : j = nx' := by omega
      rw [← this]; exact hO.out)
     go_wp2_with fail
     go_roundw
     case rel => exact ⟨k + 1, _, _, _, by omega, by go_num, rfl, HO5, hB3⟩
     case measure => simp only [intOf]; omega
  ·have hd : decide ((k : Int) < n) = false := by simpa using (by omega : ¬ (k : Int) < n)
   have hkn : k = R.length := by have := HN.out; omega
   have HO := hide (show OwTx wr w.heap.size (.slice (some ⟨gv, 0, none⟩) mv cv) (nmsV (lvs R, nx, sq, lg)) by rw [← nmTo_all lg R [] nx sq, ← hkn]; exact hO.out)
   have hmv : mv ≤ 1000000 := by
    have h1 := OwTx.rd HO.out |>.len
    unfold nmsV at h1
    simp only [List.length_cons, List.length_map] at h1
    omega
   have hc := sort_vn gv mv cv w.heap.size _ wr HO.out hB.out.size hmv
   clear hO
   go_wp2_with fail
   refine hc.mono ?_
   rintro e w6 ⟨rfl, o6, b6⟩
   have HO6 := hide o6
   have HB6 := hide (hB.out.trans b6)
   clear hc o6 b6 hlt hd hk hkn hmv
   go_wp2
   go_ret
   exact ⟨_, _, _, rfl, HO6.out, HB6.out⟩
theorem tooMany_vn (a : Option Addr) (n c : Nat) (R : Lvs) (nx sq : Int) (lg : List UInt8) (w : World) (hrd : RdVw w (.slice a n c) R) (hn : n ≤ 1000) (hT : (lvs R).flatten.length ≤ 100000) :
  Calls Tryz.prog 82 #[.agg #[.slice a n c, .int .i64 nx, .int .i64 sq, .string (bs lg)]] w fun e w' => e = .returned (.bool (decide (32 < (lvs R).flatten.length))) ∧ Below w.heap.size w w' := by
 have HN := hide hrd.len
 have HR := hide hrd
 clear hrd
 obtain ⟨w1, hw1⟩ : ∃ w1, w1 = w.alloc (.cells #[.slice a n c, .int .i64 nx, .int .i64 sq, .string (bs lg)] 36) := ⟨_, rfl⟩
 have HB1 := hide (show Below w.heap.size w w1 by rw [hw1]; exact (Below.refl _ _).alloc (Nat.le_refl _) _)
 have HV1 := hide (show VvAt w1 w.heap.size (.slice a n c) nx sq lg by rw [hw1]; exact VvAt.new w _ nx sq lg)
 obtain ⟨v0, v1, v2, v3⟩ := HV1.out.cells
 go_enter Tryz.func82, Tryz.ntmps82
 go_wp2_with fail
 rw [← hw1]
 clear hw1
 go_wp2_with fail
 clear v0 v1 v2 v3 HV1
 go_loopw [9, 3] (fun i v wr => ∃ (k : Nat), k ≤ n ∧ i = .int .i64 k ∧ v = .int .i64 (cntW R k) ∧ Hid (cntW R k ≤ 32) ∧ Hid (Below w.heap.size w wr)) (fun i _ _ => n - (intOf i).toNat)
 case atStart => exact ⟨0, Nat.zero_le _, rfl, by rw [cntW_0]; rfl, hide (by rw [cntW_0]; omega), HB1⟩
 case round =>
  obtain ⟨k, hk, rfl, rfl, hC, hB⟩ := hrel
  clear HB1
  by_cases hlt : k < n
  ·have hlt' : (k : Int) < n := by omega
   have hkl : k < R.length := by have := HN.out; omega
   obtain ⟨b, off, ax, nx', cx, rfl, q0, hRx, hnx⟩ := HR.out.cells hB.out k hkl
   have HS := hide (cntW_s R k hkl)
   have HLE := hide (cntW_le R (k + 1))
   have hLX : nx' ≤ 100000 := by have := cntW_one hkl; omega
   obtain ⟨N, hN⟩ : ∃ N, N = cntW R (k + 1) := ⟨_, rfl⟩
   obtain ⟨M, hM⟩ : ∃ M, M = cntW R k := ⟨_, rfl⟩
   rw [← hM] at HS hC ⊢
   rw [← hN, ← hnx] at HS
   rw [← hN] at HLE
   have hM32 : M ≤ 32 := hC.out
   have hw : IntKind.i64.wrap ((M : Int) + nx') = (N : Int) := by rw [IntKind.wrap_i64, HS.out]; omega
   have HNe := hide hN
   clear hRx hnx hC hM hN
   by_cases h32 : 32 < N
   ·have h32' : (32 : Int) < N := by omega
    have HE := hide (show decide (32 < (lvs R).flatten.length) = true from decide_eq_true (by have := HLE.out; omega))
    clear h32 hM32
    go_wp2
    go_ret
    exact ⟨ret_boolB HE.out.symm, hB.out⟩
   ·have h32' : decide ((32 : Int) < N) = false := by simpa using (by omega : ¬ (32 : Int) < N)
    have HC := hide (show cntW R (k + 1) ≤ 32 by rw [← HNe.out]; omega)
    clear hM32 h32
    go_wp2
    go_roundw
    case rel => exact ⟨k + 1, by omega, by go_num, by rw [HNe.out], HC, hB⟩
    case measure => simp only [intOf]; omega
  ·have hd : decide ((k : Int) < n) = false := by simpa using (by omega : ¬ (k : Int) < n)
   have HE := hide (show decide (32 < (lvs R).flatten.length) = false by
    refine decide_eq_false (Nat.not_lt.2 ?_)
    have h1 := hC.out
    have h2 := cntW_all R
    have : k = R.length := by have := HN.out; omega
    rw [this, h2] at h1
    exact h1)
   clear hC
   go_wp2
   go_ret
   exact ⟨ret_boolB HE.out.symm, hB.out⟩
theorem ltS_is (a b : List UInt8) : ltS a b = decide (a < b) := bytesLess_eq a b
theorem srtS_pair (ks : List (List UInt8)) : (srtS ks).Pairwise (fun a b => ltS b a = false) := by
 have tr : ∀ a b c : List UInt8, decide (a ≤ b) = true → decide (b ≤ c) = true → decide (a ≤ c) = true := fun a b c h1 h2 => by simp only [decide_eq_true_eq] at *; exact List.le_trans h1 h2
 have to : ∀ a b : List UInt8, (decide (a ≤ b) || decide (b ≤ a)) = true := fun a b => by simp only [Bool.or_eq_true, decide_eq_true_eq]; exact List.le_total a b
 refine (List.pairwise_mergeSort tr to ks).imp fun {a b} h => ?_
 rw [ltS_is, decide_eq_false_iff_not]
 exact List.not_lt.2 (of_decide_eq_true h)
theorem srtS_perm (ks : List (List UInt8)) : (srtS ks).Perm ks := List.mergeSort_perm _ _
theorem ris_strict : ∀ {l : List (List UInt8)}, l.Pairwise (fun a b => ltS b a = false) → risB neS l = true → l.Pairwise (fun a b => ltS a b = true)
 | [], _, _ => List.Pairwise.nil
 | [x], _, _ => List.pairwise_singleton _ _
 | x :: y :: r, h, hr => by
  rw [risB, Bool.and_eq_true] at hr
  have h1 := List.pairwise_cons.1 h
  have ih := ris_strict h1.2 hr.2
  have hxy : ltS x y = true := by
   rcases ltS_total x y with q | q | q
   ·exact q
   ·have := hr.1; unfold neS at this; simp [q] at this
   ·have := h1.1 y (by simp); rw [q] at this; cases this
  refine List.pairwise_cons.2 ⟨fun z hz => ?_, ih⟩
  rcases List.mem_cons.1 hz with rfl | hz
  ·exact hxy
  ·exact ltS_trans hxy ((List.pairwise_cons.1 ih).1 z hz)
theorem ris_nodup (ks : List (List UInt8)) : risB neS (srtS ks) = decide ks.Nodup := by
 rw [Bool.eq_iff_iff, decide_eq_true_iff]
 constructor
 ·intro h
  have := ris_strict (srtS_pair ks) h
  refine (srtS_perm ks).nodup_iff.1 (this.imp fun {a b} q e => ?_)
  rw [e, ltS_irrefl] at q; cases q
 ·intro h
  have hn := (srtS_perm ks).nodup_iff.2 h
  rw [risB_iff]
  intro i hi
  unfold neS
  simp only [Bool.not_eq_true', decide_eq_false_iff_not]
  intro e
  exact List.pairwise_iff_getElem.1 hn i (i + 1) (by omega) hi (by omega) e.symm
def LvTo (R : Lvs) (k : Nat) : Prop := ∀ i, i < k → (h : i < R.length) → (R[i]).2.all mtO = true ∧ (0 < i → risB abvM (R[i]).2 = true)
theorem LvTo.next {R : Lvs} {k : Nat} (h : LvTo R k) (hk : k < R.length) (h1 : (R[k]).2.all mtO = true) (h2 : 0 < k → risB abvM (R[k]).2 = true) : LvTo R (k + 1) := by
 intro i hi hl
 rcases Nat.lt_or_ge i k with q | q
 ·exact h i q hl
 ·obtain rfl : i = k := by omega
  exact ⟨h1, h2⟩
theorem LvTo.all {R : Lvs} (h : LvTo R R.length) : lvlO (lvs R) = true := by
 rw [lvlO_iff]
 constructor
 ·intro l hl m hm
  obtain ⟨p, hp, rfl⟩ := List.mem_map.1 hl
  obtain ⟨i, hi, rfl⟩ := List.mem_iff_getElem.1 hp
  exact List.all_eq_true.1 (h i hi hi).1 m hm
 ·intro k hk h0
  rw [lvs_len] at hk
  rw [lvs_get hk]
  exact (h k hk hk).2 h0
theorem lvl_bad1 {R : Lvs} {k : Nat} (hk : k < R.length) (h1 : (R[k]).2.all mtO = false) : lvlO (lvs R) = false := by
 rw [← Bool.not_eq_true, lvlO_iff]
 rintro ⟨h, -⟩
 have : (R[k]).2.all mtO = true := List.all_eq_true.2 (h _ (List.mem_map.2 ⟨R[k], List.getElem_mem hk, rfl⟩))
 rw [this] at h1; cases h1
theorem lvl_bad2 {R : Lvs} {k : Nat} (hk : k < R.length) (h0 : 0 < k) (h1 : risB abvM (R[k]).2 = false) : lvlO (lvs R) = false := by
 rw [← Bool.not_eq_true, lvlO_iff]
 rintro ⟨-, h⟩
 have := h k (by rw [lvs_len]; exact hk) h0
 rw [lvs_get hk, h1] at this; cases this
theorem may_lvl {V : Vrs} (h : lvlO V.1 = false) : mayV V = false := by
 rw [← Bool.not_eq_true, mayV_iff]
 rintro ⟨-, -, -, q, -⟩
 rw [h] at q; cases q
theorem may_last {V : Vrs} (h1 : V.1.length = 4) (h2 : txO V.2.2.2 16 = true) (h3 : numO V = true) (h4 : lvlO V.1 = true) : mayV V = decide (nmsV V).Nodup := by
 unfold mayV
 rw [h2, h3, h4]; simp [h1]
theorem numO_iff {V : Vrs} : numO V = true ↔ 1 ≤ V.2.1 ∧ V.2.1 ≤ 1099511627776 ∧ 0 ≤ V.2.2.1 ∧ V.2.2.1 ≤ 1099511627776 := by unfold numO; simp [and_assoc]
theorem mayBe_vn (a : Option Addr) (n c : Nat) (R : Lvs) (nx sq : Int) (lg : List UInt8) (w : World) (hrd : RdVw w (.slice a n c) R) (hn : n ≤ 1000) (hT : (lvs R).flatten.length ≤ 100000) :
  Calls Tryz.prog 83 #[.agg #[.slice a n c, .int .i64 nx, .int .i64 sq, .string (bs lg)]] w fun e w' => e = .returned (.bool (mayV (lvs R, nx, sq, lg))) ∧ Below w.heap.size w w' := by
 have HN := hide hrd.len
 have HR := hide hrd
 obtain ⟨w1, hw1⟩ : ∃ w1, w1 = w.alloc (.cells #[.slice a n c, .int .i64 nx, .int .i64 sq, .string (bs lg)] 36) := ⟨_, rfl⟩
 have hb1 : Below w.heap.size w w1 := by rw [hw1]; exact (Below.refl _ _).alloc (Nat.le_refl _) _
 have HB1 := hide hb1
 have HV1 := hide (show VvAt w1 w.heap.size (.slice a n c) nx sq lg by rw [hw1]; exact VvAt.new w _ nx sq lg)
 have HI := hide (mayV_iff (V := (lvs R, nx, sq, lg)))
 have HU := hide (numO_iff (V := (lvs R, nx, sq, lg)))
 have HL4 := hide (lvs_len R)
 have HTF := hide hT
 simp only at HI HU
 obtain ⟨V, hV⟩ : ∃ V, V = (lvs R, nx, sq, lg) := ⟨_, rfl⟩
 rw [← hV] at HI HU ⊢
 have HV := hide hV
 clear hV hb1 hrd hT
 obtain ⟨v0, v1, v2, v3⟩ := HV1.out.cells
 by_cases c0 : n = 4
 rotate_left
 ·skip
  have d0 : ((n : Int) != 4) = true := by simpa using (by omega : ¬ (n : Int) = 4)
  have HE := hide (show mayV V = false by rw [← Bool.not_eq_true, HI.out]; rintro ⟨q, -⟩; rw [HL4.out, ← HN.out] at q; exact c0 q)
  go_enter Tryz.func83, Tryz.ntmps83
  go_wp2_with fail
  rw [← hw1]
  clear hw1
  go_wp2_with (go_at_call 81; refine (name_vn _ _).mono ?_; rintro e wc ⟨rfl, rfl⟩)
  go_ret
  exact ⟨ret_boolB HE.out.symm, HB1.out⟩
 subst c0
 cases htx : txO lg 16 with
 | false =>
  have HE := hide (show mayV V = false by rw [← Bool.not_eq_true, HI.out]; rintro ⟨-, q, -⟩; rw [htx] at q; cases q)
  go_enter Tryz.func83, Tryz.ntmps83
  go_wp2_with fail
  rw [← hw1]
  clear hw1
  go_wp2_with (go_at_call 81; refine (name_vn _ _).mono ?_; rintro e wc ⟨rfl, rfl⟩)
  go_ret
  exact ⟨ret_boolB HE.out.symm, HB1.out⟩
 | true =>
 by_cases c2 : 1 ≤ nx
 rotate_left
 ·skip
  have d2 : nx < 1 := by omega
  have HE := hide (show mayV V = false by rw [← Bool.not_eq_true, HI.out]; rintro ⟨-, -, q, -⟩; rw [HU.out] at q; omega)
  go_enter Tryz.func83, Tryz.ntmps83
  go_wp2_with fail
  rw [← hw1]
  clear hw1
  go_wp2_with (go_at_call 81; refine (name_vn _ _).mono ?_; rintro e wc ⟨rfl, rfl⟩)
  go_ret
  exact ⟨ret_boolB HE.out.symm, HB1.out⟩
 have d2 : decide (nx < 1) = false := by simpa using c2
 by_cases c3 : nx ≤ 1099511627776
 rotate_left
 ·skip
  have d3 : 1099511627776 < nx := by omega
  have HE := hide (show mayV V = false by rw [← Bool.not_eq_true, HI.out]; rintro ⟨-, -, q, -⟩; rw [HU.out] at q; omega)
  go_enter Tryz.func83, Tryz.ntmps83
  go_wp2_with fail
  rw [← hw1]
  clear hw1
  go_wp2_with (go_at_call 81; refine (name_vn _ _).mono ?_; rintro e wc ⟨rfl, rfl⟩)
  go_ret
  exact ⟨ret_boolB HE.out.symm, HB1.out⟩
 have d3 : decide (1099511627776 < nx) = false := by simpa using c3
 by_cases c4 : 0 ≤ sq
 rotate_left
 ·skip
  have d4 : sq < 0 := by omega
  have HE := hide (show mayV V = false by rw [← Bool.not_eq_true, HI.out]; rintro ⟨-, -, q, -⟩; rw [HU.out] at q; omega)
  go_enter Tryz.func83, Tryz.ntmps83
  go_wp2_with fail
  rw [← hw1]
  clear hw1
  go_wp2_with (go_at_call 81; refine (name_vn _ _).mono ?_; rintro e wc ⟨rfl, rfl⟩)
  go_ret
  exact ⟨ret_boolB HE.out.symm, HB1.out⟩
 have d4 : decide (sq < 0) = false := by simpa using c4
 by_cases c5 : sq ≤ 1099511627776
 rotate_left
 ·skip
  have d5 : 1099511627776 < sq := by omega
  have HE := hide (show mayV V = false by rw [← Bool.not_eq_true, HI.out]; rintro ⟨-, -, q, -⟩; rw [HU.out] at q; omega)
  go_enter Tryz.func83, Tryz.ntmps83
  go_wp2_with fail
  rw [← hw1]
  clear hw1
  go_wp2_with (go_at_call 81; refine (name_vn _ _).mono ?_; rintro e wc ⟨rfl, rfl⟩)
  go_ret
  exact ⟨ret_boolB HE.out.symm, HB1.out⟩
 have d5 : decide (1099511627776 < sq) = false := by simpa using c5
 have HNU := hide (show numO V = true by rw [HU.out]; exact ⟨c2, c3, c4, c5⟩)
 have HTX := hide htx
 go_enter Tryz.func83, Tryz.ntmps83
 go_wp2_with fail
 rw [← hw1]
 clear hw1
 go_wp2_with (go_at_call 81; refine (name_vn _ _).mono ?_; rintro e wc ⟨rfl, rfl⟩)
 clear v0 v1 v2 v3 c2 c3 c4 c5 d2 d3 d4 d5 htx
 go_loopw [38] (fun i wr => ∃ k : Nat, k ≤ 4 ∧ i = .int .i64 k ∧ Hid (LvTo R k) ∧ Hid (VvAt wr w.heap.size (.slice a 4 c) nx sq lg) ∧ Hid (Below w.heap.size w wr)) (fun i _ => 4 - (intOf i).toNat)
 case atStart => exact ⟨0, Nat.zero_le _, rfl, hide (fun i hi => by omega), HV1, HB1⟩
 case round =>
  obtain ⟨k, hk, rfl, hL, hVW, hB⟩ := hrel
  clear HB1 HV1
  by_cases hlt : k < 4
  ·have hlt' : (k : Int) < 4 := by omega
   have hkl : k < R.length := by have := HN.out; omega
   obtain ⟨b, off, ax, nx', cx, rfl, q0, hRx, hnx⟩ := HR.out.cells hB.out k hkl
   have HX := hide hRx
   have hnx5 : nx' ≤ 1000000 := by have := cntW_one hkl; have := HTF.out; omega
   have HBAD1 := hide (fun h => lvl_bad1 hkl h)
   have HBAD2 := hide (fun h h0 => lvl_bad2 hkl h h0)
   have HNEXT := hide (fun h1 h2 => hL.out.next hkl h1 h2)
   obtain ⟨X, hX⟩ : ∃ X, X = (R[k]).2 := ⟨_, rfl⟩
   rw [← hX] at HX HBAD1 HBAD2 HNEXT
   clear hRx hnx hX hL
   have hc := tables_vn ax nx' cx X wr (HX.out.carry hB.out) hnx5
   go_wp2_with fail
   refine hc.mono ?_
   rintro e w4 ⟨rfl, b4⟩
   have HB4 := hide (hB.out.trans (b4.mono hB.out.size))
   have HV4 := hide (hVW.out.carry b4)
   clear hc b4 hB hVW q0
   cases ht : X.all mtO with
   | false =>
    have HE := hide (show mayV V = false from may_lvl (by rw [HV.out]; exact HBAD1.out ht))
    clear HBAD1 HBAD2 HNEXT
    go_wp2
    go_ret
    exact ⟨ret_boolB HE.out.symm, HB4.out⟩
   | true =>
    by_cases hk0 : 0 < k
    ·have hk0' : (0 : Int) < k := by omega
     have hc := risM_vn ax nx' cx X w4 (HX.out.carry HB4.out) hnx5
     go_wp2_with fail
     refine hc.mono ?_
     rintro e w5 ⟨rfl, b5⟩
     have HB5 := hide (HB4.out.trans (b5.mono HB4.out.size))
     have HV5 := hide (HV4.out.carry b5)
     clear hc b5 HB4 HV4
     cases hr : risB abvM X with
     | false =>
      have HE := hide (show mayV V = false from may_lvl (by rw [HV.out]; exact HBAD2.out hk0 hr))
      clear HBAD1 HBAD2 HNEXT
      go_wp2
      go_ret
      exact ⟨ret_boolB HE.out.symm, HB5.out⟩
     | true =>
      have HL := hide (HNEXT.out ht (fun _ => hr))
      clear HBAD1 HBAD2 HNEXT
      go_wp2
      go_roundw
      case rel => exact ⟨k + 1, by omega, by go_num, HL, HV5, HB5⟩
      case measure => simp only [intOf]; omega
    ·obtain rfl : k = 0 := by omega
     have HL := hide (HNEXT.out ht (fun h => by omega))
     clear HBAD1 HBAD2 HNEXT
     go_wp2
     go_roundw
     case rel => exact ⟨1, by omega, rfl, HL, HV4, HB4⟩
     case measure => simp only [intOf]; omega
  ·have hd : decide ((k : Int) < 4) = false := by simpa using (by omega : ¬ (k : Int) < 4)
   obtain rfl : k = 4 := by omega
   have HLA := hide (show lvlO (lvs R) = true by have h := hL.out; have e := HN.out; rw [e] at h; exact h.all)
   have HE := hide (show mayV V = decide (nmsV V).Nodup from may_last (by rw [HV.out]; show (lvs R).length = 4; rw [HL4.out, ← HN.out]) (by rw [HV.out]; exact HTX.out) HNU.out (by rw [HV.out]; exact HLA.out))
   obtain ⟨v0, v1, v2, v3⟩ := hVW.out.cells
   have hc := names_vn a 4 c R nx sq lg wr (HR.out.carry hB.out) hn HTF.out
   rw [← HV.out] at hc
   clear hL
   go_wp2_with fail
   refine hc.mono ?_
   rintro e w5 ⟨g5, m5, c5, rfl, o5, b5⟩
   have HB5 := hide (hB.out.trans (b5.mono hB.out.size))
   have hm5 : m5 ≤ 1000000 := by
    have h1 := OwTx.rd o5 |>.len
    rw [List.length_mergeSort] at h1
    rw [HV.out] at h1
    unfold nmsV at h1
    simp only [List.length_cons, List.length_map] at h1
    have := HTF.out
    omega
   have hc2 := risT_vn _ m5 c5 _ w5 o5.rd hm5
   rw [ris_nodup, ← HE.out] at hc2
   clear hc o5 b5 v0 v1 v2 v3 hlt hd hB hVW
   go_wp2_with fail
   refine hc2.mono ?_
   rintro e w6 ⟨rfl, b6⟩
   have HB6 := hide (HB5.out.trans (b6.mono HB5.out.size))
   clear hc2 b6
   go_wp2
   go_ret
   exact ⟨rfl, HB6.out⟩
theorem check_vn (a : Option Addr) (n c : Nat) (R : Lvs) (nx sq : Int) (lg : List UInt8) (w : World) (hrd : RdVw w (.slice a n c) R) (hn : n ≤ 1000) (hT : (lvs R).flatten.length ≤ 100000) :
  Calls Tryz.prog 35 #[.agg #[.slice a n c, .int .i64 nx, .int .i64 sq, .string (bs lg)]] w fun e w' => e = .returned (.int .i64 (chkV (lvs R, nx, sq, lg))) ∧ Below w.heap.size w w' := by
 have HN := hide hrd.len
 have HR := hide hrd
 obtain ⟨w1, hw1⟩ : ∃ w1, w1 = w.alloc (.cells #[.slice a n c, .int .i64 nx, .int .i64 sq, .string (bs lg)] 36) := ⟨_, rfl⟩
 have hb1 : Below w.heap.size w w1 := by rw [hw1]; exact (Below.refl _ _).alloc (Nat.le_refl _) _
 have HB1 := hide hb1
 have HV1 := hide (show VvAt w1 w.heap.size (.slice a n c) nx sq lg by rw [hw1]; exact VvAt.new w _ nx sq lg)
 obtain ⟨v0, v1, v2, v3⟩ := HV1.out.cells
 have hc := tooMany_vn a n c R nx sq lg w1 (hrd.carry hb1) hn hT
 have HCK := hide (show chkV (lvs R, nx, sq, lg) = if 32 < (lvs R).flatten.length then 4 else if mayV (lvs R, nx, sq, lg) then 0 else 8 from rfl)
 have HTF := hide hT
 clear hb1 hrd hT
 obtain ⟨V, hV⟩ : ∃ V, V = (lvs R, nx, sq, lg) := ⟨_, rfl⟩
 rw [← hV] at HCK ⊢
 have HV := hide hV
 clear hV
 go_enter Tryz.func35, Tryz.ntmps35
 go_wp2_with fail
 rw [← hw1]
 clear hw1
 go_wp2_with fail
 refine hc.mono ?_
 rintro e w2 ⟨rfl, b2⟩
 have HB2 := hide (HB1.out.trans (b2.mono HB1.out.size))
 have HV2 := hide (HV1.out.carry b2)
 clear hc b2 v0 v1 v2 v3 HV1 HB1
 by_cases h32 : 32 < (lvs R).flatten.length
 ·have HE := hide (show chkV V = 4 by rw [HCK.out, if_pos h32])
  rw [decide_eq_true h32]
  clear h32
  go_wp2
  go_ret
  exact ⟨ret_i64B HE.out.symm, HB2.out⟩
 ·have HE := hide (show chkV V = if mayV V then 0 else 8 by rw [HCK.out, if_neg h32])
  rw [decide_eq_false h32]
  clear h32
  obtain ⟨v0, v1, v2, v3⟩ := HV2.out.cells
  have hc := mayBe_vn a n c R nx sq lg w2 (HR.out.carry HB2.out) hn HTF.out
  rw [← HV.out] at hc
  go_wp2_with fail
  refine hc.mono ?_
  rintro e w3 ⟨rfl, b3⟩
  have HB3 := hide (HB2.out.trans (b3.mono HB2.out.size))
  clear hc b3 v0 v1 v2 v3 HV2 HB2
  cases hm : mayV V with
  | true =>
   have HE2 := hide (show chkV V = 0 by rw [HE.out, hm]; rfl)
   go_wp2
   go_ret
   exact ⟨ret_i64B HE2.out.symm, HB3.out⟩
  | false =>
   have HE2 := hide (show chkV V = 8 by rw [HE.out, hm]; rfl)
   go_wp2
   go_ret
   exact ⟨ret_i64B HE2.out.symm, HB3.out⟩
end Go.Proofs.YtmeaiocohalphaaGreatDoor

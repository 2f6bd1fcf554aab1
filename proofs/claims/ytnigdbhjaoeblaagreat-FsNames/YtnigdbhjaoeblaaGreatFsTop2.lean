/-
  Commit, Put of files on a disk.
-/
import Derived.Test.YtnigdbhjaoeblaaGreatMathFs2
namespace Go.Proofs.YtnigdbhjaoeblaaGreat
open Go.RowKit
set_option linter.unusedVariables false
set_option linter.unusedSimpArgs false

set_option maxHeartbeats 1000000 in
set_option maxRecDepth 100000 in
theorem commit_fs (x : FsV) (f : Fsd) (w : World) (h : RdX w x f) (hw : WfX f) :
    Calls Tryz.prog 18 #[x.val] w fun e w' => ∃ v, e = .returned (.tuple #[v, .int .i64 (commitFs f).2]) ∧ OwFs w' w.heap.size v (commitFs f).1 ∧ Below w.heap.size w w' := by
  obtain ⟨w1, ew⟩ : ∃ w1, (w.alloc (.cells x.cs 33)).alloc (.cells #[.slice none 0 0, .slice none 0 0, .slice none 0 0, .int .u32 0, .slice none 0 0, .slice none 0 0] 33) = w1 := ⟨_, rfl⟩
  have HX := hide h
  have HW := hide hw
  clear h hw
  have q0 : Below w.heap.size w (w.alloc (.cells x.cs 33)) := (Below.refl _ _).alloc (Nat.le_refl _) _
  have F0 : FsAt (w.alloc (.cells x.cs 33)) w.heap.size x := Bq.new _ _ _
  have q9 : Below ((w.alloc (.cells x.cs 33))).heap.size (w.alloc (.cells x.cs 33)) w1 := by rw [← ew]; exact (Below.refl _ _).alloc (Nat.le_refl _) _
  have HFB_w1 := hide (show FsB w1 (w.heap.size + 1) by have := FsB.new (w.alloc (.cells x.cs 33)); rw [← ew]; simpa using this)
  have b0 := q0
  have b9 := b0.trans (q9.mono b0.size)
  have HB_w1 := hide b9
  have HF_w1 := hide ((F0).carry q9)
  have HSZ := hide (show w1.heap.size = w.heap.size + 2 by rw [← ew]; simp)
  clear F0 q0 q9 b9 b0 
  unfold FsV.val
  unfold FsV.cs at ew
  obtain ⟨k0, k1, k2, k3, k4, k5⟩ := fs_cells HF_w1.out
  go_enter Tryz.func18, Tryz.ntmps18
  go_wp2_with fail
  try rw [ew]
  refine (begin_fs x f w1 (HX.out.carry HB_w1.out) HW.out).mono ?_
  rintro e w2 ⟨p, rfl, hp, hs2, hb2⟩
  have hpp : w.heap.size + 2 ≤ p := by have := HSZ.out; omega
  have HFB_w2 := hide (HFB_w1.out.carry hb2)
  have HB_w2 := hide (show Below w.heap.size w w2 from HB_w1.out.trans (hb2.mono HB_w1.out.size))
  have HS_w2 := hide (show WayS w2 p w.heap.size false (beginW f) by obtain ⟨y1, y2, y3, y4, y5, y6, y7, y8⟩ := hs2; exact ⟨y1, y2, y3, y4, y5, y6, y7, fun w' hg => ⟨(y8 w' hg).1, (y8 w' hg).2.1, fun h => by cases h⟩⟩)
  clear hs2 hb2 hp ew k0 k1 k2 k3 k4 k5
  go_wp2_with fail
  refine (commit_way p w.heap.size false (beginW f) w2 HS_w2.out (by omega)).mono ?_
  rintro e w3 ⟨rfl, hs3, hg3⟩
  have HFB_w3 := hide (HFB_w2.out.grown hg3 (by omega))
  have HB_w3 := hide (show Below w.heap.size w w3 from HB_w2.out.grown hg3 HB_w2.out.size (by intro k hk; cases hk; omega))
  have hen := end_way p w.heap.size _ w3 hs3 HB_w3.out.size (commit_small f)
  rw [show endW (commitW (beginW f)) = commitFs f from rfl] at hen
  clear hs3 hg3 HS_w2 HB_w2 HFB_w2
  go_wp2_with fail
  refine hen.mono ?_
  rintro e w4 ⟨v9, rfl, ho9, hb9⟩
  have HFB_w4 := hide (HFB_w3.out.carry hb9)
  have HB_w4 := hide (show Below w.heap.size w w4 from HB_w3.out.trans (hb9.mono HB_w3.out.size))
  clear hen hb9
  obtain ⟨x9, e9, -⟩ := ho9.form
  subst e9
  have HST := hide (ho9.stored (r := w.heap.size + 1) HFB_w4.out HB_w4.out (by omega))
  obtain ⟨⟨d0, e0⟩, ⟨d1, e1⟩, ⟨d2, e2⟩, ⟨d3, e3⟩, ⟨d4, e4⟩, ⟨d5, e5⟩, ff⟩ := HFB_w4.out.cells
  have f0 := ff 0
  have f1 := ff 1
  have f2 := ff 2
  have f3 := ff 3
  have f4 := ff 4
  have f5 := ff 5
  clear ff ho9
  unfold FsV.val
  go_wp2
  obtain ⟨w9, hw9⟩ : ∃ w9, w9 = set6 w4 (w.heap.size + 1) x9 := ⟨_, rfl⟩
  rw [← hw9] at HST
  unfold set6 at hw9
  rw [← hw9]
  clear e0 e1 e2 e3 e4 e5 f0 f1 f2 f3 f4 f5 hw9
  obtain ⟨z0, z1, z2, z3, z4, z5⟩ := fs_cells HST.out.2.2
  try simp only [Exit.inBlock, Exit.then]
  refine bodyPost_ret (v := .tuple #[x9.val, .int .i64 (commitFs f).2]) ?_ rfl ⟨_, rfl, HST.out.1, HST.out.2.1⟩
  simp [results, Tryz.results18, go_sem, *]

set_option maxHeartbeats 1000000 in
set_option maxRecDepth 100000 in
theorem put1_any (s : List UInt8) (i : Int) (ax : Option Addr) (nx cx : Nat) (l : List UInt8) (p base q1 q2 q3 q4 : Nat) (o : Bool) (y : Wy) (w : World) (h : WayS w p base o y) (hp : base ≤ p) (hx : Rd w (.slice ax nx cx) l)
    (h1 : w.cell? ⟨q1, 0, none⟩ = some (.pointer (some ⟨p, 0, none⟩))) (h2 : w.cell? ⟨q2, 0, none⟩ = some (.string (bs s))) (h3 : w.cell? ⟨q3, 0, none⟩ = some (.int .i64 i)) (h4 : w.cell? ⟨q4, 0, none⟩ = some (.slice ax nx cx)) :
    Calls Tryz.prog 83 #[.pointer (some ⟨q1, 0, none⟩), .pointer (some ⟨q2, 0, none⟩), .pointer (some ⟨q3, 0, none⟩), .pointer (some ⟨q4, 0, none⟩)] w fun e w' => e = .returned (.int .i64 (putW s i l y).2) ∧ ((putW s i l y).2 = 0 → WayS w' p base true (putW s i l y).1) ∧ WayS w' p base false (putW s i l y).1 ∧ w.grownBy w' (some p) := by
  have hpw := put_way s i ax nx cx l p base o y w h hp hx
  clear h hx
  go_enter Tryz.func83, Tryz.ntmps83
  go_wp2_with fail
  refine hpw.mono ?_
  rintro e w1 ⟨rfl, hs0, hs1, hg1⟩
  have H0 := hide hs0
  have H1 := hide hs1
  have H2 := hide hg1
  clear hs0 hs1 hg1 h1 h2 h3 h4
  go_wp2
  go_ret
  exact ⟨rfl, H0.out, H1.out, H2.out⟩

set_option maxHeartbeats 2000000 in
set_option maxRecDepth 100000 in
theorem put_fs (x : FsV) (f : Fsd) (s : List UInt8) (i : Int) (ax : Option Addr) (nx cx : Nat) (l : List UInt8) (w : World) (h : RdX w x f) (hw : WfX f) (hx : Rd w (.slice ax nx cx) l) :
    Calls Tryz.prog 23 #[x.val, .string (bs s), .int .i64 i, .slice ax nx cx] w fun e w' => ∃ v, e = .returned (.tuple #[v, .int .i64 (putFs f s i l).2]) ∧ OwFs w' w.heap.size v (putFs f s i l).1 ∧ Below w.heap.size w w' := by
  have HRX := hide hx
  clear hx
  obtain ⟨w1, ew⟩ : ∃ w1, ((((w.alloc (.cells x.cs 33)).alloc (.cells #[.string (bs s)] 9)).alloc (.cells #[.int .i64 i] 3)).alloc (.cells #[.slice ax nx cx] 23)).alloc (.cells #[.slice none 0 0, .slice none 0 0, .slice none 0 0, .int .u32 0, .slice none 0 0, .slice none 0 0] 33) = w1 := ⟨_, rfl⟩
  have HX := hide h
  have HW := hide hw
  clear h hw
  have q0 : Below w.heap.size w (w.alloc (.cells x.cs 33)) := (Below.refl _ _).alloc (Nat.le_refl _) _
  have F0 : FsAt (w.alloc (.cells x.cs 33)) w.heap.size x := Bq.new _ _ _
  have q1 : Below ((w.alloc (.cells x.cs 33))).heap.size (w.alloc (.cells x.cs 33)) ((w.alloc (.cells x.cs 33)).alloc (.cells #[.string (bs s)] 9)) := (Below.refl _ _).alloc (Nat.le_refl _) _
  have C0 : Bq ((w.alloc (.cells x.cs 33)).alloc (.cells #[.string (bs s)] 9)) (w.heap.size + 1) 9 #[.string (bs s)] := by have := Bq.new (w.alloc (.cells x.cs 33)) 9 #[.string (bs s)]; simpa using this
  have q2 : Below (((w.alloc (.cells x.cs 33)).alloc (.cells #[.string (bs s)] 9))).heap.size ((w.alloc (.cells x.cs 33)).alloc (.cells #[.string (bs s)] 9)) (((w.alloc (.cells x.cs 33)).alloc (.cells #[.string (bs s)] 9)).alloc (.cells #[.int .i64 i] 3)) := (Below.refl _ _).alloc (Nat.le_refl _) _
  have C1 : Bq (((w.alloc (.cells x.cs 33)).alloc (.cells #[.string (bs s)] 9)).alloc (.cells #[.int .i64 i] 3)) (w.heap.size + 2) 3 #[.int .i64 i] := by have := Bq.new ((w.alloc (.cells x.cs 33)).alloc (.cells #[.string (bs s)] 9)) 3 #[.int .i64 i]; simpa using this
  have q3 : Below ((((w.alloc (.cells x.cs 33)).alloc (.cells #[.string (bs s)] 9)).alloc (.cells #[.int .i64 i] 3))).heap.size (((w.alloc (.cells x.cs 33)).alloc (.cells #[.string (bs s)] 9)).alloc (.cells #[.int .i64 i] 3)) ((((w.alloc (.cells x.cs 33)).alloc (.cells #[.string (bs s)] 9)).alloc (.cells #[.int .i64 i] 3)).alloc (.cells #[.slice ax nx cx] 23)) := (Below.refl _ _).alloc (Nat.le_refl _) _
  have C2 : Bq ((((w.alloc (.cells x.cs 33)).alloc (.cells #[.string (bs s)] 9)).alloc (.cells #[.int .i64 i] 3)).alloc (.cells #[.slice ax nx cx] 23)) (w.heap.size + 3) 23 #[.slice ax nx cx] := by have := Bq.new (((w.alloc (.cells x.cs 33)).alloc (.cells #[.string (bs s)] 9)).alloc (.cells #[.int .i64 i] 3)) 23 #[.slice ax nx cx]; simpa using this
  have q9 : Below (((((w.alloc (.cells x.cs 33)).alloc (.cells #[.string (bs s)] 9)).alloc (.cells #[.int .i64 i] 3)).alloc (.cells #[.slice ax nx cx] 23))).heap.size ((((w.alloc (.cells x.cs 33)).alloc (.cells #[.string (bs s)] 9)).alloc (.cells #[.int .i64 i] 3)).alloc (.cells #[.slice ax nx cx] 23)) w1 := by rw [← ew]; exact (Below.refl _ _).alloc (Nat.le_refl _) _
  have HFB_w1 := hide (show FsB w1 (w.heap.size + 4) by have := FsB.new ((((w.alloc (.cells x.cs 33)).alloc (.cells #[.string (bs s)] 9)).alloc (.cells #[.int .i64 i] 3)).alloc (.cells #[.slice ax nx cx] 23)); rw [← ew]; simpa using this)
  have b0 := q0
  have b1 := b0.trans (q1.mono b0.size)
  have b2 := b1.trans (q2.mono b1.size)
  have b3 := b2.trans (q3.mono b2.size)
  have b9 := b3.trans (q9.mono b3.size)
  have HB_w1 := hide b9
  have HF_w1 := hide (((((F0).carry q1).carry q2).carry q3).carry q9)
  have HC0_w1 := hide ((((C0).carry q2).carry q3).carry q9)
  have HC1_w1 := hide (((C1).carry q3).carry q9)
  have HC2_w1 := hide ((C2).carry q9)
  have HSZ := hide (show w1.heap.size = w.heap.size + 5 by rw [← ew]; simp)
  clear F0 q0 q9 b9 b0 q1 b1 C0 q2 b2 C1 q3 b3 C2
  unfold FsV.val
  unfold FsV.cs at ew
  obtain ⟨k0, k1, k2, k3, k4, k5⟩ := fs_cells HF_w1.out
  go_enter Tryz.func23, Tryz.ntmps23
  go_wp2_with fail
  try rw [ew]
  refine (begin_fs x f w1 (HX.out.carry HB_w1.out) HW.out).mono ?_
  rintro e w2 ⟨p, rfl, hp, hs2, hb2⟩
  have hpp : w.heap.size + 5 ≤ p := by have := HSZ.out; omega
  have HFB_w2 := hide (HFB_w1.out.carry hb2)
  have HC0_w2 := hide (HC0_w1.out.carry hb2)
  have HC1_w2 := hide (HC1_w1.out.carry hb2)
  have HC2_w2 := hide (HC2_w1.out.carry hb2)
  have HB_w2 := hide (show Below w.heap.size w w2 from HB_w1.out.trans (hb2.mono HB_w1.out.size))
  have HS_w2 := hide (show WayS w2 p w.heap.size false (beginW f) by obtain ⟨y1, y2, y3, y4, y5, y6, y7, y8⟩ := hs2; exact ⟨y1, y2, y3, y4, y5, y6, y7, fun w' hg => ⟨(y8 w' hg).1, (y8 w' hg).2.1, fun h => by cases h⟩⟩)
  clear hs2 hb2 hp ew k0 k1 k2 k3 k4 k5
  obtain ⟨w3, ew3⟩ : ∃ w3, w2.alloc (.cells #[.pointer (some ⟨p, 0, none⟩)] 122) = w3 := ⟨_, rfl⟩
  have hb3 : Below w2.heap.size w2 w3 := by rw [← ew3]; exact (Below.refl _ _).alloc (Nat.le_refl _) _
  have HQ_w3 := hide (show Bq w3 w2.heap.size 122 #[.pointer (some ⟨p, 0, none⟩)] by rw [← ew3]; exact Bq.new _ _ _)
  have HFB_w3 := hide (HFB_w2.out.carry hb3)
  have HC0_w3 := hide (HC0_w2.out.carry hb3)
  have HC1_w3 := hide (HC1_w2.out.carry hb3)
  have HC2_w3 := hide (HC2_w2.out.carry hb3)
  have HS_w3 := hide (HS_w2.out.carry hb3)
  have HB_w3 := hide (show Below w.heap.size w w3 from HB_w2.out.trans (hb3.mono HB_w2.out.size))
  have HPL := hide HS_w2.out.lt
  clear hb3
  have ht := then_c4 83 (.pointer (some ⟨w2.heap.size, 0, none⟩)) (.pointer (some ⟨w.heap.size + 1, 0, none⟩)) (.pointer (some ⟨w.heap.size + 2, 0, none⟩)) (.pointer (some ⟨w.heap.size + 3, 0, none⟩)) (putW s i l) p w.heap.size false true (beginW f) w3 HS_w3.out (putW_e _ _ _ _) (fun wx => by go_simp) (fun h0 => put1_any s i ax nx cx l p w.heap.size _ _ _ _ false (beginW f) w3 HS_w3.out (by omega) (HRX.out.carry HB_w3.out) (HQ_w3.out.cell 0) (HC0_w3.out.cell 0) (HC1_w3.out.cell 0) (HC2_w3.out.cell 0))
  have c9 : w3.cell? ⟨w2.heap.size, 0, none⟩ = some (.pointer (some ⟨p, 0, none⟩)) := HQ_w3.out.cell 0
  go_wp2_with fail
  try rw [ew3]
  refine ht.mono ?_
  rintro e w4 ⟨rfl, hs4, hg4⟩
  have HFB_w4 := hide (HFB_w3.out.grown hg4 (by omega))
  have HB_w4 := hide (show Below w.heap.size w w4 from HB_w3.out.grown hg4 HB_w3.out.size (by intro k hk; cases hk; omega))
  have hen := end_way p w.heap.size _ w4 hs4 HB_w4.out.size (fun h0 => by have := thenW_ok h0; have h1 := small_ok this.1; unfold thenW; rw [if_pos this.1]; unfold putW; split <;> exact h1)
  rw [show endW (thenW (putW s i l) (beginW f)) = putFs f s i l from rfl] at hen
  clear ht hs4 hg4 HS_w2 HB_w2 HFB_w2 HS_w3 HB_w3 HFB_w3 c9 ew3
  go_wp2_with fail
  refine hen.mono ?_
  rintro e w5 ⟨v9, rfl, ho9, hb9⟩
  have HFB_w5 := hide (HFB_w4.out.carry hb9)
  have HB_w5 := hide (show Below w.heap.size w w5 from HB_w4.out.trans (hb9.mono HB_w4.out.size))
  clear hen hb9
  obtain ⟨x9, e9, -⟩ := ho9.form
  subst e9
  have HST := hide (ho9.stored (r := w.heap.size + 4) HFB_w5.out HB_w5.out (by omega))
  obtain ⟨⟨d0, e0⟩, ⟨d1, e1⟩, ⟨d2, e2⟩, ⟨d3, e3⟩, ⟨d4, e4⟩, ⟨d5, e5⟩, ff⟩ := HFB_w5.out.cells
  have f0 := ff 0
  have f1 := ff 1
  have f2 := ff 2
  have f3 := ff 3
  have f4 := ff 4
  have f5 := ff 5
  clear ff ho9
  unfold FsV.val
  go_wp2
  obtain ⟨w9, hw9⟩ : ∃ w9, w9 = set6 w5 (w.heap.size + 4) x9 := ⟨_, rfl⟩
  rw [← hw9] at HST
  unfold set6 at hw9
  rw [← hw9]
  clear e0 e1 e2 e3 e4 e5 f0 f1 f2 f3 f4 f5 hw9
  obtain ⟨z0, z1, z2, z3, z4, z5⟩ := fs_cells HST.out.2.2
  try simp only [Exit.inBlock, Exit.then]
  refine bodyPost_ret (v := .tuple #[x9.val, .int .i64 (putFs f s i l).2]) ?_ rfl ⟨_, rfl, HST.out.1, HST.out.2.1⟩
  simp [results, Tryz.results23, go_sem, *]

end Go.Proofs.YtnigdbhjaoeblaaGreat

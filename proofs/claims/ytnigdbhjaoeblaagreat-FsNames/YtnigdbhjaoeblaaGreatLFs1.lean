/-
  The statements' own example.
-/
import Derived.Test.YtnigdbhjaoeblaaGreatMathFs4
namespace Go.Proofs.YtnigdbhjaoeblaaGreat
open Go.RowKit
set_option linter.unusedVariables false
set_option linter.unusedSimpArgs false

set_option maxHeartbeats 1000000 in
set_option maxRecDepth 100000 in
theorem all6_any (x : UInt8) (w : World) :
    Calls Tryz.prog 24 #[.int .u8 x.toNat] w fun e w' => ∃ v, e = .returned v ∧ OwB w' w.heap.size v (List.replicate 128 x) ∧ Below w.heap.size w w' := by
  obtain ⟨i0, hi, hz0, hz1, hz2⟩ := info_parts Tryz.infoB
  obtain ⟨w2, hmake, hown2, hg2⟩ := run_make_full (P := Tryz.prog) w w.heap.size 23 5 i0 _ 1 Tryz.underlying23 hi hz0 hz1 .i64 .i64 128 (by rw [hz2]; decide) (by unfold maxLen; decide) (Nat.le_refl _)
  have hmake' : (Instr.makeSlice 23 (.int .i64 128) (.int .i64 128)).run Tryz.prog w = .ok (.slice (some ⟨w.heap.size, 0, none⟩) 128 128) w2 := hmake
  have hb2 : Below w.heap.size w w2 := (Below.refl _ _).grown hg2 (Nat.le_refl _) (fun k hk => by cases hk)
  have e : (madeCells (Value.int IntKind.u8 0).cells (128 * 1)).toList = List.replicate 128 (Value.int .u8 0) := by
    show (madeCells #[Value.int .u8 0] (128 * 1)).toList = _
    rw [toList_madeCells_one]
  rw [e] at hown2
  have HO := hide hown2
  clear hi hz0 hz1 hz2 hown2 hg2 hmake e
  go_enter Tryz.func24, Tryz.ntmps24
  go_wp2
  clear hmake'
  go_loopw [4] (fun i wr => ∃ k : Nat, k ≤ 128 ∧ i = .int .i64 k ∧ Hid (wr.ownsRow w.heap.size 5 1 (.slice (some ⟨w.heap.size, 0, none⟩) 128 128) 128 (u8v (List.replicate k x) ++ List.replicate (128 - k) (Value.int .u8 0))) ∧ Below w.heap.size w wr) (fun i _ => 128 - (intOf i).toNat)
  case atStart => exact ⟨0, by omega, rfl, by show World.ownsRow _ _ _ _ _ _ _; simpa [u8v] using HO.out, hb2⟩
  case round =>
    obtain ⟨k, hk, rfl, ho, hbel⟩ := hrel
    by_cases hlt : k < 128
    · have hlt' : (k : Int) < 128 := by omega
      have hlen := ho.out.1
      obtain ⟨y0, e0⟩ : ∃ y, (u8v (List.replicate k x) ++ List.replicate (128 - k) (Value.int .u8 0))[k]? = some y := ⟨_, List.getElem?_eq_getElem (by rw [hlen]; omega)⟩
      have c0 : wr.cell? ⟨w.heap.size, k, none⟩ = some y0 := (ho.out.cellAt _ (by omega)).trans e0
      have f0 := fun j => ho.out.frozenAt j
      obtain ⟨s1, g1⟩ := ho.out.stored k (.int .u8 x.toNat)
      rw [replicate_set k 128 hlt] at s1
      have HS := hide s1
      have HG := hide g1
      clear s1 g1 e0 hlen
      go_wp2
      go_roundw
      case rel => exact ⟨k + 1, by omega, by go_num, HS.out, hbel.grown HG.out hbel.size (fun j hj => by cases hj; exact Nat.le_refl _)⟩
      case measure => simp [intOf] <;> omega
    · obtain rfl : k = 128 := by omega
      go_wp2
      go_ret
      refine ⟨_, rfl, ?_, hbel⟩
      have := ho.out
      show World.ownsRow _ _ _ _ _ _ _
      rw [List.length_replicate]
      simpa using this

theorem wf_ex (d : Dk) (g : Nat) (hg : g < 4294967296) (D K : List Fl) (hD : D = [] ∨ D = [([97], [(34, 3)])]) (hK : K = [] ∨ K = [([97], [(34, 3)])]) : WfX (d, g, D, K) := by
  have h : ∀ L : List Fl, (L = [] ∨ L = [([97], [(34, 3)])]) → wfFs L := by
    intro L hL
    rcases hL with rfl | rfl
    · intro f hf; cases hf
    · intro f hf x hx
      rw [List.mem_singleton.1 hf] at hx
      have hx : x ∈ [((34, 3) : Ex)] := hx
      rw [List.mem_singleton.1 hx]
      unfold wfX
      decide
  exact ⟨hg, h D hD, h K hK⟩
theorem OwFs.bx {w : World} {base : Nat} {v : Value} {f : Fsd} (h : OwFs w base v f) : ∃ x : FsV, v = x.val ∧ RdX w x f ∧ OwFs w base x.val f := by
  obtain ⟨x, e, hx⟩ := h.form
  exact ⟨x, e, hx, e ▸ h⟩

theorem FsV.ext_val {x y : FsV} (h : x.val = y.val) : x = y := by
  obtain ⟨a1, n1, c1, a2, n2, c2, a3, n3, c3, g, a4, n4, c4, a5, n5, c5⟩ := x
  obtain ⟨b1, m1, d1, b2, m2, d2, b3, m3, d3, g', b4, m4, d4, b5, m5, d5⟩ := y
  injection h with h
  have e0 := congrArg (fun z : Array Value => z[0]!) h
  have e1 := congrArg (fun z : Array Value => z[1]!) h
  have e2 := congrArg (fun z : Array Value => z[2]!) h
  have e3 := congrArg (fun z : Array Value => z[3]!) h
  have e4 := congrArg (fun z : Array Value => z[4]!) h
  have e5 := congrArg (fun z : Array Value => z[5]!) h
  simp at e0 e1 e2 e3 e4 e5
  obtain ⟨rfl, rfl, rfl⟩ := e0
  obtain ⟨rfl, rfl, rfl⟩ := e1
  obtain ⟨rfl, rfl, rfl⟩ := e2
  have e3 : g = g' := by omega
  subst e3
  obtain ⟨rfl, rfl, rfl⟩ := e4
  obtain ⟨rfl, rfl, rfl⟩ := e5
  rfl

theorem FsB.of {w : World} {q : Nat} {x : FsV} (h : FsAt w q x) : FsB w q := ⟨_, _, _, _, _, _, h⟩
/-- A variable is written over. -/
theorem OwFs.assign {w w0 : World} {base q : Nat} {y : FsV} {f : Fsd} (h : OwFs w base y.val f) (hq : FsB w q) (hb : Below w0.heap.size w0 w) (hq0 : w0.heap.size ≤ q) :
    OwFs (set6 w q y) base y.val f ∧ Below w0.heap.size w0 (set6 w q y) ∧ FsAt (set6 w q y) q y ∧ RdX (set6 w q y) y f ∧ w.grownBy (set6 w q y) (some q) := by
  obtain ⟨h1, h2, h3⟩ := h.stored hq hb hq0
  refine ⟨h1, h2, h3, ?_, (hq.put y).2⟩
  obtain ⟨x', ex', hx'⟩ := h1.form
  have e : x' = y := FsV.ext_val ex'.symm
  subst e
  exact hx'

set_option maxHeartbeats 4000000 in
set_option maxRecDepth 100000 in
theorem one6_any (w : World) :
    Calls Tryz.prog 14 #[] w fun e w' => ∃ v x, Exm x ∧ e = .returned (.tuple #[v, .bool true]) ∧ OwFs w' w.heap.size v (ex2 x) ∧ Below w.heap.size w w' := by
  obtain ⟨x0, hE1, hE0⟩ := ex0_is
  have HE := hide hE0
  obtain ⟨w0, ew⟩ : ∃ w0, w.alloc (.cells #[.slice none 0 0, .slice none 0 0, .slice none 0 0, .int .u32 0, .slice none 0 0, .slice none 0 0] 33) = w0 := ⟨_, rfl⟩
  have hb0 : Below w.heap.size w w0 := by rw [← ew]; exact (Below.refl _ _).alloc (Nat.le_refl _) _
  have HFB_w0 := hide (show FsB w0 w.heap.size by rw [← ew]; exact FsB.new w)
  have HB_w0 := hide hb0
  have hfm := format_fs 64 w0
  rw [hE1] at hfm
  clear hb0 hE1 hE0
  go_enter Tryz.func14, Tryz.ntmps14
  go_wp2_with fail
  try rw [ew]
  refine hfm.mono ?_
  rintro e w1 ⟨v1, rfl, ho1, hb1⟩
  have HFB_w1 := hide (HFB_w0.out.carry hb1)
  have HB_w1 := hide (show Below w.heap.size w w1 from HB_w0.out.trans (hb1.mono HB_w0.out.size))
  have HLT := hide HFB_w1.out.lt
  obtain ⟨x1, e9, hx9, ho9⟩ := ho1.bx
  subst e9
  obtain ⟨w2, ew2⟩ : ∃ wq, w1.alloc (.cells x1.cs 33) = wq := ⟨_, rfl⟩
  have hbw2 : Below w1.heap.size w1 w2 := by rw [← ew2]; exact (Below.refl _ _).alloc (Nat.le_refl _) _
  have HF_w2 := hide (show FsAt w2 w1.heap.size x1 by rw [← ew2]; exact Bq.new _ _ _)
  unfold FsV.cs at ew2
  unfold FsV.val
  have HFB_w2 := hide (HFB_w1.out.carry hbw2)
  have HB_w2 := hide (show Below w.heap.size w w2 from HB_w1.out.trans (hbw2.mono HB_w1.out.size))
  have HO_w2 := hide (ho9.carry hbw2)
  have HR_w2 := hide (hx9.carry hbw2)
  have hcr := create_fs x1 (ex0 x0) [97] 3 w2 HR_w2.out (wf_ex _ _ (by decide) _ _ (.inl rfl) (.inl rfl))
  rw [ex1_is HE.out] at hcr
  obtain ⟨k0, k1, k2, k3, k4, k5⟩ := fs_cells HF_w2.out
  clear hfm ho1 hb1 ho9 hx9 ew HO_w2 HFB_w0 HB_w0 HFB_w1 HB_w1 hbw2
  go_wp2_with fail
  try rw [ew2]
  refine hcr.mono ?_
  rintro e w3 ⟨v3, rfl, ho3, hb3⟩
  have HFB_w3 := hide (HFB_w2.out.carry hb3)
  have HF_w3 := hide (HF_w2.out.carry hb3)
  have HB_w3 := hide (show Below w.heap.size w w3 from HB_w2.out.trans (hb3.mono HB_w2.out.size))
  obtain ⟨x2, e9, hx9, ho9⟩ := ho3.bx
  subst e9
  have hst := ho9.assign (FsB.of HF_w3.out) HB_w3.out (Nat.le_of_lt HLT.out)
  obtain ⟨⟨d0, e0⟩, ⟨d1, e1⟩, ⟨d2, e2⟩, ⟨d3, e3⟩, ⟨d4, e4⟩, ⟨d5, e5⟩, ff⟩ := (FsB.of HF_w3.out).cells
  have f0 := ff 0
  have f1 := ff 1
  have f2 := ff 2
  have f3 := ff 3
  have f4 := ff 4
  have f5 := ff 5
  obtain ⟨w4, ew4⟩ : ∃ w4, set6 w3 w1.heap.size x2 = w4 := ⟨_, rfl⟩
  rw [ew4] at hst
  have HO_w4 := hide hst.1
  have HB_w4 := hide hst.2.1
  have HF_w4 := hide hst.2.2.1
  have HR_w4 := hide hst.2.2.2.1
  have HFB_w4 := hide (HFB_w3.out.grown hst.2.2.2.2 (by have := HLT.out; omega))
  unfold set6 at ew4
  clear hcr ho3 hb3 ho9 hx9 hst ff ew2 k0 k1 k2 k3 k4 k5 HFB_w2 HB_w2 HF_w2 HFB_w3 HB_w3 HF_w3 HR_w2
  unfold FsV.val
  go_wp2_with fail
  try rw [ew4]
  clear ew4 e0 e1 e2 e3 e4 e5 f0 f1 f2 f3 f4 f5
  have hK : Keeps (fun wx => FsAt wx w1.heap.size x2 ∧ Below w.heap.size w wx) := fun w1 w2 h hb => ⟨h.1.carry hb, h.2.trans (hb.mono h.2.size)⟩
  have hS0 : (fun wx => FsAt wx w1.heap.size x2 ∧ Below w.heap.size w wx) w4 := ⟨HF_w4.out, HB_w4.out⟩
  have hdr : Below w4.heap.size w4 w4.drew := (Below.refl _ _).drew
  have HFB_wd := hide (HFB_w4.out.carry hdr)
  have HR_wd := hide (HR_w4.out.carry hdr)
  refine regL_begin hK 6 (by kernel_rfl) hS0 ?_
  intro hS
  clear hdr hS0
  generalize w4.drew = wd at *
  refine regL_take (i := 0) (v := ?qav0) rfl (by kernel_rfl) (by kernel_rfl) (by kernel_rfl) rfl (by kernel_rfl) (by kernel_rfl) (by rfl) ?qay0 hS ?qar0
  case qay0 => (rintro wx ⟨x1, x2⟩; (obtain ⟨k0, k1, k2, k3, k4, k5⟩ := fs_cells x1); go_simp; all_goals (with_reducible rfl))
  try simp only [Act.put, List.setIfInBounds_toArray, List.set_cons_zero, List.set_cons_succ]
  refine regL_callg (i := 1) (R := fun v wx => ∃ a n c, v = .slice a n c ∧ OwB wx wd.heap.size (.slice a n c) ones6 ∧ Below wd.heap.size wd wx) rfl (by kernel_rfl) (by rfl) (by go_simp) ((all6_any 1 wd).mono fun e wy ⟨v, h1, h2, h3⟩ => by
      obtain ⟨a, c, ev⟩ := h2.form
      subst ev
      exact ⟨_, h1, a, _, c, rfl, h2, h3⟩) ?_
  rintro v17 w17 ⟨a17, n17, c17, rfl, ho17, hb17⟩
  have hS17 := hK _ _ hS hb17
  refine ⟨hS17, ?_⟩
  have HFB_w17 := hide (HFB_wd.out.carry hb17)
  have HR_w17 := hide (HR_wd.out.carry hb17)
  clear hS
  have hS := hS17
  try simp only [Act.put, List.setIfInBounds_toArray, List.set_cons_zero, List.set_cons_succ]
  have hpu := put_fs x2 (ex1 x0) [97] 2 a17 n17 c17 ones6 w17 HR_w17.out (wf_ex _ _ (by decide) _ _ (.inr rfl) (.inl rfl)) ho17.rd
  rw [ex2_is HE.out] at hpu
  refine regL_callg (i := 2) (R := fun v wx => ∃ y : FsV, v = .tuple #[y.val, .int .i64 0] ∧ OwFs wx w.heap.size y.val (ex2 x0) ∧ Below w17.heap.size w17 wx) rfl (by kernel_rfl) (by rfl) (by go_simp; rfl) (hpu.mono fun e wy ⟨v, h1, h2, h3⟩ => by
      obtain ⟨y, ey, _, h4⟩ := h2.bx
      subst ey
      exact ⟨_, h1, y, rfl, h4.mono (hS.2.size), h3⟩) ?_
  clear hpu
  rintro v18 w18 ⟨x9, rfl, ho18, hb18⟩
  have hS18 := hK _ _ hS hb18
  refine ⟨hS18, ?_⟩
  have HFB_w18 := hide (HFB_w17.out.carry hb18)
  clear hS
  have hS := hS18
  try simp only [Act.put, List.setIfInBounds_toArray, List.set_cons_zero, List.set_cons_succ]
  refine regL_take (i := 3) (v := ?qav3) rfl (by kernel_rfl) (by kernel_rfl) (by kernel_rfl) rfl (by kernel_rfl) (by kernel_rfl) (by rfl) ?qay3 hS ?qar3
  case qay3 => (rintro wx ⟨x1, x2⟩; (obtain ⟨k0, k1, k2, k3, k4, k5⟩ := fs_cells x1); go_simp; all_goals (with_reducible rfl))
  try simp only [Act.put, List.setIfInBounds_toArray, List.set_cons_zero, List.set_cons_succ]
  refine regL_take (i := 4) (v := ?qav4) rfl (by kernel_rfl) (by kernel_rfl) (by kernel_rfl) rfl (by kernel_rfl) (by kernel_rfl) (by rfl) ?qay4 hS ?qar4
  case qay4 => (rintro wx ⟨x1, x2⟩; (obtain ⟨k0, k1, k2, k3, k4, k5⟩ := fs_cells x1); go_simp; all_goals (with_reducible rfl))
  try simp only [Act.put, List.setIfInBounds_toArray, List.set_cons_zero, List.set_cons_succ]
  refine regL_takeP (i := 5) (v := ?qav5) rfl (by kernel_rfl) (by kernel_rfl) (by kernel_rfl) rfl (by rfl) ?qay5 (fun _ => hS) ?qar5
  case qay5 => (intro wx; go_simp; all_goals (with_reducible rfl))
  try simp only [Act.put, List.setIfInBounds_toArray, List.set_cons_zero, List.set_cons_succ]
  obtain ⟨⟨d0, e0⟩, ⟨d1, e1⟩, ⟨d2, e2⟩, ⟨d3, e3⟩, ⟨d4, e4⟩, ⟨d5, e5⟩, ff⟩ := (FsB.of hS.1).cells
  have f0 := ff 0
  have f1 := ff 1
  have f2 := ff 2
  have f3 := ff 3
  have f4 := ff 4
  have f5 := ff 5
  have hst := ho18.assign (FsB.of hS.1) hS.2 (Nat.le_of_lt HLT.out)
  obtain ⟨w9, hw9⟩ : ∃ w9, w9 = set6 w18 w1.heap.size x9 := ⟨_, rfl⟩
  rw [← hw9] at hst
  have HFin := hide hst
  have HFB_w9 := hide (HFB_w18.out.grown hst.2.2.2.2 (by have := HLT.out; omega))
  unfold set6 at hw9
  refine regL_last (i := 6) (w' := w9) rfl (by kernel_rfl) (by kernel_rfl) (by rfl) (by rw [hw9]; go_simp) ?_
  clear hst hw9 ff e0 e1 e2 e3 e4 e5 f0 f1 f2 f3 f4 f5 ho18 hb18 ho17 hb17
  try simp only [Act.put, List.setIfInBounds_toArray, List.set_cons_zero, List.set_cons_succ]
  refine regL_run (i := 7) (v := .int .i64 0) (w' := w9) rfl (by kernel_rfl) (by rfl) (by go_simp) (fun h => absurd h (by decide)) ?_
  try simp only [Act.put, List.setIfInBounds_toArray, List.set_cons_zero, List.set_cons_succ]
  refine wpAnyL_done (by kernel_rfl) ?_ _
  refine NoPanic.normal ?_

  try simp only [Act.put, List.setIfInBounds_toArray, List.set_cons_zero, List.set_cons_succ]
  obtain ⟨k0, k1, k2, k3, k4, k5⟩ := fs_cells HFin.out.2.2.1
  obtain ⟨⟨d0, e0⟩, ⟨d1, e1⟩, ⟨d2, e2⟩, ⟨d3, e3⟩, ⟨d4, e4⟩, ⟨d5, e5⟩, ff⟩ := HFB_w9.out.cells
  have f0 := ff 0
  have f1 := ff 1
  have f2 := ff 2
  have f3 := ff 3
  have f4 := ff 4
  have f5 := ff 5
  have hs8 := HFin.out.1.assign HFB_w9.out HFin.out.2.1 (Nat.le_refl _)
  obtain ⟨w8, hw8⟩ : ∃ w8, w8 = set6 w9 w.heap.size x9 := ⟨_, rfl⟩
  rw [← hw8] at hs8
  have HST := hide hs8
  clear ff hs8 hS hK
  go_wp2
  unfold set6 at hw8
  rw [← hw8]
  obtain ⟨z0, z1, z2, z3, z4, z5⟩ := fs_cells HST.out.2.2.1
  clear e0 e1 e2 e3 e4 e5 f0 f1 f2 f3 f4 f5 hw8 k0 k1 k2 k3 k4 k5
  try simp only [Exit.inBlock, Exit.then]
  refine bodyPost_ret (v := .tuple #[x9.val, .bool true]) ?_ rfl ⟨_, x0, HE.out, rfl, HST.out.1.mono (Nat.le_refl _), HST.out.2.1⟩
  simp [results, Tryz.results14, go_sem, *]

end Go.Proofs.YtnigdbhjaoeblaaGreat

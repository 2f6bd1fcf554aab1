/-
  What files.Same, and the statements' own long and turn do.
-/
import Derived.Test.YtnigdbhjaoeblaaGreatRLast
import Derived.Test.YtnigdbhjaoeblaaGreatRmTop
import Derived.Test.YtnigdbhjaoeblaaGreatFiCut5
import Derived.Test.YtnigdbhjaoeblaaGreatFiFn5
import Derived.Test.YtnigdbhjaoeblaaGreatFiCut
import Derived.Test.YtnigdbhjaoeblaaGreatMathFi2
import Derived.Test.YtnigdbhjaoeblaaGreatMathFi
import Derived.Test.YtnigdbhjaoeblaaGreatDOwn
import Derived.Test.YtnigdbhjaoeblaaGreatRegP
namespace Go.Proofs.YtnigdbhjaoeblaaGreat
open Go.RowKit
set_option linter.unusedVariables false
set_option linter.unusedSimpArgs false

/-- The slices of files on a disk. -/
structure FsV where
  a1 : Option Addr
  n1 : Nat
  c1 : Nat
  a2 : Option Addr
  n2 : Nat
  c2 : Nat
  a3 : Option Addr
  n3 : Nat
  c3 : Nat
  g : Nat
  a4 : Option Addr
  n4 : Nat
  c4 : Nat
  a5 : Option Addr
  n5 : Nat
  c5 : Nat
abbrev FsV.dv (x : FsV) : Value := .agg #[.slice x.a1 x.n1 x.c1, .slice x.a2 x.n2 x.c2, .slice x.a3 x.n3 x.c3]
abbrev FsV.val (x : FsV) : Value := .agg #[.slice x.a1 x.n1 x.c1, .slice x.a2 x.n2 x.c2, .slice x.a3 x.n3 x.c3, .int .u32 x.g, .slice x.a4 x.n4 x.c4, .slice x.a5 x.n5 x.c5]
abbrev FsV.cs (x : FsV) : Array Value := #[.slice x.a1 x.n1 x.c1, .slice x.a2 x.n2 x.c2, .slice x.a3 x.n3 x.c3, .int .u32 x.g, .slice x.a4 x.n4 x.c4, .slice x.a5 x.n5 x.c5]
structure RdX (w : World) (x : FsV) (f : Fsd) : Prop where
  d : RdD w x.dv f.1
  n1 : x.n1 = f.1.1.length
  n2 : x.n2 = f.1.2.1.length
  g : x.g = f.2.1
  fl : RdF w (.slice x.a4 x.n4 x.c4) f.2.2.1
  n4 : x.n4 = f.2.2.1.length
  kl : RdF w (.slice x.a5 x.n5 x.c5) f.2.2.2
  n5 : x.n5 = f.2.2.2.length
theorem RdX.carry {w w' : World} {x : FsV} {f : Fsd} (h : RdX w x f) (hb : Below w.heap.size w w') : RdX w' x f := ⟨h.d.carry hb, h.n1, h.n2, h.g, h.fl.carry hb, h.n4, h.kl.carry hb, h.n5⟩
/-- Numbers are such as Go has them. -/
structure WfX (f : Fsd) : Prop where
  g : f.2.1 < 4294967296
  fl : wfFs f.2.2.1
  kl : wfFs f.2.2.2
/-- .. -/
theorem RdD.mk3 {w : World} {x1 : Option Addr} {m1 d1 : Nat} {x2 : Option Addr} {m2 d2 : Nat} {x3 : Option Addr} {m3 d3 : Nat} {d : Dk} (h : RdD w (.agg #[.slice x1 m1 d1, .slice x2 m2 d2, .slice x3 m3 d3]) d) : m1 = d.1.length ∧ m2 = d.2.1.length := by
  obtain ⟨a1, c1, a2, c2, a3, c3, e, _⟩ := h.form
  injection e with e
  have e1 := congrArg (fun (z : Array Value) => z[0]!) e
  have e2 := congrArg (fun (z : Array Value) => z[1]!) e
  simp at e1 e2
  exact ⟨e1.2.1, e2.2.1⟩
/-- A value that reads as files on a disk has its form. -/
def RdFs (w : World) (v : Value) (f : Fsd) : Prop := ∃ d1 d2 d3 x y, v = .agg #[d1, d2, d3, .int .u32 f.2.1, x, y] ∧ RdD w (.agg #[d1, d2, d3]) f.1 ∧ RdF w x f.2.2.1 ∧ RdF w y f.2.2.2
theorem RdFs.form {w : World} {v : Value} {f : Fsd} (h : RdFs w v f) : ∃ x : FsV, v = x.val ∧ RdX w x f := by
  obtain ⟨d1, d2, d3, y, z, rfl, h1, h2, h3⟩ := h
  obtain ⟨a1, c1, a2, c2, a3, c3, e, _⟩ := h1.form
  have e1 : d1 = _ := congrArg (fun v : Value => match v with | .agg z => z[0]! | _ => undef) e
  have e2 : d2 = _ := congrArg (fun v : Value => match v with | .agg z => z[1]! | _ => undef) e
  have e3 : d3 = _ := congrArg (fun v : Value => match v with | .agg z => z[2]! | _ => undef) e
  simp at e1 e2 e3
  subst e1 e2 e3
  obtain ⟨a4, c4, rfl⟩ := h2.form
  obtain ⟨a5, c5, rfl⟩ := h3.form
  exact ⟨⟨a1, _, c1, a2, _, c2, a3, _, c3, f.2.1, a4, _, c4, a5, _, c5⟩, rfl, h1, rfl, rfl, rfl, h2, rfl, h3, rfl⟩
theorem RdX.fs {w : World} {x : FsV} {f : Fsd} (h : RdX w x f) : RdFs w x.val f := ⟨_, _, _, _, _, by rw [← h.g], h.d, h.fl, h.kl⟩
def OwFs (w : World) (base : Nat) (v : Value) (f : Fsd) : Prop := ∃ d1 d2 d3 x y, v = .agg #[d1, d2, d3, .int .u32 f.2.1, x, y] ∧ OwD w base (.agg #[d1, d2, d3]) f.1 ∧ OwF w base x f.2.2.1 ∧ OwF w base y f.2.2.2
theorem OwD.rd6 {w : World} {base : Nat} {v : Value} {d : Dk} (h : OwD w base v d) : RdD w v d := h.rd
theorem OwFs.rd {w : World} {base : Nat} {v : Value} {f : Fsd} (h : OwFs w base v f) : RdFs w v f := by
  obtain ⟨d1, d2, d3, x, y, rfl, h1, h2, h3⟩ := h
  exact ⟨d1, d2, d3, x, y, rfl, h1.rd, h2.rd, h3.rd⟩
theorem OwFs.carry {w w' : World} {base : Nat} {v : Value} {f : Fsd} (h : OwFs w base v f) (hb : Below w.heap.size w w') : OwFs w' base v f := by
  obtain ⟨d1, d2, d3, x, y, rfl, h1, h2, h3⟩ := h
  exact ⟨d1, d2, d3, x, y, rfl, h1.carry hb, h2.carry hb, h3.carry hb⟩
theorem OwFs.mono {w : World} {base base' : Nat} {v : Value} {f : Fsd} (h : OwFs w base v f) (hb : base' ≤ base) : OwFs w base' v f := by
  obtain ⟨d1, d2, d3, x, y, rfl, h1, h2, h3⟩ := h
  exact ⟨d1, d2, d3, x, y, rfl, h1.mono hb, h2.mono hb, h3.mono hb⟩

/-! ### variables -/
/-- A block of cells. -/
def Bq (w : World) (p : Nat) (t : TypeId) (cs : Array Value) : Prop := w.heap[p]? = some (.cells cs t (0, 0))
theorem Bq.lt {w : World} {p : Nat} {t : TypeId} {cs : Array Value} (h : Bq w p t cs) : p < w.heap.size := (Array.getElem?_eq_some_iff.1 h).1
theorem Bq.carry {w w' : World} {p : Nat} {t : TypeId} {cs : Array Value} (h : Bq w p t cs) (hb : Below w.heap.size w w') : Bq w' p t cs := (hb.block _ h.lt).trans h
theorem Bq.below {w w' : World} {p B : Nat} {t : TypeId} {cs : Array Value} (h : Bq w p t cs) (hp : p < B) (hb : Below B w w') : Bq w' p t cs := (hb.block _ hp).trans h
theorem Bq.grown {w w' : World} {p q : Nat} {t : TypeId} {cs : Array Value} (h : Bq w p t cs) (hb : w.grownBy w' (some q)) (hne : p ≠ q) : Bq w' p t cs := (hb.block _ h.lt (by intro e; cases e; exact hne rfl)).trans h
theorem Bq.cell {w : World} {p : Nat} {t : TypeId} {cs : Array Value} (h : Bq w p t cs) (j : Nat) : w.cell? ⟨p, j, none⟩ = cs[j]? := cell_of_row w p j cs t (0, 0) h
theorem Bq.fz {w : World} {p : Nat} {t : TypeId} {cs : Array Value} (h : Bq w p t cs) (j : Nat) : w.frozen? ⟨p, j, none⟩ = false := frozen_of_row w p j _ _ h
theorem Bq.new (w : World) (t : TypeId) (cs : Array Value) : Bq (w.alloc (.cells cs t)) w.heap.size t cs := heap_alloc_new w _
theorem Bq.put {w : World} {p : Nat} {t : TypeId} {cs : Array Value} (h : Bq w p t cs) (j : Nat) (v : Value) : Bq (w.setCell ⟨p, j, none⟩ v) p t (cs.setIfInBounds j v) := heap_setCell_same w p j cs t v h
abbrev FsAt (w : World) (p : Nat) (x : FsV) : Prop := Bq w p 33 x.cs
/-- The cells of files on a disk. -/
theorem fs_cells {w : World} {p : Nat} {x : FsV} (h : FsAt w p x) : w.cell? ⟨p, 0, none⟩ = some (.slice x.a1 x.n1 x.c1) ∧ w.cell? ⟨p, 1, none⟩ = some (.slice x.a2 x.n2 x.c2) ∧ w.cell? ⟨p, 2, none⟩ = some (.slice x.a3 x.n3 x.c3) ∧ w.cell? ⟨p, 3, none⟩ = some (.int .u32 x.g) ∧ w.cell? ⟨p, 4, none⟩ = some (.slice x.a4 x.n4 x.c4) ∧ w.cell? ⟨p, 5, none⟩ = some (.slice x.a5 x.n5 x.c5) :=
  ⟨h.cell 0, h.cell 1, h.cell 2, h.cell 3, h.cell 4, h.cell 5⟩

end Go.Proofs.YtnigdbhjaoeblaaGreat
namespace Go.Proofs.YtnigdbhjaoeblaaGreat
open Go.RowKit
set_option linter.unusedVariables false
set_option linter.unusedSimpArgs false

set_option maxHeartbeats 1000000 in
set_option maxRecDepth 100000 in
theorem many_fs (x : FsV) (f : Fsd) (w : World) (h : RdX w x f) :
    Calls Tryz.prog 75 #[x.val] w fun e w' => e = .returned (.int .i64 (mnyFs f)) ∧ Below w.heap.size w w' := by
  obtain ⟨w1, ew⟩ : ∃ w1, w.alloc (.cells x.cs 33) = w1 := ⟨_, rfl⟩
  have hb1 : Below w.heap.size w w1 := by rw [← ew]; exact (Below.refl _ _).alloc (Nat.le_refl _) _
  have HF_w1 := hide (show FsAt w1 w.heap.size x by rw [← ew]; exact Bq.new _ _ _)
  obtain ⟨k0, k1, k2, k3, k4, k5⟩ := fs_cells HF_w1.out
  have HX := hide h
  have HB_w1 := hide hb1
  clear h hb1
  unfold FsV.val
  unfold FsV.cs at ew
  go_enter Tryz.func75, Tryz.ntmps75
  go_wp2_with fail
  refine (many_any (d := f.1) w1 (HX.out.d.carry HB_w1.out)).mono ?_
  rintro e w2 ⟨rfl, hb2⟩
  have HB_w2 := hide (show Below w.heap.size w w2 from HB_w1.out.trans (hb2.mono HB_w1.out.size))
  clear k0 k1 k2 k3 k4 k5 ew hb2
  go_wp2
  go_ret
  exact ⟨rfl, HB_w2.out⟩

theorem usedL_len (fs : List Fl) : (usedL fs).length ≤ 4096 := by
  unfold usedL
  by_cases h : chkF fs 4096 = 0
  · rw [if_pos h]
    have h1 := (chkF_may h).2.2.2.1.1
    exact (chkX_rng h1).1
  · rw [if_neg h]; simp
theorem usedL_wf (fs : List Fl) : ∀ x ∈ usedL fs, wfX x := by
  unfold usedL
  by_cases h : chkF fs 4096 = 0
  · rw [if_pos h]
    intro x hx
    have h1 := (chkF_may h).2.2.2.1.1
    have := (chkX_rng h1).2 x hx
    unfold wfX
    omega
  · rw [if_neg h]; simp
theorem usedFs_wf (f : Fsd) : ∀ x ∈ usedFs f, wfX x := by
  intro x hx
  rcases List.mem_append.1 hx with h | h
  · exact usedL_wf _ x h
  · exact usedL_wf _ x h

set_option maxHeartbeats 1000000 in
set_option maxRecDepth 100000 in
theorem used_fs (x : FsV) (f : Fsd) (w : World) (h : RdX w x f) (hw : WfX f) :
    Calls Tryz.prog 76 #[x.val] w fun e w' => ∃ v, e = .returned v ∧ OwE w' w.heap.size v (usedFs f) ∧ Below w.heap.size w w' := by
  obtain ⟨w1, ew⟩ : ∃ w1, w.alloc (.cells x.cs 33) = w1 := ⟨_, rfl⟩
  have hb1 : Below w.heap.size w w1 := by rw [← ew]; exact (Below.refl _ _).alloc (Nat.le_refl _) _
  have HF_w1 := hide (show FsAt w1 w.heap.size x by rw [← ew]; exact Bq.new _ _ _)
  obtain ⟨k0, k1, k2, k3, k4, k5⟩ := fs_cells HF_w1.out
  have HX := hide h
  have HB_w1 := hide hb1
  clear h hb1
  unfold FsV.val
  unfold FsV.cs at ew
  go_enter Tryz.func76, Tryz.ntmps76
  go_wp2_with fail
  refine (used_any _ _ _ f.2.2.1 w1 (HX.out.fl.carry HB_w1.out) HX.out.n4 hw.fl).mono ?_
  rintro e w2 ⟨v2, rfl, ho2, hb2⟩
  have HF_w2 := hide (HF_w1.out.carry hb2)
  have HB_w2 := hide (show Below w.heap.size w w2 from HB_w1.out.trans (hb2.mono HB_w1.out.size))
  obtain ⟨m2, hm2⟩ : ∃ m2, m2 = (usedL f.2.2.1).length := ⟨_, rfl⟩
  obtain ⟨y2, z2, e2⟩ : ∃ a c, v2 = .slice a m2 c := by rw [hm2]; exact ho2.form
  subst e2
  have HO2 := hide (ho2.mono HB_w1.out.size)
  have HM2 := hide hm2
  clear k0 k1 k2 k3 k4 k5 ew hb2 ho2 hm2
  obtain ⟨k0, k1, k2, k3, k4, k5⟩ := fs_cells HF_w2.out
  go_wp2_with fail
  refine (used_any _ _ _ f.2.2.2 w2 (HX.out.kl.carry HB_w2.out) HX.out.n5 hw.kl).mono ?_
  rintro e w3 ⟨v3, rfl, ho3, hb3⟩
  have HF_w3 := hide (HF_w2.out.carry hb3)
  have HB_w3 := hide (show Below w.heap.size w w3 from HB_w2.out.trans (hb3.mono HB_w2.out.size))
  obtain ⟨m3, hm3⟩ : ∃ m3, m3 = (usedL f.2.2.2).length := ⟨_, rfl⟩
  obtain ⟨y3, z3, e3⟩ : ∃ a c, v3 = .slice a m3 c := by rw [hm3]; exact ho3.form
  subst e3
  have HO3 := hide (ho3.mono HB_w2.out.size)
  have HO2' := hide (HO2.out.carry hb3)
  have HM3 := hide hm3
  clear k0 k1 k2 k3 k4 k5 hb3 ho3 hm3 HO2 hw
  have hbx : Below w3.heap.size w3 (w3.alloc (.cells #[.slice y2 m2 z2, .slice y3 m3 z3] 90)) := (Below.refl _ _).alloc (Nat.le_refl _) _
  have hct := concat_two w3.heap.size y2 m2 z2 y3 m3 z3 (usedL f.2.2.1) (usedL f.2.2.2) (w3.alloc (.cells #[.slice y2 m2 z2, .slice y3 m3 z3] 90)) (heap_alloc_new w3 _) (HO2'.out.rd.carry hbx) HM2.out (HO3.out.rd.carry hbx) HM3.out (by have := usedL_len f.2.2.1; have := usedL_len f.2.2.2; omega)
  have HBX := hide hbx
  clear hbx
  go_wp2_with fail
  refine hct.mono ?_
  rintro e w4 ⟨v4, rfl, ho4, hb4⟩
  have hbx := HBX.out.trans (hb4.mono (HBX.out.size))
  have HB4 := hide (show Below w.heap.size w w4 from HB_w3.out.trans (hbx.mono HB_w3.out.size))
  have HO4 := hide (ho4.mono (Nat.le_trans HB_w3.out.size HBX.out.size))
  clear hct hbx HBX hb4 ho4
  go_wp2
  go_ret
  exact ⟨_, rfl, HO4.out, HB4.out⟩

theorem any34 (l : List Pu) (k : Nat) (hk : k < l.length) : (l.take (k + 1)).any (fun p => decide (p.1 < 34)) = ((l.take k).any (fun p => decide (p.1 < 34)) || decide ((l[k]).1 < 34)) := by
  rw [List.take_succ_eq_append_getElem hk, List.any_append]
  simp

set_option maxHeartbeats 1000000 in
set_option maxRecDepth 100000 in
theorem belowFirst_any (N : Int) (u : Value) (w : World) (hu : u.oneCell' = true) :
    Calls Tryz.prog 152 #[.agg #[.int .i64 N, u]] w fun e w' => e = .returned (.bool (decide (N < 34))) ∧ Below w.heap.size w w' := by
  have hb0 : ∀ o, Below w.heap.size w (w.alloc o) := fun o => (Below.refl _ _).alloc (Nat.le_refl _) _
  go_enter Tryz.func152, Tryz.ntmps152
  go_wp2
  go_ret
  exact ⟨rfl, hb0 _⟩

set_option maxHeartbeats 1000000 in
set_option maxRecDepth 100000 in
theorem indexPut_any (a : Option Addr) (n c : Nat) (l : List Pu) (w : World) (hrd : RdW w (.slice a n c) l) (hn : n = l.length) :
    Calls Tryz.prog 190 #[.slice a n c, .func (.func 152) #[] #[]] w fun e w' => ∃ i : Int, e = .returned (.int .i64 i) ∧ decide (0 ≤ i) = l.any (fun p => decide (p.1 < 34)) ∧ Below w.heap.size w w' := by
  have hm : n ≤ maxLen := hn ▸ hrd.len_le
  unfold maxLen at hm
  have HR := hide hrd
  have HN := hide hn
  clear hrd hn
  go_enter Tryz.func190, Tryz.ntmps190
  go_wp2
  go_loopw [8] (fun i wr => ∃ k : Nat, k ≤ n ∧ i = .int .i64 k ∧ Hid ((l.take k).any (fun p => decide (p.1 < 34)) = false) ∧ Below w.heap.size w wr) (fun i _ => n - (intOf i).toNat)
  case atStart => exact ⟨0, Nat.zero_le _, rfl, hide (by simp), Below.refl _ _⟩
  case round =>
    obtain ⟨k, hk, rfl, hall, hbel⟩ := hrel
    by_cases hlt : k < n
    · have hlt' : (k : Int) < n := by omega
      have hkl : k < l.length := by have := HN.out; omega
      obtain ⟨b, off, rfl, q0, x9, m9, d9, q1, q2, q3⟩ := (HR.out.carry hbel).at k hkl
      obtain ⟨N, hN⟩ : ∃ N, N = (l[k]).1 := ⟨_, rfl⟩
      rw [← hN] at q0
      have HN2 := hide hN
      clear q2 q3 hN
      go_wp2_with fail
      refine (belowFirst_any N _ _ rfl).mono ?_
      rintro e w1 ⟨rfl, hb1⟩
      have hb1' : Below w.heap.size w w1 := hbel.trans (hb1.mono hbel.size)
      clear hb1 q0 q1
      by_cases hq : N < 34
      · have HM := hide (show l.any (fun p => decide (p.1 < 34)) = true by
          rw [List.any_eq_true]
          exact ⟨l[k], List.getElem_mem hkl, by rw [← HN2.out]; simpa using hq⟩)
        have hq' : decide (N < 34) = true := by simpa using hq
        clear hq
        go_wp2
        go_ret
        exact ⟨_, rfl, by rw [HM.out]; simp, hb1'⟩
      · have HM := hide (show (l.take (k + 1)).any (fun p => decide (p.1 < 34)) = false by
          rw [any34 l k hkl, hall.out, ← HN2.out]; simpa using hq)
        have hq' : decide (N < 34) = false := by simpa using hq
        clear hq
        go_wp2
        go_roundw
        case rel => exact ⟨k + 1, by omega, rfl, HM, hb1'⟩
        case measure => simp only [intOf]; omega
    · have hd : decide ((k : Int) < n) = false := by simpa using (by omega : ¬ (k : Int) < n)
      have HM := hide (show l.any (fun p => decide (p.1 < 34)) = false by
        have := hall.out
        rwa [List.take_of_length_le (by have := HN.out; omega)] at this)
      go_wp2
      go_ret
      exact ⟨_, rfl, by rw [HM.out]; rfl, hbel⟩

set_option maxHeartbeats 1000000 in
set_option maxRecDepth 100000 in
theorem containsPut_any (a : Option Addr) (n c : Nat) (l : List Pu) (w : World) (hrd : RdW w (.slice a n c) l) (hn : n = l.length) :
    Calls Tryz.prog 117 #[.slice a n c, .func (.func 152) #[] #[]] w fun e w' => e = .returned (.bool (l.any (fun p => decide (p.1 < 34)))) ∧ Below w.heap.size w w' := by
  have hix := indexPut_any a n c l w hrd hn
  clear hrd hn
  go_enter Tryz.func117, Tryz.ntmps117
  go_wp2_with fail
  refine hix.mono ?_
  rintro e w1 ⟨i, rfl, hi, hb1⟩
  have HI := hide hi
  clear hi
  go_wp2
  go_ret
  exact ⟨by rw [← HI.out]; rfl, hb1⟩

end Go.Proofs.YtnigdbhjaoeblaaGreat
namespace Go.Proofs.YtnigdbhjaoeblaaGreat
open Go.RowKit
set_option linter.unusedVariables false
set_option linter.unusedSimpArgs false

/-- A directory that is read, a cell for what is answered, and one that grows. -/
def Twn (B q r x : Nat) (dv v : Value) (w : World) : Prop := (q < B ∧ r < B ∧ x < B ∧ q ≠ x ∧ r ≠ x) ∧ DirAt w q dv ∧ BlkD w r ∧ DirAt w x v
theorem Twn.keeps (B q r x : Nat) (dv v : Value) : Keeps (Twn B q r x dv v) := fun w w' h hb => by
  obtain ⟨h1, k1, k2, k3⟩ := h
  exact ⟨h1, k1.carry hb, k2.carry hb, k3.carry hb⟩
theorem Twn.put {B q r x : Nat} {dv v : Value} {w : World} (h : Twn B q r x dv v w) (u : Value) : Twn B q r x dv u (w.setCell ⟨x, 0, none⟩ u) := by
  obtain ⟨⟨h1, h2, h3, h4, h5⟩, k1, ⟨y, k2⟩, k3⟩ := h
  refine ⟨⟨h1, h2, h3, h4, h5⟩, (heap_setCell_other w ⟨x, 0, none⟩ q u h4).trans k1, ⟨y, (heap_setCell_other w ⟨x, 0, none⟩ r u h5).trans k2⟩, ?_⟩
  have := heap_setCell_same w x 0 #[v] 31 u k3
  unfold DirAt
  rw [this]; rfl
theorem Twn.fz {B q r x : Nat} {dv v : Value} {w : World} (h : Twn B q r x dv v w) : w.frozen? ⟨x, 0, none⟩ = false := frozen_of_row w x 0 _ _ h.2.2.2
end Go.Proofs.YtnigdbhjaoeblaaGreat
namespace Go.Proofs.YtnigdbhjaoeblaaGreat
open Go.RowKit
set_option linter.unusedVariables false
set_option linter.unusedSimpArgs false

def Twf (B q b r x : Nat) (dv : Value) (s : ByteArray) (y v : Value) (w : World) : Prop := Twn B q r x dv v w ∧ (b < B ∧ b ≠ x) ∧ FileAt w b s y
theorem Twf.carry {B q b r x : Nat} {dv y v : Value} {s : ByteArray} {w w' : World} (h : Twf B q b r x dv s y v w) (hb : Below w.heap.size w w') : Twf B q b r x dv s y v w' := ⟨Twn.keeps _ _ _ _ _ _ _ _ h.1 hb, h.2.1, h.2.2.carry hb⟩
theorem Twf.keeps (B q b r x : Nat) (dv : Value) (s : ByteArray) (y v : Value) : Keeps (Twf B q b r x dv s y v) := fun _ _ h hb => h.carry hb
theorem Twf.put {B q b r x : Nat} {dv y v : Value} {s : ByteArray} {w : World} (h : Twf B q b r x dv s y v w) (u : Value) : Twf B q b r x dv s y u (w.setCell ⟨x, 0, none⟩ u) := ⟨h.1.put u, h.2.1, (heap_setCell_other w ⟨x, 0, none⟩ b u h.2.1.2).trans h.2.2⟩
end Go.Proofs.YtnigdbhjaoeblaaGreat
namespace Go.Proofs.YtnigdbhjaoeblaaGreat
open Go.RowKit
set_option linter.unusedVariables false
set_option linter.unusedSimpArgs false

section
variable {P : Program} {md : Region.Mode} {ops : Array Oper} {Q : Exit → Act → World → Prop}
/-- Either of two operations may come up. -/
theorem reg_two {S : World → Prop} {i j : Nat} {fuel : Nat} {listed : Array Bool} {a : Act} {w : World} (hr : Region.ready md ops listed = [i, j])
    (h1 : wpOp P ops (NoPanic Q) i (fun a' w' => S w' ∧ wpAnyH P md ops (NoPanic Q) S fuel (listed.setIfInBounds i true) a' w') a w)
    (h2 : wpOp P ops (NoPanic Q) j (fun a' w' => S w' ∧ wpAnyH P md ops (NoPanic Q) S fuel (listed.setIfInBounds j true) a' w') a w) : wpAnyH P md ops (NoPanic Q) S (fuel + 1) listed a w := by
  refine wpAnyH_all (rs := [i, j]) hr (by simp) ?_
  intro k hk
  rcases List.mem_cons.1 hk with rfl | hk
  · exact h1
  · obtain rfl := List.mem_singleton.1 hk
    exact h2
theorem wop_run {K : Act → World → Prop} {i : Nat} {dst : Option Tmp} {op : Op} {ty : TypeId} {pos : String} {aft : Array Edge} {gd : Option (Nat × Bool)} {a : Act} {w w' : World} {v : Value} (hi : ops[i]? = some { dst := dst, op := op, type := ty, pos := pos, after := aft, guard := gd }) (hw : Region.wanted { dst := dst, op := op, type := ty, pos := pos, after := aft, guard := gd } (yielded ops a.tmps) = true)
    (hrun : (execOp a.eval { dst := dst, op := op, type := ty, pos := pos, after := aft, guard := gd }).run P w = .ok (.value v) w') (h : K (a.put dst v) w') : wpOp P ops Q i K a w := by
  unfold wpOp
  simp only [hi, hw, if_true]
  refine .inl ?_
  unfold Oper.wp
  rw [hrun]
  exact h
theorem wop_callg {K : Act → World → Prop} {i : Nat} {dst : Option Tmp} {op : Op} {ty : TypeId} {pos : String} {aft : Array Edge} {gd : Option (Nat × Bool)} {a : Act} {w : World} {f : FuncId} {args : Array Value} {R : Value → World → Prop} (hi : ops[i]? = some { dst := dst, op := op, type := ty, pos := pos, after := aft, guard := gd }) (hw : Region.wanted { dst := dst, op := op, type := ty, pos := pos, after := aft, guard := gd } (yielded ops a.tmps) = true)
    (hrun : (execOp a.eval { dst := dst, op := op, type := ty, pos := pos, after := aft, guard := gd }).run P w = .ok (.enter f args) w) (hc : Calls P f args w fun e w' => ∃ v, e = .returned v ∧ R v w') (h : ∀ v w', R v w' → K (a.put dst v) w') : wpOp P ops (NoPanic Q) i K a w := by
  unfold wpOp
  simp only [hi, hw, if_true]
  refine .inl ?_
  unfold Oper.wp
  rw [hrun]
  exact hc.mono fun e w' ⟨v, he, hv⟩ => by subst he; exact h v w' hv
end

theorem region_cut {P : Program} {id : Nat} {ops : Array Oper} {Q : Exit → Act → World → Prop} {a : Act} {w : World} {α : Type} (F : α → Act → Act) (R : α → World → Prop) (h : (Code.region id ops true).wp P (fun e a' w' => e = .normal ∧ ∃ x, a' = F x a ∧ R x w') a w) (k : ∀ x w', R x w' → Q .normal (F x a) w') : (Code.region id ops true).wp P Q a w :=
  Code.wp_mono (fun e a' w' ⟨h1, x, h2, h3⟩ => by subst h1 h2; exact k x w' h3) h

end Go.Proofs.YtnigdbhjaoeblaaGreat
namespace Go.Proofs.YtnigdbhjaoeblaaGreat
open Go.RowKit
set_option linter.unusedVariables false
set_option linter.unusedSimpArgs false

theorem FileAt.name {w : World} {q : Nat} {s : ByteArray} {y : Value} (h : FileAt w q s y) (u : ByteArray) : FileAt (w.setCell ⟨q, 0, none⟩ (.string u)) q u y := by
  have := heap_setCell_same w q 0 _ 92 (.string u) h
  unfold FileAt
  rw [this]; rfl
end Go.Proofs.YtnigdbhjaoeblaaGreat
namespace Go.Proofs.YtnigdbhjaoeblaaGreat
open Go.RowKit
set_option linter.unusedVariables false
set_option linter.unusedSimpArgs false

set_option maxHeartbeats 1000000 in
set_option maxRecDepth 100000 in
theorem equal_ext (a b : Option Addr) (n c m d : Nat) (l k : List Ex) (w : World) (h1 : RdE w (.slice a n c) l) (h2 : RdE w (.slice b m d) k) (hn : n = l.length) (hm : m = k.length) :
    Calls Tryz.prog 242 #[.slice a n c, .slice b m d] w fun e w' => e = .returned (.bool (decide (l = k))) ∧ Below w.heap.size w w' := by
  have hnm : n ≤ maxLen := hn ▸ h1.len_le
  unfold maxLen at hnm
  have H1 := hide h1
  have H2 := hide h2
  have HN := hide hn
  have HM := hide hm
  clear h1 h2 hn hm
  by_cases g1 : n = m
  · subst g1
    go_enter Tryz.func242, Tryz.ntmps242
    go_wp2
    go_loopw [13] (fun i wr => ∃ j : Nat, j ≤ n ∧ i = .int .i64 j ∧ Hid (l.take j = k.take j) ∧ Below w.heap.size w wr) (fun i _ => n - (intOf i).toNat)
    case atStart => exact ⟨0, Nat.zero_le _, rfl, hide (by simp), Below.refl _ _⟩
    case round =>
      obtain ⟨j, hj, rfl, he, hbel⟩ := hrel
      by_cases hlt : j < n
      · have hlt' : (j : Int) < n := by omega
        have hjl : j < l.length := by have := HN.out; omega
        have hjk : j < k.length := by have := HM.out; omega
        obtain ⟨b1, off1, rfl, q0, q1⟩ := (H1.out.carry hbel).at j hjl
        obtain ⟨b2, off2, rfl, p0, p1⟩ := (H2.out.carry hbel).at j hjk
        have hw1 : wrap64 ((j : Int) + 1) = (j : Int) + 1 := by unfold wrap64; omega
        by_cases hx : l[j] = k[j]
        · have HE := hide (show l.take (j + 1) = k.take (j + 1) by rw [take_snoc l j hjl, take_snoc k j hjk, he.out, hx])
          rw [hx] at q0 q1
          clear hx
          go_wp2
          go_quiet (fail)
          go_wp2
          go_roundw
          case rel => exact ⟨j + 1, by omega, rfl, HE, below_drewN hbel _⟩
          case measure => simp only [intOf]; omega
        · have HE := hide (show decide (l = k) = false by
            rw [decide_eq_false_iff_not]
            rintro rfl
            exact hx rfl)
          have hne : ¬ ((l[j]).1 = (k[j]).1 ∧ (l[j]).2 = (k[j]).2) := fun h => hx (Prod.ext h.1 h.2)
          clear hx
          generalize (l[j]).1 = z1 at *
          generalize (l[j]).2 = z2 at *
          generalize (k[j]).1 = z3 at *
          generalize (k[j]).2 = z4 at *
          by_cases hz : z1 = z3
          · subst hz
            have hne1 : ¬ z2 = z4 := fun h => hne ⟨rfl, h⟩
            have hne' : (z2 == z4) = false := by simpa using hne1
            clear hne
            go_wp2
            go_quiet (fail)
            go_wp2
            go_ret
            exact ⟨by rw [HE.out]; rfl, below_drewN hbel _⟩
          · have hne' : (z1 == z3) = false := by simpa using hz
            clear hne
            go_wp2
            go_quiet (fail)
            go_wp2
            go_ret
            exact ⟨by rw [HE.out]; rfl, below_drewN hbel _⟩
      · have hd : decide ((j : Int) < n) = false := by simpa using (by omega : ¬ (j : Int) < n)
        have HE := hide (show decide (l = k) = true by
          rw [decide_eq_true_iff]
          have := he.out
          rwa [List.take_of_length_le (by have := HN.out; omega), List.take_of_length_le (by have := HM.out; omega)] at this)
        go_wp2
        go_ret
        exact ⟨by rw [HE.out]; rfl, hbel⟩
  · have HE := hide (show decide (l = k) = false by
      rw [decide_eq_false_iff_not]
      rintro rfl
      have := HN.out
      have := HM.out
      omega)
    have g1' : ((n : Int) == (m : Int)) = false := by simpa using (by omega : ¬ (n : Int) = m)
    go_enter Tryz.func242, Tryz.ntmps242
    go_wp2
    go_ret
    exact ⟨by rw [HE.out]; rfl, Below.refl _ _⟩

set_option maxHeartbeats 1000000 in
set_option maxRecDepth 100000 in
theorem sameFile_any (s t : List UInt8) (a1 : Option Addr) (n1 c1 : Nat) (a2 : Option Addr) (n2 c2 : Nat) (l k : List Ex) (w : World) (h1 : RdE w (.slice a1 n1 c1) l) (hn1 : n1 = l.length) (h2 : RdE w (.slice a2 n2 c2) k) (hn2 : n2 = k.length) :
    Calls Tryz.prog 222 #[.agg #[.string (bs s), .slice a1 n1 c1], .agg #[.string (bs t), .slice a2 n2 c2]] w fun e w' => e = .returned (.bool (decide ((s, l) = (t, k)))) ∧ Below w.heap.size w w' := by
  obtain ⟨W0, hW0⟩ : ∃ W0, W0 = (w.alloc (.cells #[.string (bs s), .slice a1 n1 c1] 92)).alloc (.cells #[.string (bs t), .slice a2 n2 c2] 92) := ⟨_, rfl⟩
  have hb0 : Below w.heap.size w W0 := by rw [hW0]; exact ((Below.refl _ _).alloc (Nat.le_refl _) _).alloc (by simp) _
  have hsm := equal_ext a1 a2 n1 c1 n2 c2 l k W0 (h1.carry hb0) (h2.carry hb0) hn1 hn2
  have HB0 := hide hb0
  clear h1 hn1 h2 hn2 hb0
  by_cases e : s = t
  · have x1 : ((bs s).toList == (bs t).toList) = true := by rw [eq_ofN, e]; simp
    have HE := hide (show decide ((s, l) = (t, k)) = decide (l = k) by simp [e])
    clear e
    go_enter Tryz.func222, Tryz.ntmps222
    go_wp2_with fail
    rw [← hW0]
    refine hsm.mono ?_
    rintro e w1 ⟨rfl, hb1⟩
    have HB1 := hide (show Below w.heap.size w w1 from HB0.out.trans (hb1.mono HB0.out.size))
    clear hsm hb1 hW0
    obtain ⟨r, hr⟩ : ∃ r, r = decide (l = k) := ⟨_, rfl⟩
    rw [← hr] at HE ⊢
    clear hr
    go_wp2
    go_ret
    exact ⟨by rw [HE.out]; rfl, HB1.out⟩
  · have x1 : ((bs s).toList == (bs t).toList) = false := by rw [eq_ofN]; simpa using e
    have HE := hide (show decide ((s, l) = (t, k)) = false by simp [e])
    clear e hsm
    go_enter Tryz.func222, Tryz.ntmps222
    go_wp2
    go_ret
    exact ⟨by rw [HE.out]; rfl, by rw [← hW0]; exact HB0.out⟩

set_option maxHeartbeats 2000000 in
set_option maxRecDepth 100000 in
theorem equalFunc_any (a : Option Addr) (n c : Nat) (fs : List Fl) (a' : Option Addr) (m c' : Nat) (gs : List Fl) (w : World) (h1 : RdF w (.slice a n c) fs) (hn : n = fs.length) (h2 : RdF w (.slice a' m c') gs) (hm : m = gs.length) :
    Calls Tryz.prog 221 #[.slice a n c, .slice a' m c', .func (.func 222) #[] #[]] w fun e w' => e = .returned (.bool (decide (fs = gs))) ∧ Below w.heap.size w w' := by
  have hnb : n ≤ maxLen := hn ▸ h1.len_le
  unfold maxLen at hnb
  have H1 := hide h1
  have H2 := hide h2
  have HN := hide hn
  have HM := hide hm
  clear h1 h2 hn hm
  by_cases g1 : n = m
  · subst g1
    go_enter Tryz.func221, Tryz.ntmps221
    go_wp2
    go_loopw [17] (fun i wr => ∃ k : Nat, k ≤ n ∧ i = .int .i64 k ∧ Hid (fs.take k = gs.take k) ∧ Below w.heap.size w wr) (fun i _ => n - (intOf i).toNat)
    case atStart => exact ⟨0, Nat.zero_le _, rfl, hide rfl, Below.refl _ _⟩
    case round =>
      obtain ⟨k, hk, rfl, hall, hbel⟩ := hrel
      by_cases hlt : k < n
      · have hlt' : (k : Int) < n := by omega
        have hkl : k < fs.length := by have := HN.out; omega
        have hkg : k < gs.length := by have := HM.out; omega
        have hw1 : wrap64 ((k : Int) + 1) = (k : Int) + 1 := by unfold wrap64; omega
        have HT := hide (take_snocF fs k hkl)
        have HU := hide (take_snocF gs k hkg)
        obtain ⟨b, off, a2, c2, rfl, q0, q1, q2⟩ := H1.out.atB hbel k hkl
        obtain ⟨b', off', a3, c3, rfl, p0, p1, p2⟩ := H2.out.atB hbel k hkg
        have HX := hide (show fs[k] ≠ gs[k] → decide (fs = gs) = false by
          intro h
          simp only [decide_eq_false_iff_not]
          rintro rfl
          exact h rfl)
        obtain ⟨f, hf⟩ : ∃ f, f = fs[k] := ⟨_, rfl⟩
        obtain ⟨g, hg⟩ : ∃ g, g = gs[k] := ⟨_, rfl⟩
        rw [← hf] at q0 q1 q2 HT HX
        rw [← hg] at p0 p1 p2 HU HX
        clear hf hg
        obtain ⟨s, l⟩ := f
        obtain ⟨t, l'⟩ := g
        simp only at q0 q1 q2 p0 p1 p2
        obtain ⟨m1, hm1⟩ : ∃ m1, m1 = l.length := ⟨_, rfl⟩
        obtain ⟨m2, hm2⟩ : ∃ m2, m2 = l'.length := ⟨_, rfl⟩
        rw [← hm1] at q1 q2
        rw [← hm2] at p1 p2
        obtain ⟨w2, hw2⟩ : ∃ w2, w2 = (wr.alloc (.cells #[.string (bs s), .slice a2 m1 c2] 92)).alloc (.cells #[.string (bs t), .slice a3 m2 c3] 92) := ⟨_, rfl⟩
        have hb2 : Below wr.heap.size wr w2 := by rw [hw2]; exact ((Below.refl _ _).alloc (Nat.le_refl _) _).alloc (by simp) _
        have hbel2 : Below w.heap.size w w2 := hbel.trans (hb2.mono hbel.size)
        have hsf := sameFile_any s t a2 m1 c2 a3 m2 c3 l l' w2 (q2.carry hbel2) hm1 (p2.carry hbel2) hm2
        obtain ⟨r, hr⟩ : ∃ r, r = decide ((s, l) = (t, l')) := ⟨_, rfl⟩
        rw [← hr] at hsf
        have HR := hide hr
        have p0a : ∀ o, (wr.alloc o).cell? ⟨b', off' + k * 2, none⟩ = some (.string (bs t)) := fun o => Lib.cell?_alloc_some _ p0
        have p1a : ∀ o, (wr.alloc o).cell? ⟨b', off' + k * 2 + 1, none⟩ = some (.slice a3 m2 c3) := fun o => Lib.cell?_alloc_some _ p1
        have x0 : w2.cell? ⟨wr.heap.size, 0, none⟩ = some (.string (bs s)) := by
          rw [hw2]
          exact Lib.cell?_alloc_some _ (FileAt.new wr (bs s) (.slice a2 m1 c2)).cell0
        have x1 : w2.cell? ⟨wr.heap.size, 1, none⟩ = some (.slice a2 m1 c2) := by
          rw [hw2]
          exact Lib.cell?_alloc_some _ (FileAt.new wr (bs s) (.slice a2 m1 c2)).cell1
        rw [hw2] at x0 x1
        clear hr hm1 hm2 q2 p2 hb2
        go_wp2_with fail
        rw [← hw2]
        refine hsf.mono ?_
        rintro e w3 ⟨rfl, b3⟩
        have hbel3 : Below w.heap.size w w3 := hbel2.trans (b3.mono hbel2.size)
        clear hsf hw2 x0 x1 p0a p1a b3 hbel2 hbel
        cases r with
        | true =>
          have e : (s, l) = (t, l') := by have := HR.out; simpa using this.symm
          have HA := hide (show fs.take (k + 1) = gs.take (k + 1) by rw [HT.out, HU.out, hall.out, e])
          clear e
          go_wp2
          go_roundw
          case rel => exact ⟨k + 1, by omega, rfl, HA, hbel3⟩
          case measure => simp only [intOf]; omega
        | false =>
          have HA := hide (HX.out (by have := HR.out; exact of_decide_eq_false this.symm))
          go_wp2
          go_ret
          exact ⟨by rw [HA.out]; rfl, hbel3⟩
      · have hd : decide ((k : Int) < n) = false := by simpa using (by omega : ¬ (k : Int) < n)
        have HA := hide (show decide (fs = gs) = true by
          have h := hall.out
          rw [List.take_of_length_le (by have := HN.out; omega), List.take_of_length_le (by have := HM.out; omega)] at h
          simpa using h)
        go_wp2
        go_ret
        exact ⟨by rw [HA.out]; rfl, hbel⟩
  · have HA := hide (show decide (fs = gs) = false by
      simp only [decide_eq_false_iff_not]
      rintro rfl
      exact g1 (HN.out.trans HM.out.symm))
    have g1' : ((n : Int) == (m : Int)) = false := by simp; omega
    go_enter Tryz.func221, Tryz.ntmps221
    go_wp2
    all_goals (go_ret; exact ⟨by rw [HA.out]; rfl, Below.refl _ _⟩)

set_option maxHeartbeats 1000000 in
set_option maxRecDepth 100000 in
theorem fsame_any (a : Option Addr) (n c : Nat) (fs : List Fl) (a' : Option Addr) (m c' : Nat) (gs : List Fl) (w : World) (h1 : RdF w (.slice a n c) fs) (hn : n = fs.length) (h2 : RdF w (.slice a' m c') gs) (hm : m = gs.length) :
    Calls Tryz.prog 155 #[.agg #[.slice a n c], .agg #[.slice a' m c']] w fun e w' => e = .returned (.bool (decide (fs = gs))) ∧ Below w.heap.size w w' := by
  obtain ⟨W0, hW0⟩ : ∃ W0, W0 = (w.alloc (.cells #[.slice a n c] 31)).alloc (.cells #[.slice a' m c'] 31) := ⟨_, rfl⟩
  have hb1 : Below w.heap.size w (w.alloc (.cells #[.slice a n c] 31)) := (Below.refl _ _).alloc (Nat.le_refl _) _
  have hb0 : Below w.heap.size w W0 := by rw [hW0]; exact hb1.alloc (by simp) _
  have d0 := (show DirAt W0 w.heap.size (.slice a n c) by
    rw [hW0]
    exact (DirAt.new w (.slice a n c)).carry ((Below.refl _ _).alloc (Nat.le_refl _) _)).cell
  have d1 := (show DirAt W0 (w.heap.size + 1) (.slice a' m c') by
    have := DirAt.new (w.alloc (.cells #[.slice a n c] 31)) (.slice a' m c')
    rw [hW0]; simpa using this).cell
  rw [hW0] at d0 d1
  have heq := equalFunc_any a n c fs a' m c' gs W0 (h1.carry hb0) hn (h2.carry hb0) hm
  have HB0 := hide hb0
  obtain ⟨r, hr⟩ : ∃ r, r = decide (fs = gs) := ⟨_, rfl⟩
  rw [← hr] at heq
  have HR := hide hr
  clear h1 h2 hn hm hb0 hb1 hr
  go_enter Tryz.func155, Tryz.ntmps155
  go_wp2_with fail
  rw [← hW0]
  refine heq.mono ?_
  rintro e w1 ⟨rfl, b1⟩
  clear heq hW0 d0 d1
  go_wp2
  go_ret
  exact ⟨by rw [← HR.out]; rfl, HB0.out.trans (b1.mono HB0.out.size)⟩

/-! ### what is turned -/
/-- Cells of extents may be others; all else stays, and each block keeps its size. -/
def Shp (base : Nat) (w w' : World) : Prop := Below base w w' ∧ w.heap.size ≤ w'.heap.size ∧ ∀ (k : Nat) (cs : Array Value) (t : TypeId), w.heap[k]? = some (.cells cs t (0, 0)) → ∃ cs' : Array Value, w'.heap[k]? = some (.cells cs' t (0, 0)) ∧ cs'.size = cs.size ∧ (t ≠ 166 → cs' = cs)
theorem Shp.refl (base : Nat) (w : World) : Shp base w w := ⟨Below.refl _ _, Nat.le_refl _, fun k cs t h => ⟨cs, h, rfl, fun _ => rfl⟩⟩
theorem Shp.trans {base : Nat} {w w1 w2 : World} (h : Shp base w w1) (k : Shp base w1 w2) : Shp base w w2 := by
  refine ⟨h.1.trans k.1, Nat.le_trans h.2.1 k.2.1, fun i cs t hi => ?_⟩
  obtain ⟨c1, h1, h2, h3⟩ := h.2.2 i cs t hi
  obtain ⟨c2, k1, k2, k3⟩ := k.2.2 i c1 t h1
  exact ⟨c2, k1, k2.trans h2, fun e => (k3 e).trans (h3 e)⟩
end Go.Proofs.YtnigdbhjaoeblaaGreat

/-
  What the document's own Check, Blocks, Free and Take do.
-/
import Derived.Test.YtlibnefibeikcaaMathFs
import Derived.Test.YtlibnefibeikcaaSmall
import Derived.Test.YtlibnefibeikcaaRmMay
import Derived.Test.YtlibnefibeikcaaFiCut5
import Derived.Test.YtlibnefibeikcaaFiNames
import Derived.Test.YtlibnefibeikcaaMathRd
namespace Go.Proofs.Ytlibnefibeikcaa
open Go.RowKit
set_option linter.unusedVariables false
set_option linter.unusedSimpArgs false

/-- The slices of files on a disk. -/
structure FsV where
  a1 : Option Addr
  n1 : Nat
  c1 : Nat
  a2 : Option Addr
  n2 : Nat
  c2 : Nat
  a3 : Option Addr
  n3 : Nat
  c3 : Nat
  g : Nat
  a4 : Option Addr
  n4 : Nat
  c4 : Nat
  a5 : Option Addr
  n5 : Nat
  c5 : Nat
abbrev FsV.dv (x : FsV) : Value := .agg #[.slice x.a1 x.n1 x.c1, .slice x.a2 x.n2 x.c2, .slice x.a3 x.n3 x.c3]
abbrev FsV.val (x : FsV) : Value := .agg #[.slice x.a1 x.n1 x.c1, .slice x.a2 x.n2 x.c2, .slice x.a3 x.n3 x.c3, .int .u32 x.g, .slice x.a4 x.n4 x.c4, .slice x.a5 x.n5 x.c5]
abbrev FsV.cs (x : FsV) : Array Value := #[.slice x.a1 x.n1 x.c1, .slice x.a2 x.n2 x.c2, .slice x.a3 x.n3 x.c3, .int .u32 x.g, .slice x.a4 x.n4 x.c4, .slice x.a5 x.n5 x.c5]
structure RdX (w : World) (x : FsV) (f : Fsd) : Prop where
  d : RdD w x.dv f.1
  n1 : x.n1 = f.1.1.length
  n2 : x.n2 = f.1.2.1.length
  g : x.g = f.2.1
  fl : RdF w (.slice x.a4 x.n4 x.c4) f.2.2.1
  n4 : x.n4 = f.2.2.1.length
  kl : RdF w (.slice x.a5 x.n5 x.c5) f.2.2.2
  n5 : x.n5 = f.2.2.2.length
theorem RdX.carry {w w' : World} {x : FsV} {f : Fsd} (h : RdX w x f) (hb : Below w.heap.size w w') : RdX w' x f := ⟨h.d.carry hb, h.n1, h.n2, h.g, h.fl.carry hb, h.n4, h.kl.carry hb, h.n5⟩
/-- A value that reads as files on a disk has its form. -/
def RdFs (w : World) (v : Value) (f : Fsd) : Prop := ∃ d1 d2 d3 x y, v = .agg #[d1, d2, d3, .int .u32 f.2.1, x, y] ∧ RdD w (.agg #[d1, d2, d3]) f.1 ∧ RdF w x f.2.2.1 ∧ RdF w y f.2.2.2
theorem RdFs.form {w : World} {v : Value} {f : Fsd} (h : RdFs w v f) : ∃ x : FsV, v = x.val ∧ RdX w x f := by
  obtain ⟨d1, d2, d3, y, z, rfl, h1, h2, h3⟩ := h
  obtain ⟨a1, c1, a2, c2, a3, c3, e, _⟩ := h1.form
  have e1 : d1 = _ := congrArg (fun v : Value => match v with | .agg z => z[0]! | _ => undef) e
  have e2 : d2 = _ := congrArg (fun v : Value => match v with | .agg z => z[1]! | _ => undef) e
  have e3 : d3 = _ := congrArg (fun v : Value => match v with | .agg z => z[2]! | _ => undef) e
  simp at e1 e2 e3
  subst e1 e2 e3
  obtain ⟨a4, c4, rfl⟩ := h2.form
  obtain ⟨a5, c5, rfl⟩ := h3.form
  exact ⟨⟨a1, _, c1, a2, _, c2, a3, _, c3, f.2.1, a4, _, c4, a5, _, c5⟩, rfl, h1, rfl, rfl, rfl, h2, rfl, h3, rfl⟩
theorem RdX.fs {w : World} {x : FsV} {f : Fsd} (h : RdX w x f) : RdFs w x.val f := ⟨_, _, _, _, _, by rw [← h.g], h.d, h.fl, h.kl⟩
def OwFs (w : World) (base : Nat) (v : Value) (f : Fsd) : Prop := ∃ d1 d2 d3 x y, v = .agg #[d1, d2, d3, .int .u32 f.2.1, x, y] ∧ OwD w base (.agg #[d1, d2, d3]) f.1 ∧ OwF w base x f.2.2.1 ∧ OwF w base y f.2.2.2
theorem OwFs.rd {w : World} {base : Nat} {v : Value} {f : Fsd} (h : OwFs w base v f) : RdFs w v f := by
  obtain ⟨d1, d2, d3, x, y, rfl, h1, h2, h3⟩ := h
  exact ⟨d1, d2, d3, x, y, rfl, h1.rd, h2.rd, h3.rd⟩
theorem OwFs.carry {w w' : World} {base : Nat} {v : Value} {f : Fsd} (h : OwFs w base v f) (hb : Below w.heap.size w w') : OwFs w' base v f := by
  obtain ⟨d1, d2, d3, x, y, rfl, h1, h2, h3⟩ := h
  exact ⟨d1, d2, d3, x, y, rfl, h1.carry hb, h2.carry hb, h3.carry hb⟩
theorem OwFs.mono {w : World} {base base' : Nat} {v : Value} {f : Fsd} (h : OwFs w base v f) (hb : base' ≤ base) : OwFs w base' v f := by
  obtain ⟨d1, d2, d3, x, y, rfl, h1, h2, h3⟩ := h
  exact ⟨d1, d2, d3, x, y, rfl, h1.mono hb, h2.mono hb, h3.mono hb⟩

/-! ### variables -/
/-- A block of cells. -/
def Bq (w : World) (p : Nat) (t : TypeId) (cs : Array Value) : Prop := w.heap[p]? = some (.cells cs t (0, 0))
theorem Bq.lt {w : World} {p : Nat} {t : TypeId} {cs : Array Value} (h : Bq w p t cs) : p < w.heap.size := (Array.getElem?_eq_some_iff.1 h).1
theorem Bq.carry {w w' : World} {p : Nat} {t : TypeId} {cs : Array Value} (h : Bq w p t cs) (hb : Below w.heap.size w w') : Bq w' p t cs := (hb.block _ h.lt).trans h
theorem Bq.below {w w' : World} {p B : Nat} {t : TypeId} {cs : Array Value} (h : Bq w p t cs) (hp : p < B) (hb : Below B w w') : Bq w' p t cs := (hb.block _ hp).trans h
theorem Bq.grown {w w' : World} {p q : Nat} {t : TypeId} {cs : Array Value} (h : Bq w p t cs) (hb : w.grownBy w' (some q)) (hne : p ≠ q) : Bq w' p t cs := (hb.block _ h.lt (by intro e; cases e; exact hne rfl)).trans h
theorem Bq.cell {w : World} {p : Nat} {t : TypeId} {cs : Array Value} (h : Bq w p t cs) (j : Nat) : w.cell? ⟨p, j, none⟩ = cs[j]? := cell_of_row w p j cs t (0, 0) h
theorem Bq.fz {w : World} {p : Nat} {t : TypeId} {cs : Array Value} (h : Bq w p t cs) (j : Nat) : w.frozen? ⟨p, j, none⟩ = false := frozen_of_row w p j _ _ h
theorem Bq.new (w : World) (t : TypeId) (cs : Array Value) : Bq (w.alloc (.cells cs t)) w.heap.size t cs := heap_alloc_new w _
theorem Bq.put {w : World} {p : Nat} {t : TypeId} {cs : Array Value} (h : Bq w p t cs) (j : Nat) (v : Value) : Bq (w.setCell ⟨p, j, none⟩ v) p t (cs.setIfInBounds j v) := heap_setCell_same w p j cs t v h
theorem Bq.ne {w : World} {p q : Nat} {t t' : TypeId} {cs cs' : Array Value} (h : Bq w p t cs) (h' : Bq w q t' cs') (hne : t ≠ t') : p ≠ q := by
  rintro rfl
  unfold Bq at h h'
  rw [h] at h'
  injection h' with e
  injection e with _ e
  exact hne e
abbrev FsAt (w : World) (p : Nat) (x : FsV) : Prop := Bq w p 34 x.cs
/-- The cells of files on a disk. -/
theorem fs_cells {w : World} {p : Nat} {x : FsV} (h : FsAt w p x) : w.cell? ⟨p, 0, none⟩ = some (.slice x.a1 x.n1 x.c1) ∧ w.cell? ⟨p, 1, none⟩ = some (.slice x.a2 x.n2 x.c2) ∧ w.cell? ⟨p, 2, none⟩ = some (.slice x.a3 x.n3 x.c3) ∧ w.cell? ⟨p, 3, none⟩ = some (.int .u32 x.g) ∧ w.cell? ⟨p, 4, none⟩ = some (.slice x.a4 x.n4 x.c4) ∧ w.cell? ⟨p, 5, none⟩ = some (.slice x.a5 x.n5 x.c5) :=
  ⟨h.cell 0, h.cell 1, h.cell 2, h.cell 3, h.cell 4, h.cell 5⟩

end Go.Proofs.Ytlibnefibeikcaa
namespace Go.Proofs.Ytlibnefibeikcaa
open Go.RowKit
set_option linter.unusedVariables false
set_option linter.unusedSimpArgs false

theorem any34 (l : List Pu) (k : Nat) (hk : k < l.length) : (l.take (k + 1)).any (fun p => decide (p.1 < 34)) = ((l.take k).any (fun p => decide (p.1 < 34)) || decide ((l[k]).1 < 34)) := by
  rw [List.take_succ_eq_append_getElem hk, List.any_append]
  simp

end Go.Proofs.Ytlibnefibeikcaa
namespace Go.Proofs.Ytlibnefibeikcaa
open Go.RowKit
set_option linter.unusedVariables false
set_option linter.unusedSimpArgs false

/-- All of a beginning may be, and are apart; then what comes next is held against them one by one. -/
theorem chk_meet {l : List Ex} {k j : Nat} (hk : k < l.length) (hj : j < k) (hl : l.length ≤ 4096) (h : meetX l[k] (l[j]'(by omega)) = true) : chkX l = 8 := by
  by_cases ha : allX l = 0
  · refine chkX_apart (k := k + 1) hk ha ?_
    rw [take_snoc l k hk, apX_snoc, Bool.and_eq_false_iff]
    right
    rw [List.all_eq_false]
    refine ⟨l[j]'(by omega), ?_, by rw [h]; simp⟩
    rw [List.mem_take_iff_getElem]
    exact ⟨j, by omega, rfl⟩
  · rw [chkX_all ha]
    rcases allX_cases l with ⟨_, h1⟩ | ⟨h1, _⟩ | ⟨h1, _⟩
    · omega
    · exact h1
    · exact absurd h1 ha
theorem chk_bad {l : List Ex} {k : Nat} (hk : k < l.length) (hl : l.length ≤ 4096) (h : mayX l[k] = false) : chkX l = 8 := by
  have := allX_bad hk hl h
  rw [chkX_all (by rw [this]; decide), this]
theorem chk_long {l : List Ex} (h : 4096 < l.length) : chkX l = 4 := by
  have : allX l = 4 := by unfold allX; rw [if_pos h]
  rw [chkX_all (by rw [this]; decide), this]

set_option maxHeartbeats 1000000 in
theorem rCheck_ext (a : Option Addr) (n c : Nat) (l : List Ex) (w : World) (hrd : RdE w (.slice a n c) l) (hn : n = l.length) (hwf : ∀ x ∈ l, wfX x) :
    Calls Try.prog 75 #[.slice a n c] w fun e w' => e = .returned (.int .i64 (chkX l)) ∧ Below w.heap.size w w' := by
  have hm : n ≤ maxLen := hn ▸ hrd.len_le
  unfold maxLen at hm
  have HR := hide hrd
  have HN := hide hn
  have HW := hide hwf
  clear hrd hn hwf
  by_cases g1 : n > 4096
  · have HM := hide (chk_long (l := l) (by have := HN.out; omega))
    have g1' : (4096 : Int) < n := by omega
    go_enter Try.func75, Try.ntmps75
    go_wp2
    go_ret
    exact ⟨by rw [HM.out]; rfl, Below.refl _ _⟩
  have g1' : decide ((4096 : Int) < n) = false := by simpa using (by omega : ¬ (4096 : Int) < n)
  clear hm
  go_enter Try.func75, Try.ntmps75
  go_wp2
  go_loopw [3] (fun i wr => ∃ k : Nat, k ≤ n ∧ i = .int .i64 k ∧ Hid (∀ x ∈ l.take k, mayX x = true) ∧ Hid (apX (l.take k) = true) ∧ Below w.heap.size w wr) (fun i _ => n - (intOf i).toNat)
  case atStart => exact ⟨0, Nat.zero_le _, rfl, hide (by simp), hide (by simp [apX]), Below.refl _ _⟩
  case round =>
    obtain ⟨k, hk, rfl, hall, hap, hbel⟩ := hrel
    by_cases hlt : k < n
    · have hlt' : (k : Int) < n := by omega
      have hkl : k < l.length := by have := HN.out; omega
      have hw1 : wrap64 ((k : Int) + 1) = (k : Int) + 1 := wrapS (by omega)
      obtain ⟨b, off, e, q0, q1⟩ := (HR.out.carry hbel).at k hkl
      subst e
      go_wp2_with fail
      refine (rMay_any (l[k]) (HW.out _ (List.getElem_mem hkl)) _).mono ?_
      rintro e wc ⟨rfl, hbc⟩
      have hbc' : Below w.heap.size w wc := hbel.trans (hbc.mono hbel.size)
      clear hbc
      cases hp : mayX l[k] with
      | false =>
        have HM := hide (chk_bad hkl (by have := HN.out; omega) hp)
        clear hp
        go_wp2
        go_ret
        exact ⟨by rw [HM.out]; rfl, hbc'⟩
      | true =>
        have HP := hide hp
        have HA := hide (show ∀ x ∈ l.take (k + 1), mayX x = true by
          intro x hx
          rw [take_snoc l k hkl] at hx
          rcases List.mem_append.1 hx with hx | hx
          · exact hall.out x hx
          · rw [List.mem_singleton.1 hx]; exact hp)
        clear hp q0 q1 hbel
        go_wp2
        go_loopw [4] (fun i wr => ∃ j : Nat, j ≤ k ∧ i = .int .i64 j ∧ Hid (∀ y ∈ l.take j, meetX l[k] y = false) ∧ Below w.heap.size w wr) (fun i _ => k - (intOf i).toNat)
        case atStart => exact ⟨0, Nat.zero_le _, rfl, hide (by simp), hbc'⟩
        case round =>
          obtain ⟨j, hj, rfl, hno, hbel⟩ := hrel
          by_cases hjk : j < k
          · have hjk' : (j : Int) < k := by omega
            have hjl : j < l.length := by omega
            have hjn : j < n := by omega
            have hw2 : wrap64 ((j : Int) + 1) = (j : Int) + 1 := wrapS (by omega)
            obtain ⟨b, off, e, q0, q1⟩ := (HR.out.carry hbel).at k hkl
            cases e
            obtain ⟨b, off, e, q2, q3⟩ := (HR.out.carry hbel).at j hjl
            cases e
            have HPj := hide (HA.out (l[j]) (by rw [List.mem_take_iff_getElem]; exact ⟨j, by omega, rfl⟩))
            obtain ⟨S, eS⟩ : ∃ S : World → Prop, S = fun wx => (wx.cell? ⟨b, off + k * 2, none⟩ = some (.int .i64 (l[k]).1) ∧ wx.cell? ⟨b, off + k * 2 + 1, none⟩ = some (.int .i64 (l[k]).2)) ∧ (wx.cell? ⟨b, off + j * 2, none⟩ = some (.int .i64 (l[j]).1) ∧ wx.cell? ⟨b, off + j * 2 + 1, none⟩ = some (.int .i64 (l[j]).2)) ∧ Below wr.heap.size wr wx := ⟨_, rfl⟩
            have hK : Keeps S := by rw [eS]; exact ((keeps_cell _ _).and (keeps_cell _ _)).and (((keeps_cell _ _).and (keeps_cell _ _)).and (keeps_below wr))
            have hS0 : S wr := by rw [eS]; exact ⟨⟨q0, q1⟩, ⟨q2, q3⟩, Below.refl _ _⟩
            go_wp2
            rw [eS] at hK hS0
            refine reg_begin hK (by kernel_rfl) hS0 ?_
            intro hS
            refine reg_plan [0, 1, 2, 3, 4, 5, 6, 7] (fuel := 1) (a' := ?qa1) (by kernel_rfl) (by kernel_rfl) (by kernel_rfl) ?qp1 hS ?qn1
            case qp1 =>
              iterate 8 (apply Yl.cons rfl rfl; focus (rintro wx ⟨⟨x1, x2⟩, ⟨x3, x4⟩, x5⟩; go_simp; all_goals (with_reducible rfl)); try simp only [Act.put, List.setIfInBounds_toArray, List.set_cons_zero, List.set_cons_succ])
              exact Yl.nil
            refine reg_callv hK (i := 8) (v := .bool (meetX l[k] l[j])) rfl (by kernel_rfl) (by rfl) (by go_simp) hS (rmeet_any (l[k]) (l[j]) HP.out HPj.out _) ?_
            clear hS
            intro w33 hS
            try simp only [Act.put, List.setIfInBounds_toArray, List.set_cons_zero, List.set_cons_succ]
            refine wpAnyH_done (by kernel_rfl) ?_ _
            refine NoPanic.normal ?_
            cases hmt : meetX l[k] l[j] with
            | true =>
              have HM := hide (chk_meet hkl hjk (by have := HN.out; omega) hmt)
              have hbz := hbel.trans (hS.2.2.mono hbel.size)
              clear hmt
              go_wp2
              go_ret
              exact ⟨by rw [HM.out]; rfl, hbz⟩
            | false =>
              have HNO := hide (show ∀ y ∈ l.take (j + 1), meetX l[k] y = false by
                intro y hy
                rw [take_snoc l j hjl] at hy
                rcases List.mem_append.1 hy with hy | hy
                · exact hno.out y hy
                · rw [List.mem_singleton.1 hy]; exact hmt)
              have hbz := hbel.trans (hS.2.2.mono hbel.size)
              clear hmt
              go_wp2
              go_roundw
              case rel => exact ⟨j + 1, by omega, rfl, HNO, hbz⟩
              case measure => simp only [intOf]; omega
          · have hd : decide ((j : Int) < k) = false := by simpa using (by omega : ¬ (j : Int) < k)
            have HAP := hide (show apX (l.take (k + 1)) = true by
              rw [take_snoc l k hkl, apX_snoc, hap.out, Bool.true_and, List.all_eq_true]
              intro y hy
              rw [show k = j by omega] at hy
              rw [hno.out y hy]; rfl)
            go_wp2
            go_roundw
            case rel => exact ⟨k + 1, by omega, rfl, HA, HAP, hbel⟩
            case measure => simp only [intOf]; omega
    · have hd : decide ((k : Int) < n) = false := by simpa using (by omega : ¬ (k : Int) < n)
      have e : k = l.length := by have := HN.out; omega
      have HM := hide (show chkX l = 0 from chkX_good (allX_good (by omega) (by rw [← e]; exact hall.out)) (by have := hap.out; rwa [e, List.take_length] at this))
      clear e
      go_wp2
      go_ret
      exact ⟨by rw [HM.out]; rfl, hbel⟩

end Go.Proofs.Ytlibnefibeikcaa

/-
  One call of files, as the statements of layer 7 make it; heavy calls; commits among acts.
-/
import Derived.Test.YtabaomacfijppaaGreatFsTop5
namespace Go.Proofs.YtabaomacfijppaaGreat
open Go.RowKit
set_option linter.unusedVariables false
set_option linter.unusedSimpArgs false

/-- A row of texts of one's own. -/
def txv (l : List (List UInt8)) : List Value := l.map fun s => Value.string (bs s)
def OwT (w : World) (base : Nat) (v : Value) (l : List (List UInt8)) : Prop := w.ownsRow base 9 1 v l.length (txv l)
theorem OwT.nil (w : World) (base : Nat) : OwT w base (.slice none 0 0) [] := World.ownsRow_nil _ _ _ _
theorem OwT.form {w : World} {base : Nat} {v : Value} {l : List (List UInt8)} (h : OwT w base v l) : ∃ a c, v = .slice a l.length c := by
  rcases h.2 with ⟨rfl, hn⟩ | ⟨g, cap, cur, rfl, _⟩
  · rw [hn]; exact ⟨_, _, rfl⟩
  · exact ⟨_, _, rfl⟩
theorem OwT.carry {w w' : World} {base : Nat} {v : Value} {l : List (List UInt8)} (h : OwT w base v l) (hb : Below w.heap.size w w') : OwT w' base v l := own_carry h hb
theorem OwT.mono {w : World} {base base' : Nat} {v : Value} {l : List (List UInt8)} (h : OwT w base v l) (hb : base' ≤ base) : OwT w base' v l := own_mono h hb
theorem OwT.at {w : World} {base : Nat} {a : Option Addr} {n c : Nat} {l : List (List UInt8)} (h : OwT w base (.slice a n c) l) (j : Nat) (hj : j < l.length) : ∃ g, a = some ⟨g, 0, none⟩ ∧ w.cell? ⟨g, j, none⟩ = some (.string (bs l[j])) := by
  rcases h.2 with ⟨e, hn⟩ | ⟨g, cap, cur, e, _⟩
  · rw [hn] at hj; cases hj
  · cases e
    have c1 := h.cells (g := g) rfl j (.string (bs l[j])) (by simp [txv, List.getElem?_eq_getElem hj])
    exact ⟨g, rfl, by simpa [Addr.add_lit] using c1⟩
end Go.Proofs.YtabaomacfijppaaGreat
namespace Go.Proofs.YtabaomacfijppaaGreat
open Go.RowKit
set_option linter.unusedVariables false
set_option linter.unusedSimpArgs false

theorem okD_len {d : Dk} (h : okD d = true) : d.1.length = 128 * mny d := (Fine.of_ok h).1.1
theorem block_writes : ∀ (bl : List (List UInt8)) (n : Nat) (d x : Dk), okD d = true → (∀ a ∈ wActs (n : Int) bl, actE (mny d) a = 0) → onesD d (wActs (n : Int) bl) = some x → ∀ k, k < mny d → blockD x k = if n ≤ k ∧ k < n + bl.length then bl.getD (k - n) [] else blockD d k
  | [], n, d, x, h, ha, he, k, hk => by
    cases he
    rw [if_neg (by simp only [List.length_nil]; omega)]
  | b :: bl, n, d, x, h, ha, he, k, hk => by
    have h1 := ha (false, (n : Int), b) (List.mem_cons_self ..)
    have he : (match oneD d (false, (n : Int), b) with | none => none | some y => onesD y (wActs ((n : Int) + 1) bl)) = some x := he
    cases ho : oneD d (false, (n : Int), b) with
    | none => rw [ho] at he; cases he
    | some y =>
      rw [ho] at he
      simp only at he
      obtain ⟨h2, h3, _⟩ := okD_one h h1 ho
      have hb := block_write h h1 ho hk
      have ih := block_writes bl (n + 1) y x h2 (fun a ha' => by rw [h3]; exact ha a (List.mem_cons_of_mem _ (by simpa using ha'))) (by simpa using he) k (by rw [h3]; exact hk)
      rw [ih, hb]
      simp only [List.length_cons]
      by_cases hkn : k = n
      · subst hkn
        rw [if_neg (by omega), if_pos rfl, if_pos (by omega), Nat.sub_self]
        rfl
      · rw [if_neg (show ¬ (k : Int) = (n : Int) by omega)]
        by_cases hr : n + 1 ≤ k ∧ k < n + 1 + bl.length
        · rw [if_pos hr, if_pos (by omega), show k - n = (k - (n + 1)) + 1 by omega]
          rfl
        · rw [if_neg hr, if_neg (by omega)]
/-- What the blocks have behind the acts of a commit. -/
theorem acts_block {d x : Dk} {g : Nat} {l : List UInt8} (hok : okD d = true) (hm : 34 < mny d) (hg : g ≠ 0) (hl : l.length ≤ 2048) (h : onesD d (actsF g l) = some x) :
    okD x = true ∧ mny x = mny d ∧ x.2.1 = [] ∧ ∀ k, k < mny d → blk x.1 k = if k = g % 2 then (blockS g (l.length : Nat)).1 else if 2 + g % 2 * 16 ≤ k ∧ k < 2 + g % 2 * 16 + (wholeB l).length then (wholeB l).getD (k - (2 + g % 2 * 16)) [] else blockD d k := by
  obtain ⟨o1, o2⟩ := okD_ones' hok (actsF_ok hm hg hl) h
  have e : actsF g l = [(true, 0, [])] ++ (wActs ((2 + g % 2 * 16 : Nat) : Int) (wholeB l) ++ ([(true, 0, [])] ++ ([(false, ((g % 2 : Nat) : Int), (blockS g (l.length : Nat)).1)] ++ [(true, 0, [])]))) := rfl
  rw [e, onesD_append6, onesD_one] at h
  obtain ⟨x1, a1, h⟩ := Option.bind_eq_some_iff.1 h
  rw [onesD_append6] at h
  obtain ⟨x2, a2, h⟩ := Option.bind_eq_some_iff.1 h
  rw [onesD_append6, onesD_one] at h
  obtain ⟨x3, a3, h⟩ := Option.bind_eq_some_iff.1 h
  rw [onesD_append6, onesD_one] at h
  obtain ⟨x4, a4, a5⟩ := Option.bind_eq_some_iff.1 h
  rw [onesD_one] at a5
  obtain ⟨k1, m1, _⟩ := okD_one hok (sync_act _) a1
  have hda : ∀ a ∈ wActs ((2 + g % 2 * 16 : Nat) : Int) (wholeB l), actE (mny x1) a = 0 := by rw [m1]; exact dirs_act hm hl
  obtain ⟨k2, m2⟩ := okD_ones' k1 hda a2
  obtain ⟨k3, m3, _⟩ := okD_one k2 (sync_act _) a3
  have hsa : actE (mny x3) (false, ((g % 2 : Nat) : Int), (blockS g (l.length : Nat)).1) = 0 := super_act (by omega) hg hl
  obtain ⟨k4, m4, _⟩ := okD_one k3 hsa a4
  refine ⟨o1, o2, ?_, fun k hk => ?_⟩
  · have := block_sync (n := 0) k4 (sync_act _) rfl a5 (by omega)
    exact this.2
  · have b5 := block_sync (n := k) k4 (sync_act _) rfl a5 (by omega)
    have b4 := block_write (n := k) k3 hsa a4 (by omega)
    have b3 := (block_sync (n := k) k2 (sync_act _) rfl a3 (by omega)).1
    have b2 := block_writes (wholeB l) (2 + g % 2 * 16) x1 x2 k1 hda a2 k (by omega)
    have b1 := (block_sync (n := k) hok (sync_act _) rfl a1 hk).1
    have e5 : blockD x k = blk x.1 k := by rw [blockD_ok o1 (by omega), b5.2]; rfl
    rw [← e5, b5.1, b4, b3, b2, b1]
    by_cases hk2 : k = g % 2
    · rw [if_pos (by omega), if_pos hk2]
    · rw [if_neg (by omega), if_neg hk2]
theorem kept_chk {f : Fsd} (h : okFs f) : chkF f.2.2.2 (mny f.1) = 0 := by
  rw [← h.2.2.2.2.1]
  exact (read_only h.2.2.2.1).1
end Go.Proofs.YtabaomacfijppaaGreat
namespace Go.Proofs.YtabaomacfijppaaGreat
open Go.RowKit
set_option linter.unusedVariables false
set_option linter.unusedSimpArgs false

theorem then_begin {s : Stp} {f : Fsd} : endW (thenW s (beginW f)) = if fsE f ≠ 0 then (fz, fsE f) else if (s (beginW f)).2 ≠ 0 then (fz, (s (beginW f)).2) else ((s (beginW f)).1.1, 0) := by
  by_cases h : fsE f = 0
  · rw [thenW_val (show (beginW f).2.1 = 0 from h), if_neg (by rw [h]; decide)]
    rfl
  · rw [thenW_err (show (beginW f).2.1 ≠ 0 from h), if_pos h]
    unfold endW
    rw [if_pos (show (beginW f).2.1 ≠ 0 from h)]
    rfl
theorem sync_is (f : Fsd) : syncFs f = if fsE f ≠ 0 then (fz, fsE f) else if (doD f.1 [(true, 0, [])] 1).2 ≠ 0 then (fz, (doD f.1 [(true, 0, [])] 1).2) else (((doD f.1 [(true, 0, [])] 1).1, f.2), 0) := by
  unfold syncFs
  rw [then_begin]
  rfl
theorem clear_is (f : Fsd) : clearFs f = if fsE f ≠ 0 then (fz, fsE f) else ((((f.1.1, f.1.2.1, []) : Dk), f.2), 0) := by
  unfold clearFs
  rw [then_begin]
  by_cases h : fsE f ≠ 0
  · rw [if_pos h, if_pos h]
  · rw [if_neg h, if_neg h]
    have h0 := fsE_ok (Decidable.not_not.1 h)
    have e : clearW (beginW f) = (diskW (beginW f) (f.1.1, f.1.2.1, []), 0) := by
      unfold clearW clearD
      have : chk (beginW f).1.1 = 0 := chk_ok (okFs_disk h0).1
      rw [this]
      rfl
    rw [e]
    rfl
/-! ### the example -/
section
variable {x : List UInt8}
end

end Go.Proofs.YtabaomacfijppaaGreat
namespace Go.Proofs.YtabaomacfijppaaGreat
open Go.RowKit
set_option linter.unusedVariables false
set_option linter.unusedSimpArgs false

theorem OwFs.bx {w : World} {base : Nat} {v : Value} {f : Fsd} (h : OwFs w base v f) : ∃ x : FsV, v = x.val ∧ RdX w x f ∧ OwFs w base x.val f := by
  obtain ⟨x, e, hx⟩ := h.form
  exact ⟨x, e, hx, e ▸ h⟩

theorem FsV.ext_val {x y : FsV} (h : x.val = y.val) : x = y := by
  obtain ⟨a1, n1, c1, a2, n2, c2, a3, n3, c3, g, a4, n4, c4, a5, n5, c5⟩ := x
  obtain ⟨b1, m1, d1, b2, m2, d2, b3, m3, d3, g', b4, m4, d4, b5, m5, d5⟩ := y
  injection h with h
  have e0 := congrArg (fun z : Array Value => z[0]!) h
  have e1 := congrArg (fun z : Array Value => z[1]!) h
  have e2 := congrArg (fun z : Array Value => z[2]!) h
  have e3 := congrArg (fun z : Array Value => z[3]!) h
  have e4 := congrArg (fun z : Array Value => z[4]!) h
  have e5 := congrArg (fun z : Array Value => z[5]!) h
  simp at e0 e1 e2 e3 e4 e5
  obtain ⟨rfl, rfl, rfl⟩ := e0
  obtain ⟨rfl, rfl, rfl⟩ := e1
  obtain ⟨rfl, rfl, rfl⟩ := e2
  have e3 : g = g' := by omega
  subst e3
  obtain ⟨rfl, rfl, rfl⟩ := e4
  obtain ⟨rfl, rfl, rfl⟩ := e5
  rfl

theorem FsB.of {w : World} {q : Nat} {x : FsV} (h : FsAt w q x) : FsB w q := ⟨_, _, _, _, _, _, h⟩
/-- A variable is written over. -/
theorem OwFs.assign {w w0 : World} {base q : Nat} {y : FsV} {f : Fsd} (h : OwFs w base y.val f) (hq : FsB w q) (hb : Below w0.heap.size w0 w) (hq0 : w0.heap.size ≤ q) :
    OwFs (set6 w q y) base y.val f ∧ Below w0.heap.size w0 (set6 w q y) ∧ FsAt (set6 w q y) q y ∧ RdX (set6 w q y) y f ∧ w.grownBy (set6 w q y) (some q) := by
  obtain ⟨h1, h2, h3⟩ := h.stored hq hb hq0
  refine ⟨h1, h2, h3, ?_, (hq.put y).2⟩
  obtain ⟨x', ex', hx'⟩ := h1.form
  have e : x' = y := FsV.ext_val ex'.symm
  subst e
  exact hx'

end Go.Proofs.YtabaomacfijppaaGreat
namespace Go.Proofs.YtabaomacfijppaaGreat
open Go.RowKit
set_option linter.unusedVariables false
set_option linter.unusedSimpArgs false

/-! ### how many blocks can be given -/
theorem used_all {f : Fsd} (h : okFs f) : allX (usedFs f) = 0 ∧ usedFs f = usedF f.2.2.1 ++ usedF f.2.2.2 ∧ (∀ x ∈ usedFs f, 34 ≤ x.1 ∧ 1 ≤ x.2 ∧ x.1 + x.2 ≤ mny f.1) := by
  have hc := h.2.2.2.2.2
  have hk := kept_chk h
  have e1 : usedL f.2.2.1 = usedF f.2.2.1 := by unfold usedL; rw [if_pos (chkF_top hc)]
  have e2 : usedL f.2.2.2 = usedF f.2.2.2 := by unfold usedL; rw [if_pos (chkF_top hk)]
  have m1 := (chkF_may hc).2
  have m2 := (chkF_may hk).2
  have hx : ∀ x ∈ usedFs f, 34 ≤ x.1 ∧ 1 ≤ x.2 ∧ x.1 + x.2 ≤ mny f.1 := by
    intro x hx
    unfold usedFs at hx
    rw [e1, e2] at hx
    rcases List.mem_append.1 hx with hx | hx
    · exact extP_all m1.2.2.1 x hx
    · exact extP_all m2.2.2.1 x hx
  have hmm := ((okD_iff f.1).1 (okFs_disk h).1).2.2.1
  have l1 : ∀ {fs : List Fl} {B : Int}, mayF fs B → (usedF fs).length ≤ 2048 := by
    intro fs B hm
    have := usedF_len fs 64 (fun g hg => by have := may_one hm g hg; omega)
    have := hm.1
    have hb := hm.2.2.2
    -- the bytes bound the extents
    have hle : (usedF fs).length ≤ (bytF fs).length := by
      have : ∀ fs : List Fl, (usedF fs).length ≤ (fs.flatMap bytFl).length := by
        intro fs
        induction fs with
        | nil => simp [usedF]
        | cons g fs ih =>
          have e : usedF (g :: fs) = g.2 ++ usedF fs := rfl
          rw [e, List.length_append, List.flatMap_cons, List.length_append]
          have h2 : g.2.length ≤ (bytFl g).length := by
            unfold bytFl
            rw [List.length_append, List.length_append]
            have : ∀ l : List Ex, l.length ≤ (bytE l).length := by
              intro l
              induction l with
              | nil => simp [bytE]
              | cons x l ih =>
                have e : bytE (x :: l) = bytX x ++ bytE l := rfl
                rw [e, List.length_append, List.length_cons]
                have : 1 ≤ (bytX x).length := by
                  unfold bytX
                  rw [List.length_append]
                  have := sm_pos x.1.toNat
                  omega
                omega
            have := this g.2
            omega
          omega
      have := this fs
      unfold bytF
      rw [List.length_append]
      omega
    omega
  refine ⟨?_, ?_, hx⟩
  · refine allX_mk ?_ (fun x hx' => by have := hx x hx'; omega)
    unfold usedFs
    rw [e1, e2, List.length_append]
    have := l1 m1
    have := l1 m2
    omega
  · unfold usedFs; rw [e1, e2]
theorem free_ok {f : Fsd} (h : okFs f) : freeE 34 (mnyFs f) (usedFs f) = 0 := by
  have h1 := (okFs_disk h).1
  rw [mnyFs_ok h1]
  unfold freeE
  have hmm := ((okD_iff f.1).1 h1).2.2.1
  have := (okFs_disk h).2.1
  rw [if_neg (by omega), (used_all h).1]
end Go.Proofs.YtabaomacfijppaaGreat
namespace Go.Proofs.YtabaomacfijppaaGreat
open Go.RowKit
set_option linter.unusedVariables false
set_option linter.unusedSimpArgs false

def openFs (d : Dk) : Fsd × Int :=
  if (latestS d).2.2 ≠ 0 then (fz, (latestS d).2.2)
  else if d.2.1.any (fun p => decide (p.1 < 34)) = true then (fz, 70)
  else if readE (genB d (latestS d).1 (latestS d).2.1) (mny d) ≠ 0 then (fz, 70)
  else (((d.1, d.2.1, []), (latestS d).1, readL (genB d (latestS d).1 (latestS d).2.1) (mny d), readL (genB d (latestS d).1 (latestS d).2.1) (mny d)), 0)
abbrev downD (d : Dk) (K : List Bool) : Dk := (setBs d.1 (kept d.2.1 K), [], [])

/-! ### a commit, wherever power fails in it -/
def cntS (l : List Ac) : Nat := l.countP fun a => !a.1 && decide (a.2.1 < 2)
theorem cntS_append (a b : List Ac) : cntS (a ++ b) = cntS a + cntS b := List.countP_append
/-- What is opened, of files on which acts were done, behind a loss of power. -/
def TornAt (f : Fsd) (D : List Fl) (y : Dk) (c : Nat) (K : List Bool) : Prop :=
  c ≤ 1 ∧ (okFs (downD y K, f.2.1, f.2.2.2, f.2.2.2) ∧ openFs (downD y K) = ((downD y K, f.2.1, f.2.2.2, f.2.2.2), 0) ∨
  c = 1 ∧ f.2.1 + 1 < 4294967296 ∧ okFs (downD y K, f.2.1 + 1, D, D) ∧ openFs (downD y K) = ((downD y K, f.2.1 + 1, D, D), 0))
end Go.Proofs.YtabaomacfijppaaGreat
namespace Go.Proofs.YtabaomacfijppaaGreat
open Go.RowKit
set_option linter.unusedVariables false
set_option linter.unusedSimpArgs false

/-- Files x come of files f by the acts l, and wherever power fails in them what is opened is the committed directory of f, or that of x. -/
def StepOk (f x : Fsd) : Prop := ∃ l : List Ac, onesD f.1 l = some x.1 ∧ (∀ a ∈ l, actE (mny f.1) a = 0) ∧ okFs x ∧
  ((x.2.1 = f.2.1 ∧ x.2.2.2 = f.2.2.2 ∧ cntS l = 0) ∨ (x.2.1 = f.2.1 + 1 ∧ cntS l = 1)) ∧
  ∀ (j : Nat) (K : List Bool), ∃ y, onesD f.1 (l.take j) = some y ∧ okD y = true ∧ TornAt f x.2.2.2 y (cntS (l.take j)) K ∧ (cntS (l.take j) = 1 → x.2.1 = f.2.1 + 1)
structure TornInv (f x : Fsd) (L : List (List Fl)) : Prop where
  okf : okFs f
  ok : okFs x
  done : f.1.2.2 = []
  ones : onesD f.1 x.1.2.2 = some x.1
  acts : ∀ a ∈ x.1.2.2, actE (mny f.1) a = 0
  gen : x.2.1 + 1 = f.2.1 + L.length
  last : L[L.length - 1]? = some x.2.2.2
  cnt : cntS x.1.2.2 + 1 = L.length
  torn : ∀ (j : Nat), j ≤ x.1.2.2.length → ∀ (K : List Bool), ∃ y, onesD f.1 (x.1.2.2.take j) = some y ∧ okD y = true ∧ ∃ (i : Nat) (D : List Fl), L[i]? = some D ∧ i ≤ cntS (x.1.2.2.take j) ∧ cntS (x.1.2.2.take j) ≤ i + 1 ∧ f.2.1 + i < 4294967296 ∧ okFs (downD y K, f.2.1 + i, D, D) ∧ openFs (downD y K) = ((downD y K, f.2.1 + i, D, D), 0)
theorem TornInv.step {f x z : Fsd} {L : List (List Fl)} (h : TornInv f x L) (hz : StepOk x z) : TornInv f z (if z.2.1 = x.2.1 then L else L ++ [z.2.2.2]) := by
  obtain ⟨l, z1, z2, z3, z4, z5⟩ := hz
  have hx1 := (okFs_disk h.ok).1
  have hf1 := (okFs_disk h.okf).1
  obtain ⟨a1, a2, a3⟩ := okD_ones _ _ _ hx1 z2 z1
  obtain ⟨-, b2, -⟩ := okD_ones _ _ _ hf1 h.acts h.ones
  have hL : 1 ≤ L.length := by have := h.cnt; omega
  have htorn : ∀ (L' : List (List Fl)), (∀ (i : Nat) (D : List Fl), L[i]? = some D → L'[i]? = some D) → (z.2.1 = x.2.1 + 1 → L'[L.length]? = some z.2.2.2) → ∀ (j : Nat), j ≤ z.1.2.2.length → ∀ (K : List Bool), ∃ y, onesD f.1 (z.1.2.2.take j) = some y ∧ okD y = true ∧ ∃ (i : Nat) (D : List Fl), L'[i]? = some D ∧ i ≤ cntS (z.1.2.2.take j) ∧ cntS (z.1.2.2.take j) ≤ i + 1 ∧ f.2.1 + i < 4294967296 ∧ okFs (downD y K, f.2.1 + i, D, D) ∧ openFs (downD y K) = ((downD y K, f.2.1 + i, D, D), 0) := by
    intro L' hL1 hL2 j hj K
    rw [a3] at hj ⊢
    by_cases hjo : j ≤ x.1.2.2.length
    · rw [List.take_append_of_le_length hjo]
      obtain ⟨y, y1, y2, i, D, y3, y4⟩ := h.torn j hjo K
      exact ⟨y, y1, y2, i, D, hL1 i D y3, y4⟩
    · rw [List.take_append, List.take_of_length_le (by omega), onesD_append6, h.ones, cntS_append]
      obtain ⟨y, y1, y2, y3, y4⟩ := z5 (j - x.1.2.2.length) K
      refine ⟨y, y1, y2, ?_⟩
      obtain ⟨c1, c2⟩ := y3
      have hg := h.gen
      have hc := h.cnt
      rcases c2 with ⟨k1, k2⟩ | ⟨k0, k1, k2, k3⟩
      · have e : x.2.1 = f.2.1 + (L.length - 1) := by omega
        rw [e] at k1 k2
        exact ⟨L.length - 1, x.2.2.2, hL1 _ _ h.last, by omega, by omega, by have := (okFs_size h.ok).2; omega, k1, k2⟩
      · have e : x.2.1 + 1 = f.2.1 + L.length := hg
        rw [e] at k2 k3 k1
        exact ⟨L.length, z.2.2.2, hL2 (y4 k0), by omega, by omega, k1, k2, k3⟩
  have hacts : ∀ a ∈ z.1.2.2, actE (mny f.1) a = 0 := by
    intro a ha
    rw [a3] at ha
    rcases List.mem_append.1 ha with ha | ha
    · exact h.acts a ha
    · rw [← b2]; exact z2 a ha
  have hones : onesD f.1 z.1.2.2 = some z.1 := by rw [a3, onesD_append6, h.ones]; exact z1
  rcases z4 with ⟨c1, c2, c3⟩ | ⟨c1, c2⟩
  · rw [if_pos c1]
    exact ⟨h.okf, z3, h.done, hones, hacts, by rw [c1]; exact h.gen, by rw [c2]; exact h.last, by rw [a3, cntS_append, c3]; exact h.cnt, htorn L (fun _ _ h => h) (fun h2 => by omega)⟩
  · rw [if_neg (by omega)]
    refine ⟨h.okf, z3, h.done, hones, hacts, ?_, ?_, ?_, htorn _ (fun i D hi => ?_) (fun _ => ?_)⟩
    · rw [c1, List.length_append, List.length_singleton]; have := h.gen; omega
    · rw [List.length_append, List.length_singleton, Nat.add_sub_cancel, List.getElem?_append_right (Nat.le_refl _), Nat.sub_self]; rfl
    · rw [a3, cntS_append, c2, List.length_append, List.length_singleton]; have := h.cnt; omega
    · obtain ⟨hi', -⟩ := List.getElem?_eq_some_iff.1 hi
      rw [List.getElem?_append_left hi']; exact hi
    · rw [List.getElem?_append_right (Nat.le_refl _), Nat.sub_self]; rfl
end Go.Proofs.YtabaomacfijppaaGreat
namespace Go.Proofs.YtabaomacfijppaaGreat
open Go.RowKit
set_option linter.unusedVariables false
set_option linter.unusedSimpArgs false

theorem RdD.mk33 {w : World} {x1 : Option Addr} {m1 d1 : Nat} {x2 : Option Addr} {m2 d2 : Nat} {x3 : Option Addr} {m3 d3 : Nat} {d : Dk} (h : RdD w (.agg #[.slice x1 m1 d1, .slice x2 m2 d2, .slice x3 m3 d3]) d) : m3 = d.2.2.length := by
  obtain ⟨a1, c1, a2, c2, a3, c3, e, _⟩ := h.form
  have e1 := congrArg (fun v : Value => match v with | .agg z => z[2]! | _ => undef) e
  simp at e1
  exact e1.2.1
theorem RdX.n3 {w : World} {x : FsV} {f : Fsd} (h : RdX w x f) : x.n3 = f.1.2.2.length := h.d.mk33
theorem RdD.d3 {w : World} {v1 v2 v3 : Value} {d : Dk} (h : RdD w (.agg #[v1, v2, v3]) d) : RdA w v3 d.2.2 := by
  obtain ⟨x, y, z, e, h1, h2, h3⟩ := h
  have e1 : _ = z := congrArg (fun v : Value => match v with | .agg z => z[2]! | _ => undef) e
  simp at e1
  rw [e1]; exact h3
def DkB (w : World) (q : Nat) : Prop := ∃ y0 y1 y2, Bq w q 26 #[y0, y1, y2]
theorem DkB.carry {w w' : World} {r : Nat} (h : DkB w r) (hb : Below w.heap.size w w') : DkB w' r := by
  obtain ⟨v0, v1, v2, h⟩ := h
  exact ⟨v0, v1, v2, h.carry hb⟩
theorem DkB.new (w : World) : DkB (w.alloc (.cells #[.slice none 0 0, .slice none 0 0, .slice none 0 0] 26)) w.heap.size := ⟨_, _, _, Bq.new _ _ _⟩
end Go.Proofs.YtabaomacfijppaaGreat
set_option linter.unusedVariables false
namespace Go.Proofs.YtabaomacfijppaaGreat

def ab7 : List Fl := [([97], [(34, 1)])]
def ma (x : List UInt8) : Fsd := ((x, [], []), 1, ab7, [])
section
variable {x : List UInt8}
end
end Go.Proofs.YtabaomacfijppaaGreat
namespace Go.Proofs.YtabaomacfijppaaGreat
open Go.RowKit
set_option linter.unusedVariables false
set_option linter.unusedSimpArgs false

def CellAt (w : World) (b o : Nat) (v : Value) : Prop := w.cell? ⟨b, o, none⟩ = some v
theorem CellAt.carry {w w' : World} {b o : Nat} {v : Value} (h : CellAt w b o v) (hb : Below w.heap.size w w') : CellAt w' b o v := keeps_cell _ _ _ _ h hb
end Go.Proofs.YtabaomacfijppaaGreat
namespace Go.Proofs.YtabaomacfijppaaGreat
open Go.RowKit
set_option linter.unusedVariables false
set_option linter.unusedSimpArgs false

abbrev St := Nat × List UInt8 × List UInt8 × Int × List UInt8
def RdS (w : World) (v : Value) (l : List St) : Prop :=
  (l = [] ∧ (v = .slice none 0 0 ∨ ∃ a c, v = .slice (some a) 0 c)) ∨
  ∃ b off c, v = .slice (some ⟨b, off, none⟩) l.length c ∧ l.length ≤ c ∧ c ≤ maxLen ∧ ∀ j, (h : j < l.length) →
    (l[j]).1 < 256 ∧ w.cell? ⟨b, off + j * 5, none⟩ = some (.int .u8 (l[j]).1) ∧ w.cell? ⟨b, off + j * 5 + 1, none⟩ = some (.string (bs (l[j]).2.1)) ∧ w.cell? ⟨b, off + j * 5 + 2, none⟩ = some (.string (bs (l[j]).2.2.1)) ∧ w.cell? ⟨b, off + j * 5 + 3, none⟩ = some (.int .i64 (l[j]).2.2.2.1) ∧ ∃ a c2, w.cell? ⟨b, off + j * 5 + 4, none⟩ = some (.slice a (l[j]).2.2.2.2.length c2) ∧ Rd w (.slice a (l[j]).2.2.2.2.length c2) (l[j]).2.2.2.2
theorem RdS.carry {w w' : World} {v : Value} {l : List St} (h : RdS w v l) (hb : Below w.heap.size w w') : RdS w' v l := by
  rcases h with h | ⟨b, off, c, rfl, h1, h2, h3⟩
  · exact .inl h
  · refine .inr ⟨b, off, c, rfl, h1, h2, fun j hj => ?_⟩
    obtain ⟨k0, k1, k2, k3, k4, a, c2, k5, k6⟩ := h3 j hj
    exact ⟨k0, keeps_cell _ _ _ _ k1 hb, keeps_cell _ _ _ _ k2 hb, keeps_cell _ _ _ _ k3 hb, keeps_cell _ _ _ _ k4 hb, a, c2, keeps_cell _ _ _ _ k5 hb, k6.carry hb⟩
theorem RdS.form {w : World} {v : Value} {l : List St} (h : RdS w v l) : ∃ a c, v = .slice a l.length c := by
  rcases h with ⟨rfl, rfl | ⟨a, c, rfl⟩⟩ | ⟨b, off, c, rfl, _⟩
  · exact ⟨_, _, rfl⟩
  · exact ⟨_, _, rfl⟩
  · exact ⟨_, _, rfl⟩
theorem RdS.len_le {w : World} {v : Value} {l : List St} (h : RdS w v l) : l.length ≤ maxLen := by
  rcases h with ⟨rfl, _⟩ | ⟨b, off, c, rfl, h1, h2, _⟩
  · exact Nat.zero_le _
  · omega
theorem RdS.at {w : World} {a : Option Addr} {n c : Nat} {l : List St} (h : RdS w (.slice a n c) l) (j : Nat) (hj : j < l.length) :
    ∃ b off, a = some ⟨b, off, none⟩ ∧ (l[j]).1 < 256 ∧ w.cell? ⟨b, off + j * 5, none⟩ = some (.int .u8 (l[j]).1) ∧ w.cell? ⟨b, off + j * 5 + 1, none⟩ = some (.string (bs (l[j]).2.1)) ∧ w.cell? ⟨b, off + j * 5 + 2, none⟩ = some (.string (bs (l[j]).2.2.1)) ∧ w.cell? ⟨b, off + j * 5 + 3, none⟩ = some (.int .i64 (l[j]).2.2.2.1) ∧ ∃ a2 c2, w.cell? ⟨b, off + j * 5 + 4, none⟩ = some (.slice a2 (l[j]).2.2.2.2.length c2) ∧ Rd w (.slice a2 (l[j]).2.2.2.2.length c2) (l[j]).2.2.2.2 := by
  rcases h with ⟨rfl, _⟩ | ⟨b, off, c', e, _, _, hc⟩
  · exact absurd hj (by simp)
  · cases e; exact ⟨b, off, rfl, hc j hj⟩
end Go.Proofs.YtabaomacfijppaaGreat

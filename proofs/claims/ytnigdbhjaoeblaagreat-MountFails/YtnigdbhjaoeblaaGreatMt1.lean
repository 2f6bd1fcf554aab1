/-
  What mount.told and mount.Open do.
-/
import Derived.Test.YtnigdbhjaoeblaaGreatFsStep3
import Derived.Test.YtnigdbhjaoeblaaGreatMathFs
namespace Go.Proofs.YtnigdbhjaoeblaaGreat
open Go.RowKit
set_option linter.unusedVariables false
set_option linter.unusedSimpArgs false

theorem OwD.keptS {w w' : World} {base : Nat} {v : Value} {d : Dk} {q : Nat} {cs : Array Value} {t : TypeId} {fr : Nat × Nat} (h : OwD w base v d) (hg : w.grownBy w' (some q)) (hq : w.heap[q]? = some (.cells cs t fr)) (h1 : t ≠ 5) (h2 : t ≠ 53) (h3 : t ≠ 55) : OwD w' base v d := by
  obtain ⟨x, y, z, rfl, a, ⟨zw, ew, b1, b2⟩, ⟨za, ea, c1, c2⟩⟩ := h
  exact ⟨x, y, z, rfl, own_keptS a hg hq h1, ⟨zw, ew, own_keptS b1 hg hq h2, fun p hp => own_keptS (b2 p hp) hg hq h1⟩, ⟨za, ea, own_keptS c1 hg hq h3, fun p hp => own_keptS (c2 p hp) hg hq h1⟩⟩
/-- A variable for files on a disk. -/
def FsB (w : World) (r : Nat) : Prop := ∃ v0 v1 v2 v3 v4 v5, Bq w r 33 #[v0, v1, v2, v3, v4, v5]
theorem FsB.carry {w w' : World} {r : Nat} (h : FsB w r) (hb : Below w.heap.size w w') : FsB w' r := by
  obtain ⟨v0, v1, v2, v3, v4, v5, h⟩ := h
  exact ⟨v0, v1, v2, v3, v4, v5, h.carry hb⟩
theorem FsB.below {w w' : World} {r B : Nat} (h : FsB w r) (hr : r < B) (hb : Below B w w') : FsB w' r := by
  obtain ⟨v0, v1, v2, v3, v4, v5, h⟩ := h
  exact ⟨v0, v1, v2, v3, v4, v5, h.below hr hb⟩
theorem FsB.grown {w w' : World} {r p : Nat} (h : FsB w r) (hg : w.grownBy w' (some p)) (hne : r ≠ p) : FsB w' r := by
  obtain ⟨v0, v1, v2, v3, v4, v5, h⟩ := h
  exact ⟨v0, v1, v2, v3, v4, v5, h.grown hg hne⟩
theorem FsB.lt {w : World} {r : Nat} (h : FsB w r) : r < w.heap.size := by
  obtain ⟨v0, v1, v2, v3, v4, v5, h⟩ := h
  exact h.lt
theorem FsB.new (w : World) : FsB (w.alloc (.cells #[.slice none 0 0, .slice none 0 0, .slice none 0 0, .int .u32 0, .slice none 0 0, .slice none 0 0] 33)) w.heap.size := ⟨_, _, _, _, _, _, Bq.new _ _ _⟩
/-- Files on a disk are stored. -/
def set6 (w : World) (r : Nat) (x : FsV) : World := (((((w.setCell ⟨r, 0, none⟩ (.slice x.a1 x.n1 x.c1)).setCell ⟨r, 1, none⟩ (.slice x.a2 x.n2 x.c2)).setCell ⟨r, 2, none⟩ (.slice x.a3 x.n3 x.c3)).setCell ⟨r, 3, none⟩ (.int .u32 x.g)).setCell ⟨r, 4, none⟩ (.slice x.a4 x.n4 x.c4)).setCell ⟨r, 5, none⟩ (.slice x.a5 x.n5 x.c5)
theorem FsB.cells {w : World} {r : Nat} (h : FsB w r) : (∃ v, w.cell? ⟨r, 0, none⟩ = some v) ∧ (∃ v, w.cell? ⟨r, 1, none⟩ = some v) ∧ (∃ v, w.cell? ⟨r, 2, none⟩ = some v) ∧ (∃ v, w.cell? ⟨r, 3, none⟩ = some v) ∧ (∃ v, w.cell? ⟨r, 4, none⟩ = some v) ∧ (∃ v, w.cell? ⟨r, 5, none⟩ = some v) ∧ ∀ j, w.frozen? ⟨r, j, none⟩ = false := by
  obtain ⟨v0, v1, v2, v3, v4, v5, h⟩ := h
  exact ⟨⟨_, h.cell 0⟩, ⟨_, h.cell 1⟩, ⟨_, h.cell 2⟩, ⟨_, h.cell 3⟩, ⟨_, h.cell 4⟩, ⟨_, h.cell 5⟩, h.fz⟩
theorem FsB.put {w : World} {r : Nat} (h : FsB w r) (x : FsV) : FsAt (set6 w r x) r x ∧ w.grownBy (set6 w r x) (some r) := by
  obtain ⟨v0, v1, v2, v3, v4, v5, h⟩ := h
  refine ⟨(((((h.put 0 _).put 1 _).put 2 _).put 3 _).put 4 _).put 5 _, ?_⟩
  exact grown_set (grown_set (grown_set (grown_set (grown_set (grown_set (World.grownBy.refl _ _) 0 _) 1 _) 2 _) 3 _) 4 _) 5 _
end Go.Proofs.YtnigdbhjaoeblaaGreat
namespace Go.Proofs.YtnigdbhjaoeblaaGreat
open Go.RowKit
set_option linter.unusedVariables false
set_option linter.unusedSimpArgs false

theorem OwFs.keptS {w w' : World} {base : Nat} {v : Value} {f : Fsd} {q : Nat} {cs : Array Value} {t : TypeId} {fr : Nat × Nat} (h : OwFs w base v f) (hg : w.grownBy w' (some q)) (hq : w.heap[q]? = some (.cells cs t fr)) (h1 : t ≠ 5) (h2 : t ≠ 53) (h3 : t ≠ 55) (h4 : t ≠ 92) (h5 : t ≠ 166) : OwFs w' base v f := by
  obtain ⟨d1, d2, d3, x, y, rfl, a, b, c⟩ := h
  exact ⟨d1, d2, d3, x, y, rfl, a.keptS hg hq h1 h2 h3, b.keptS hg hq h4 h5, c.keptS hg hq h4 h5⟩
theorem OwFs.form {w : World} {base : Nat} {v : Value} {f : Fsd} (h : OwFs w base v f) : ∃ x : FsV, v = x.val ∧ RdX w x f := h.rd.form
/-- What is answered is stored in the result's variable. -/
theorem OwFs.stored {w w0 : World} {base r : Nat} {x : FsV} {f : Fsd} (h : OwFs w base x.val f) (hr : FsB w r) (hb : Below w0.heap.size w0 w) (hr0 : w0.heap.size ≤ r) :
    OwFs (set6 w r x) base x.val f ∧ Below w0.heap.size w0 (set6 w r x) ∧ FsAt (set6 w r x) r x := by
  obtain ⟨h1, h2⟩ := hr.put x
  obtain ⟨y0, y1, y2, y3, y4, y5, hq⟩ := hr
  exact ⟨h.keptS h2 hq (by decide) (by decide) (by decide) (by decide) (by decide), hb.grown h2 hb.size (by intro k hk; cases hk; exact hr0), h1⟩
end Go.Proofs.YtnigdbhjaoeblaaGreat
namespace Go.Proofs.YtnigdbhjaoeblaaGreat
open Go.RowKit
set_option linter.unusedVariables false
set_option linter.unusedSimpArgs false

theorem do1 {d : Dk} {a : Ac} (h : okD d = true) (ha : actE (mny d) a = 0) : doD d [a] 1 = match oneD d a with | none => (dz, 9) | some x => (x, 0) := by
  unfold doD
  rw [if_neg (by rw [chk_ok6 h]; decide), if_neg (by simp [firstE, ha]), if_neg (by simp)]
  rw [show Int.toNat 1 = 1 from rfl]
  simp only [List.take_succ_cons, List.take_zero, onesD]
  cases oneD d a <;> rfl
def wActs : Int → List (List UInt8) → List Ac
  | _, [] => []
  | n, b :: l => (false, n, b) :: wActs (n + 1) l
theorem onesD_append6 : ∀ (a b : List Ac) (d : Dk), onesD d (a ++ b) = (onesD d a).bind fun x => onesD x b
  | [], b, d => rfl
  | x :: a, b, d => by
    show (match oneD d x with | none => none | some y => onesD y (a ++ b)) = (match oneD d x with | none => none | some y => onesD y a).bind _
    cases oneD d x with
    | none => rfl
    | some y => exact onesD_append6 a b y
/-- On the way: the disk is so, or there was no room. -/
def RnW (y : Wy) (o : Option Dk) (g : Nat) (D K : List Fl) (l : List UInt8) : Prop := match o with | some x => y = ((x, g, D, K), 0, l) | none => y.2.1 = 9
theorem thenW_err {s : Stp} {y : Wy} (h : y.2.1 ≠ 0) : thenW s y = y := by unfold thenW; rw [if_neg h]
theorem RnW.act {y : Wy} {o : Option Dk} {g : Nat} {D K : List Fl} {l : List UInt8} (s : Stp) (a : Ac) (h : RnW y o g D K l) (hok : ∀ x, o = some x → okD x = true ∧ actE (mny x) a = 0)
    (hs : ∀ x, s ((x, g, D, K), 0, l) = (diskW ((x, g, D, K), 0, l) (doD x [a] 1).1, (doD x [a] 1).2)) : RnW (thenW s y) (o.bind fun x => oneD x a) g D K l := by
  cases o with
  | none =>
    have h : y.2.1 = 9 := h
    rw [thenW_err (by rw [h]; decide)]
    exact h
  | some x =>
    have h : y = ((x, g, D, K), 0, l) := h
    subst h
    obtain ⟨h1, h2⟩ := hok x rfl
    have e : thenW s ((x, g, D, K), 0, l) = (((doD x [a] 1).1, g, D, K), (doD x [a] 1).2, l) := by
      unfold thenW
      rw [if_pos rfl, hs]
      rfl
    rw [e, do1 h1 h2]
    show RnW _ (oneD x a) g D K l
    cases oneD x a <;> rfl
theorem writes_ok (g : Nat) (D K : List Fl) (e : Int) (l : List UInt8) : ∀ (bl : List (List UInt8)) (n : Int) (x : Dk), okD x = true → (∀ a ∈ wActs n bl, actE (mny x) a = 0) →
    match onesD x (wActs n bl) with | some x' => writesW n bl ((x, g, D, K), e, l) = (((x', g, D, K), e, l), 0) | none => (writesW n bl ((x, g, D, K), e, l)).2 = 9
  | [], n, x, h, ha => rfl
  | b :: bl, n, x, h, ha => by
    have h1 := ha (false, n, b) (List.mem_cons_self ..)
    have e1 : writeW n b ((x, g, D, K), e, l) = (diskW ((x, g, D, K), e, l) (doD x [(false, n, b)] 1).1, (doD x [(false, n, b)] 1).2) := rfl
    show (match (match oneD x (false, n, b) with | none => none | some y => onesD y (wActs (n + 1) bl)) with | some x' => writesW n (b :: bl) ((x, g, D, K), e, l) = (((x', g, D, K), e, l), 0) | none => (writesW n (b :: bl) ((x, g, D, K), e, l)).2 = 9)
    rw [writesW_cons, e1, do1 h h1]
    cases ho : oneD x (false, n, b) with
    | none => simp
    | some y =>
      obtain ⟨h2, h3, _⟩ := okD_one h h1 ho
      have ih := writes_ok g D K e l bl (n + 1) y h2 (fun a ha' => by rw [h3]; exact ha a (List.mem_cons_of_mem _ ha'))
      simp only [ne_eq, not_true_eq_false, if_false]
      exact ih
theorem RnW.writes {y : Wy} {o : Option Dk} {g : Nat} {D K : List Fl} {l : List UInt8} (h : RnW y o g D K l) (hok : ∀ x, o = some x → okD x = true ∧ ∀ a ∈ wActs ((2 + g % 2 * 16 : Nat) : Int) (wholeB l), actE (mny x) a = 0) : RnW (thenW wdirW y) (o.bind fun x => onesD x (wActs ((2 + g % 2 * 16 : Nat) : Int) (wholeB l))) g D K l := by
  cases o with
  | none =>
    have h : y.2.1 = 9 := h
    rw [thenW_err (by rw [h]; decide)]
    exact h
  | some x =>
    have h : y = ((x, g, D, K), 0, l) := h
    subst h
    obtain ⟨h1, h2⟩ := hok x rfl
    have hw := writes_ok g D K 0 l (wholeB l) ((2 + g % 2 * 16 : Nat) : Int) x h1 h2
    have e : wdirW ((x, g, D, K), 0, l) = writesW ((2 + g % 2 * 16 : Nat) : Int) (wholeB l) ((x, g, D, K), 0, l) := rfl
    show RnW _ (onesD x (wActs ((2 + g % 2 * 16 : Nat) : Int) (wholeB l))) g D K l
    unfold thenW
    rw [if_pos rfl, e]
    cases ho : onesD x (wActs ((2 + g % 2 * 16 : Nat) : Int) (wholeB l)) with
    | none => rw [ho] at hw; exact hw
    | some x' =>
      rw [ho] at hw
      show _ = _
      rw [hw]
end Go.Proofs.YtnigdbhjaoeblaaGreat
namespace Go.Proofs.YtnigdbhjaoeblaaGreat
open Go.RowKit
set_option linter.unusedVariables false
set_option linter.unusedSimpArgs false

/-- A row of texts of one's own. -/
def txv (l : List (List UInt8)) : List Value := l.map fun s => Value.string (bs s)
def OwT (w : World) (base : Nat) (v : Value) (l : List (List UInt8)) : Prop := w.ownsRow base 9 1 v l.length (txv l)
theorem OwT.nil (w : World) (base : Nat) : OwT w base (.slice none 0 0) [] := World.ownsRow_nil _ _ _ _
theorem OwT.form {w : World} {base : Nat} {v : Value} {l : List (List UInt8)} (h : OwT w base v l) : ∃ a c, v = .slice a l.length c := by
  rcases h.2 with ⟨rfl, hn⟩ | ⟨g, cap, cur, rfl, _⟩
  · rw [hn]; exact ⟨_, _, rfl⟩
  · exact ⟨_, _, rfl⟩
theorem OwT.carry {w w' : World} {base : Nat} {v : Value} {l : List (List UInt8)} (h : OwT w base v l) (hb : Below w.heap.size w w') : OwT w' base v l := own_carry h hb
theorem OwT.mono {w : World} {base base' : Nat} {v : Value} {l : List (List UInt8)} (h : OwT w base v l) (hb : base' ≤ base) : OwT w base' v l := own_mono h hb
theorem OwT.at {w : World} {base : Nat} {a : Option Addr} {n c : Nat} {l : List (List UInt8)} (h : OwT w base (.slice a n c) l) (j : Nat) (hj : j < l.length) : ∃ g, a = some ⟨g, 0, none⟩ ∧ w.cell? ⟨g, j, none⟩ = some (.string (bs l[j])) := by
  rcases h.2 with ⟨e, hn⟩ | ⟨g, cap, cur, e, _⟩
  · rw [hn] at hj; cases hj
  · cases e
    have c1 := h.cells (g := g) rfl j (.string (bs l[j])) (by simp [txv, List.getElem?_eq_getElem hj])
    exact ⟨g, rfl, by simpa [Addr.add_lit] using c1⟩
end Go.Proofs.YtnigdbhjaoeblaaGreat
namespace Go.Proofs.YtnigdbhjaoeblaaGreat
open Go.RowKit
set_option linter.unusedVariables false
set_option linter.unusedSimpArgs false

theorem okD_len {d : Dk} (h : okD d = true) : d.1.length = 128 * mny d := (Fine.of_ok h).1.1
end Go.Proofs.YtnigdbhjaoeblaaGreat
namespace Go.Proofs.YtnigdbhjaoeblaaGreat
open Go.RowKit
set_option linter.unusedVariables false
set_option linter.unusedSimpArgs false

theorem OwFs.bx {w : World} {base : Nat} {v : Value} {f : Fsd} (h : OwFs w base v f) : ∃ x : FsV, v = x.val ∧ RdX w x f ∧ OwFs w base x.val f := by
  obtain ⟨x, e, hx⟩ := h.form
  exact ⟨x, e, hx, e ▸ h⟩

theorem FsV.ext_val {x y : FsV} (h : x.val = y.val) : x = y := by
  obtain ⟨a1, n1, c1, a2, n2, c2, a3, n3, c3, g, a4, n4, c4, a5, n5, c5⟩ := x
  obtain ⟨b1, m1, d1, b2, m2, d2, b3, m3, d3, g', b4, m4, d4, b5, m5, d5⟩ := y
  injection h with h
  have e0 := congrArg (fun z : Array Value => z[0]!) h
  have e1 := congrArg (fun z : Array Value => z[1]!) h
  have e2 := congrArg (fun z : Array Value => z[2]!) h
  have e3 := congrArg (fun z : Array Value => z[3]!) h
  have e4 := congrArg (fun z : Array Value => z[4]!) h
  have e5 := congrArg (fun z : Array Value => z[5]!) h
  simp at e0 e1 e2 e3 e4 e5
  obtain ⟨rfl, rfl, rfl⟩ := e0
  obtain ⟨rfl, rfl, rfl⟩ := e1
  obtain ⟨rfl, rfl, rfl⟩ := e2
  have e3 : g = g' := by omega
  subst e3
  obtain ⟨rfl, rfl, rfl⟩ := e4
  obtain ⟨rfl, rfl, rfl⟩ := e5
  rfl

theorem FsB.of {w : World} {q : Nat} {x : FsV} (h : FsAt w q x) : FsB w q := ⟨_, _, _, _, _, _, h⟩
/-- A variable is written over. -/
theorem OwFs.assign {w w0 : World} {base q : Nat} {y : FsV} {f : Fsd} (h : OwFs w base y.val f) (hq : FsB w q) (hb : Below w0.heap.size w0 w) (hq0 : w0.heap.size ≤ q) :
    OwFs (set6 w q y) base y.val f ∧ Below w0.heap.size w0 (set6 w q y) ∧ FsAt (set6 w q y) q y ∧ RdX (set6 w q y) y f ∧ w.grownBy (set6 w q y) (some q) := by
  obtain ⟨h1, h2, h3⟩ := h.stored hq hb hq0
  refine ⟨h1, h2, h3, ?_, (hq.put y).2⟩
  obtain ⟨x', ex', hx'⟩ := h1.form
  have e : x' = y := FsV.ext_val ex'.symm
  subst e
  exact hx'

end Go.Proofs.YtnigdbhjaoeblaaGreat
namespace Go.Proofs.YtnigdbhjaoeblaaGreat
open Go.RowKit
set_option linter.unusedVariables false
set_option linter.unusedSimpArgs false

def tornM (f g : Fsd) (many : Int) (K : List Bool) : Dk × Int :=
  if fsE f ≠ 0 ∨ fsE g ≠ 0 ∨ f.1.2.2 ≠ [] then (dz, 8)
  else if (doD f.1 g.1.2.2 (g.1.2.2.length : Nat)).2 ≠ 0 ∨ ¬ ((doD f.1 g.1.2.2 (g.1.2.2.length : Nat)).1.1 = g.1.1 ∧ (doD f.1 g.1.2.2 (g.1.2.2.length : Nat)).1.2.1 = g.1.2.1) then (dz, 8)
  else if many < 0 ∨ (g.1.2.2.length : Int) < many then (dz, 2)
  else crashD (doD f.1 g.1.2.2 many).1 K
/-! ### a commit, wherever power fails in it -/
theorem take_ones {d x : Dk} {l : List Ac} (h : onesD d l = some x) (j : Nat) : ∃ y, onesD d (l.take j) = some y ∧ onesD y (l.drop j) = some x := by
  rw [← List.take_append_drop j l, onesD_append6] at h
  obtain ⟨y, h1, h2⟩ := Option.bind_eq_some_iff.1 h
  exact ⟨y, h1, h2⟩
end Go.Proofs.YtnigdbhjaoeblaaGreat
namespace Go.Proofs.YtnigdbhjaoeblaaGreat
open Go.RowKit
set_option linter.unusedVariables false
set_option linter.unusedSimpArgs false

theorem dk_cells {w : World} {p : Nat} {a b c : Value} (h : Bq w p 27 #[a, b, c]) : w.cell? ⟨p, 0, none⟩ = some a ∧ w.cell? ⟨p, 1, none⟩ = some b ∧ w.cell? ⟨p, 2, none⟩ = some c := ⟨h.cell 0, h.cell 1, h.cell 2⟩
end Go.Proofs.YtnigdbhjaoeblaaGreat

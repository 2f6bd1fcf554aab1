/-
  Sync, Clear, Commit of files on a disk.
-/
import Derived.Test.YtlibnefibeikcaaRegP
import Derived.Test.YtlibnefibeikcaaFiRef6
import Derived.Test.YtlibnefibeikcaaRmRef
import Derived.Test.YtlibnefibeikcaaSmall
import Derived.Test.YtlibnefibeikcaaRmKit
import Derived.ProofKit
import Derived.Deep.Slices
import Derived.Deep.Strs
import Derived.OpenShut
import Derived.Lib.SmallJoins
import Derived.Test.YtlibnefibeikcaaFiNames
import Derived.Test.YtlibnefibeikcaaFiRef1
import Derived.Test.YtlibnefibeikcaaMathFi2
namespace Go.Proofs.Ytlibnefibeikcaa
open Go.RowKit
set_option linter.unusedVariables false
set_option linter.unusedSimpArgs false

section
variable {P : Program} {md : Region.Mode} {ops : Array Oper} {Q : Exit → Act → World → Prop}
/-- Either of two operations may come up. -/
theorem reg_two {S : World → Prop} {i j : Nat} {fuel : Nat} {listed : Array Bool} {a : Act} {w : World} (hr : Region.ready md ops listed = [i, j])
    (h1 : wpOp P ops (NoPanic Q) i (fun a' w' => S w' ∧ wpAnyH P md ops (NoPanic Q) S fuel (listed.setIfInBounds i true) a' w') a w)
    (h2 : wpOp P ops (NoPanic Q) j (fun a' w' => S w' ∧ wpAnyH P md ops (NoPanic Q) S fuel (listed.setIfInBounds j true) a' w') a w) : wpAnyH P md ops (NoPanic Q) S (fuel + 1) listed a w := by
  refine wpAnyH_all (rs := [i, j]) hr (by simp) ?_
  intro k hk
  rcases List.mem_cons.1 hk with rfl | hk
  · exact h1
  · obtain rfl := List.mem_singleton.1 hk
    exact h2
theorem wop_run {K : Act → World → Prop} {i : Nat} {dst : Option Tmp} {op : Op} {ty : TypeId} {pos : String} {aft : Array Edge} {gd : Option (Nat × Bool)} {a : Act} {w w' : World} {v : Value} (hi : ops[i]? = some { dst := dst, op := op, type := ty, pos := pos, after := aft, guard := gd }) (hw : Region.wanted { dst := dst, op := op, type := ty, pos := pos, after := aft, guard := gd } (yielded ops a.tmps) = true)
    (hrun : (execOp a.eval { dst := dst, op := op, type := ty, pos := pos, after := aft, guard := gd }).run P w = .ok (.value v) w') (h : K (a.put dst v) w') : wpOp P ops Q i K a w := by
  unfold wpOp
  simp only [hi, hw, if_true]
  refine .inl ?_
  unfold Oper.wp
  rw [hrun]
  exact h
theorem wop_callg {K : Act → World → Prop} {i : Nat} {dst : Option Tmp} {op : Op} {ty : TypeId} {pos : String} {aft : Array Edge} {gd : Option (Nat × Bool)} {a : Act} {w : World} {f : FuncId} {args : Array Value} {R : Value → World → Prop} (hi : ops[i]? = some { dst := dst, op := op, type := ty, pos := pos, after := aft, guard := gd }) (hw : Region.wanted { dst := dst, op := op, type := ty, pos := pos, after := aft, guard := gd } (yielded ops a.tmps) = true)
    (hrun : (execOp a.eval { dst := dst, op := op, type := ty, pos := pos, after := aft, guard := gd }).run P w = .ok (.enter f args) w) (hc : Calls P f args w fun e w' => ∃ v, e = .returned v ∧ R v w') (h : ∀ v w', R v w' → K (a.put dst v) w') : wpOp P ops (NoPanic Q) i K a w := by
  unfold wpOp
  simp only [hi, hw, if_true]
  refine .inl ?_
  unfold Oper.wp
  rw [hrun]
  exact hc.mono fun e w' ⟨v, he, hv⟩ => by subst he; exact h v w' hv
end

theorem region_cut {P : Program} {id : Nat} {ops : Array Oper} {Q : Exit → Act → World → Prop} {a : Act} {w : World} {α : Type} (F : α → Act → Act) (R : α → World → Prop) (h : (Code.region id ops true).wp P (fun e a' w' => e = .normal ∧ ∃ x, a' = F x a ∧ R x w') a w) (k : ∀ x w', R x w' → Q .normal (F x a) w') : (Code.region id ops true).wp P Q a w :=
  Code.wp_mono (fun e a' w' ⟨h1, x, h2, h3⟩ => by subst h1 h2; exact k x w' h3) h

end Go.Proofs.Ytlibnefibeikcaa
namespace Go.Proofs.Ytlibnefibeikcaa
open Go.RowKit
set_option linter.unusedVariables false
set_option linter.unusedSimpArgs false

theorem FileAt.name {w : World} {q : Nat} {s : ByteArray} {y : Value} (h : FileAt w q s y) (u : ByteArray) : FileAt (w.setCell ⟨q, 0, none⟩ (.string u)) q u y := by
  have := heap_setCell_same w q 0 _ 43 (.string u) h
  unfold FileAt
  rw [this]; rfl
end Go.Proofs.Ytlibnefibeikcaa
namespace Go.Proofs.Ytlibnefibeikcaa
open Go.RowKit
set_option linter.unusedVariables false
set_option linter.unusedSimpArgs false

/-! ### what is turned -/
/-- Cells of extents may be others; all else stays, and each block keeps its size. -/
def Shp (base : Nat) (w w' : World) : Prop := Below base w w' ∧ w.heap.size ≤ w'.heap.size ∧ ∀ (k : Nat) (cs : Array Value) (t : TypeId), w.heap[k]? = some (.cells cs t (0, 0)) → ∃ cs' : Array Value, w'.heap[k]? = some (.cells cs' t (0, 0)) ∧ cs'.size = cs.size ∧ (t ≠ 45 → cs' = cs)
theorem Shp.refl (base : Nat) (w : World) : Shp base w w := ⟨Below.refl _ _, Nat.le_refl _, fun k cs t h => ⟨cs, h, rfl, fun _ => rfl⟩⟩
theorem Shp.trans {base : Nat} {w w1 w2 : World} (h : Shp base w w1) (k : Shp base w1 w2) : Shp base w w2 := by
  refine ⟨h.1.trans k.1, Nat.le_trans h.2.1 k.2.1, fun i cs t hi => ?_⟩
  obtain ⟨c1, h1, h2, h3⟩ := h.2.2 i cs t hi
  obtain ⟨c2, k1, k2, k3⟩ := k.2.2 i c1 t h1
  exact ⟨c2, k1, k2.trans h2, fun e => (k3 e).trans (h3 e)⟩
/-- Extents that may be turned. -/
def TurnOk (w : World) (base : Nat) (v : Value) : Prop := (∃ a c, v = .slice a 0 c) ∨ ∃ g n cap cs, v = .slice (some ⟨g, 0, none⟩) n cap ∧ base ≤ g ∧ w.heap[g]? = some (.cells cs 45 (0, 0)) ∧ n * 2 ≤ cs.size
theorem TurnOk.shp {w w' : World} {base : Nat} {v : Value} (h : TurnOk w base v) (k : Shp base w w') : TurnOk w' base v := by
  rcases h with h | ⟨g, n, cap, cs, rfl, h1, h2, h3⟩
  · exact .inl h
  · obtain ⟨cs', k1, k2, _⟩ := k.2.2 g _ _ h2
    exact .inr ⟨g, n, cap, cs', rfl, h1, k1, by omega⟩
end Go.Proofs.Ytlibnefibeikcaa
namespace Go.Proofs.Ytlibnefibeikcaa
open Go.RowKit
set_option linter.unusedVariables false
set_option linter.unusedSimpArgs false

theorem lo_ok {n1 c1 m sz lo ge ar : Nat} (h1 : n1 = 128 * m) (hm : 34 < m) (hs : sz ≤ 2048) (hc : n1 ≤ c1) (har : ar = 2 + ge % 2 * 16) (hlo : lo = ar * 128) : lo ≤ n1 ∧ ¬ lo = c1 ∧ lo ≤ c1 ∧ sz ≤ n1 - lo ∧ sz ≤ c1 - lo ∧ lo + sz ≤ n1 ∧ lo ≤ 4096 := by omega
theorem lo_wrap {lo ge ar : Nat} (har : ar = 2 + ge % 2 * 16) (hlo : lo = ar * 128) : wrap64 ((ar : Int) * 128) = (lo : Int) := by
  unfold wrap64
  omega
theorem rd_at {w : World} {b off n c : Nat} {l : List UInt8} (h : Rd w (.slice (some ⟨b, off, none⟩) n c) l) (lo sz : Nat) (h2 : lo + sz ≤ l.length) (hl : l ≠ []) : Rd w (.slice (some ⟨b, off + lo, none⟩) sz (c - lo)) ((l.drop lo).take sz) := by
  by_cases h0 : sz = 0
  · subst h0; exact .inl ⟨by simp, .inr ⟨_, _, rfl⟩⟩
  · obtain ⟨b', off', e, _, _, h3⟩ := rd_sub h lo (lo + sz) (by omega) h2
    cases e
    rw [show lo + sz - lo = sz by omega] at h3
    exact h3
theorem rd_some6 {w : World} {a : Option Addr} {n c : Nat} {l : List UInt8} (h : Rd w (.slice a n c) l) (hl : l ≠ []) : ∃ b off, a = some ⟨b, off, none⟩ ∧ n ≤ c := by
  rcases h with ⟨rfl, _⟩ | ⟨b, off, c', e, e1, e2, hc⟩
  · exact absurd rfl hl
  · cases e; exact ⟨b, off, rfl, e1⟩
theorem RdD.d1 {w : World} {x1 : Option Addr} {m1 d1 : Nat} {v2 v3 : Value} {d : Dk} (h : RdD w (.agg #[.slice x1 m1 d1, v2, v3]) d) : Rd w (.slice x1 m1 d1) d.1 := by
  obtain ⟨x, y, z, e, h1, h2, h3⟩ := h
  have e1 : _ = x := congrArg (fun v : Value => match v with | .agg z => z[0]! | _ => undef) e
  simp at e1
  rw [e1]; exact h1
theorem RdD.d2 {w : World} {v1 v2 v3 : Value} {d : Dk} (h : RdD w (.agg #[v1, v2, v3]) d) : RdW w v2 d.2.1 := by
  obtain ⟨x, y, z, e, h1, h2, h3⟩ := h
  have e1 : _ = y := congrArg (fun v : Value => match v with | .agg z => z[1]! | _ => undef) e
  simp at e1
  rw [e1]; exact h2
theorem latest_lt {d : Dk} {ge sz : Nat} (h : latestS d = (ge, sz, 0)) : sz ≤ 2048 ∧ ge < 4294967296 ∧ d.1.length = 128 * mny d ∧ 34 < mny d ∧ mny d ≤ 4096 ∧ okD d = true := by
  obtain ⟨h1, h2, hg, hb⟩ := latestS_ok h
  have := bestS_slot hb hg
  have h3 := (okD_iff d).1 h1
  refine ⟨?_, ?_, by have := h3.1; unfold mny; omega, h2, h3.2.2.1, h1⟩ <;>
  · unfold lastS at this
    split at this
    · have e1 := congrArg Prod.fst this
      have e2 := congrArg Prod.snd this
      simp only at e1 e2
      have := ofS_lt (blk d.1 (ge % 2))
      omega
    · have e1 := congrArg Prod.fst this
      simp only at e1
      omega
theorem genB_len {d : Dk} {ge sz : Nat} (h : latestS d = (ge, sz, 0)) : (genB d ge sz).length = sz := by
  obtain ⟨h1, h2, h3, h4, _⟩ := latest_lt h
  unfold genB
  rw [List.length_take, List.length_drop]
  omega

end Go.Proofs.Ytlibnefibeikcaa
namespace Go.Proofs.Ytlibnefibeikcaa
open Go.RowKit
set_option linter.unusedVariables false
set_option linter.unusedSimpArgs false

/-- How far the document's Take has come: so many whole extents, and so many blocks still to go; or all is taken. -/
def TkSt (L : List Ex) (W : Int) (i : Nat) (Z : Int) (O : List Ex) : Prop := (Z = W - manyX (L.take i) ∧ 1 ≤ Z ∧ O = L.take i) ∨ (Z = 0 ∧ cutX L W = some O)
theorem TkSt.last {L : List Ex} {W Z : Int} {i : Nat} {O : List Ex} (h : TkSt L W i Z O) (hi : i < L.length) (hz : 0 < Z) (hp : ∀ x ∈ L, 1 ≤ x.2) (hle : Z ≤ (L[i]).2) : TkSt L W (i + 1) 0 (O ++ [((L[i]).1, Z)]) := by
  rcases h with ⟨h1, h2, rfl⟩ | ⟨h1, _⟩
  · refine .inr ⟨rfl, ?_⟩
    rw [cutX_here (w := W) hi (by omega) hp (by omega), h1]
  · omega
theorem TkSt.more {L : List Ex} {W Z : Int} {i : Nat} {O : List Ex} (h : TkSt L W i Z O) (hi : i < L.length) (hz : 0 < Z) (hlt : (L[i]).2 < Z) : TkSt L W (i + 1) (Z - (L[i]).2) (O ++ [((L[i]).1, (L[i]).2)]) := by
  rcases h with ⟨h1, h2, rfl⟩ | ⟨h1, _⟩
  · refine .inl ⟨?_, by omega, ?_⟩
    · rw [take_snoc L i hi, manyX_snoc]; omega
    · rw [take_snoc L i hi]
  · omega

end Go.Proofs.Ytlibnefibeikcaa
namespace Go.Proofs.Ytlibnefibeikcaa
open Go.RowKit
set_option linter.unusedVariables false
set_option linter.unusedSimpArgs false

/-- A write into another row leaves this one. -/
theorem OwE.other {w w' : World} {base g : Nat} {v : Value} {l : List Ex} (h : OwE w base v l) (hg : w.grownBy w' (some g)) (hlt : g < base) : OwE w' base v l :=
  World.ownsRow.kept h hg (by
    cases hv : v.ownBlock with
    | none => exact .inl rfl
    | some k => right; intro e; have := (World.ownsRow.lt h k hv).1; cases e; omega)

end Go.Proofs.Ytlibnefibeikcaa
namespace Go.Proofs.Ytlibnefibeikcaa
open Go.RowKit
set_option linter.unusedVariables false
set_option linter.unusedSimpArgs false

theorem OwF.own_lt {w : World} {base : Nat} {v : Value} {fs : List Fl} (h : OwF w base v fs) : ∀ k, v.ownBlock = some k → k < w.heap.size := by
  obtain ⟨ps, _, h⟩ := h
  intro k hk
  exact (h.1.lt k hk).2
def smallD (fs : List Fl) : Prop := fs.length ≤ 1000 ∧ ∀ f ∈ fs, f.2.length ≤ 1000000
theorem small_chk {fs : List Fl} {B : Int} (h : chkF fs B = 0) : smallD fs := by
  have h1 := (chkF_may h).2
  exact ⟨by have := h1.1; omega, may_le h1⟩

end Go.Proofs.Ytlibnefibeikcaa
namespace Go.Proofs.Ytlibnefibeikcaa
open Go.RowKit
set_option linter.unusedVariables false
set_option linter.unusedSimpArgs false

/-- Rows of rows of bytes. -/
def OwBB (w : World) (base : Nat) (v : Value) (ls : List (List UInt8)) : Prop := ∃ ps : List (List UInt8 × Value), ps.map (·.1) = ls ∧ w.ownsRow base 22 1 v ls.length (ps.map (·.2)) ∧ ∀ p ∈ ps, OwB w base p.2 p.1
theorem OwBB.nil (w : World) (base : Nat) : OwBB w base (.slice none 0 0) [] := ⟨[], rfl, World.ownsRow_nil _ _ _ _, by simp⟩
theorem OwBB.carry {w w' : World} {base : Nat} {v : Value} {ls : List (List UInt8)} (h : OwBB w base v ls) (hb : Below w.heap.size w w') : OwBB w' base v ls := by
  obtain ⟨ps, e, h1, h2⟩ := h
  exact ⟨ps, e, own_carry h1 hb, fun p hp => (h2 p hp).carry hb⟩
theorem OwBB.mono {w : World} {base base' : Nat} {v : Value} {ls : List (List UInt8)} (h : OwBB w base v ls) (hb : base' ≤ base) : OwBB w base' v ls := by
  obtain ⟨ps, e, h1, h2⟩ := h
  exact ⟨ps, e, own_mono h1 hb, fun p hp => (h2 p hp).mono hb⟩
theorem OwBB.grown {w w' : World} {base g : Nat} {v : Value} {ls : List (List UInt8)} (h : OwBB w base v ls) (hg : w.grownBy w' (some g)) (hb : g < base) : OwBB w' base v ls := by
  obtain ⟨ps, e, h1, h2⟩ := h
  exact ⟨ps, e, own_grown h1 hg hb, fun p hp => (h2 p hp).grown hg hb⟩
theorem OwBB.form {w : World} {base : Nat} {v : Value} {ls : List (List UInt8)} (h : OwBB w base v ls) : ∃ a c, v = .slice a ls.length c := by
  obtain ⟨ps, e, h1, h2⟩ := h
  rcases h1.2 with ⟨rfl, hn⟩ | ⟨g, cap, cur, rfl, _⟩
  · rw [hn]; exact ⟨_, _, rfl⟩
  · exact ⟨_, _, rfl⟩
theorem OwBB.at {w : World} {base : Nat} {a : Option Addr} {n c : Nat} {ls : List (List UInt8)} (h : OwBB w base (.slice a n c) ls) (j : Nat) (hj : j < ls.length) :
    ∃ g y z, a = some ⟨g, 0, none⟩ ∧ w.cell? ⟨g, j, none⟩ = some (.slice y (ls[j]).length z) ∧ OwB w base (.slice y (ls[j]).length z) ls[j] := by
  obtain ⟨ps, rfl, h1, h2⟩ := h
  have hjp : j < ps.length := by simpa using hj
  rcases h1.2 with ⟨e, hn⟩ | ⟨g, cap, cur, e, _⟩
  · simp at hn; subst hn; simp at hj
  · cases e
    have c1 := h1.cells (g := g) rfl j ((ps[j]).2) (by simp [List.getElem?_eq_getElem hjp])
    have ho := h2 ps[j] (List.getElem_mem hjp)
    obtain ⟨y, z, hv⟩ := ho.form
    simp only [List.getElem_map]
    rw [hv] at c1 ho
    exact ⟨g, y, z, rfl, by simpa [Addr.add_lit] using c1, ho⟩
end Go.Proofs.Ytlibnefibeikcaa
namespace Go.Proofs.Ytlibnefibeikcaa
open Go.RowKit
set_option linter.unusedVariables false
set_option linter.unusedSimpArgs false

/-- In every later world in which only the way has changed its files read so. -/
def WayR (w : World) (p base : Nat) (o : Bool) (y : Wy) (x : FsV) (ab : Option Addr) (nb cb : Nat) : Prop :=
  ∀ w', w.grownBy w' (some p) → RdX w' x y.1 ∧ Rd w' (.slice ab nb cb) y.2.2 ∧ (o = true → y.2.1 = 0 → OwD w' base x.dv y.1.1)
theorem WayR.later {w w1 : World} {p base : Nat} {o : Bool} {y : Wy} {x : FsV} {ab : Option Addr} {nb cb : Nat} (h : WayR w p base o y x ab nb cb) (hg : w.grownBy w1 (some p)) : WayR w1 p base o y x ab nb cb := fun w' h' => h w' (hg.trans h')
theorem grown_set {w w' : World} {p : Nat} (h : w.grownBy w' (some p)) (j : Nat) (v : Value) : w.grownBy (w'.setCell ⟨p, j, none⟩ v) (some p) := h.trans (grown_setCellE w' ⟨p, j, none⟩ v)
end Go.Proofs.Ytlibnefibeikcaa
namespace Go.Proofs.Ytlibnefibeikcaa
open Go.RowKit
set_option linter.unusedVariables false
set_option linter.unusedSimpArgs false

theorem writesW_cons (n : Int) (b : List UInt8) (l : List (List UInt8)) (x : Wy) : writesW n (b :: l) x = if (writeW n b x).2 ≠ 0 then writeW n b x else writesW (n + 1) l (writeW n b x).1 := rfl
end Go.Proofs.Ytlibnefibeikcaa
namespace Go.Proofs.Ytlibnefibeikcaa
open Go.RowKit
set_option linter.unusedVariables false
set_option linter.unusedSimpArgs false

theorem OwD.keptS {w w' : World} {base : Nat} {v : Value} {d : Dk} {q : Nat} {cs : Array Value} {t : TypeId} {fr : Nat × Nat} (h : OwD w base v d) (hg : w.grownBy w' (some q)) (hq : w.heap[q]? = some (.cells cs t fr)) (h1 : t ≠ 5) (h2 : t ≠ 49) (h3 : t ≠ 71) : OwD w' base v d := by
  obtain ⟨x, y, z, rfl, a, ⟨zw, ew, b1, b2⟩, ⟨za, ea, c1, c2⟩⟩ := h
  exact ⟨x, y, z, rfl, own_keptS a hg hq h1, ⟨zw, ew, own_keptS b1 hg hq h2, fun p hp => own_keptS (b2 p hp) hg hq h1⟩, ⟨za, ea, own_keptS c1 hg hq h3, fun p hp => own_keptS (c2 p hp) hg hq h1⟩⟩
/-- A variable for files on a disk. -/
def FsB (w : World) (r : Nat) : Prop := ∃ v0 v1 v2 v3 v4 v5, Bq w r 34 #[v0, v1, v2, v3, v4, v5]
theorem FsB.carry {w w' : World} {r : Nat} (h : FsB w r) (hb : Below w.heap.size w w') : FsB w' r := by
  obtain ⟨v0, v1, v2, v3, v4, v5, h⟩ := h
  exact ⟨v0, v1, v2, v3, v4, v5, h.carry hb⟩
theorem FsB.below {w w' : World} {r B : Nat} (h : FsB w r) (hr : r < B) (hb : Below B w w') : FsB w' r := by
  obtain ⟨v0, v1, v2, v3, v4, v5, h⟩ := h
  exact ⟨v0, v1, v2, v3, v4, v5, h.below hr hb⟩
theorem FsB.grown {w w' : World} {r p : Nat} (h : FsB w r) (hg : w.grownBy w' (some p)) (hne : r ≠ p) : FsB w' r := by
  obtain ⟨v0, v1, v2, v3, v4, v5, h⟩ := h
  exact ⟨v0, v1, v2, v3, v4, v5, h.grown hg hne⟩
theorem FsB.lt {w : World} {r : Nat} (h : FsB w r) : r < w.heap.size := by
  obtain ⟨v0, v1, v2, v3, v4, v5, h⟩ := h
  exact h.lt
theorem FsB.new (w : World) : FsB (w.alloc (.cells #[.slice none 0 0, .slice none 0 0, .slice none 0 0, .int .u32 0, .slice none 0 0, .slice none 0 0] 34)) w.heap.size := ⟨_, _, _, _, _, _, Bq.new _ _ _⟩
/-- Files on a disk are stored. -/
def set6 (w : World) (r : Nat) (x : FsV) : World := (((((w.setCell ⟨r, 0, none⟩ (.slice x.a1 x.n1 x.c1)).setCell ⟨r, 1, none⟩ (.slice x.a2 x.n2 x.c2)).setCell ⟨r, 2, none⟩ (.slice x.a3 x.n3 x.c3)).setCell ⟨r, 3, none⟩ (.int .u32 x.g)).setCell ⟨r, 4, none⟩ (.slice x.a4 x.n4 x.c4)).setCell ⟨r, 5, none⟩ (.slice x.a5 x.n5 x.c5)
theorem FsB.cells {w : World} {r : Nat} (h : FsB w r) : (∃ v, w.cell? ⟨r, 0, none⟩ = some v) ∧ (∃ v, w.cell? ⟨r, 1, none⟩ = some v) ∧ (∃ v, w.cell? ⟨r, 2, none⟩ = some v) ∧ (∃ v, w.cell? ⟨r, 3, none⟩ = some v) ∧ (∃ v, w.cell? ⟨r, 4, none⟩ = some v) ∧ (∃ v, w.cell? ⟨r, 5, none⟩ = some v) ∧ ∀ j, w.frozen? ⟨r, j, none⟩ = false := by
  obtain ⟨v0, v1, v2, v3, v4, v5, h⟩ := h
  exact ⟨⟨_, h.cell 0⟩, ⟨_, h.cell 1⟩, ⟨_, h.cell 2⟩, ⟨_, h.cell 3⟩, ⟨_, h.cell 4⟩, ⟨_, h.cell 5⟩, h.fz⟩
theorem FsB.put {w : World} {r : Nat} (h : FsB w r) (x : FsV) : FsAt (set6 w r x) r x ∧ w.grownBy (set6 w r x) (some r) := by
  obtain ⟨v0, v1, v2, v3, v4, v5, h⟩ := h
  refine ⟨(((((h.put 0 _).put 1 _).put 2 _).put 3 _).put 4 _).put 5 _, ?_⟩
  exact grown_set (grown_set (grown_set (grown_set (grown_set (grown_set (World.grownBy.refl _ _) 0 _) 1 _) 2 _) 3 _) 4 _) 5 _
theorem OwFs_zero (w : World) (base : Nat) : OwFs w base (.agg #[.slice none 0 0, .slice none 0 0, .slice none 0 0, .int .u32 0, .slice none 0 0, .slice none 0 0]) fz := ⟨_, _, _, _, _, rfl, OwD_zero w base, OwF.nil _ _, OwF.nil _ _⟩

end Go.Proofs.Ytlibnefibeikcaa
namespace Go.Proofs.Ytlibnefibeikcaa
open Go.RowKit
set_option linter.unusedVariables false
set_option linter.unusedSimpArgs false

theorem OwFs.keptS {w w' : World} {base : Nat} {v : Value} {f : Fsd} {q : Nat} {cs : Array Value} {t : TypeId} {fr : Nat × Nat} (h : OwFs w base v f) (hg : w.grownBy w' (some q)) (hq : w.heap[q]? = some (.cells cs t fr)) (h1 : t ≠ 5) (h2 : t ≠ 49) (h3 : t ≠ 71) (h4 : t ≠ 43) (h5 : t ≠ 45) : OwFs w' base v f := by
  obtain ⟨d1, d2, d3, x, y, rfl, a, b, c⟩ := h
  exact ⟨d1, d2, d3, x, y, rfl, a.keptS hg hq h1 h2 h3, b.keptS hg hq h4 h5, c.keptS hg hq h4 h5⟩
theorem OwFs.form {w : World} {base : Nat} {v : Value} {f : Fsd} (h : OwFs w base v f) : ∃ x : FsV, v = x.val ∧ RdX w x f := h.rd.form
/-- What is answered is stored in the result's variable. -/
theorem OwFs.stored {w w0 : World} {base r : Nat} {x : FsV} {f : Fsd} (h : OwFs w base x.val f) (hr : FsB w r) (hb : Below w0.heap.size w0 w) (hr0 : w0.heap.size ≤ r) :
    OwFs (set6 w r x) base x.val f ∧ Below w0.heap.size w0 (set6 w r x) ∧ FsAt (set6 w r x) r x := by
  obtain ⟨h1, h2⟩ := hr.put x
  obtain ⟨y0, y1, y2, y3, y4, y5, hq⟩ := hr
  exact ⟨h.keptS h2 hq (by decide) (by decide) (by decide) (by decide) (by decide), hb.grown h2 hb.size (by intro k hk; cases hk; exact hr0), h1⟩
end Go.Proofs.Ytlibnefibeikcaa

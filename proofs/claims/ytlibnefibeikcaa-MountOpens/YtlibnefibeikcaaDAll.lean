/-
  What dev's Write, Sync, Clear, New and Many do.
-/
import Derived.Test.YtlibnefibeikcaaDLay
import Derived.Test.YtlibnefibeikcaaRegL
namespace Go.Proofs.Ytlibnefibeikcaa
open Go.RowKit
set_option linter.unusedVariables false
set_option linter.unusedSimpArgs false

/-- Where a block of another type is written, a row stays. -/
theorem own_keptT {w w' : World} {base : Nat} {e : TypeId} {s : Nat} {v : Value} {n : Nat} {xs : List Value} {row : Option Nat} (h : w.ownsRow base e s v n xs) (hg : w.grownBy w' row) (hrow : ∀ k, row = some k → ∃ cs t fr, w.heap[k]? = some (.cells cs t fr) ∧ t ≠ e) : w'.ownsRow base e s v n xs := by
  refine h.kept hg ?_
  rcases h.2 with ⟨rfl, _⟩ | ⟨g, cap, cur, rfl, _, hh, _⟩
  · exact .inl rfl
  · right
    intro e'
    obtain ⟨cs, t, fr, h1, h2⟩ := hrow g (by rw [← e']; rfl)
    rw [hh] at h1
    cases h1
    exact h2 rfl
theorem OwB.keptT {w w' : World} {base : Nat} {v : Value} {l : List UInt8} {row : Option Nat} (h : OwB w base v l) (hg : w.grownBy w' row) (hrow : ∀ k, row = some k → ∃ cs t fr, w.heap[k]? = some (.cells cs t fr) ∧ t ≠ 5) : OwB w' base v l := own_keptT h hg hrow
theorem OwW.keptT {w w' : World} {base : Nat} {v : Value} {l : List Pu} {row : Option Nat} (h : OwW w base v l) (hg : w.grownBy w' row) (hrow : ∀ k, row = some k → ∃ cs t fr, w.heap[k]? = some (.cells cs t fr) ∧ t ≠ 5 ∧ t ≠ 49) : OwW w' base v l := by
  obtain ⟨z, h1, h2, h3⟩ := h
  exact ⟨z, h1, own_keptT h2 hg (fun k hk => by obtain ⟨cs, t, fr, a, b, c⟩ := hrow k hk; exact ⟨cs, t, fr, a, c⟩), fun p hp => (h3 p hp).keptT hg (fun k hk => by obtain ⟨cs, t, fr, a, b, c⟩ := hrow k hk; exact ⟨cs, t, fr, a, b⟩)⟩
theorem OwA.keptT {w w' : World} {base : Nat} {v : Value} {l : List Ac} {row : Option Nat} (h : OwA w base v l) (hg : w.grownBy w' row) (hrow : ∀ k, row = some k → ∃ cs t fr, w.heap[k]? = some (.cells cs t fr) ∧ t ≠ 5 ∧ t ≠ 71) : OwA w' base v l := by
  obtain ⟨z, h1, h2, h3⟩ := h
  exact ⟨z, h1, own_keptT h2 hg (fun k hk => by obtain ⟨cs, t, fr, a, b, c⟩ := hrow k hk; exact ⟨cs, t, fr, a, c⟩), fun p hp => (h3 p hp).keptT hg (fun k hk => by obtain ⟨cs, t, fr, a, b, c⟩ := hrow k hk; exact ⟨cs, t, fr, a, b⟩)⟩
theorem row_block {w : World} {base : Nat} {e : TypeId} {s : Nat} {v : Value} {n : Nat} {xs : List Value} (h : w.ownsRow base e s v n xs) (k : Nat) (hk : v.ownBlock = some k) : ∃ cs, w.heap[k]? = some (.cells cs e (0, 0)) := by
  rcases h.2 with ⟨rfl, _⟩ | ⟨g, cap, cur, rfl, _, hh, _⟩
  · cases hk
  · cases hk; exact ⟨_, hh⟩

/-- A disk of one's own in the block gD: its data lie ahead of B, all else from B on. -/
def Dp (w : World) (base gD B : Nat) (d : Dk) : Prop := ∃ g0 cap a2 c2 a3 c3,
  w.heap[gD]? = some (.cells #[.slice (some ⟨g0, 0, none⟩) d.1.length cap, .slice a2 d.2.1.length c2, .slice a3 d.2.2.length c3] 26 (0, 0)) ∧ base ≤ g0 ∧ g0 < B ∧ B ≤ w.heap.size ∧ base ≤ gD ∧
  OwB w base (.slice (some ⟨g0, 0, none⟩) d.1.length cap) d.1 ∧ OwW w B (.slice a2 d.2.1.length c2) d.2.1 ∧ OwA w B (.slice a3 d.2.2.length c3) d.2.2

theorem Dp.carry {w w' : World} {base gD B : Nat} {d : Dk} (h : Dp w base gD B d) (hb : Below w.heap.size w w') : Dp w' base gD B d := by
  obtain ⟨g0, cap, a2, c2, a3, c3, h1, h2, h3, h4, h5, h6, h7, h8⟩ := h
  exact ⟨g0, cap, a2, c2, a3, c3, keeps_block _ _ _ _ h1 hb, h2, h3, Nat.le_trans h4 hb.size, h5, h6.carry hb, h7.carry hb, h8.carry hb⟩

end Go.Proofs.Ytlibnefibeikcaa
namespace Go.Proofs.Ytlibnefibeikcaa
open Go.RowKit
set_option linter.unusedVariables false
set_option linter.unusedSimpArgs false

theorem stored3at1 {w : World} {B : Nat} {t : TypeId} {y1 y2 y3 : Value} (u : Value) (h : w.heap[B]? = some (.cells #[y1, y2, y3] t (0, 0))) :
    ∃ ws, w.setCell ⟨B, 1, none⟩ u = ws ∧ ws.heap[B]? = some (.cells #[y1, u, y3] t (0, 0)) ∧ w.grownBy ws (some B) :=
  ⟨_, rfl, heap_setCell_same _ _ 1 _ _ _ h, grown_setCell w _ _⟩
theorem stored3at2 {w : World} {B : Nat} {t : TypeId} {y1 y2 y3 : Value} (u : Value) (h : w.heap[B]? = some (.cells #[y1, y2, y3] t (0, 0))) :
    ∃ ws, w.setCell ⟨B, 2, none⟩ u = ws ∧ ws.heap[B]? = some (.cells #[y1, y2, u] t (0, 0)) ∧ w.grownBy ws (some B) :=
  ⟨_, rfl, heap_setCell_same _ _ 2 _ _ _ h, grown_setCell w _ _⟩

theorem run_app {P : Program} {o : Oper} {a : Act} {s x : Operand} {t : TypeId} {v y v' : Value} {w w' : World} (ho : o.op = .call { callee := .builtin .append, args := #[s, x], argTypes := #[t, t] }) (hs : a.eval s = v) (hx : a.eval x = y) (hrun : (Builtin.append_ #[t, t] o.type #[v, y]).run P w = .ok v' w') :
    (execOp a.eval o).run P w = .ok (.value v') w' := by
  simp [execOp, ho, resolve, invoke, builtin, hs, hx, hrun, Result.andThen]

end Go.Proofs.Ytlibnefibeikcaa
namespace Go.Proofs.Ytlibnefibeikcaa
open Go.RowKit
set_option linter.unusedVariables false
set_option linter.unusedSimpArgs false

theorem check_any {d : Dk} {v : Value} (w : World) (h : RdD w v d) :
    Calls Try.prog 32 #[v] w fun e w' => e = .returned (.int .i64 (chk d)) ∧ Below w.heap.size w w' := by
  obtain ⟨a1, c1, a2, c2, a3, c3, rfl, h1, h2, h3⟩ := h.form
  have H1 := hide h1
  have H2 := hide h2
  have H3 := hide h3
  clear h1 h2 h3 h
  have hb : ∀ o, Below w.heap.size w (w.alloc o) := fun o => (Below.refl _ _).alloc (Nat.le_refl _) _
  generalize e1 : d.1.length = n1 at *
  generalize e2 : d.2.1.length = n2 at *
  generalize e3 : d.2.2.length = n3 at *
  have E1 := hide e1
  have E2 := hide e2
  have E3 := hide e3
  clear e1 e2 e3
  go_enter Try.func32, Try.ntmps32
  go_wp2_with fail
  refine (mayBe_any (d := d) a1 a2 a3 n1 c1 n2 c2 n3 c3 _ (H1.out.carry (hb _)) (H2.out.carry (hb _)) (H3.out.carry (hb _)) E1.out.symm E2.out.symm E3.out.symm).mono ?_
  rintro e w1 ⟨rfl, hb1⟩
  have hb2 : Below w.heap.size w w1 := (hb _).trans (hb1.mono (by simp))
  clear hb1
  have HK : Hid (chk d = if okD d then 0 else 20) := rfl
  generalize okD d = ok at HK
  cases ok
  · go_wp2
    go_ret
    exact ⟨by rw [HK.out]; rfl, hb2⟩
  · go_wp2
    go_ret
    exact ⟨by rw [HK.out]; rfl, hb2⟩

theorem chk_cases (d : Dk) : (okD d = true ∧ chk d = 0) ∨ (okD d = false ∧ chk d = 20) := by
  unfold chk
  cases okD d
  · exact .inr ⟨rfl, rfl⟩
  · exact .inl ⟨rfl, rfl⟩

/-- A disk of cnt blocks whose writes may be. -/
def Fine (cnt : Nat) (d : Dk) : Prop := d.1.length = 128 * cnt ∧ d.2.1.length ≤ 65536 ∧ d.2.2.length ≤ 65536 ∧ ∀ p ∈ d.2.1, putE cnt p = 0
theorem Fine.one {cnt : Nat} {d d' : Dk} {a : Ac} (h : Fine cnt d) (ha : actE cnt a = 0) (he : oneD d a = some d') : Fine cnt d' ∧ d'.2.2 = d.2.2 ++ [a] := by
  obtain ⟨h1, h2, h3, h4⟩ := h
  unfold oneD at he
  split at he
  · cases he
  · rename_i hf
    split at he
    · rename_i hs
      cases he
      refine ⟨⟨?_, by simp, by simp; omega, by simp⟩, rfl⟩
      show (setBs d.1 d.2.1).length = _
      rw [setBs_len d.1 d.2.1 d.1 rfl (fun p hp => by have := putE_ok (h4 p hp); omega)]
      exact h1
    · rename_i hs
      cases he
      have hs' : a.1 = false := by simpa using hs
      have ha' : putE cnt a.2 = 0 := by unfold actE at ha; rw [hs'] at ha; exact ha
      refine ⟨⟨h1, by simp; simp [hs'] at hf; omega, by simp; omega, fun p hp => ?_⟩, rfl⟩
      rcases List.mem_append.1 hp with h | h
      · exact h4 p h
      · rw [List.mem_singleton.1 h]; exact ha'
theorem Fine.of_ok {d : Dk} (h : okD d = true) : Fine (mny d) d ∧ 1 ≤ mny d ∧ mny d ≤ 4096 := by
  obtain ⟨h1, h2, h3, h4, h5, h6, h7⟩ := (okD_iff d).1 h
  refine ⟨⟨by unfold mny at *; omega, h4, h5, h6⟩, h2, h3⟩
end Go.Proofs.Ytlibnefibeikcaa
namespace Go.Proofs.Ytlibnefibeikcaa
open Go.RowKit
set_option linter.unusedVariables false
set_option linter.unusedSimpArgs false

theorem OwD_zero (w : World) (base : Nat) : OwD w base (.agg #[.slice none 0 0, .slice none 0 0, .slice none 0 0]) dz :=
  ⟨_, _, _, rfl, World.ownsRow_nil _ _ _ _, ⟨[], rfl, World.ownsRow_nil _ _ _ _, by simp⟩, ⟨[], rfl, World.ownsRow_nil _ _ _ _, by simp⟩⟩

end Go.Proofs.Ytlibnefibeikcaa
namespace Go.Proofs.Ytlibnefibeikcaa
open Go.RowKit
set_option linter.unusedVariables false
set_option linter.unusedSimpArgs false

def clearD (d : Dk) : Dk × Int := if chk d ≠ 0 then (dz, chk d) else ((d.1, d.2.1, []), 0)
theorem OwD.form {w : World} {base : Nat} {v : Value} {d : Dk} (h : OwD w base v d) : ∃ a1 c1 a2 c2 a3 c3, v = .agg #[.slice a1 d.1.length c1, .slice a2 d.2.1.length c2, .slice a3 d.2.2.length c3] := by
  obtain ⟨a1, c1, a2, c2, a3, c3, e, _⟩ := h.rd.form
  exact ⟨a1, c1, a2, c2, a3, c3, e⟩
end Go.Proofs.Ytlibnefibeikcaa

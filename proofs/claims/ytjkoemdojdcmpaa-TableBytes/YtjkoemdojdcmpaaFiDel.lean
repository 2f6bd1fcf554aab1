/-
  The library's DeleteFunc on files, and without.
-/
import Derived.Test.YtjkoemdojdcmpaaSr3
import Derived.Test.YtjkoemdojdcmpaaSmall
import Derived.Test.YtjkoemdojdcmpaaKit
import Derived.Test.YtjkoemdojdcmpaaRegP
import Derived.Test.YtjkoemdojdcmpaaGro
import Derived.Test.YtjkoemdojdcmpaaCut
import Derived.Test.YtjkoemdojdcmpaaMathRd
import Derived.Lib.Bytealg
import Derived.BigQuiet
namespace Go.Proofs.Ytjkoemdojdcmpaa
open Go.RowKit
set_option linter.unusedVariables false
set_option linter.unusedSimpArgs false

theorem Try.infoTx : (Try.prog.info? 9).map (fun i => (i.zero, i.size, i.bytes)) = some (some (.string ByteArray.empty), 1, 16) := by kernel_rfl

theorem app_tx {w : World} {base : Nat} {v : Value} {l : List (List UInt8)} (h : OwTx w base v l) (hb : base ≤ w.heap.size) (hl : l.length ≤ 1000000) (s : List UInt8) :
    ∃ g c w', (Builtin.append_ #[65, 65] 65 #[v, .slice (some ⟨w.heap.size, 0, none⟩) 1 1]).run Try.prog (w.alloc (.cells #[.string (bs s)] 9)) = .ok (.slice (some ⟨g, 0, none⟩) (l.length + 1) c) w' ∧
      OwTx w' base (.slice (some ⟨g, 0, none⟩) (l.length + 1) c) (l ++ [s]) ∧ Below base w w' := by
  obtain ⟨g, c, w', h1, h2, h3, _⟩ := app_oneG (P := Try.prog) ecT_len (by decide) (by intro x u hu; simp [ecT] at hu; subst hu; rfl) Try.underlying65 Try.infoTx rfl h hb (by omega) (by unfold maxLen; omega) s #[.string (bs s)] rfl
  exact ⟨g, c, w', h1, h2, h3⟩
theorem OwY.apart {w : World} {base g n c : Nat} {l : List UInt8} (h : OwY w base (.slice (some ⟨g, 0, none⟩) n c) l) {g' : Nat} (hne : g ≠ g') (j : Nat) (v : Value) : OwY (w.setCell ⟨g', j, none⟩ v) base (.slice (some ⟨g, 0, none⟩) n c) l := by
  refine ⟨h.1, ?_⟩
  rcases h.2 with ⟨e, _⟩ | ⟨g2, cap, cur, e, h1, h2, h3⟩
  · cases e
  · cases e
    exact .inr ⟨g, _, cur, rfl, h1, (heap_setCell_other w ⟨g', j, none⟩ g v hne).trans h2, h3⟩

theorem grown_setCellE (w : World) (a : Addr) (u : Value) : w.grownBy (w.setCell a u) (some a.block) :=
  ⟨rfl, rfl, rfl, by simp, fun k _ hk => heap_setCell_other w a k u (fun e => hk (by simp [e]))⟩
/-! ### extents -/
/-! ### numbers -/
/-! ### marks -/

theorem setRow_grown (w : World) (g : Nat) (cs : Array Value) : w.grownBy (w.setRow g cs) (some g) :=
  ⟨rfl, rfl, rfl, by simp [World.setRow], fun k _ hk => setRow_other w g k cs (fun e => hk (by rw [e]))⟩

theorem wpList_runclrF {P : Program} {w w' : World} {ops : Array Oper} {rest : List Oper} {o : Oper} {a : Act} {Q : Exit → Act → World → Prop} (hgd : o.guard = none) (s : Operand) (t : TypeId)
    (ho : o.op = .call { callee := .builtin .clear, args := #[s], argTypes := #[t] }) {v v' : Value} (hs : a.eval s = v)
    (hrun : (Builtin.clear_ #[t] o.type #[v]).run P w = .ok v' w') (h : wpList P ops Q rest (a.put o.dst v') w') : wpList P ops Q (o :: rest) a w := by
  refine wpList_plain hgd fun K hK => ?_
  unfold Oper.wp execOp
  simp only [ho, resolve, invoke, builtin, Sem.run_bind, Sem.run_pure, Result.andThen_ok, List.map_toArray, List.map_cons, List.map_nil, hs, hrun]
  exact hK _ _ h

end Go.Proofs.Ytjkoemdojdcmpaa

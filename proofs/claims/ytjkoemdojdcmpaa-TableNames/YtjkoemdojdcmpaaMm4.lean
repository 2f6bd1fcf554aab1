/-
  What the library's Clone, mem.with and mem.Check do.
-/
import Derived.Test.YtjkoemdojdcmpaaBk7
import Derived.Test.YtjkoemdojdcmpaaMm1
import Derived.Test.YtjkoemdojdcmpaaRegP
import Derived.Lib.AppendZerosOnto
import Derived.Lib.Overlaps
import Derived.Lib.SliceRun
namespace Go.Proofs.Ytjkoemdojdcmpaa
open Go.RowKit
set_option linter.unusedVariables false
set_option linter.unusedSimpArgs false

set_option maxHeartbeats 1000000 in
set_option maxRecDepth 100000 in
theorem read_bk (a : Option Addr) (n c : Nat) (l : List UInt8) (w : World) (hrd : Rd w (.slice a n c) l) :
    Calls Try.prog 78 #[.slice a n c] w fun e w' => ∃ av nv cv, e = .returned (.tuple #[.slice av nv cv, .int .i64 (rdKE l)]) ∧ OwN w' w.heap.size (.slice av nv cv) (rdKL l) ∧ Below w.heap.size w w' := by
  have HN := hide (show n = l.length by obtain ⟨_, _, e⟩ := rd_formX hrd; cases e; rfl)
  by_cases hg : 2048 < n
  · have hg' : (2048 : Int) < n := by omega
    obtain ⟨e1, e2⟩ := rdK_long (b := l) (by have := HN.out; omega)
    rw [e1, e2]
    clear e1 e2 hrd
    go_enter Try.func78, Try.ntmps78
    go_wp2
    go_ret2
    exact ⟨_, _, _, rfl, OwG.nil _ _, Below.refl _ _⟩
  · have hg' : decide ((2048 : Int) < n) = false := by simpa using (by omega : ¬ (2048 : Int) < n)
    have hc := opened_bk a n c l w hrd (by have := HN.out; omega)
    have HG := hide (show ¬ 2048 < l.length by have := HN.out; omega)
    clear hrd
    go_enter Try.func78, Try.ntmps78
    go_wp2_with fail
    refine hc.mono ?_
    rintro e w1 ⟨hP, b1⟩
    clear hc
    rcases hP with ⟨es, av, nv, cv, hr, rfl, ho⟩ | ⟨hr, av, nv, cv, rfl⟩
    · obtain ⟨e1, e2⟩ := rdK_some HG.out hr
      have HO := hide ho
      have HE := hide (And.intro e1 e2)
      clear e1 e2 hr ho
      go_wp2
      go_ret2
      exact ⟨av, nv, cv, by rw [HE.out.1]; rfl, by rw [HE.out.2]; exact HO.out, b1⟩
    · obtain ⟨e1, e2⟩ := rdK_none HG.out hr
      have HE := hide (And.intro e1 e2)
      clear e1 e2 hr
      go_wp2
      go_ret2
      exact ⟨none, 0, 0, by rw [HE.out.1]; rfl, by rw [HE.out.2]; exact OwG.nil _ _, b1⟩


theorem app_ents {w : World} {base : Nat} {v : Value} {l : List Ent} (h : OwN w base v l) (hb : base ≤ w.heap.size) {a : Option Addr} {n c : Nat} {m : List Ent} (hm : RdN w (.slice a n c) m) (hl : l.length + m.length ≤ 1000000) :
    ∃ b c' w', (Builtin.append_ #[32, 32] 32 #[v, .slice a n c]).run Try.prog w = .ok (.slice b (l ++ m).length c') w' ∧ OwN w' base (.slice b (l ++ m).length c') (l ++ m) ∧ Below base w w' ∧ KeepG 31 w w' :=
  app_allG ecN_len (by decide) ecN_one Try.underlying32 Try.infoEn rfl h hb hm (by omega) (by unfold maxLen; omega)

end Go.Proofs.Ytjkoemdojdcmpaa

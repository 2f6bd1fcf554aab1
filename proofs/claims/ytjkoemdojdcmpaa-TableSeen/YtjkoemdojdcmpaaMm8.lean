/-
  What mem.Range does.
-/
import Derived.Test.YtjkoemdojdcmpaaBk7
import Derived.Test.YtjkoemdojdcmpaaMm1
import Derived.Test.YtjkoemdojdcmpaaRegP
import Derived.Lib.AppendZerosOnto
import Derived.Lib.Overlaps
import Derived.Lib.SliceRun
import Derived.Test.YtjkoemdojdcmpaaEnK
namespace Go.Proofs.Ytjkoemdojdcmpaa
open Go.RowKit
set_option linter.unusedVariables false
set_option linter.unusedSimpArgs false

set_option maxHeartbeats 1000000 in
set_option maxRecDepth 100000 in
theorem read_bk (a : Option Addr) (n c : Nat) (l : List UInt8) (w : World) (hrd : Rd w (.slice a n c) l) :
    Calls Try.prog 78 #[.slice a n c] w fun e w' => ∃ av nv cv, e = .returned (.tuple #[.slice av nv cv, .int .i64 (rdKE l)]) ∧ OwN w' w.heap.size (.slice av nv cv) (rdKL l) ∧ Below w.heap.size w w' := by
  have HN := hide (show n = l.length by obtain ⟨_, _, e⟩ := rd_formX hrd; cases e; rfl)
  by_cases hg : 2048 < n
  · have hg' : (2048 : Int) < n := by omega
    obtain ⟨e1, e2⟩ := rdK_long (b := l) (by have := HN.out; omega)
    rw [e1, e2]
    clear e1 e2 hrd
    go_enter Try.func78, Try.ntmps78
    go_wp2
    go_ret2
    exact ⟨_, _, _, rfl, OwG.nil _ _, Below.refl _ _⟩
  · have hg' : decide ((2048 : Int) < n) = false := by simpa using (by omega : ¬ (2048 : Int) < n)
    have hc := opened_bk a n c l w hrd (by have := HN.out; omega)
    have HG := hide (show ¬ 2048 < l.length by have := HN.out; omega)
    clear hrd
    go_enter Try.func78, Try.ntmps78
    go_wp2_with fail
    refine hc.mono ?_
    rintro e w1 ⟨hP, b1⟩
    clear hc
    rcases hP with ⟨es, av, nv, cv, hr, rfl, ho⟩ | ⟨hr, av, nv, cv, rfl⟩
    · obtain ⟨e1, e2⟩ := rdK_some HG.out hr
      have HO := hide ho
      have HE := hide (And.intro e1 e2)
      clear e1 e2 hr ho
      go_wp2
      go_ret2
      exact ⟨av, nv, cv, by rw [HE.out.1]; rfl, by rw [HE.out.2]; exact HO.out, b1⟩
    · obtain ⟨e1, e2⟩ := rdK_none HG.out hr
      have HE := hide (And.intro e1 e2)
      clear e1 e2 hr
      go_wp2
      go_ret2
      exact ⟨none, 0, 0, by rw [HE.out.1]; rfl, by rw [HE.out.2]; exact OwG.nil _ _, b1⟩


theorem app_ents {w : World} {base : Nat} {v : Value} {l : List Ent} (h : OwN w base v l) (hb : base ≤ w.heap.size) {a : Option Addr} {n c : Nat} {m : List Ent} (hm : RdN w (.slice a n c) m) (hl : l.length + m.length ≤ 1000000) :
    ∃ b c' w', (Builtin.append_ #[32, 32] 32 #[v, .slice a n c]).run Try.prog w = .ok (.slice b (l ++ m).length c') w' ∧ OwN w' base (.slice b (l ++ m).length c') (l ++ m) ∧ Below base w w' ∧ KeepG 31 w w' :=
  app_allG ecN_len (by decide) ecN_one Try.underlying32 Try.infoEn rfl h hb hm (by omega) (by unfold maxLen; omega)


theorem sizeN (wx : World) : (sizeOf (Try.prog.elem 32)).run Try.prog wx = .ok 4 wx := by
  rw [show Try.prog.elem 32 = 31 by kernel_rfl]
  obtain ⟨i0, hi, hz0, hz1, hz2⟩ := info_parts Try.infoEn
  simp [sizeOf, typeInfo, hi, hz1]
theorem sliceN {w : World} {a : Option Addr} {n c : Nat} {l : List Ent} (h : RdN w (.slice a n c) l) (lo hi : Nat) (h1 : lo ≤ hi) (h2 : hi ≤ l.length) :
    ∃ a2 c2, (∀ wx, (Instr.slice 32 (.slice a n c) (some (.int .i64 lo)) (some (.int .i64 hi)) none).run Try.prog wx = .ok (.slice a2 (hi - lo) c2) wx) ∧ ∀ wx, Below w.heap.size w wx → RdN wx (.slice a2 (hi - lo) c2) ((l.take hi).drop lo) := by
  have hcap : l.length ≤ c := by
    rcases h with ⟨rfl, e | ⟨x, d, e⟩⟩ | ⟨b, off, c', e, h3, h4, h5⟩
    · exact Nat.zero_le _
    · exact Nat.zero_le _
    · cases e; exact h3
  have run : ∀ wx, (Instr.slice 32 (.slice a n c) (some (.int .i64 lo)) (some (.int .i64 hi)) none).run Try.prog wx = .ok (sliced a lo hi c 4) wx := by
    intro wx
    rw [run_slice_lh wx 32 a n c (by kernel_rfl) .i64 .i64 lo hi (by omega) (by omega) (by omega), sizeN wx]
    simp [Result.andThen]
  unfold sliced at run
  refine ⟨_, _, run, fun wx hb => ?_⟩
  by_cases he : hi - lo = 0
  · have e1 : (l.take hi).drop lo = [] := List.drop_of_length_le (by rw [List.length_take]; omega)
    rw [e1, he]
    cases a with
    | none =>
      rcases h with ⟨rfl, e | ⟨x, d, e⟩⟩ | ⟨b, off, c', e, h3, h4, h5⟩
      · cases e
        refine .inl ⟨rfl, .inl ?_⟩
        simp
      · cases e
      · cases e
    | some ad =>
      refine .inl ⟨rfl, .inr ?_⟩
      split
      · exact ⟨_, _, rfl⟩
      · exact ⟨_, _, rfl⟩
  · rcases h with ⟨rfl, e | ⟨x, d, e⟩⟩ | ⟨b, off, c', e, h3, h4, h5⟩
    · simp at h2; omega
    · simp at h2; omega
    · cases e
      have hne : ¬ c = lo := by omega
      have hlen : ((l.take hi).drop lo).length = hi - lo := by rw [List.length_drop, List.length_take]; omega
      rw [if_neg hne]
      refine .inr ⟨b, off + lo * 4, c - lo, by rw [hlen, Option.map_some, Addr.add_lit], by omega, by omega, ?_⟩
      intro j hj i u hu
      rw [List.getElem_drop, List.getElem_take] at hu
      have := (h5.carry hb) (lo + j) (by omega) i u hu
      rw [show off + lo * 4 + j * 4 + i = off + (lo + j) * 4 + i by omega]
      exact this
end Go.Proofs.Ytjkoemdojdcmpaa

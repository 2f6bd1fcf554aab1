/-
  What merge.seen, the function that it makes, and merge.listSeen do: a range over a function.
-/
import Derived.Test.YtdgjinfaopkalaaMg1
import Derived.Test.YtdgjinfaopkalaaMr3
import Derived.RangeFuncNested
import Derived.RangeFuncCalls
import Derived.RangeFuncLeaves
import Derived.Shelf.Abstract
import Derived.OwnWalkIn
import Derived.TacticsInMore
import Derived.LoopNIn
import Derived.LoopIn
namespace Go.Proofs.Ytdgjinfaopkalaa
open Go.RowKit Go.Shelf
set_option linter.unusedVariables false
set_option linter.unusedSimpArgs false
attribute [local go_sem] Oper.semAt_some

def KpG (n₀ Bq : Nat) (W W' : World) : Prop := Below n₀ W W' ∧ ∀ v, Boxed W Bq 3 v → Boxed W' Bq 3 v
theorem KpG.trans {n₀ Bq : Nat} {A B C : World} (h : KpG n₀ Bq A B) (k : KpG n₀ Bq B C) : KpG n₀ Bq A C := ⟨h.1.trans k.1, fun v hv => k.2 v (h.2 v hv)⟩
theorem KpG.put {n₀ Bq : Nat} {w : World} (hn : n₀ ≤ w.heap.size) (W : World) (l : Nat) (o o' : Obj) (hl : w.heap.size ≤ l) (h : W.heap[l]? = some o) (hc : o.isCells = false) (hw : o.isWalk = false) : KpG n₀ Bq W (W.putObj l o') :=
  ⟨belowK_b hn W l o o' hl h hc hw, fun v hv => hv.kept (grownBy_putObj' W l o') (fun e => by cases e; rw [show W.heap[Bq]? = _ from hv] at h; cases h; cases hc)⟩
def aggN (x : Ent) : Value := .agg #[.string (bs x.1), .int .i64 x.2.1, .bool x.2.2.1, .string (bs x.2.2.2)]
theorem seeG_skip {s : Int} {k : List UInt8} {L : List Ent} {i : Nat} (hi : i < L.length) (h : s < (L[i]).2.1 ∨ (L[i]).1 = k) : seeG s k (L.drop i) = seeG s k (L.drop (i + 1)) := by
  rw [List.drop_eq_getElem_cons hi]
  conv => lhs; unfold seeG
  rw [if_pos h]
theorem seeG_take {s : Int} {k : List UInt8} {L : List Ent} {i : Nat} (hi : i < L.length) (h : ¬ (s < (L[i]).2.1 ∨ (L[i]).1 = k)) : seeG s k (L.drop i) = L[i] :: seeG s (L[i]).1 (L.drop (i + 1)) := by
  rw [List.drop_eq_getElem_cons hi]
  conv => lhs; unfold seeG
  rw [if_neg h]

set_option maxRecDepth 100000 in
set_option maxHeartbeats 2000000 in
theorem seen1_mg (F : Fence) (m : Nat) (hf : F.fn 43) (hro : F.round = none) (hm : 1 ≤ m) (lo Bs Bq : Nat) (w0 : World) (a : Option Addr) (n c : Nat) (L : List Ent) (s : Int) (hrd : RdN w0 (.slice a n c) L) (hn : n ≤ 1000000) (J Jx : List Ent → World → Prop) (W : World)
    (hJ : AbidesFrom W.heap.size J)
    (hY : ∀ pre x W1, J pre W1 → pre.length < (seeG s [] L).length → YieldAt F (m - 1) Try.prog lo #[aggN x] W1 fun e W' =>
      (e = .returned (.bool true) ∧ J (pre ++ [x]) W' ∧ KpG w0.heap.size Bq W1 W') ∨ (e = .returned (.bool false) ∧ Jx (pre ++ [x]) W'))
    (hb0 : Below w0.heap.size w0 W) (hBs : Boxed W Bs 22 (.slice a n c)) (hBq : Boxed W Bq 3 (.int .i64 s)) (h0 : J [] W) :
    CallsIn F m Try.prog 43 #[.func (.yield lo) #[] #[], .pointer (some ⟨Bs, 0, none⟩), .pointer (some ⟨Bq, 0, none⟩)] W fun e W' => (∃ v, e = .returned v) ∧
      ((∃ ys, ys = seeG s [] L ∧ J ys W') ∨ (∃ pre, True ∧ Jx pre W')) := by
  have HN := hide hrd.len
  have HR := hide hrd
  have hcs := hBs.cell
  clear hrd
  refine callsIn_of_wp Try.func43 rfl hf ?_ hro
  simp only [Try.ntmps43, List.size_toArray, List.length_cons, List.length_nil, Nat.reduceAdd, Nat.reduceSub, Array.replicate_succ, Array.replicate_zero, List.push_toArray, List.append_toArray, List.nil_append, List.cons_append]
  gi_wp2
  gi_loopw [9, 4] (fun i kv wr => ∃ (k : Nat) (key : List UInt8) (pre : List Ent), k ≤ n ∧ i = .int .i64 k ∧ kv = .string (bs key) ∧ Hid (seeG s [] L = pre ++ seeG s key (L.drop k)) ∧ J pre wr ∧ Hid (Boxed wr Bq 3 (.int .i64 s)) ∧ Hid (Below w0.heap.size w0 wr)) (fun i _ _ => n - (intOf i).toNat)
  case atStart => exact ⟨0, [], [], Nat.zero_le _, rfl, rfl, hide rfl, h0, hide hBq, hide hb0⟩
  case round =>
    obtain ⟨k, key, pre, hk, rfl, rfl, hS, hJs, hq, hbel⟩ := hrel
    by_cases hlt : k < n
    · have hlt' : (k : Int) < n := by omega
      have hkl : k < L.length := by have := HN.out; omega
      obtain ⟨b, off, rfl, q0, q1, q2, q3⟩ := RdN.cells HR.out hbel.out k hkl
      have HSK := hide (fun h => seeG_skip (s := s) (k := key) hkl h)
      have HTK := hide (fun h => seeG_take (s := s) (k := key) hkl h)
      obtain ⟨x, hx⟩ : ∃ x, x = L[k] := ⟨_, rfl⟩
      rw [← hx] at q0 q1 q2 q3 HSK HTK
      clear hx
      obtain ⟨K, S, D, V⟩ := x
      simp only at q0 q1 q2 q3 HSK HTK
      obtain ⟨w2, hw2⟩ : ∃ w2, w2 = wr.alloc (.cells #[.string (bs K), .int .i64 S, .bool D, .string (bs V)] 30) := ⟨_, rfl⟩
      have hb2 : Below wr.heap.size wr w2 := by rw [hw2]; exact (Below.refl _ _).alloc (Nat.le_refl _) _
      obtain ⟨x0, x1, x2, x3⟩ := (show EntAt w2 wr.heap.size (K, S, D, V) by rw [hw2]; exact EntAt.new wr (K, S, D, V)).cells
      have hq2 : Boxed w2 Bq 3 (.int .i64 s) := by rw [hw2]; exact hq.out.alloc _
      have hcq := hq2.cell
      have HQ2 := hide hq2
      have HB2 := hide (show Below w0.heap.size w0 w2 from hbel.out.trans (hb2.mono hbel.out.size))
      have hJ2 : J pre w2 := by rw [hw2]; exact hJ _ _ _ none hJs (World.grownBy_alloc wr _ none) (fun r e => by cases e)
      clear hq2 hb2 hJs
      simp only at x0 x1 x2 x3
      by_cases hc : s < S
      · have HS2 := hide (hS.out.trans (congrArg (pre ++ ·) (HSK.out (.inl hc))))
        rw [hw2] at x0 x1 x2 x3 hcq HQ2 HB2 hJ2
        clear hw2 HSK HTK hS hq hbel
        gi_wp2
        go_roundw
        case rel => exact ⟨k + 1, key, pre, by omega, by go_num, rfl, HS2, hJ2, HQ2, HB2⟩
        case measure => simp only [intOf]; omega
      · have hc' : decide (s < S) = false := by simpa using hc
        have he := eqB_bs K key
        by_cases g7 : K = key
        · have HS2 := hide (hS.out.trans (congrArg (pre ++ ·) (HSK.out (.inr g7))))
          rw [decide_eq_true g7] at he
          rw [hw2] at x0 x1 x2 x3 hcq HQ2 HB2 hJ2
          clear hw2 HSK HTK hS hq hbel hc g7
          gi_wp2
          go_roundw
          case rel => exact ⟨k + 1, key, pre, by omega, by go_num, rfl, HS2, hJ2, HQ2, HB2⟩
          case measure => simp only [intOf]; omega
        · have hS2 := hS.out.trans (congrArg (pre ++ ·) (HTK.out (fun h => h.elim hc g7)))
          rw [decide_eq_false g7] at he
          obtain ⟨fn, tmps, assign, body, hy, hR⟩ := hY pre (K, S, D, V) w2 hJ2 (by rw [hS2]; simp)
          have HS2 := hide (show seeG s [] L = (pre ++ [(K, S, D, V)]) ++ seeG s K (L.drop (k + 1)) by rw [hS2]; simp)
          unfold aggN at hy
          dsimp only at hy
          rw [hw2] at x0 x1 x2 x3 hcq hy
          have HR1 := hide hR
          clear HSK HTK hS hq hbel hc g7 hS2 hJ2 hR
          gi_wp2
          rw [← hw2]
          refine HR1.out.mono ?_
          rintro e W3 (⟨rfl, hJ3, hk3⟩ | ⟨rfl, hJx3⟩)
          · have HB3 := hide (show Below w0.heap.size w0 W3 from HB2.out.trans hk3.1)
            have HQ3 := hide (hk3.2 _ HQ2.out)
            clear hk3 x0 x1 x2 x3 hcq hy q0 q1 q2 q3
            gi_wp2
            go_roundw
            case rel => exact ⟨k + 1, K, _, by omega, by go_num, rfl, HS2, hJ3, HQ3, HB3⟩
            case measure => simp only [intOf]; omega
          · clear x0 x1 x2 x3 hcq hy q0 q1 q2 q3
            gi_wp2
            refine bodyPost_ret (results_none rfl _ _ _) rfl ?_
            exact ⟨⟨_, rfl⟩, .inr ⟨_, trivial, hJx3⟩⟩
    · have hd : decide ((k : Int) < n) = false := by simpa using (by omega : ¬ (k : Int) < n)
      have HE := hide (show pre = seeG s [] L by rw [hS.out, List.drop_of_length_le (by have := HN.out; omega)]; simp [seeG])
      clear hS
      gi_wp2
      go_end0
      exact ⟨⟨_, rfl⟩, .inl ⟨_, HE.out, hJs⟩⟩

set_option maxHeartbeats 1000000 in
set_option maxRecDepth 100000 in
theorem seen_mg (a : Option Addr) (n c : Nat) (s : Int) (w : World) :
    Calls Try.prog 37 #[.slice a n c, .int .i64 s] w fun e w' => e = .returned (.func (.func 43) #[] #[.pointer (some ⟨w.heap.size, 0, none⟩), .pointer (some ⟨w.heap.size + 1, 0, none⟩)]) ∧ w' = (w.alloc (.cells #[.slice a n c] 22)).alloc (.cells #[.int .i64 s] 3) := by
  go_enter Try.func37, Try.ntmps37
  go_wp2
  go_ret
  exact ⟨rfl, rfl⟩
theorem entAt_own (B : Nat) (x : Ent) : Own (fun (_ : Unit) W => EntAt W B x) := fun s X Y row hs hg hrow => by
  refine (hg.block B (Array.getElem?_eq_some_iff.1 hs).1 (fun e' => ?_)).trans hs
  obtain ⟨o, ho, hc⟩ := hrow B e'.symm
  rw [show X.heap[B]? = _ from hs] at ho; cases ho; cases hc
end Go.Proofs.Ytdgjinfaopkalaa

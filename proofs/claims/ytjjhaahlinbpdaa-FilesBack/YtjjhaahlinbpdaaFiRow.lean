/-
  Files of a row of one's own, written over: a store, clear, copy. The closure that tells one name; the library's IndexFunc.
-/
import Derived.Test.YtjjhaahlinbpdaaFiCp
namespace Go.Proofs.Ytjjhaahlinbpdaa
open Go.RowKit
set_option linter.unusedVariables false
set_option linter.unusedSimpArgs false

theorem setRow_grown (w : World) (g : Nat) (cs : Array Value) : w.grownBy (w.setRow g cs) (some g) :=
  ⟨rfl, rfl, rfl, by simp [World.setRow], fun k _ hk => setRow_other w g k cs (fun e => hk (by rw [e]))⟩
theorem run_copyF (w : World) (ty : TypeId) (g o dLen dCap : Nat) (a : Addr) (sLen sCap : Nat) (cur : Array Value) (cs : List Value)
    (hg : w.heap[g]? = some (.cells cur 39 (0, 0))) (hn : cs.length = Nat.min sLen dLen * 2)
    (hsrc : ∀ j v, cs[j]? = some v → w.cell? (a.add j) = some v) (hfit : o + cs.length ≤ cur.size) (h1 : ∀ v ∈ cs, v.oneCell' = true) :
    (Builtin.copy_ #[23, 23] ty #[.slice (some ⟨g, o, none⟩) dLen dCap, .slice (some a) sLen sCap]).run Try.prog w =
      .ok (goInt (Nat.min sLen dLen)) (w.setRow g (cur.toList.take o ++ cs ++ cur.toList.drop (o + cs.length)).toArray) := by
  have hl := run_loadCells_list (P := Try.prog) w a cs hsrc
  have hst := run_storeCells_at Try.prog g o 39 cs 0 cur w hg (by simpa using hfit) h1
  obtain ⟨i0, hi, hz0, hz1, hz2⟩ := info_parts Try.infoFl
  simp [Builtin.copy_, run_underlying Try.underlying23, Builtin.lenOf, Builtin.firstCells, sizeOf, typeInfo, hi, hz1, ← hn, hl, hst]
theorem run_clearF (w : World) (ty : TypeId) (g o n c : Nat) (cur : Array Value) (hn : 0 < n) (hg : w.heap[g]? = some (.cells cur 39 (0, 0))) (hfit : o + n * 2 ≤ cur.size) :
    (Builtin.clear_ #[23] ty #[.slice (some ⟨g, o, none⟩) n c]).run Try.prog w =
      .ok (.tuple #[]) (w.setRow g (cur.toList.take o ++ cellsP (List.replicate n (([], []), .slice none 0 0)) ++ cur.toList.drop (o + n * 2)).toArray) := by
  obtain ⟨i0, hi, hz0, hz1, hz2⟩ := info_parts Try.infoFl
  have hz : ∀ w, (zeroValue 39).run Try.prog w = .ok (.agg #[.string ByteArray.empty, .slice none 0 0]) w := by intro w; simp [zeroValue, typeInfo, hi, hz0]
  have e : (Builtin.zeroCells (Value.cells (.agg #[.string ByteArray.empty, .slice none 0 0])) n).toList = cellsP (List.replicate n (([], []), .slice none 0 0)) := by
    have e0 : Value.cells (.agg #[.string ByteArray.empty, .slice none 0 0]) = #[.string ByteArray.empty, .slice none 0 0] := rfl
    rw [e0]
    apply List.ext_getElem?
    intro i
    by_cases hin : i < n * 2
    · obtain ⟨q, hq⟩ : ∃ q, q = i / 2 := ⟨_, rfl⟩
      obtain ⟨e1, e2⟩ := cellsP_get (List.replicate n (([], []), Value.slice none 0 0)) q (by rw [List.length_replicate]; omega)
      rw [List.getElem_replicate] at e1 e2
      rcases Nat.mod_two_eq_zero_or_one i with h0 | h0
      · obtain rfl : i = q * 2 := by omega
        rw [e1]
        simp [Builtin.zeroCells, hin]
        rfl
      · obtain rfl : i = q * 2 + 1 := by omega
        rw [e2]
        simp [Builtin.zeroCells, hin, h0]
    · rw [List.getElem?_eq_none (by simp [Builtin.zeroCells]; omega), List.getElem?_eq_none (by rw [cellsP_len, List.length_replicate]; omega)]
  have hst := run_storeCells_at Try.prog g o 39 (cellsP (List.replicate n (([], []), .slice none 0 0))) 0 cur w hg (by rw [cellsP_len]; simpa using hfit) (by
    intro v hv
    obtain ⟨p, hp, hv⟩ := List.mem_flatMap.1 hv
    obtain rfl := (List.mem_replicate.1 hp).2
    simp at hv
    rcases hv with rfl | rfl <;> rfl)
  rw [cellsP_len, List.length_replicate] at hst
  obtain ⟨m, rfl⟩ : ∃ m, n = m + 1 := ⟨n - 1, by omega⟩
  simp [Builtin.clear_, run_underlying Try.underlying23, hz, e, hst]

set_option maxHeartbeats 400000 in
set_option maxRecDepth 100000 in
theorem without1_any (s t : List UInt8) (x : Value) (p : Nat) (w : World) (hp : w.cell? ⟨p, 0, none⟩ = some (.string (bs t))) :
    Calls Try.prog 79 #[.agg #[.string (bs s), x], .pointer (some ⟨p, 0, none⟩)] w fun e w' => e = .returned (.bool (s == t)) ∧ Below w.heap.size w w' := by
  have hb0 : ∀ o, Below w.heap.size w (w.alloc o) := fun o => (Below.refl _ _).alloc (Nat.le_refl _) _
  have he := eq_ofN s t
  have hp' : ∀ o, (w.alloc o).cell? ⟨p, 0, none⟩ = some (.string (bs t)) := fun o => Lib.cell?_alloc_some _ hp
  go_enter Try.func79, Try.ntmps79
  go_wp2
  go_ret
  exact ⟨by first | (rw [← he]; rfl) | rfl, hb0 _⟩

def idxF (fs : List Fl) (t : List UInt8) : Int := if fs.findIdx (fun f => f.1 == t) < fs.length then (fs.findIdx (fun f => f.1 == t) : Nat) else -1

set_option maxHeartbeats 1000000 in
set_option maxRecDepth 100000 in
theorem indexF_any (a : Option Addr) (n c : Nat) (fs : List Fl) (t : List UInt8) (p : Nat) (w : World) (hrd : RdF w (.slice a n c) fs) (hn : n = fs.length) (hp : w.cell? ⟨p, 0, none⟩ = some (.string (bs t))) :
    Calls Try.prog 98 #[.slice a n c, .func (.func 79) #[] #[.pointer (some ⟨p, 0, none⟩)]] w fun e w' => e = .returned (.int .i64 (idxF fs t)) ∧ Below w.heap.size w w' := by
  have hm : n ≤ maxLen := hn ▸ hrd.len_le
  unfold maxLen at hm
  have HR := hide hrd
  have HN := hide hn
  have HP := hide hp
  clear hrd hn hp
  go_enter Try.func98, Try.ntmps98
  go_wp2
  go_loopw [8] (fun i wr => ∃ k : Nat, k ≤ n ∧ i = .int .i64 k ∧ Hid (∀ j, (h : j < fs.length) → j < k → ((fs[j]).1 == t) = false) ∧ Below w.heap.size w wr) (fun i _ => n - (intOf i).toNat)
  case atStart => exact ⟨0, Nat.zero_le _, rfl, hide (fun j _ h => by omega), Below.refl _ _⟩
  case round =>
    obtain ⟨k, hk, rfl, hall, hbel⟩ := hrel
    by_cases hlt : k < n
    · have hlt' : (k : Int) < n := by omega
      have hkl : k < fs.length := by have := HN.out; omega
      obtain ⟨b, off, a2, c2, rfl, q0, q1, q2⟩ := HR.out.atB hbel k hkl
      clear q2
      obtain ⟨f, hf⟩ : ∃ f, f = fs[k] := ⟨_, rfl⟩
      rw [← hf] at q0 q1
      have HF := hide hf
      clear hf
      obtain ⟨m, hm2⟩ : ∃ m, m = f.2.length := ⟨_, rfl⟩
      rw [← hm2] at q1
      clear hm2
      go_wp2_with fail
      refine (without1_any f.1 t _ p _ (by rw [hbel.cell (World.block_lt_of_cell? w _ HP.out)]; exact HP.out)).mono ?_
      rintro e w1 ⟨rfl, hb1⟩
      have hb1' : Below w.heap.size w w1 := hbel.trans (hb1.mono hbel.size)
      clear hb1 q0 q1
      cases hq : (f.1 == t) with
      | true =>
        have HM := hide (show idxF fs t = k by
          have : fs.findIdx (fun f => f.1 == t) = k := by
            rw [List.findIdx_eq hkl]
            refine ⟨by rw [← HF.out]; exact hq, fun j hj => ?_⟩
            have := hall.out j (by omega) hj
            simpa using this
          unfold idxF
          rw [this, if_pos hkl])
        clear hq
        go_wp2
        go_ret
        exact ⟨by rw [HM.out]; rfl, hb1'⟩
      | false =>
        have HA := hide (show ∀ j, (h : j < fs.length) → j < k + 1 → ((fs[j]).1 == t) = false by
          intro j h hj
          rcases Nat.lt_or_eq_of_le (Nat.le_of_lt_succ hj) with h1 | h1
          · exact hall.out j h h1
          · subst h1; rw [← HF.out]; exact hq)
        clear hq
        go_wp2
        go_roundw
        case rel => exact ⟨k + 1, by omega, rfl, HA, hb1'⟩
        case measure => simp only [intOf]; omega
    · have hd : decide ((k : Int) < n) = false := by simpa using (by omega : ¬ (k : Int) < n)
      have HM := hide (show idxF fs t = -1 by
        unfold idxF
        rw [if_neg]
        intro h
        have h1 := List.findIdx_getElem (w := h)
        have h2 := hall.out _ h (by have := HN.out; omega)
        rw [h2] at h1; cases h1)
      go_wp2
      go_ret
      exact ⟨by rw [HM.out]; rfl, hbel⟩

end Go.Proofs.Ytjjhaahlinbpdaa

/-
  What the statement's spoil does: names are written over in memory of one's own.
-/
import Derived.Test.YtepfojlclgnicaaRv6
import Derived.Test.YtepfojlclgnicaaLv8
namespace Go.Proofs.Ytepfojlclgnicaa
open Go.RowKit
set_option linter.unusedVariables false
set_option linter.unusedSimpArgs false
set_option synthInstance.maxHeartbeats 400000
set_option synthInstance.maxSize 4000

theorem OwM.setO {w : World} {base : Nat} {v : Value} {l : List Mta} (h : OwM w base v l) (g k : Nat) (s : List UInt8) : ∃ l' : List Mta, l'.length = l.length ∧ OwM (w.setCell ⟨g, k * 5, none⟩ (.string (bs s))) base v l' := by
  rcases h.2 with ⟨rfl, hn⟩ | ⟨g', cap, cur, rfl, hb, hg, hn, hm, hsz, htake⟩
  · exact ⟨l, rfl, h.1, .inl ⟨rfl, hn⟩⟩
  · by_cases e : g' = g
    · subst e
      by_cases hk : k < l.length
      · exact (OwM.setN h k hk s).1
      · refine ⟨l, rfl, h.1, .inr ⟨g', cap, cur.setIfInBounds (k * 5) (.string (bs s)), rfl, hb, heap_setCell_same w g' (k * 5) _ _ (.string (bs s)) hg, hn, hm, by simp [hsz], ?_⟩⟩
        rw [Array.toList_setIfInBounds, List.take_set_of_le (by omega)]
        exact htake
    · exact ⟨l, rfl, h.1, .inr ⟨g', cap, cur, rfl, hb, by rw [heap_setCell_other w ⟨g, k * 5, none⟩ g' _ e]; exact hg, hn, hm, hsz, htake⟩⟩
def LnVw (w : World) (base : Nat) (v : Value) (S : Lvs) : Prop := OwG 1 ecW 33 w base v S ∧ ∀ p ∈ S, ∃ l' : List Mta, l'.length = p.2.length ∧ OwM w base p.1 l'
theorem LnVw.of {w : World} {base : Nat} {v : Value} {S : Lvs} (h : OwVw w base v S) : LnVw w base v S := ⟨h.1, fun p hp => ⟨p.2, rfl, h.2 p hp⟩⟩
theorem LnVw.carry {w w' : World} {base : Nat} {v : Value} {S : Lvs} (h : LnVw w base v S) (hb : Below w.heap.size w w') : LnVw w' base v S :=
  ⟨OwG.carry h.1 hb, fun p hp => by obtain ⟨l', e, ho⟩ := h.2 p hp; exact ⟨l', e, OwG.carry ho hb⟩⟩
theorem LnVw.setO {w : World} {base : Nat} {v : Value} {S : Lvs} (h : LnVw w base v S) (g k : Nat) (s : List UInt8) (hk : KeepG 28 w (w.setCell ⟨g, k * 5, none⟩ (.string (bs s)))) : LnVw (w.setCell ⟨g, k * 5, none⟩ (.string (bs s))) base v S :=
  ⟨OwG.keep h.1 hk (by decide), fun p hp => by
    obtain ⟨l', e, ho⟩ := h.2 p hp
    obtain ⟨l'', e2, ho2⟩ := OwM.setO ho g k s
    exact ⟨l'', e2.trans e, ho2⟩⟩
theorem LnVw.len {w : World} {base : Nat} {a : Option Addr} {n c : Nat} {S : Lvs} (h : LnVw w base (.slice a n c) S) : n = S.length := by
  obtain ⟨_, _, e⟩ := OwG.form h.1
  cases e; rfl
theorem LnVw.row {w : World} {base : Nat} {a : Option Addr} {n c : Nat} {S : Lvs} (h : LnVw w base (.slice a n c) S) (i : Nat) (hi : i < S.length) :
    ∃ gv ax nx cx l', a = some ⟨gv, 0, none⟩ ∧ w.cell? ⟨gv, i, none⟩ = some (.slice ax nx cx) ∧ Hid (nx = (S[i]).2.length) ∧ OwM w base (.slice ax nx cx) l' ∧ Hid (l'.length = nx) := by
  obtain ⟨l', e1, ho⟩ := h.2 S[i] (List.getElem_mem hi)
  obtain ⟨ax, cx, e2⟩ := OwG.form ho
  obtain ⟨gv, rfl⟩ : ∃ gv, a = some ⟨gv, 0, none⟩ := by
    rcases h.1.2 with ⟨e, hn⟩ | ⟨g, cap, cur, e, _⟩
    · omega
    · cases e; exact ⟨g, rfl⟩
  obtain ⟨b, off, e, hc⟩ := RdG.atB (OwG.rd ecW_len h.1) (Below.refl _ _) i hi
  have h1 := hc 0 (S[i]).1 rfl
  cases e
  rw [e2] at h1 ho
  exact ⟨gv, ax, l'.length, cx, l', rfl, by simpa using h1, hide e1, ho, hide rfl⟩

set_option maxHeartbeats 8000000 in
set_option maxRecDepth 100000 in
theorem spoil_lw (a : Option Addr) (n c : Nat) (S : Lvs) (nx sq : Int) (lg : List UInt8) (base : Nat) (v2 : Value) (S2 : Lvs) (w : World) (h : LnVw w base (.slice a n c) S) (h2 : LnVw w base v2 S2) (hb : base ≤ w.heap.size) (hn : n ≤ 1000) (hT : (lvs S).flatten.length ≤ 100000) :
    Calls Try.prog 25 #[.agg #[.slice a n c, .int .i64 nx, .int .i64 sq, .string (bs lg)]] w fun e w' => e = .returned (.tuple #[]) ∧ LnVw w' base v2 S2 ∧ KeepG 28 w w' ∧ Below base w w' := by
  have HNS := hide h.len
  have HTF := hide hT
  have HBW := hide hb
  obtain ⟨w1, hw1⟩ : ∃ w1, w1 = w.alloc (.cells #[.slice a n c, .int .i64 nx, .int .i64 sq, .string (bs lg)] 24) := ⟨_, rfl⟩
  have hb1 : Below w.heap.size w w1 := by rw [hw1]; exact (Below.refl _ _).alloc (Nat.le_refl _) _
  have HL1 := hide (h.carry hb1)
  have HM1 := hide (h2.carry hb1)
  have HV1 := hide (show VvAt w1 w.heap.size (.slice a n c) nx sq lg by rw [hw1]; exact VvAt.new w _ nx sq lg)
  have HK1 := hide (show KeepG 28 w w1 from KeepG.below hb1)
  have HB1 := hide (hb1.mono hb)
  clear h h2 hT hb hb1
  go_enter Try.func25, Try.ntmps25
  go_wp2_with fail
  rw [← hw1]
  clear hw1
  go_loopw [2] (fun i wr => ∃ j : Nat, j ≤ n ∧ i = .int .i64 j ∧ Hid (LnVw wr base (.slice a n c) S) ∧ Hid (LnVw wr base v2 S2) ∧ Hid (VvAt wr w.heap.size (.slice a n c) nx sq lg) ∧ Hid (KeepG 28 w wr) ∧ Hid (Below base w wr)) (fun i _ => n - (intOf i).toNat)
  case atStart => exact ⟨0, Nat.zero_le _, rfl, HL1, HM1, HV1, HK1, HB1⟩
  case round =>
    obtain ⟨j, hj, rfl, hL, hM, hV, hK, hB⟩ := hrel
    clear HL1 HM1 HV1 HK1 HB1
    by_cases hlt : j < n
    · have hlt' : (j : Int) < n := by omega
      have hjl : j < S.length := by have := HNS.out; omega
      have HJ := hide hjl
      obtain ⟨N, hNe⟩ : ∃ N, N = (S[j]).2.length := ⟨_, rfl⟩
      have hN5 : N ≤ 100000 := by rw [hNe]; have := cntW_one hjl; have := HTF.out; omega
      have HNE := hide hNe
      clear hNe
      obtain ⟨v0, v1, v2, v3⟩ := hV.out.cells
      go_wp2_with fail
      clear v0 v1 v2 v3
      go_loopw [3] (fun i wr => ∃ q : Nat, q ≤ N ∧ i = .int .i64 q ∧ Hid (LnVw wr base (.slice a n c) S) ∧ Hid (LnVw wr base v2 S2) ∧ Hid (VvAt wr w.heap.size (.slice a n c) nx sq lg) ∧ Hid (KeepG 28 w wr) ∧ Hid (Below base w wr)) (fun i _ => N - (intOf i).toNat)
      case atStart => exact ⟨0, Nat.zero_le _, rfl, hL, hM, hV, hK, hB⟩
      case round =>
        obtain ⟨q, hq, rfl, hL, hM, hV, hK, hB⟩ := hrel
        obtain ⟨gv, ax, nr, cx, l', rfl, r0, hnr, hO, hll⟩ := hL.out.row j HJ.out
        obtain rfl : nr = N := hnr.out.trans HNE.out.symm
        obtain ⟨v0, v1, v2, v3⟩ := hV.out.cells
        by_cases qlt : q < nr
        · have qlt' : (q : Int) < nr := by omega
          have hql : q < l'.length := by have := hll.out; omega
          obtain ⟨g, ug, rfl, q0, f0⟩ := OwM.placeN hO q hql
          obtain ⟨-, hbl, hkl⟩ := OwM.setN hO q hql [119, 114, 105, 116, 116, 101, 110, 32, 111, 118, 101, 114]
          have HL9 := hide (hL.out.setO g q [119, 114, 105, 116, 116, 101, 110, 32, 111, 118, 101, 114] hkl)
          have HM9 := hide (hM.out.setO g q [119, 114, 105, 116, 116, 101, 110, 32, 111, 118, 101, 114] hkl)
          have HV9 := hide (hV.out.keep hkl (by decide))
          have HK9 := hide (hK.out.trans hkl)
          have HB9 := hide (hB.out.trans hbl)
          obtain ⟨w11, hw11⟩ : ∃ w11, w11 = wr.setCell ⟨g, q * 5, none⟩ (.string (bs [119, 114, 105, 116, 116, 101, 110, 32, 111, 118, 101, 114])) := ⟨_, rfl⟩
          rw [← hw11] at HL9 HM9 HV9 HK9 HB9
          rw [show bs [119, 114, 105, 116, 116, 101, 110, 32, 111, 118, 101, 114] = { data := #[119, 114, 105, 116, 116, 101, 110, 32, 111, 118, 101, 114] } from rfl] at hw11
          clear hbl hkl hL hM hV hK hB hO hll hnr
          go_wp2_with fail
          rw [← hw11]
          clear hw11 q0 f0 r0 v0 v1 v2 v3
          go_roundw
          case rel => exact ⟨q + 1, by omega, by go_num, HL9, HM9, HV9, HK9, HB9⟩
          case measure => simp only [intOf]; omega
        · have qd : decide ((q : Int) < nr) = false := by simpa using (by omega : ¬ (q : Int) < nr)
          clear hO hll hnr
          go_wp2_with fail
          clear r0 v0 v1 v2 v3
          go_roundw
          case rel => exact ⟨j + 1, by omega, by go_num, hL, hM, hV, hK, hB⟩
          case measure => simp only [intOf]; omega
    · have hd : decide ((j : Int) < n) = false := by simpa using (by omega : ¬ (j : Int) < n)
      obtain ⟨v0, v1, v2, v3⟩ := hV.out.cells
      go_wp2_with fail
      clear v0 v1 v2 v3
      refine bodyPost_end (v := .tuple #[]) ?_ rfl ⟨rfl, hM.out, hK.out, hB.out⟩
      simp [results, Try.results25, go_sem]
end Go.Proofs.Ytepfojlclgnicaa

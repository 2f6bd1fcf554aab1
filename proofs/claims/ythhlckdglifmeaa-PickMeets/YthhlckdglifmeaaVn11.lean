/-
  What without does.
-/
import Derived.Test.YthhlckdglifmeaaVn10
namespace Go.Proofs.Ythhlckdglifmeaa
open Go.RowKit
set_option linter.unusedVariables false
set_option linter.unusedSimpArgs false

def WoA (l s : List Mta) (base : Nat) (w' : World) (v : Value) (b : Bool) : Prop := (∃ t, lesV l s = some t ∧ b = true ∧ OwM w' base v t) ∨ (lesV l s = none ∧ b = false)
theorem OwM.addr {w : World} {base : Nat} {a : Option Addr} {n c : Nat} {l : List Mta} (h : OwM w base (.slice a n c) l) (hl : 0 < l.length) : ∃ g, a = some ⟨g, 0, none⟩ := by
  rcases h.2 with ⟨e, hn⟩ | ⟨g, cap, cur, e, _⟩
  · omega
  · cases e; exact ⟨g, rfl⟩

set_option maxHeartbeats 4000000 in
set_option maxRecDepth 100000 in
theorem without_vn (a : Option Addr) (n c : Nat) (l : List Mta) (a' : Option Addr) (n' c' : Nat) (s : List Mta) (w : World) (hrd : RdM w (.slice a n c) l) (hrs : RdM w (.slice a' n' c') s) (hn : n ≤ 100000) (hn' : n' ≤ 100000) :
    Calls Try.prog 35 #[.slice a n c, .slice a' n' c'] w fun e w' => ∃ av nv cv b, e = .returned (.tuple #[.slice av nv cv, .bool b]) ∧ WoA l s w.heap.size w' (.slice av nv cv) b ∧ Below w.heap.size w w' := by
  have HN := hide hrd.len
  have HNS := hide hrs.len
  have HRS := hide hrs
  obtain ⟨ao, no, co, w2, hno, hr2, o2, b2⟩ := app_metas (OwG.nil w w.heap.size) (Nat.le_refl _) hrd (by simp only [List.length_nil]; have := HN.out; omega)
  rw [List.nil_append] at hno o2
  have HO2 := hide o2
  have HB2 := hide b2
  clear hrd hrs hno o2 b2
  go_enter Try.func35, Try.ntmps35
  go_wp2_with (first | (at_builtin; refine wpList_runappY rfl (.const (.slice none 0 0)) (.tmp 10) 26 rfl rfl rfl rfl hr2 ?_) | fail)
  clear hr2
  go_loopw [14, 6] (fun i v wr => ∃ (k : Nat) (t : List Mta) (av : Option Addr) (nv cv : Nat), k ≤ n' ∧ i = .int .i64 k ∧ v = .slice av nv cv ∧ Hid (lesV l (s.take k) = some t) ∧ Hid (OwM wr w.heap.size (.slice av nv cv) t) ∧ Hid (Below w.heap.size w wr)) (fun i _ _ => n' - (intOf i).toNat)
  case atStart => exact ⟨0, l, _, _, _, Nat.zero_le _, rfl, rfl, hide rfl, HO2, HB2⟩
  case round =>
    obtain ⟨k, t, av, nv, cv, hk, rfl, rfl, hL, hO, hB⟩ := hrel
    clear HO2 HB2
    by_cases hlt : k < n'
    · have hlt' : (k : Int) < n' := by omega
      have hkl : k < s.length := by have := HNS.out; omega
      obtain ⟨b, off, rfl, q0, q1, q2, q3, q4⟩ := RdM.cells HRS.out hB.out k hkl
      have HSN := hide (show lesV l (s.take (k + 1)) = if s[k] ∈ t then some (t.erase s[k]) else none by
        rw [List.take_succ_eq_append_getElem hkl, lesV_snoc, hL.out]; rfl)
      have HTL := hide (show t.length ≤ 100000 by have h1 := (lesV_sub hL.out).length_le; have := HN.out; omega)
      obtain ⟨x, hx⟩ : ∃ x, x = s[k] := ⟨_, rfl⟩
      rw [← hx] at q0 q1 q2 q3 q4 HSN
      clear hx hL
      have hnv : nv = t.length := by obtain ⟨_, _, e⟩ := OwG.form hO.out; cases e; rfl
      have HNV := hide hnv
      have hnv5 : nv ≤ 1000000 := by have := HTL.out; omega
      clear hnv
      obtain ⟨w3, hw3⟩ : ∃ w3, w3 = wr.alloc (.cells #[.string (bs x.1), .int .i64 x.2.1, .int .i64 x.2.2.1, .string (bs (Mlo x)), .string (bs (Mhi x))] 28) := ⟨_, rfl⟩
      have hb3 : Below wr.heap.size wr w3 := by rw [hw3]; exact (Below.refl _ _).alloc (Nat.le_refl _) _
      have HX3 := hide (show MvAt w3 wr.heap.size x by rw [hw3]; exact MvAt.new wr x)
      have HO3 := hide (OwG.carry hO.out hb3)
      have HB3 := hide (hB.out.trans (hb3.mono hB.out.size))
      have hc := index_vn av nv cv t x w3 hnv5 (OwG.rd ecM_len HO3.out)
      clear hO hB hb3
      obtain ⟨x0, x1, x2, x3, x4⟩ := HX3.out.cells
      rw [hw3] at x0 x1 x2 x3 x4
      go_wp2_with fail
      rw [← hw3]
      clear hw3 x0 x1 x2 x3 x4 q0 q1 q2 q3 q4
      refine hc.mono ?_
      rintro e w4 ⟨⟨z, rfl, hz⟩, b4⟩
      have HO4 := hide (OwG.carry HO3.out b4)
      have HB4 := hide (HB3.out.trans (b4.mono HB3.out.size))
      clear hc b4 HO3 HB3 HX3
      rcases hz with ⟨rfl, hxt⟩ | ⟨i, rfl, hi, hxt, he⟩
      · have HNO := hide (show lesV l s = none from lesV_none (k := k + 1) (by rw [HSN.out, if_neg hxt]))
        clear hxt HSN
        go_wp2
        go_ret2
        exact ⟨_, _, _, _, rfl, .inr ⟨HNO.out, rfl⟩, HB4.out⟩
      · have HYE := hide (show lesV l (s.take (k + 1)) = some (t.take i ++ t.drop (i + 1)) by rw [HSN.out, if_pos hxt, he])
        obtain ⟨g, rfl⟩ := OwM.addr HO4.out (by omega)
        have hin : i < nv := by rw [HNV.out]; exact hi
        have hd := delete_vn w.heap.size g nv cv i t w4 HO4.out hin HB4.out.size hnv5
        have hi0 : decide ((i : Int) < 0) = false := decide_eq_false (by omega)
        have hw1 : IntKind.i64.wrap ((i : Int) + 1) = (i : Int) + 1 := by rw [IntKind.wrap_i64]; omega
        clear hxt he hi HSN
        go_wp2_with fail
        refine hd.mono ?_
        rintro e w5 ⟨rfl, o5, b5⟩
        have HO5 := hide o5
        have HB5 := hide (HB4.out.trans b5)
        clear hd o5 b5 HO4 HB4 hi0 hw1 hin
        go_wp2
        go_roundw
        case rel => exact ⟨k + 1, _, _, _, _, by omega, by go_num, rfl, HYE, HO5, HB5⟩
        case measure => simp only [intOf]; omega
    · have hd : decide ((k : Int) < n') = false := by simpa using (by omega : ¬ (k : Int) < n')
      have HE := hide (show lesV l s = some t by have := hL.out; rwa [List.take_of_length_le (by have := HNS.out; omega)] at this)
      clear hL
      go_wp2
      go_ret2
      exact ⟨_, _, _, _, rfl, .inl ⟨t, HE.out, rfl, hO.out⟩, hB.out⟩
end Go.Proofs.Ythhlckdglifmeaa

/-
  The document's New, Less and put.
-/
import Derived.Test.YtepfojlclgnicaaRv3
import Derived.Test.YtepfojlclgnicaaMathVn3
namespace Go.Proofs.Ytepfojlclgnicaa
open Go.RowKit
set_option linter.unusedVariables false
set_option linter.unusedSimpArgs false
set_option synthInstance.maxHeartbeats 400000
set_option synthInstance.maxSize 4000

set_option maxHeartbeats 4000000 in
set_option maxRecDepth 100000 in
theorem rnew_vn (lg : List UInt8) (w : World) :
    Calls Try.prog 21 #[.string (bs lg)] w fun e w' => AnsV w.heap.size (newV lg) (newE lg) e w' ∧ Below w.heap.size w w' := by
  obtain ⟨w2, hw2⟩ : ∃ w2, w2 = w.alloc (.cells #[.slice none 0 0, .int .i64 0, .int .i64 0, .string { data := #[] }] 24) := ⟨_, rfl⟩
  have hb2 : Below w.heap.size w w2 := by rw [hw2]; exact (Below.refl _ _).alloc (Nat.le_refl _) _
  have HZ2 := hide (show VvAt w2 w.heap.size (.slice none 0 0) 0 0 [] by rw [hw2]; exact VvAt.new w _ 0 0 [])
  have HB2 := hide hb2
  obtain ⟨w3, hmk, o3, b3⟩ := make_w w2 4 (by omega)
  have hmk2 : (Instr.makeSlice 22 (.int .i64 4) (.int .i64 4)).run Try.prog w2 = .ok (.slice (some ⟨w2.heap.size, 0, none⟩) 4 4) w3 := hmk
  have hs2 : w2.heap.size = w.heap.size + 1 := by rw [hw2]; simp
  obtain ⟨g, hg⟩ : ∃ g, g = w2.heap.size := ⟨_, rfl⟩
  rw [← hg] at hmk2 hs2
  rw [show (Value.slice (some ⟨w2.heap.size, 0, none⟩) 4 4) = .slice (some ⟨g, 0, none⟩) 4 4 by rw [hg]] at o3
  have HO3 := hide (show OwG 1 ecW 33 w3 (w.heap.size + 1) (.slice (some ⟨g, 0, none⟩) 4 4) (List.replicate 4 zVw) from o3.mono (by omega))
  have HB3 := hide (show Below w.heap.size w w3 from HB2.out.trans (b3.mono HB2.out.size))
  have HZ3 := hide (HZ2.out.carry b3)
  clear hmk hs2 hg o3 b3 hb2
  cases ht : txO lg 16 with
  | false =>
    have HE := hide (show newV lg = zerV ∧ newE lg = 50 by unfold newV newE; rw [ht]; exact ⟨rfl, rfl⟩)
    go_enter Try.func21, Try.ntmps21
    go_wp2_with fail
    rw [← hw2]
    clear hw2
    go_wp2_with fail
    refine (rtextZ_vn _ _ (by decide) (by decide) _).mono ?_
    rintro e w2 ⟨rfl, rfl⟩
    clear hmk2
    obtain ⟨r0, r1, r2, r3⟩ := HZ2.out.cells
    have f0 := HZ2.out.fz 0
    have f1 := HZ2.out.fz 1
    have f2 := HZ2.out.fz 2
    have f3 := HZ2.out.fz 3
    have hp9 : VvAt (set4v w2 (w.heap.size) (.slice none 0 0) (.int .i64 0) (.int .i64 0) (.string { data := #[] })) (w.heap.size) (.slice none 0 0) 0 0 [] := VvAt.put (v' := .slice none 0 0) (nx' := 0) (sq' := 0) (lg' := []) HZ2.out
    have HB9 := hide (show Below w.heap.size w (set4v w2 (w.heap.size) (.slice none 0 0) (.int .i64 0) (.int .i64 0) (.string { data := #[] })) from below_set4v HB2.out (Nat.le_refl _) _ _ _ _)
    obtain ⟨w9, hw9⟩ : ∃ w9, w9 = set4v w2 (w.heap.size) (.slice none 0 0) (.int .i64 0) (.int .i64 0) (.string { data := #[] }) := ⟨_, rfl⟩
    rw [← hw9] at hp9 HB9
    unfold set4v at hw9
    obtain ⟨z0, z1, z2, z3⟩ := hp9.cells
    clear hp9
    go_wp2
    rw [← hw9]
    clear r0 r1 r2 r3 f0 f1 f2 f3
    refine bodyPost_ret (v := .tuple #[.agg #[.slice none 0 0, .int .i64 0, .int .i64 0, .string { data := #[] }], .int .i64 50]) ?_ rfl ⟨by rw [HE.out.1, HE.out.2]; exact ⟨_, [], rfl, OwVw.nil _ _, rfl⟩, HB9.out⟩
    clear hw9
    try simp only [show bs ([] : List UInt8) = { data := #[] } from rfl, Int.natCast_zero, Int.ofNat_zero, Int.cast_ofNat_Int] at z0 z1 z2 z3
    simp [results, Try.results21, go_sem, *]
  | true =>
    have HE := hide (show newV lg = ([[], [], [], []], 1, 0, lg) ∧ newE lg = 0 by unfold newV newE; rw [ht]; exact ⟨rfl, rfl⟩)
    go_enter Try.func21, Try.ntmps21
    go_wp2_with fail
    rw [← hw2]
    clear hw2
    go_wp2_with fail
    refine (rtextZ_vn _ _ (by decide) (by decide) _).mono ?_
    rintro e w2 ⟨rfl, rfl⟩
    obtain ⟨r0, r1, r2, r3⟩ := HZ3.out.cells
    have f0 := HZ3.out.fz 0
    have f1 := HZ3.out.fz 1
    have f2 := HZ3.out.fz 2
    have f3 := HZ3.out.fz 3
    have hp9 : VvAt (set4v w3 (w.heap.size) (.slice (some ⟨g, 0, none⟩) 4 4) (.int .i64 1) (.int .i64 0) (.string (bs lg))) (w.heap.size) (.slice (some ⟨g, 0, none⟩) 4 4) 1 0 lg := VvAt.put (v' := .slice (some ⟨g, 0, none⟩) 4 4) (nx' := 1) (sq' := 0) (lg' := lg) HZ3.out
    have HB9 := hide (show Below w.heap.size w (set4v w3 (w.heap.size) (.slice (some ⟨g, 0, none⟩) 4 4) (.int .i64 1) (.int .i64 0) (.string (bs lg))) from below_set4v HB3.out (Nat.le_refl _) _ _ _ _)
    have HO9 := hide (show OwVw (set4v w3 w.heap.size (.slice (some ⟨g, 0, none⟩) 4 4) (.int .i64 1) (.int .i64 0) (.string (bs lg))) w.heap.size (.slice (some ⟨g, 0, none⟩) 4 4) (List.replicate 4 zVw) from
      OwVw.mono (base := w.heap.size + 1) (OwVw.set4v ⟨HO3.out, fun p hp => by obtain rfl := List.eq_of_mem_replicate hp; exact OwG.nil _ _⟩ (by omega) _ _ _ _) (by omega))
    obtain ⟨w9, hw9⟩ : ∃ w9, w9 = set4v w3 (w.heap.size) (.slice (some ⟨g, 0, none⟩) 4 4) (.int .i64 1) (.int .i64 0) (.string (bs lg)) := ⟨_, rfl⟩
    rw [← hw9] at hp9 HB9 HO9
    unfold set4v at hw9
    obtain ⟨z0, z1, z2, z3⟩ := hp9.cells
    clear hp9
    go_wp2_with (refine wpList_mkY rfl (.const (.int .i64 4)) (.const (.int .i64 4)) 22 rfl rfl rfl hmk2 ?_)
    rw [← hw9]
    clear r0 r1 r2 r3 f0 f1 f2 f3
    refine bodyPost_ret (v := .tuple #[.agg #[.slice (some ⟨g, 0, none⟩) 4 4, .int .i64 1, .int .i64 0, .string (bs lg)], .int .i64 0]) ?_ rfl ⟨by rw [HE.out.1, HE.out.2]; exact ⟨_, List.replicate 4 zVw, rfl, HO9.out, rfl⟩, HB9.out⟩
    clear hw9
    try simp only [show bs ([] : List UInt8) = { data := #[] } from rfl, Int.natCast_zero, Int.ofNat_zero, Int.cast_ofNat_Int] at z0 z1 z2 z3
    simp [results, Try.results21, go_sem, *]

theorem rdM_drop {w : World} {base g n c b : Nat} {l : List Mta} (h : OwM w base (.slice (some ⟨g, 0, none⟩) n c) l) (k : Nat) (hk : k ≤ n) (hb : k < c → b = k * 5) : RdM w (.slice (some ⟨g, b, none⟩) (n - k) (c - k)) (l.drop k) := by
  have hn := (OwG.rd ecM_len h).len
  rcases OwG.rd ecM_len h with ⟨rfl, _⟩ | ⟨b', off, c', e, h3, h4, h5⟩
  · have h0 : n = 0 := by simpa using hn
    exact .inl ⟨by simp, .inr ⟨_, _, by rw [show n - k = 0 by omega]⟩⟩
  · cases e
    by_cases hz : l.length - k = 0
    · exact .inl ⟨List.drop_of_length_le (by omega), .inr ⟨_, _, by rw [hz]⟩⟩
    · have hb' := hb (by omega)
      subst hb'
      refine .inr ⟨g, k * 5, c - k, by rw [List.length_drop], by rw [List.length_drop]; omega, by omega, fun j hj i u hu => ?_⟩
      rw [List.length_drop] at hj
      rw [List.getElem_drop] at hu
      have := h5 (k + j) (by omega) i u hu
      rw [show k * 5 + j * 5 + i = 0 + (k + j) * 5 + i by omega]
      exact this

theorem wpList_slHv {P : Program} {w : World} {ops : Array Oper} {rest : List Oper} {o : Oper} {a : Act} {Q : Exit → Act → World → Prop} (hgd : o.guard = none) (x hi : Operand) (t : TypeId) (ht : P.underlying t = some (.slice (P.elem t)))
    (ho : o.op = .slice t x none (some hi) none) {v vh v' : Value} (hx : a.eval x = v) (hhi : a.eval hi = vh) (hrun : ∀ wx, (Instr.slice t v none (some vh) none).run P wx = .ok v' wx) (h : wpList P ops Q rest (a.put o.dst v') w) : wpList P ops Q (o :: rest) a w := by
  refine wpList_plain hgd fun K hK => ?_
  unfold Oper.wp execOp
  simp only [ho, Option.map_some, Option.map_none, hx, hhi, run_sliceAt_slice w t _ _ _ _ ht, Sem.run_bind, hrun w, Result.andThen_ok, Sem.run_pure]
  exact hK _ _ h
def IxT (t : List Mta) (x : Mta) (k : Nat) (z : Int) : Prop := (z = -1 ∧ NotTo t x k) ∨ ∃ j : Nat, z = j ∧ j < t.length ∧ x ∈ t ∧ t.erase x = t.take j ++ t.drop (j + 1)

set_option maxHeartbeats 8000000 in
set_option maxRecDepth 100000 in
theorem rless_vn (a : Option Addr) (n c : Nat) (l : List Mta) (a' : Option Addr) (n' c' : Nat) (s : List Mta) (w : World) (hrd : RdM w (.slice a n c) l) (hrs : RdM w (.slice a' n' c') s) (hn : n ≤ 100000) (hn' : n' ≤ 100000) :
    Calls Try.prog 42 #[.slice a n c, .slice a' n' c'] w fun e w' => ∃ av nv cv b, e = .returned (.tuple #[.slice av nv cv, .bool b]) ∧ WoA l s w.heap.size w' (.slice av nv cv) b ∧ Below w.heap.size w w' := by
  have HN := hide hrd.len
  have HNS := hide hrs.len
  have HRS := hide hrs
  obtain ⟨ao, no, co, w2, hno, hr2, o2, b2⟩ := app_metas (OwG.nil w w.heap.size) (Nat.le_refl _) hrd (by simp only [List.length_nil]; have := HN.out; omega)
  rw [List.nil_append] at hno o2
  have HO2 := hide o2
  have HB2 := hide b2
  clear hrd hrs hno o2 b2
  go_enter Try.func42, Try.ntmps42
  go_wp2_with (first | (at_builtin; refine wpList_runappY rfl (.tmp 11) (.tmp 12) 33 rfl rfl rfl rfl hr2 ?_) | fail)
  clear hr2
  go_loopw [7, 6] (fun i v wr => ∃ (k : Nat) (t : List Mta) (av : Option Addr) (nv cv : Nat), k ≤ n' ∧ i = .int .i64 k ∧ v = .slice av nv cv ∧ Hid (lesV l (s.take k) = some t) ∧ Hid (OwM wr w.heap.size (.slice av nv cv) t) ∧ Hid (Below w.heap.size w wr)) (fun i _ _ => n' - (intOf i).toNat)
  case atStart => exact ⟨0, l, _, _, _, Nat.zero_le _, rfl, rfl, hide rfl, HO2, HB2⟩
  case round =>
    obtain ⟨k, t, av, nv, cv, hk, rfl, rfl, hL, hO, hB⟩ := hrel
    clear HO2 HB2
    by_cases hlt : k < n'
    · have hlt' : (k : Int) < n' := by omega
      have hkl : k < s.length := by have := HNS.out; omega
      have HSN := hide (show lesV l (s.take (k + 1)) = if s[k] ∈ t then some (t.erase s[k]) else none by
        rw [List.take_succ_eq_append_getElem hkl, lesV_snoc, hL.out]; rfl)
      have HTL := hide (show t.length ≤ 100000 by have h1 := (lesV_sub hL.out).length_le; have := HN.out; omega)
      obtain ⟨w5, hw5⟩ : ∃ w5, w5 = wr := ⟨_, rfl⟩
      subst hw5
      obtain ⟨bx, ox, rfl, hxc⟩ := RdM.cells HRS.out hB.out k hkl
      have HX5 := hide hxc
      obtain ⟨x, hx⟩ : ∃ x, x = s[k] := ⟨_, rfl⟩
      rw [← hx] at HX5 HSN
      clear hx hL hxc
      have hnv : nv = t.length := by obtain ⟨_, _, e⟩ := OwG.form hO.out; cases e; rfl
      have HNV := hide hnv
      have hnv5 : nv ≤ 100000 := by have := HTL.out; omega
      have HO5 := hide hO.out
      have HT5 := hide (OwG.rd ecM_len hO.out)
      have HB5 := hide hB.out
      clear hnv hO hB
      go_wp2_with fail
      go_loopw [9, 8] (fun i v wi => ∃ (q : Nat) (z : Int), q ≤ nv ∧ i = .int .i64 q ∧ v = .int .i64 z ∧ Hid (IxT t x q z) ∧ Hid (Below w5.heap.size w5 wi)) (fun i _ _ => nv - (intOf i).toNat)
      case atStart => exact ⟨0, -1, Nat.zero_le _, rfl, rfl, hide (.inl ⟨rfl, fun j hj => by omega⟩), hide (Below.refl _ _)⟩
      case round =>
        obtain ⟨q, z, hq, rfl, rfl, HIX, hD⟩ := hrel
        have HW5 := hide (Below.refl w5.heap.size w5)
        rcases HIX.out with ⟨rfl, hnot⟩ | ⟨j, rfl, hj, hxt, he⟩
        · by_cases qlt : q < nv
          · have qlt' : (q : Int) < nv := by omega
            have hql : q < t.length := by have := HNV.out; omega
            obtain ⟨y0, y1, y2, y3, y4⟩ := HX5.out.carry hD.out
            obtain ⟨b, off, rfl, q0, q1, q2, q3, q4⟩ := RdM.cells HT5.out hD.out q hql
            have HNE := hide (fun h => hnot.next hql h)
            have HFO := hide (show t[q] = x → IxT t x (q + 1) (q : Int) from fun e => .inr ⟨q, rfl, hql, e ▸ List.getElem_mem hql, erase_at hql e (fun j hj => hnot j hj (by omega))⟩)
            obtain ⟨p, hp⟩ : ∃ p : Mta, p = t[q] := ⟨_, rfl⟩
            rw [← hp] at q0 q1 q2 q3 q4 HNE HFO
            clear hp hql hnot HIX
            have heg := guard_mta
            have hb0 := hD.out
            by_cases hd : p = x
            · have hne' : ∀ wx, (binOp .eql 28 (.agg #[.string (bs p.1), .int .i64 p.2.1, .int .i64 p.2.2.1, .string (bs (Mlo p)), .string (bs (Mhi p))]) (.agg #[.string (bs x.1), .int .i64 x.2.1, .int .i64 x.2.2.1, .string (bs (Mlo x)), .string (bs (Mhi x))])).run Try.prog wx = .ok (.bool true) wx := fun wx => by
                rw [eql_mta p x wx, decide_eq_true hd]
              have HD := hide (HFO.out hd)
              clear hd HFO HNE hD
              go_wp2
              go_quiet (fail)
              go_wp2
              go_roundw
              case rel => exact ⟨q + 1, q, by omega, by go_num, rfl, HD, hide (belowX_drewN hb0 _)⟩
              case measure => simp only [intOf]; omega
            · have hne' : ∀ wx, (binOp .eql 28 (.agg #[.string (bs p.1), .int .i64 p.2.1, .int .i64 p.2.2.1, .string (bs (Mlo p)), .string (bs (Mhi p))]) (.agg #[.string (bs x.1), .int .i64 x.2.1, .int .i64 x.2.2.1, .string (bs (Mlo x)), .string (bs (Mhi x))])).run Try.prog wx = .ok (.bool false) wx := fun wx => by
                rw [eql_mta p x wx, decide_eq_false hd]
              have HD := hide (HNE.out hd)
              clear hd HFO HNE hD
              go_wp2
              go_quiet (fail)
              go_wp2
              go_roundw
              case rel => exact ⟨q + 1, -1, by omega, by go_num, rfl, hide (.inl ⟨rfl, HD.out⟩), hide (belowX_drewN hb0 _)⟩
              case measure => simp only [intOf]; omega
          · have qd : decide ((q : Int) < nv) = false := by simpa using (by omega : ¬ (q : Int) < nv)
            have HNO := hide (show lesV l s = none from lesV_none (k := k + 1) (by
              rw [HSN.out, if_neg]
              exact NotTo.all (by have := HNV.out; have e : q = t.length := by omega
                                  rw [← e]; exact hnot)))
            have HB9 := hide (HB5.out.trans (hD.out.mono HB5.out.size))
            clear hnot hD HIX HSN
            go_wp2
            go_ret2
            exact ⟨_, _, _, _, rfl, .inr ⟨HNO.out, rfl⟩, HB9.out⟩
        · have hj0 : decide ((j : Int) < 0) = false := decide_eq_false (by omega)
          by_cases qlt : q < nv
          · have qlt' : (q : Int) < nv := by omega
            have HYE := hide (show lesV l (s.take (k + 1)) = some (t.take j ++ t.drop (j + 1)) by rw [HSN.out, if_pos hxt, he])
            obtain ⟨g, rfl⟩ := OwM.addr (OwG.carry HO5.out HW5.out) (by omega)
            have hnvc := HNV.out
            have hOi := OwG.carry HO5.out hD.out
            have hcap : nv ≤ cv := by
              obtain ⟨cur, _, _, _, hnc, _⟩ := OwM.block hOi
              exact hnc
            have hsh := slMh g nv cv j (by omega)
            obtain ⟨b2, hsl0, hb2⟩ := slMl g nv cv (j + 1) (by omega) wr
            have hsl : ∀ wx, (Instr.slice 33 (.slice (some ⟨g, 0, none⟩) nv cv) (some (.int .i64 ((j : Int) + 1))) none none).run Try.prog wx = .ok (.slice (some ⟨g, b2, none⟩) (nv - (j + 1)) (cv - (j + 1))) wx := hsl0
            have hBi := HB5.out.trans (hD.out.mono HB5.out.size)
            have hr1 : RdM wr (.slice (some ⟨g, 0, none⟩) j cv) (t.take j) := OwG.rd ecM_len (OwM.cut hOi j (by omega))
            have hr2 := rdM_drop hOi (j + 1) (by omega) hb2
            have htl5 : t.length ≤ 1000000 := by omega
            obtain ⟨a6, n6, c6, w6, hn6, hr6, o6, b6⟩ := app_metas (OwG.nil wr wr.heap.size) (Nat.le_refl _) hr1 (by simp only [List.length_nil, List.length_take]; omega)
            rw [List.nil_append] at hn6 o6
            obtain ⟨a7, n7, c7, w7, hn7, hr7, o7, b7⟩ := app_metas o6 b6.size (hr2.carry b6) (by simp only [List.length_drop, List.length_take]; omega)
            have HO9 := hide (show OwM w7 w.heap.size (.slice a7 n7 c7) (t.take j ++ t.drop (j + 1)) from OwG.mono o7 hBi.size)
            have HB9 := hide (show Below w.heap.size w w7 from (hBi.trans (b6.mono hBi.size)).trans (b7.mono hBi.size))
            have hwp : IntKind.i64.wrap ((j : Int) + 1) = (j : Int) + 1 := by rw [IntKind.wrap_i64]; omega
            skip
            clear hxt he HSN hsl0 hb2 hOi hcap hBi hr1 hr2 htl5 hn6 hn7 o6 o7 b6 b7 hnvc hD HO5 HW5 HNV HIX
            go_wp2_with (first | (refine wpList_slHv rfl (.tmp 43) (.tmp 44) 33 (by kernel_rfl) rfl rfl rfl hsh ?_) | (refine wpList_slY rfl (.tmp 48) (.tmp 50) 33 (by kernel_rfl) rfl rfl rfl hsl ?_) | (at_builtin; refine wpList_runappY rfl (.tmp 42) (.tmp 45) 33 rfl rfl rfl rfl hr6 ?_) | (at_builtin; refine wpList_runappY rfl (.tmp 47) (.tmp 51) 33 rfl rfl rfl rfl hr7 ?_) | fail)
            go_roundw
            case rel => exact ⟨k + 1, _, _, _, _, by omega, by go_num, rfl, HYE, HO9, HB9⟩
            case measure => simp only [intOf]; omega
          · have qd : decide ((q : Int) < nv) = false := by simpa using (by omega : ¬ (q : Int) < nv)
            have HYE := hide (show lesV l (s.take (k + 1)) = some (t.take j ++ t.drop (j + 1)) by rw [HSN.out, if_pos hxt, he])
            obtain ⟨g, rfl⟩ := OwM.addr (OwG.carry HO5.out HW5.out) (by omega)
            have hnvc := HNV.out
            have hOi := OwG.carry HO5.out hD.out
            have hcap : nv ≤ cv := by
              obtain ⟨cur, _, _, _, hnc, _⟩ := OwM.block hOi
              exact hnc
            have hsh := slMh g nv cv j (by omega)
            obtain ⟨b2, hsl0, hb2⟩ := slMl g nv cv (j + 1) (by omega) wr
            have hsl : ∀ wx, (Instr.slice 33 (.slice (some ⟨g, 0, none⟩) nv cv) (some (.int .i64 ((j : Int) + 1))) none none).run Try.prog wx = .ok (.slice (some ⟨g, b2, none⟩) (nv - (j + 1)) (cv - (j + 1))) wx := hsl0
            have hBi := HB5.out.trans (hD.out.mono HB5.out.size)
            have hr1 : RdM wr (.slice (some ⟨g, 0, none⟩) j cv) (t.take j) := OwG.rd ecM_len (OwM.cut hOi j (by omega))
            have hr2 := rdM_drop hOi (j + 1) (by omega) hb2
            have htl5 : t.length ≤ 1000000 := by omega
            obtain ⟨a6, n6, c6, w6, hn6, hr6, o6, b6⟩ := app_metas (OwG.nil wr wr.heap.size) (Nat.le_refl _) hr1 (by simp only [List.length_nil, List.length_take]; omega)
            rw [List.nil_append] at hn6 o6
            obtain ⟨a7, n7, c7, w7, hn7, hr7, o7, b7⟩ := app_metas o6 b6.size (hr2.carry b6) (by simp only [List.length_drop, List.length_take]; omega)
            have HO9 := hide (show OwM w7 w.heap.size (.slice a7 n7 c7) (t.take j ++ t.drop (j + 1)) from OwG.mono o7 hBi.size)
            have HB9 := hide (show Below w.heap.size w w7 from (hBi.trans (b6.mono hBi.size)).trans (b7.mono hBi.size))
            have hwp : IntKind.i64.wrap ((j : Int) + 1) = (j : Int) + 1 := by rw [IntKind.wrap_i64]; omega
            skip
            clear hxt he HSN hsl0 hb2 hOi hcap hBi hr1 hr2 htl5 hn6 hn7 o6 o7 b6 b7 hnvc hD HO5 HW5 HNV HIX
            go_wp2_with (first | (refine wpList_slHv rfl (.tmp 43) (.tmp 44) 33 (by kernel_rfl) rfl rfl rfl hsh ?_) | (refine wpList_slY rfl (.tmp 48) (.tmp 50) 33 (by kernel_rfl) rfl rfl rfl hsl ?_) | (at_builtin; refine wpList_runappY rfl (.tmp 42) (.tmp 45) 33 rfl rfl rfl rfl hr6 ?_) | (at_builtin; refine wpList_runappY rfl (.tmp 47) (.tmp 51) 33 rfl rfl rfl rfl hr7 ?_) | fail)
            go_roundw
            case rel => exact ⟨k + 1, _, _, _, _, by omega, by go_num, rfl, HYE, HO9, HB9⟩
            case measure => simp only [intOf]; omega
    · have hd : decide ((k : Int) < n') = false := by simpa using (by omega : ¬ (k : Int) < n')
      have HE := hide (show lesV l s = some t by have := hL.out; rwa [List.take_of_length_le (by have := HNS.out; omega)] at this)
      clear hL
      go_wp2
      go_ret2
      exact ⟨_, _, _, _, rfl, .inl ⟨t, HE.out, rfl, hO.out⟩, hB.out⟩

theorem putD_cons (y : Mta) (l : List Mta) (x : Mta) : putD (y :: l) x = if ltS (Mlo x) (Mlo y) then x :: y :: l else y :: putD l x := by
  unfold putD posD insV
  rw [List.takeWhile_cons]
  cases ltS (Mlo x) (Mlo y) <;> simp
def anyM (l : List Mta) (x : Mta) : Bool := l.any fun e => ltS (Mlo x) (Mlo e)
theorem putD_none {x : Mta} : ∀ {l r : List Mta}, anyM l x = false → putD (l ++ r) x = l ++ putD r x
  | [], r, _ => rfl
  | y :: l, r, h => by
    unfold anyM at h
    rw [List.any_cons, Bool.or_eq_false_iff] at h
    rw [List.cons_append, putD_cons, if_neg (by rw [h.1]; simp), putD_none (by unfold anyM; exact h.2)]; rfl
theorem putD_some {x y : Mta} : ∀ {l : List Mta}, anyM l x = true → putD (l ++ [y]) x = putD l x ++ [y]
  | [], h => by cases h
  | z :: l, h => by
    rw [List.cons_append, putD_cons, putD_cons]
    split
    · rfl
    · rename_i hz
      unfold anyM at h
      rw [List.any_cons, Bool.or_eq_true] at h
      rw [putD_some (by unfold anyM; exact h.resolve_left hz)]; rfl
def moreM (t : List Mta) (x : Mta) (k : Nat) : List Mta := if anyM (t.take k) x then putD (t.take k) x else t.take k
def putM2 (t : List Mta) (x : Mta) (k : Nat) : Bool := anyM (t.take k) x
theorem putM2_s {t : List Mta} {x : Mta} {k : Nat} (hk : k < t.length) : putM2 t x (k + 1) = (putM2 t x k || ltS (Mlo x) (Mlo t[k])) := by
  unfold putM2 anyM
  rw [List.take_succ_eq_append_getElem hk, List.any_append]
  simp
theorem moreM_1 {t : List Mta} {x : Mta} {k : Nat} (hk : k < t.length) (h : putM2 t x k = true) : moreM t x (k + 1) = moreM t x k ++ [t[k]] := by
  have h2 : putM2 t x (k + 1) = true := by rw [putM2_s hk, h]; rfl
  unfold putM2 at h h2
  unfold moreM
  rw [if_pos h, if_pos h2, List.take_succ_eq_append_getElem hk, putD_some h]
theorem moreM_2 {t : List Mta} {x : Mta} {k : Nat} (hk : k < t.length) (h : putM2 t x k = false) (hx : ltS (Mlo x) (Mlo t[k]) = true) : moreM t x (k + 1) = moreM t x k ++ [x] ++ [t[k]] := by
  have h2 : putM2 t x (k + 1) = true := by rw [putM2_s hk, h, hx]; rfl
  unfold putM2 at h h2
  unfold moreM
  have h0 : ¬ anyM (t.take k) x = true := by rw [h]; simp
  rw [if_pos h2, if_neg h0, List.take_succ_eq_append_getElem hk, putD_none h, putD_cons, if_pos hx]
  simp
theorem moreM_3 {t : List Mta} {x : Mta} {k : Nat} (hk : k < t.length) (h : putM2 t x k = false) (hx : ltS (Mlo x) (Mlo t[k]) = false) : moreM t x (k + 1) = moreM t x k ++ [t[k]] := by
  have h2 : putM2 t x (k + 1) = false := by rw [putM2_s hk, h, hx]; rfl
  unfold putM2 at h h2
  unfold moreM
  have h0 : ¬ anyM (t.take k) x = true := by rw [h]; simp
  have h3 : ¬ anyM (t.take (k + 1)) x = true := by rw [h2]; simp
  rw [if_neg h0, if_neg h3, List.take_succ_eq_append_getElem hk]
theorem moreM_end1 {t : List Mta} {x : Mta} {k : Nat} (hk : t.length ≤ k) (h : putM2 t x k = true) : moreM t x k = putD t x := by
  unfold putM2 at h
  unfold moreM
  rw [if_pos h, List.take_of_length_le hk]
theorem moreM_end2 {t : List Mta} {x : Mta} {k : Nat} (hk : t.length ≤ k) (h : putM2 t x k = false) : moreM t x k ++ [x] = putD t x := by
  unfold putM2 at h
  unfold moreM
  rw [if_neg (by rw [h]; simp)]
  rw [List.take_of_length_le hk] at h ⊢
  have := putD_none (r := []) h
  rw [List.append_nil] at this
  rw [this]; rfl
theorem moreM_len (t : List Mta) (x : Mta) (k : Nat) : (moreM t x k).length ≤ t.length + 1 := by
  unfold moreM
  have := List.length_take_le k t
  split
  · have e : (putD (t.take k) x).length = (t.take k).length + 1 := insV_len _ _ _
    rw [e, List.length_take]; omega
  · rw [List.length_take]; omega

set_option maxHeartbeats 8000000 in
set_option maxRecDepth 100000 in
theorem rput_vn (a : Option Addr) (n c : Nat) (t : List Mta) (x : Mta) (w : World) (hrd : RdM w (.slice a n c) t) (hn : n ≤ 100000) :
    Calls Try.prog 44 #[.slice a n c, .agg #[.string (bs x.1), .int .i64 x.2.1, .int .i64 x.2.2.1, .string (bs (Mlo x)), .string (bs (Mhi x))]] w fun e w' => ∃ av nv cv, e = .returned (.slice av nv cv) ∧ OwM w' w.heap.size (.slice av nv cv) (putD t x) ∧ Below w.heap.size w w' := by
  have HNT := hide hrd.len
  have HT := hide hrd
  obtain ⟨w1, hw1⟩ : ∃ w1, w1 = w.alloc (.cells #[.string (bs x.1), .int .i64 x.2.1, .int .i64 x.2.2.1, .string (bs (Mlo x)), .string (bs (Mhi x))] 28) := ⟨_, rfl⟩
  have HB1 := hide (show Below w.heap.size w w1 by rw [hw1]; exact (Below.refl _ _).alloc (Nat.le_refl _) _)
  have HX1 := hide (show MvAt w1 w.heap.size x by rw [hw1]; exact MvAt.new w x)
  clear hrd
  go_enter Try.func44, Try.ntmps44
  go_wp2
  rw [← hw1]
  clear hw1
  go_loopw [7, 5, 6] (fun i v f wi => ∃ (k : Nat) (am : Option Addr) (nm cm : Nat), k ≤ n ∧ i = .int .i64 k ∧ v = .slice am nm cm ∧ f = .bool (putM2 t x k) ∧ Hid (OwM wi w1.heap.size (.slice am nm cm) (moreM t x k)) ∧ Hid (Below w1.heap.size w1 wi)) (fun i _ _ _ => n - (intOf i).toNat)
  case atStart => exact ⟨0, none, 0, 0, Nat.zero_le _, rfl, rfl, by simp [putM2, anyM], hide (by rw [show moreM t x 0 = [] by simp [moreM, anyM]]; exact OwG.nil _ _), hide (Below.refl _ _)⟩
  case round =>
    obtain ⟨k, am, nm, cm, hk, rfl, rfl, rfl, hM, hE⟩ := hrel
    have hml := moreM_len t x k
    have htn : t.length ≤ 100000 := by have := HNT.out; omega
    by_cases klt : k < n
    · have klt' : (k : Int) < n := by omega
      have hkl : k < t.length := by have := HNT.out; omega
      have hBw := HB1.out.trans (hE.out.mono HB1.out.size)
      obtain ⟨bt, ot, rfl, hyc⟩ := RdM.cells HT.out hBw k hkl
      have HP1 := hide (fun h => moreM_1 (x := x) hkl h)
      have HP2 := hide (fun h1 h2 => moreM_2 (x := x) hkl h1 h2)
      have HP3 := hide (fun h1 h2 => moreM_3 (x := x) hkl h1 h2)
      have HPS := hide (putM2_s (x := x) hkl)
      obtain ⟨y, hy⟩ : ∃ y, y = t[k] := ⟨_, rfl⟩
      rw [← hy] at hyc HP1 HP2 HP3 HPS
      have HYK := hide hy
      clear hy
      have hxc := HX1.out.carry hE.out
      have hK : Keeps (fun wx => MvAt wx w.heap.size x ∧ CellsM wx bt (ot + k * 5) y ∧ Below w1.heap.size w1 wx ∧ OwM wx w1.heap.size (.slice am nm cm) (moreM t x k)) := fun u1 u2 h hb => ⟨h.1.carry hb, h.2.1.carry hb, h.2.2.1.trans (hb.mono h.2.2.1.size), OwG.carry h.2.2.2 hb⟩
      have hS0 : MvAt wr w.heap.size x ∧ CellsM wr bt (ot + k * 5) y ∧ Below w1.heap.size w1 wr ∧ OwM wr w1.heap.size (.slice am nm cm) (moreM t x k) := ⟨hxc, hyc, hE.out, hM.out⟩
      clear hE hM hxc hyc hBw
      cases hp : putM2 t x k with
      | true =>
        have HM2 := hide (HP1.out hp)
        have HF2 := hide (show putM2 t x (k + 1) = true by rw [HPS.out, hp]; rfl)
        clear hp HP1 HP2 HP3 HPS
        go_wp2_with fail
        refine reg_begin hK (by kernel_rfl) hS0 ?_
        intro hS
        clear hS0
        generalize wr.drew = wd at *
        refine reg_plan [0, 1, 2, 3, 4, 5, 6, 7, 8, 9, 10, 11] (fuel := 0) (a' := ?qaa1) (by kernel_rfl) (by kernel_rfl) (by kernel_rfl) ?qap1 hS ?qan1
        case qap1 =>
          iterate 3 (apply Yl.cons rfl (by kernel_rfl); focus (rintro wx ⟨hx, hy, _⟩; obtain ⟨x0, x1, x2, x3, x4⟩ := hx.cells; obtain ⟨y0, y1, y2, y3, y4⟩ := hy; go_simp; all_goals (with_reducible rfl)); try simp only [Act.put, List.setIfInBounds_toArray, List.set_cons_zero, List.set_cons_succ])
          iterate 8 (apply Yl.skip rfl (by kernel_rfl); try simp only [Act.put, List.setIfInBounds_toArray, List.set_cons_zero, List.set_cons_succ])
          iterate 1 (apply Yl.cons rfl (by kernel_rfl); focus (rintro wx ⟨hx, hy, _⟩; obtain ⟨x0, x1, x2, x3, x4⟩ := hx.cells; obtain ⟨y0, y1, y2, y3, y4⟩ := hy; go_simp; all_goals (with_reducible rfl)); try simp only [Act.put, List.setIfInBounds_toArray, List.set_cons_zero, List.set_cons_succ])
          exact Yl.nil
        refine wpAnyH_done (by kernel_rfl) ?_ _
        refine NoPanic.normal ?_
        try simp only [Act.put, List.setIfInBounds_toArray, List.set_cons_zero, List.set_cons_succ]
        obtain ⟨hs1, hs2, hs3, hs4⟩ := hS
        obtain ⟨y0, y1, y2, y3, y4⟩ := hs2
        obtain ⟨g5, n5, c5, w6, -, hr5, o5, b5, -, -⟩ := app_metaO hs4 hs3.size (by omega) y
        rw [← HM2.out] at o5
        have HO9 := hide o5
        have HD9 := hide (hs3.trans b5)
        clear hs1 hs3 hs4 hK o5 b5
        go_wp2_with (first | (at_builtin; refine wpList_runappY rfl (.tmp 30) (.tmp 35) 33 rfl rfl rfl rfl hr5 ?_) | fail)
        go_roundw
        case rel => exact ⟨k + 1, _, _, c5, by omega, by go_num, rfl, by rw [HF2.out], HO9, HD9⟩
        case measure => simp only [intOf]; omega
      | false =>
        have hA := lt_bs (Mlo x) (Mlo y)
        cases hlty : ltS (Mlo x) (Mlo y) with
        | true =>
          rw [hlty] at hA
          have HM2 := hide (HP2.out hp hlty)
          have HF2 := hide (show putM2 t x (k + 1) = true by rw [HPS.out, hp, hlty]; rfl)
          clear hp hlty HP1 HP2 HP3 HPS
          go_wp2_with fail
          refine reg_begin hK (by kernel_rfl) hS0 ?_
          intro hS
          clear hS0
          generalize wr.drew = wd at *
          refine reg_plan [0, 1, 2, 3, 4, 5, 6, 7, 8, 9, 10, 11] (fuel := 0) (a' := ?qba1) (by kernel_rfl) (by kernel_rfl) (by kernel_rfl) ?qbp1 hS ?qbn1
          case qbp1 =>
            iterate 12 (apply Yl.cons rfl (by kernel_rfl); focus (rintro wx ⟨hx, hy, _⟩; obtain ⟨x0, x1, x2, x3, x4⟩ := hx.cells; obtain ⟨y0, y1, y2, y3, y4⟩ := hy; go_simp; all_goals (with_reducible rfl)); try simp only [Act.put, List.setIfInBounds_toArray, List.set_cons_zero, List.set_cons_succ])
            exact Yl.nil
          refine wpAnyH_done (by kernel_rfl) ?_ _
          refine NoPanic.normal ?_
          try simp only [Act.put, List.setIfInBounds_toArray, List.set_cons_zero, List.set_cons_succ]
          obtain ⟨hs1, hs2, hs3, hs4⟩ := hS
          obtain ⟨x0, x1, x2, x3, x4⟩ := hs1.cells
          obtain ⟨g5, n5, c5, w6, hn5, hr5, o5, b5, -, -⟩ := app_metaO hs4 hs3.size (by omega) x
          have hb6 := hs3.trans b5
          obtain ⟨bt', ot', e9, hyc⟩ := RdM.cells HT.out (HB1.out.trans (hb6.mono HB1.out.size)) k hkl
          obtain ⟨rfl, rfl⟩ : bt = bt' ∧ ot = ot' := by cases e9; exact ⟨rfl, rfl⟩
          rw [← HYK.out] at hyc
          obtain ⟨y0, y1, y2, y3, y4⟩ := hyc
          obtain ⟨g7, n7, c7, w7, hn7, hr7, o7, b7, -, -⟩ := app_metaO o5 hb6.size (by rw [List.length_append]; simp only [List.length_cons, List.length_nil]; omega) y
          rw [← HM2.out] at o7
          have HO9 := hide o7
          have HD9 := hide (hb6.trans b7)
          clear hs1 hs2 hs3 hs4 hK o5 b5 o7 b7 hb6 e9 hn5 hn7
          go_wp2_with (first | (at_builtin; refine wpList_runappY rfl (.tmp 26) (.tmp 28) 33 rfl rfl rfl rfl hr5 ?_) | (at_builtin; refine wpList_runappY rfl (.tmp 30) (.tmp 35) 33 rfl rfl rfl rfl hr7 ?_) | fail)
          go_roundw
          case rel => exact ⟨k + 1, _, _, c7, by omega, by go_num, rfl, by rw [HF2.out], HO9, HD9⟩
          case measure => simp only [intOf]; omega
        | false =>
          rw [hlty] at hA
          have HM2 := hide (HP3.out hp hlty)
          have HF2 := hide (show putM2 t x (k + 1) = false by rw [HPS.out, hp, hlty]; rfl)
          clear hp hlty HP1 HP2 HP3 HPS
          go_wp2_with fail
          refine reg_begin hK (by kernel_rfl) hS0 ?_
          intro hS
          clear hS0
          generalize wr.drew = wd at *
          refine reg_plan [0, 1, 2, 3, 4, 5, 6, 7, 8, 9, 10, 11] (fuel := 0) (a' := ?qca1) (by kernel_rfl) (by kernel_rfl) (by kernel_rfl) ?qcp1 hS ?qcn1
          case qcp1 =>
            iterate 12 (apply Yl.cons rfl (by kernel_rfl); focus (rintro wx ⟨hx, hy, _⟩; obtain ⟨x0, x1, x2, x3, x4⟩ := hx.cells; obtain ⟨y0, y1, y2, y3, y4⟩ := hy; go_simp; all_goals (with_reducible rfl)); try simp only [Act.put, List.setIfInBounds_toArray, List.set_cons_zero, List.set_cons_succ])
            exact Yl.nil
          refine wpAnyH_done (by kernel_rfl) ?_ _
          refine NoPanic.normal ?_
          try simp only [Act.put, List.setIfInBounds_toArray, List.set_cons_zero, List.set_cons_succ]
          obtain ⟨hs1, hs2, hs3, hs4⟩ := hS
          obtain ⟨y0, y1, y2, y3, y4⟩ := hs2
          obtain ⟨g5, n5, c5, w6, -, hr5, o5, b5, -, -⟩ := app_metaO hs4 hs3.size (by omega) y
          rw [← HM2.out] at o5
          have HO9 := hide o5
          have HD9 := hide (hs3.trans b5)
          clear hs1 hs3 hs4 hK o5 b5
          go_wp2_with (first | (at_builtin; refine wpList_runappY rfl (.tmp 30) (.tmp 35) 33 rfl rfl rfl rfl hr5 ?_) | fail)
          go_roundw
          case rel => exact ⟨k + 1, _, _, c5, by omega, by go_num, rfl, by rw [HF2.out], HO9, HD9⟩
          case measure => simp only [intOf]; omega
    · have kd : decide ((k : Int) < n) = false := by simpa using (by omega : ¬ (k : Int) < n)
      have hkt : t.length ≤ k := by have := HNT.out; omega
      have HBr := hide (HB1.out.trans (hE.out.mono HB1.out.size))
      cases hp : putM2 t x k with
      | true =>
        have HO9 := hide (show OwM wr w.heap.size (.slice am nm cm) (putD t x) by rw [← moreM_end1 hkt hp]; exact OwG.mono hM.out HB1.out.size)
        clear hM hp hE
        go_wp2
        go_ret
        exact ⟨am, nm, cm, rfl, HO9.out, HBr.out⟩
      | false =>
        have HEQ := hide (moreM_end2 hkt hp)
        obtain ⟨x0, x1, x2, x3, x4⟩ := (HX1.out.carry hE.out).cells
        obtain ⟨g5, n5, c5, w6, -, hr5, o5, b5, -, -⟩ := app_metaO hM.out hE.out.size (by omega) x
        rw [HEQ.out] at o5
        have HO9 := hide (OwG.mono o5 HB1.out.size)
        have HB9 := hide (HB1.out.trans ((hE.out.trans b5).mono HB1.out.size))
        clear hM hp hE o5 b5
        go_wp2_with (first | (at_builtin; refine wpList_runappY rfl (.tmp 39) (.tmp 41) 33 rfl rfl rfl rfl hr5 ?_) | fail)
        go_ret
        exact ⟨_, _, _, rfl, HO9.out, HB9.out⟩
end Go.Proofs.Ytepfojlclgnicaa

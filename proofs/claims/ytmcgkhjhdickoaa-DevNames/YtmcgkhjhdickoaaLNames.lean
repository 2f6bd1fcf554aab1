/-
  What the statement DevNames does: it answers true, and changes nothing that was there.
-/
import Derived.Test.YtmcgkhjhdickoaaLAgain
namespace Go.Proofs.Ytmcgkhjhdickoaa
open Go.RowKit
set_option linter.unusedVariables false
set_option linter.unusedSimpArgs false

def wD : Dk := (List.replicate 256 0, [(1, ones)], [(false, 1, ones)])
def yD : Dk := (zeros ++ ones, [], [])
def sD : Dk := (zeros ++ ones, [], [(false, 1, ones), (true, 0, [])])
def b127 : List UInt8 := ones.take 127
theorem nm_w : doD new2 [(false, 1, ones)] 1 = (wD, 0) := by kernel_rfl
theorem nm_x : crashD wD [] = (new2, 0) := by kernel_rfl
theorem nm_y : crashD wD [true] = (yD, 0) := by kernel_rfl
theorem nm_s : doD wD [(true, 0, [])] 1 = (sD, 0) := by kernel_rfl
theorem nm_f : newD 0 = (dz, 20) := by kernel_rfl
theorem nm_g : newD 4097 = (dz, 20) := by kernel_rfl
theorem nm_h : readD new2 2 = ([], 2) := by kernel_rfl
theorem nm_i : doD new2 [(false, 0, b127)] 1 = (dz, 3) := by kernel_rfl
theorem nm_j : doD new2 [] 1 = (dz, 2) := by kernel_rfl
theorem nm_k : doD new2 [(true, 1, [])] 0 = (dz, 8) := by kernel_rfl
theorem nm_bw : blockD wD 1 = ones := by kernel_rfl
theorem nm_bx : blockD new2 1 = zeros := by kernel_rfl
theorem nm_by : blockD yD 1 = ones := by kernel_rfl
theorem nm_c : chk dz = 20 := by kernel_rfl
theorem nm_sw : ¬ (new2.1 = wD.1 ∧ new2.2.1 = wD.2.1) := fun h => by have := congrArg List.length h.2; cases this
theorem rdK_lit1 (w : World) : RdK (w.alloc (.cells #[.bool true] 4)) (.slice (some ⟨w.heap.size, 0, none⟩) 1 1) [true] := by
  refine .inr ⟨w.heap.size, 0, 1, rfl, Nat.le_refl _, by unfold maxLen; decide, fun j hj => ?_⟩
  obtain rfl : j = 0 := by simpa using hj
  simp

theorem rd_take {w : World} {a : Option Addr} {n c : Nat} {l : List UInt8} (h : Rd w (.slice a n c) l) (k : Nat) (hk : 0 < k) (hkl : k ≤ l.length) : Rd w (.slice a k c) (l.take k) := by
  rcases h with ⟨h, _⟩ | ⟨b, off, c', h, h1, h2, h3⟩
  · rw [h] at hkl; simp at hkl; omega
  · injection h with e1 e2 e3
    have hl : (l.take k).length = k := by rw [List.length_take]; omega
    refine .inr ⟨b, off, c, by rw [hl, e1], by rw [hl, e3]; omega, by rw [e3]; exact h2, fun j hj => ?_⟩
    have hj' : j < l.length := by rw [hl] at hj; omega
    have := h3 j hj'
    rw [List.getElem_take]
    exact this
theorem own_some {w : World} {base : Nat} {a : Option Addr} {n c : Nat} {l : List UInt8} (h : OwB w base (.slice a n c) l) (hl : 0 < l.length) : ∃ b o, a = some ⟨b, o, none⟩ ∧ l.length ≤ c := by
  rcases h.2 with ⟨_, h⟩ | ⟨g, cap, cur, e, _, _, e3, _⟩
  · omega
  · injection e with e1 e2 e4
    exact ⟨g, 0, e1, by rw [e4]; exact e3⟩
theorem ones_len : ones.length = 128 := by kernel_rfl
theorem region_cut {P : Program} {id : Nat} {ops : Array Oper} {Q : Exit → Act → World → Prop} {a : Act} {w : World} {α : Type} (F : α → Act → Act) (R : α → World → Prop) (h : (Code.region id ops true).wp P (fun e a' w' => e = .normal ∧ ∃ x, a' = F x a ∧ R x w') a w) (k : ∀ x w', R x w' → Q .normal (F x a) w') : (Code.region id ops true).wp P Q a w :=
  Code.wp_mono (fun e a' w' ⟨h1, x, h2, h3⟩ => by subst h1 h2; exact k x w' h3) h

set_option maxHeartbeats 4000000 in
set_option maxRecDepth 100000 in
theorem devnames_any (w : World) :
    Calls Try.prog 3 #[] w fun e w' => e = .returned (.bool true) ∧ Below w.heap.size w w' := by
  have hB : Below w.heap.size w w := Below.refl _ _
  go_enter Try.func3, Try.ntmps3
  go_wp2_with fail
  refine (new_any 2 _).mono ?_
  rw [two_n]
  rintro e v1 ⟨dv, rfl, hO, hb⟩
  have hO : OwD v1 w.heap.size dv new2 := hO
  obtain ⟨pd1, pdt1, pd2, pdt2, pd3, pdt3, rfl⟩ := hO.form
  have hBn := hB.trans (hb.mono hB.size)
  clear hB
  have hB := hBn
  clear hBn
  clear hb
  obtain ⟨u1, eu1⟩ : ∃ u, v1.alloc (.cells #[.slice pd1 new2.1.length pdt1, .slice pd2 new2.2.1.length pdt2, .slice pd3 new2.2.2.length pdt3] 26) = u := ⟨_, rfl⟩
  have hb : Below v1.heap.size v1 u1 := by rw [← eu1]; exact (Below.refl _ _).alloc (Nat.le_refl _) _
  have hN : u1.heap[v1.heap.size]? = some (.cells #[.slice pd1 new2.1.length pdt1, .slice pd2 new2.2.1.length pdt2, .slice pd3 new2.2.2.length pdt3] 26 (0, 0)) := by rw [← eu1]; exact heap_alloc_new _ _
  have HN := hide (hO.carry hb).rd
  clear hO
  have hBn := hB.trans (hb.mono hB.size)
  clear hB
  have hB := hBn
  clear hBn
  clear hb
  have hd := hN
  have HRd := HN
  clear hN HN
  obtain ⟨cd0, cd1, cd2, _⟩ := cells3 hd
  go_wp2
  clear eu1
  refine region_cut (α := Nat × Option Addr × Nat × Option Addr × Nat × Option Addr × Nat × Option Addr × Nat) (F := fun x a => ((((((((a.put (some 29) (.agg #[.slice pd1 new2.1.length pdt1, .slice pd2 new2.2.1.length pdt2, .slice pd3 new2.2.2.length pdt3])).put (some 30) (.slice x.2.1 128 x.2.2.1)).put (some 31) (.tuple #[.agg #[.slice x.2.2.2.1 wD.1.length x.2.2.2.2.1, .slice x.2.2.2.2.2.1 wD.2.1.length x.2.2.2.2.2.2.1, .slice x.2.2.2.2.2.2.2.1 wD.2.2.length x.2.2.2.2.2.2.2.2], .int .i64 0])).put (some 28) (.tuple #[.agg #[.slice x.2.2.2.1 wD.1.length x.2.2.2.2.1, .slice x.2.2.2.2.2.1 wD.2.1.length x.2.2.2.2.2.2.1, .slice x.2.2.2.2.2.2.2.1 wD.2.2.length x.2.2.2.2.2.2.2.2], .int .i64 0])).put (some 32) (.agg #[.slice x.2.2.2.1 wD.1.length x.2.2.2.2.1, .slice x.2.2.2.2.2.1 wD.2.1.length x.2.2.2.2.2.2.1, .slice x.2.2.2.2.2.2.2.1 wD.2.2.length x.2.2.2.2.2.2.2.2])).put (some 33) (.int .i64 0)).put (some 3) (.pointer (some ⟨x.1, 0, none⟩))).put (some 4) (.int .i64 0))) (R := fun x wz => wz.heap[x.1]? = some (.cells #[.slice x.2.2.2.1 wD.1.length x.2.2.2.2.1, .slice x.2.2.2.2.2.1 wD.2.1.length x.2.2.2.2.2.2.1, .slice x.2.2.2.2.2.2.2.1 wD.2.2.length x.2.2.2.2.2.2.2.2] 26 (0, 0)) ∧ RdD wz (.agg #[.slice x.2.2.2.1 wD.1.length x.2.2.2.2.1, .slice x.2.2.2.2.2.1 wD.2.1.length x.2.2.2.2.2.2.1, .slice x.2.2.2.2.2.2.2.1 wD.2.2.length x.2.2.2.2.2.2.2.2]) wD ∧ Below u1.heap.size u1 wz) ?regqa ?impqa
  case regqa =>
    have hK : Keeps (fun wx => (wx.cell? ⟨v1.heap.size, 0, none⟩ = some (.slice pd1 new2.1.length pdt1) ∧ wx.cell? ⟨v1.heap.size, 1, none⟩ = some (.slice pd2 new2.2.1.length pdt2) ∧ wx.cell? ⟨v1.heap.size, 2, none⟩ = some (.slice pd3 new2.2.2.length pdt3)) ∧ Below u1.heap.size u1 wx) := ((keeps_cell _ _).and ((keeps_cell _ _).and (keeps_cell _ _))).and (keeps_below _)
    have hS0 : (fun wx => (wx.cell? ⟨v1.heap.size, 0, none⟩ = some (.slice pd1 new2.1.length pdt1) ∧ wx.cell? ⟨v1.heap.size, 1, none⟩ = some (.slice pd2 new2.2.1.length pdt2) ∧ wx.cell? ⟨v1.heap.size, 2, none⟩ = some (.slice pd3 new2.2.2.length pdt3)) ∧ Below u1.heap.size u1 wx) u1 := ⟨⟨cd0, cd1, cd2⟩, Below.refl _ _⟩
    refine reg_begin hK (by kernel_rfl) hS0 ?_
    intro hS
    have hd0 : Below u1.heap.size u1 u1.drew := (Below.refl _ _).drew
    refine reg_take (i := 0) (v := ?qav0) rfl (by kernel_rfl) (by kernel_rfl) (by kernel_rfl) (by rfl) ?qay0 hS ?qar0
    case qay0 => (rintro wx ⟨⟨x1, x2, x3⟩, hbx⟩; go_simp; all_goals (with_reducible rfl))
    try simp only [Act.put, List.setIfInBounds_toArray, List.set_cons_zero, List.set_cons_succ]
    refine reg_two (i := 1) (j := 6) (by kernel_rfl) ?_ ?_
    · skip
      refine wop_callg (R := fun v wy => ∃ pa ca, v = .slice pa 128 ca ∧ OwB wy u1.heap.size (.slice pa 128 ca) ones ∧ Below u1.heap.size u1 wy ∧ Below (u1.drew).heap.size (u1.drew) wy) rfl (by rfl) (by go_simp) ((all_any 1 u1.drew).mono fun e wy ⟨v, h1, h2, h3⟩ => by obtain ⟨pa, ca, rfl⟩ := h2.form; exact ⟨_, h1, pa, ca, rfl, h2.mono (hd0).size, (hd0).trans (h3.mono (hd0).size), h3⟩) ?_
      rintro va wa ⟨pa, ca, rfl, hOa, hba, hbac⟩
      have hSa := hK _ _ hS0 hba
      refine ⟨hSa, ?_⟩
      clear hS
      have hS := hSa
      try simp only [Act.put, List.setIfInBounds_toArray, List.set_cons_zero, List.set_cons_succ]
      have hRa := hOa.rd
      refine reg_two (i := 2) (j := 6) (by kernel_rfl) ?_ ?_
      · skip
        refine wop_callg (R := fun v wy => ∃ dv, v = .tuple #[dv, .int .i64 0] ∧ OwD wy u1.heap.size dv wD ∧ Below u1.heap.size u1 wy ∧ Below (wa).heap.size (wa) wy) rfl (by rfl) (by go_simp) ((write_any (d := new2) 1 (pa) 128 ca ones wa (HRd.out.carry (hba)) hRa).mono fun e wy ⟨dv, h1, h2, h3⟩ => by rw [nm_w] at h1 h2; exact ⟨_, h1, dv, rfl, h2.mono (hba).size, (hba).trans (h3.mono (hba).size), h3⟩) ?_
        rintro vb wb ⟨dv, rfl, hOb, hbb, hbbc⟩
        obtain ⟨p1, t1, p2, t2, p3, t3, rfl⟩ := hOb.form
        have hSb := hK _ _ hS0 hbb
        refine ⟨hSb, ?_⟩
        clear hS
        have hS := hSb
        try simp only [Act.put, List.setIfInBounds_toArray, List.set_cons_zero, List.set_cons_succ]
        refine reg_take (i := 3) (v := ?qabv3) rfl (by kernel_rfl) (by kernel_rfl) (by kernel_rfl) (by rfl) ?qaby3 hS ?qabr3
        case qaby3 => (rintro wx ⟨⟨x1, x2, x3⟩, hbx⟩; go_simp; all_goals (with_reducible rfl))
        try simp only [Act.put, List.setIfInBounds_toArray, List.set_cons_zero, List.set_cons_succ]
        refine reg_take (i := 4) (v := ?qabv4) rfl (by kernel_rfl) (by kernel_rfl) (by kernel_rfl) (by rfl) ?qaby4 hS ?qabr4
        case qaby4 => (rintro wx ⟨⟨x1, x2, x3⟩, hbx⟩; go_simp; all_goals (with_reducible rfl))
        try simp only [Act.put, List.setIfInBounds_toArray, List.set_cons_zero, List.set_cons_succ]
        refine reg_take (i := 5) (v := ?qabv5) rfl (by kernel_rfl) (by kernel_rfl) (by kernel_rfl) (by rfl) ?qaby5 hS ?qabr5
        case qaby5 => (rintro wx ⟨⟨x1, x2, x3⟩, hbx⟩; go_simp; all_goals (with_reducible rfl))
        try simp only [Act.put, List.setIfInBounds_toArray, List.set_cons_zero, List.set_cons_succ]
        obtain ⟨wc, ewc⟩ : ∃ u, (wb).alloc (.cells #[.slice none 0 0, .slice none 0 0, .slice none 0 0] 26) = u := ⟨_, rfl⟩
        have hbwc : Below (wb).heap.size (wb) wc := by rw [← ewc]; exact (Below.refl _ _).alloc (Nat.le_refl _) _
        have hzwc : wc.heap[(wb).heap.size]? = some (.cells #[.slice none 0 0, .slice none 0 0, .slice none 0 0] 26 (0, 0)) := by rw [← ewc]; exact heap_alloc_new _ _
        have hBwc := (hbb).trans (hbwc.mono (hbb).size)
        have hSwc := hK _ _ hS0 hBwc
        have hszwc : u1.heap.size ≤ (wb).heap.size := (hbb).size
        obtain ⟨gw, egw⟩ : ∃ g, (wb).heap.size = g := ⟨_, rfl⟩
        rw [egw] at hzwc hszwc
        refine reg_run (i := 6) (v := .pointer (some ⟨gw, 0, none⟩)) (w' := wc) rfl (by kernel_rfl) (by rfl) (by rw [← ewc, ← egw]; go_simp) hSwc ?_
        clear hS ewc egw
        have hS := hSwc
        try simp only [Act.put, List.setIfInBounds_toArray, List.set_cons_zero, List.set_cons_succ]
        obtain ⟨wy, ewy, hzy, hgy⟩ := stored3 (.slice p1 wD.1.length t1) (.slice p2 wD.2.1.length t2) (.slice p3 wD.2.2.length t3) (hzwc)
        obtain ⟨vz1, vz2, vz3, vz4⟩ := cells3 (hzwc)
        have hBy : Below u1.heap.size u1 wy := (hBwc).grown hgy (hBwc).size (fun k hk => by cases hk; exact hszwc)
        have hSy := hK _ _ hS0 hBy
        have hRy := ((hOb.carry hbwc).keptT3 hgy (hzwc)).rd
        refine reg_unit (i := 7) (w' := wy) rfl (by kernel_rfl) (by rfl) (by rw [← ewy]; go_simp) hSy ?_
        clear hS
        have hS := hSy
        try simp only [Act.put, List.setIfInBounds_toArray, List.set_cons_zero, List.set_cons_succ]
        refine reg_take (i := 8) (v := ?qacv8) rfl (by kernel_rfl) (by kernel_rfl) (by kernel_rfl) (by rfl) ?qacy8 hS ?qacr8
        case qacy8 => (rintro wx ⟨⟨x1, x2, x3⟩, hbx⟩; go_simp; all_goals (with_reducible rfl))
        try simp only [Act.put, List.setIfInBounds_toArray, List.set_cons_zero, List.set_cons_succ]
        refine wpAnyH_done (by kernel_rfl) ?_ _
        exact NoPanic.normal ⟨rfl, (gw, pa, ca, p1, t1, p2, t2, p3, t3), rfl, hzy, hRy, hBy⟩
      · skip
        obtain ⟨wc, ewc⟩ : ∃ u, (wa).alloc (.cells #[.slice none 0 0, .slice none 0 0, .slice none 0 0] 26) = u := ⟨_, rfl⟩
        have hbwc : Below (wa).heap.size (wa) wc := by rw [← ewc]; exact (Below.refl _ _).alloc (Nat.le_refl _) _
        have hzwc : wc.heap[(wa).heap.size]? = some (.cells #[.slice none 0 0, .slice none 0 0, .slice none 0 0] 26 (0, 0)) := by rw [← ewc]; exact heap_alloc_new _ _
        have hBwc := (hba).trans (hbwc.mono (hba).size)
        have hSwc := hK _ _ hS0 hBwc
        have hszwc : u1.heap.size ≤ (wa).heap.size := (hba).size
        obtain ⟨gw, egw⟩ : ∃ g, (wa).heap.size = g := ⟨_, rfl⟩
        rw [egw] at hzwc hszwc
        refine wop_run (v := .pointer (some ⟨gw, 0, none⟩)) (w' := wc) rfl (by rfl) (by rw [← ewc, ← egw]; go_simp) ?_
        refine ⟨hSwc, ?_⟩
        clear hS ewc egw
        have hS := hSwc
        try simp only [Act.put, List.setIfInBounds_toArray, List.set_cons_zero, List.set_cons_succ]
        refine reg_callg (i := 2) (R := fun v wy => ∃ dv, v = .tuple #[dv, .int .i64 0] ∧ OwD wy u1.heap.size dv wD ∧ Below u1.heap.size u1 wy ∧ Below (wc).heap.size (wc) wy) rfl (by kernel_rfl) (by rfl) (by go_simp) ((write_any (d := new2) 1 (pa) 128 ca ones wc (HRd.out.carry (hBwc)) (hRa.carry hbwc)).mono fun e wy ⟨dv, h1, h2, h3⟩ => by rw [nm_w] at h1 h2; exact ⟨_, h1, dv, rfl, h2.mono (hBwc).size, (hBwc).trans (h3.mono (hBwc).size), h3⟩) ?_
        rintro vb wb ⟨dv, rfl, hOb, hbb, hbbc⟩
        obtain ⟨p1, t1, p2, t2, p3, t3, rfl⟩ := hOb.form
        have hSb := hK _ _ hS0 hbb
        refine ⟨hSb, ?_⟩
        clear hS
        have hS := hSb
        try simp only [Act.put, List.setIfInBounds_toArray, List.set_cons_zero, List.set_cons_succ]
        refine reg_take (i := 3) (v := ?qadv3) rfl (by kernel_rfl) (by kernel_rfl) (by kernel_rfl) (by rfl) ?qady3 hS ?qadr3
        case qady3 => (rintro wx ⟨⟨x1, x2, x3⟩, hbx⟩; go_simp; all_goals (with_reducible rfl))
        try simp only [Act.put, List.setIfInBounds_toArray, List.set_cons_zero, List.set_cons_succ]
        refine reg_take (i := 4) (v := ?qadv4) rfl (by kernel_rfl) (by kernel_rfl) (by kernel_rfl) (by rfl) ?qady4 hS ?qadr4
        case qady4 => (rintro wx ⟨⟨x1, x2, x3⟩, hbx⟩; go_simp; all_goals (with_reducible rfl))
        try simp only [Act.put, List.setIfInBounds_toArray, List.set_cons_zero, List.set_cons_succ]
        refine reg_take (i := 5) (v := ?qadv5) rfl (by kernel_rfl) (by kernel_rfl) (by kernel_rfl) (by rfl) ?qady5 hS ?qadr5
        case qady5 => (rintro wx ⟨⟨x1, x2, x3⟩, hbx⟩; go_simp; all_goals (with_reducible rfl))
        try simp only [Act.put, List.setIfInBounds_toArray, List.set_cons_zero, List.set_cons_succ]
        obtain ⟨wy, ewy, hzy, hgy⟩ := stored3 (.slice p1 wD.1.length t1) (.slice p2 wD.2.1.length t2) (.slice p3 wD.2.2.length t3) (keeps_block _ _ _ _ hzwc hbbc)
        obtain ⟨vz1, vz2, vz3, vz4⟩ := cells3 (keeps_block _ _ _ _ hzwc hbbc)
        have hBy : Below u1.heap.size u1 wy := (hbb).grown hgy (hbb).size (fun k hk => by cases hk; exact hszwc)
        have hSy := hK _ _ hS0 hBy
        have hRy := ((hOb).keptT3 hgy (keeps_block _ _ _ _ hzwc hbbc)).rd
        refine reg_unit (i := 7) (w' := wy) rfl (by kernel_rfl) (by rfl) (by rw [← ewy]; go_simp) hSy ?_
        clear hS
        have hS := hSy
        try simp only [Act.put, List.setIfInBounds_toArray, List.set_cons_zero, List.set_cons_succ]
        refine reg_take (i := 8) (v := ?qaev8) rfl (by kernel_rfl) (by kernel_rfl) (by kernel_rfl) (by rfl) ?qaey8 hS ?qaer8
        case qaey8 => (rintro wx ⟨⟨x1, x2, x3⟩, hbx⟩; go_simp; all_goals (with_reducible rfl))
        try simp only [Act.put, List.setIfInBounds_toArray, List.set_cons_zero, List.set_cons_succ]
        refine wpAnyH_done (by kernel_rfl) ?_ _
        exact NoPanic.normal ⟨rfl, (gw, pa, ca, p1, t1, p2, t2, p3, t3), rfl, hzy, hRy, hBy⟩
    · skip
      obtain ⟨wc, ewc⟩ : ∃ u, (u1.drew).alloc (.cells #[.slice none 0 0, .slice none 0 0, .slice none 0 0] 26) = u := ⟨_, rfl⟩
      have hbwc : Below (u1.drew).heap.size (u1.drew) wc := by rw [← ewc]; exact (Below.refl _ _).alloc (Nat.le_refl _) _
      have hzwc : wc.heap[(u1.drew).heap.size]? = some (.cells #[.slice none 0 0, .slice none 0 0, .slice none 0 0] 26 (0, 0)) := by rw [← ewc]; exact heap_alloc_new _ _
      have hBwc := (hd0).trans (hbwc.mono (hd0).size)
      have hSwc := hK _ _ hS0 hBwc
      have hszwc : u1.heap.size ≤ (u1.drew).heap.size := (hd0).size
      obtain ⟨gw, egw⟩ : ∃ g, (u1.drew).heap.size = g := ⟨_, rfl⟩
      rw [egw] at hzwc hszwc
      refine wop_run (v := .pointer (some ⟨gw, 0, none⟩)) (w' := wc) rfl (by rfl) (by rw [← ewc, ← egw]; go_simp) ?_
      refine ⟨hSwc, ?_⟩
      clear hS ewc egw
      have hS := hSwc
      try simp only [Act.put, List.setIfInBounds_toArray, List.set_cons_zero, List.set_cons_succ]
      refine reg_callg (i := 1) (R := fun v wy => ∃ pa ca, v = .slice pa 128 ca ∧ OwB wy u1.heap.size (.slice pa 128 ca) ones ∧ Below u1.heap.size u1 wy ∧ Below (wc).heap.size (wc) wy) rfl (by kernel_rfl) (by rfl) (by go_simp) ((all_any 1 wc).mono fun e wy ⟨v, h1, h2, h3⟩ => by obtain ⟨pa, ca, rfl⟩ := h2.form; exact ⟨_, h1, pa, ca, rfl, h2.mono (hBwc).size, (hBwc).trans (h3.mono (hBwc).size), h3⟩) ?_
      rintro va wa ⟨pa, ca, rfl, hOa, hba, hbac⟩
      have hSa := hK _ _ hS0 hba
      refine ⟨hSa, ?_⟩
      clear hS
      have hS := hSa
      try simp only [Act.put, List.setIfInBounds_toArray, List.set_cons_zero, List.set_cons_succ]
      have hRa := hOa.rd
      refine reg_callg (i := 2) (R := fun v wy => ∃ dv, v = .tuple #[dv, .int .i64 0] ∧ OwD wy u1.heap.size dv wD ∧ Below u1.heap.size u1 wy ∧ Below (wa).heap.size (wa) wy) rfl (by kernel_rfl) (by rfl) (by go_simp) ((write_any (d := new2) 1 (pa) 128 ca ones wa (HRd.out.carry (hba)) hRa).mono fun e wy ⟨dv, h1, h2, h3⟩ => by rw [nm_w] at h1 h2; exact ⟨_, h1, dv, rfl, h2.mono (hba).size, (hba).trans (h3.mono (hba).size), h3⟩) ?_
      rintro vb wb ⟨dv, rfl, hOb, hbb, hbbc⟩
      obtain ⟨p1, t1, p2, t2, p3, t3, rfl⟩ := hOb.form
      have hSb := hK _ _ hS0 hbb
      refine ⟨hSb, ?_⟩
      clear hS
      have hS := hSb
      try simp only [Act.put, List.setIfInBounds_toArray, List.set_cons_zero, List.set_cons_succ]
      refine reg_take (i := 3) (v := ?qagv3) rfl (by kernel_rfl) (by kernel_rfl) (by kernel_rfl) (by rfl) ?qagy3 hS ?qagr3
      case qagy3 => (rintro wx ⟨⟨x1, x2, x3⟩, hbx⟩; go_simp; all_goals (with_reducible rfl))
      try simp only [Act.put, List.setIfInBounds_toArray, List.set_cons_zero, List.set_cons_succ]
      refine reg_take (i := 4) (v := ?qagv4) rfl (by kernel_rfl) (by kernel_rfl) (by kernel_rfl) (by rfl) ?qagy4 hS ?qagr4
      case qagy4 => (rintro wx ⟨⟨x1, x2, x3⟩, hbx⟩; go_simp; all_goals (with_reducible rfl))
      try simp only [Act.put, List.setIfInBounds_toArray, List.set_cons_zero, List.set_cons_succ]
      refine reg_take (i := 5) (v := ?qagv5) rfl (by kernel_rfl) (by kernel_rfl) (by kernel_rfl) (by rfl) ?qagy5 hS ?qagr5
      case qagy5 => (rintro wx ⟨⟨x1, x2, x3⟩, hbx⟩; go_simp; all_goals (with_reducible rfl))
      try simp only [Act.put, List.setIfInBounds_toArray, List.set_cons_zero, List.set_cons_succ]
      obtain ⟨wy, ewy, hzy, hgy⟩ := stored3 (.slice p1 wD.1.length t1) (.slice p2 wD.2.1.length t2) (.slice p3 wD.2.2.length t3) (keeps_block _ _ _ _ (keeps_block _ _ _ _ hzwc hbac) hbbc)
      obtain ⟨vz1, vz2, vz3, vz4⟩ := cells3 (keeps_block _ _ _ _ (keeps_block _ _ _ _ hzwc hbac) hbbc)
      have hBy : Below u1.heap.size u1 wy := (hbb).grown hgy (hbb).size (fun k hk => by cases hk; exact hszwc)
      have hSy := hK _ _ hS0 hBy
      have hRy := ((hOb).keptT3 hgy (keeps_block _ _ _ _ (keeps_block _ _ _ _ hzwc hbac) hbbc)).rd
      refine reg_unit (i := 7) (w' := wy) rfl (by kernel_rfl) (by rfl) (by rw [← ewy]; go_simp) hSy ?_
      clear hS
      have hS := hSy
      try simp only [Act.put, List.setIfInBounds_toArray, List.set_cons_zero, List.set_cons_succ]
      refine reg_take (i := 8) (v := ?qahv8) rfl (by kernel_rfl) (by kernel_rfl) (by kernel_rfl) (by rfl) ?qahy8 hS ?qahr8
      case qahy8 => (rintro wx ⟨⟨x1, x2, x3⟩, hbx⟩; go_simp; all_goals (with_reducible rfl))
      try simp only [Act.put, List.setIfInBounds_toArray, List.set_cons_zero, List.set_cons_succ]
      refine wpAnyH_done (by kernel_rfl) ?_ _
      exact NoPanic.normal ⟨rfl, (gw, pa, ca, p1, t1, p2, t2, p3, t3), rfl, hzy, hRy, hBy⟩
  clear cd0 cd1 cd2
  rintro ⟨gw, raw, rcw, pw1, pwt1, pw2, pwt2, pw3, pwt3⟩ zw ⟨hN, hRN, hb⟩
  dsimp only at hN hRN ⊢
  try simp only [Act.put, List.setIfInBounds_toArray, List.set_cons_zero, List.set_cons_succ]
  have HN := hide hRN
  clear hRN
  have hBn := hB.trans (hb.mono hB.size)
  clear hB
  have hB := hBn
  clear hBn
  have tt := keeps_block _ _ _ _ hd hb
  clear hd
  have hd := tt
  clear tt
  have tt := hide (HRd.out.carry hb)
  clear HRd
  have HRd := tt
  clear tt
  clear hb
  have hw := hN
  have HRw := HN
  clear hN HN
  obtain ⟨cw0, cw1, cw2, _⟩ := cells3 hw
  go_wp2_with fail
  clear cw0 cw1 cw2
  refine (crash_any (d := wD) [] none 0 0 _ HRw.out (.inl ⟨rfl, .inl rfl⟩) rfl).mono ?_
  rw [nm_x]
  rintro e v2 ⟨dv, rfl, hO, hb⟩
  have hO : OwD v2 zw.heap.size dv new2 := hO
  obtain ⟨px1, pxt1, px2, pxt2, px3, pxt3, rfl⟩ := hO.form
  have hBn := hB.trans (hb.mono hB.size)
  clear hB
  have hB := hBn
  clear hBn
  have tt := keeps_block _ _ _ _ hd hb
  clear hd
  have hd := tt
  clear tt
  have tt := hide (HRd.out.carry hb)
  clear HRd
  have HRd := tt
  clear tt
  have tt := keeps_block _ _ _ _ hw hb
  clear hw
  have hw := tt
  clear tt
  have tt := hide (HRw.out.carry hb)
  clear HRw
  have HRw := tt
  clear tt
  clear hb
  obtain ⟨u2, eu2⟩ : ∃ u, v2.alloc (.cells #[.slice px1 new2.1.length pxt1, .slice px2 new2.2.1.length pxt2, .slice px3 new2.2.2.length pxt3] 26) = u := ⟨_, rfl⟩
  have hb : Below v2.heap.size v2 u2 := by rw [← eu2]; exact (Below.refl _ _).alloc (Nat.le_refl _) _
  have hN : u2.heap[v2.heap.size]? = some (.cells #[.slice px1 new2.1.length pxt1, .slice px2 new2.2.1.length pxt2, .slice px3 new2.2.2.length pxt3] 26 (0, 0)) := by rw [← eu2]; exact heap_alloc_new _ _
  have HN := hide (hO.carry hb).rd
  clear hO
  have hBn := hB.trans (hb.mono hB.size)
  clear hB
  have hB := hBn
  clear hBn
  have tt := keeps_block _ _ _ _ hd hb
  clear hd
  have hd := tt
  clear tt
  have tt := hide (HRd.out.carry hb)
  clear HRd
  have HRd := tt
  clear tt
  have tt := keeps_block _ _ _ _ hw hb
  clear hw
  have hw := tt
  clear tt
  have tt := hide (HRw.out.carry hb)
  clear HRw
  have HRw := tt
  clear tt
  clear hb
  have hx := hN
  have HRx := HN
  clear hN HN
  obtain ⟨cw0, cw1, cw2, _⟩ := cells3 hw
  obtain ⟨uk, euk⟩ : ∃ u, u2.alloc (.cells #[.bool true] 4) = u := ⟨_, rfl⟩
  have hbuk : Below u2.heap.size u2 uk := by rw [← euk]; exact (Below.refl _ _).alloc (Nat.le_refl _) _
  have HFuk : Hid (RdK uk (.slice (some ⟨u2.heap.size, 0, none⟩) 1 1) [true]) := by show RdK _ _ _; rw [← euk]; exact rdK_lit1 u2
  go_wp2_with fail
  clear cw0 cw1 cw2
  clear euk
  have hBn := hB.trans (hbuk.mono hB.size)
  clear hB
  have hB := hBn
  clear hBn
  have tt := keeps_block _ _ _ _ hd hbuk
  clear hd
  have hd := tt
  clear tt
  have tt := hide (HRd.out.carry hbuk)
  clear HRd
  have HRd := tt
  clear tt
  have tt := keeps_block _ _ _ _ hw hbuk
  clear hw
  have hw := tt
  clear tt
  have tt := hide (HRw.out.carry hbuk)
  clear HRw
  have HRw := tt
  clear tt
  have tt := keeps_block _ _ _ _ hx hbuk
  clear hx
  have hx := tt
  clear tt
  have tt := hide (HRx.out.carry hbuk)
  clear HRx
  have HRx := tt
  clear tt
  clear hbuk
  refine (crash_any (d := wD) [true] _ 1 1 _ HRw.out HFuk.out rfl).mono ?_
  rw [nm_y]
  rintro e v3 ⟨dv, rfl, hO, hb⟩
  have hO : OwD v3 uk.heap.size dv yD := hO
  obtain ⟨py1, pyt1, py2, pyt2, py3, pyt3, rfl⟩ := hO.form
  have hBn := hB.trans (hb.mono hB.size)
  clear hB
  have hB := hBn
  clear hBn
  have tt := keeps_block _ _ _ _ hd hb
  clear hd
  have hd := tt
  clear tt
  have tt := hide (HRd.out.carry hb)
  clear HRd
  have HRd := tt
  clear tt
  have tt := keeps_block _ _ _ _ hw hb
  clear hw
  have hw := tt
  clear tt
  have tt := hide (HRw.out.carry hb)
  clear HRw
  have HRw := tt
  clear tt
  have tt := keeps_block _ _ _ _ hx hb
  clear hx
  have hx := tt
  clear tt
  have tt := hide (HRx.out.carry hb)
  clear HRx
  have HRx := tt
  clear tt
  clear hb
  obtain ⟨u3, eu3⟩ : ∃ u, v3.alloc (.cells #[.slice py1 yD.1.length pyt1, .slice py2 yD.2.1.length pyt2, .slice py3 yD.2.2.length pyt3] 26) = u := ⟨_, rfl⟩
  have hb : Below v3.heap.size v3 u3 := by rw [← eu3]; exact (Below.refl _ _).alloc (Nat.le_refl _) _
  have hN : u3.heap[v3.heap.size]? = some (.cells #[.slice py1 yD.1.length pyt1, .slice py2 yD.2.1.length pyt2, .slice py3 yD.2.2.length pyt3] 26 (0, 0)) := by rw [← eu3]; exact heap_alloc_new _ _
  have HN := hide (hO.carry hb).rd
  clear hO
  have hBn := hB.trans (hb.mono hB.size)
  clear hB
  have hB := hBn
  clear hBn
  have tt := keeps_block _ _ _ _ hd hb
  clear hd
  have hd := tt
  clear tt
  have tt := hide (HRd.out.carry hb)
  clear HRd
  have HRd := tt
  clear tt
  have tt := keeps_block _ _ _ _ hw hb
  clear hw
  have hw := tt
  clear tt
  have tt := hide (HRw.out.carry hb)
  clear HRw
  have HRw := tt
  clear tt
  have tt := keeps_block _ _ _ _ hx hb
  clear hx
  have hx := tt
  clear tt
  have tt := hide (HRx.out.carry hb)
  clear HRx
  have HRx := tt
  clear tt
  clear hb
  have hy := hN
  have HRy := HN
  clear hN HN
  obtain ⟨cw0, cw1, cw2, _⟩ := cells3 hw
  go_wp2_with fail
  clear cw0 cw1 cw2
  refine (sync_any (d := wD) _ HRw.out).mono ?_
  rw [nm_s]
  rintro e v4 ⟨dv, rfl, hO, hb⟩
  have hO : OwD v4 u3.heap.size dv sD := hO
  obtain ⟨ps1, pst1, ps2, pst2, ps3, pst3, rfl⟩ := hO.form
  have hBn := hB.trans (hb.mono hB.size)
  clear hB
  have hB := hBn
  clear hBn
  have tt := keeps_block _ _ _ _ hd hb
  clear hd
  have hd := tt
  clear tt
  have tt := hide (HRd.out.carry hb)
  clear HRd
  have HRd := tt
  clear tt
  have tt := keeps_block _ _ _ _ hw hb
  clear hw
  have hw := tt
  clear tt
  have tt := hide (HRw.out.carry hb)
  clear HRw
  have HRw := tt
  clear tt
  have tt := keeps_block _ _ _ _ hx hb
  clear hx
  have hx := tt
  clear tt
  have tt := hide (HRx.out.carry hb)
  clear HRx
  have HRx := tt
  clear tt
  have tt := keeps_block _ _ _ _ hy hb
  clear hy
  have hy := tt
  clear tt
  have tt := hide (HRy.out.carry hb)
  clear HRy
  have HRy := tt
  clear tt
  clear hb
  obtain ⟨u4, eu4⟩ : ∃ u, v4.alloc (.cells #[.slice ps1 sD.1.length pst1, .slice ps2 sD.2.1.length pst2, .slice ps3 sD.2.2.length pst3] 26) = u := ⟨_, rfl⟩
  have hb : Below v4.heap.size v4 u4 := by rw [← eu4]; exact (Below.refl _ _).alloc (Nat.le_refl _) _
  have hN : u4.heap[v4.heap.size]? = some (.cells #[.slice ps1 sD.1.length pst1, .slice ps2 sD.2.1.length pst2, .slice ps3 sD.2.2.length pst3] 26 (0, 0)) := by rw [← eu4]; exact heap_alloc_new _ _
  have HN := hide (hO.carry hb).rd
  clear hO
  have hBn := hB.trans (hb.mono hB.size)
  clear hB
  have hB := hBn
  clear hBn
  have tt := keeps_block _ _ _ _ hd hb
  clear hd
  have hd := tt
  clear tt
  have tt := hide (HRd.out.carry hb)
  clear HRd
  have HRd := tt
  clear tt
  have tt := keeps_block _ _ _ _ hw hb
  clear hw
  have hw := tt
  clear tt
  have tt := hide (HRw.out.carry hb)
  clear HRw
  have HRw := tt
  clear tt
  have tt := keeps_block _ _ _ _ hx hb
  clear hx
  have hx := tt
  clear tt
  have tt := hide (HRx.out.carry hb)
  clear HRx
  have HRx := tt
  clear tt
  have tt := keeps_block _ _ _ _ hy hb
  clear hy
  have hy := tt
  clear tt
  have tt := hide (HRy.out.carry hb)
  clear HRy
  have HRy := tt
  clear tt
  clear hb
  have hs := hN
  have HRs := HN
  clear hN HN
  go_wp2_with fail
  refine (new_any 0 _).mono ?_
  rw [nm_f]
  rintro e v5 ⟨dv, rfl, hO, hb⟩
  have hO : OwD v5 u4.heap.size dv dz := hO
  obtain ⟨pf1, pft1, pf2, pft2, pf3, pft3, rfl⟩ := hO.form
  have hBn := hB.trans (hb.mono hB.size)
  clear hB
  have hB := hBn
  clear hBn
  have tt := keeps_block _ _ _ _ hd hb
  clear hd
  have hd := tt
  clear tt
  have tt := hide (HRd.out.carry hb)
  clear HRd
  have HRd := tt
  clear tt
  have tt := keeps_block _ _ _ _ hw hb
  clear hw
  have hw := tt
  clear tt
  have tt := hide (HRw.out.carry hb)
  clear HRw
  have HRw := tt
  clear tt
  have tt := keeps_block _ _ _ _ hx hb
  clear hx
  have hx := tt
  clear tt
  have tt := hide (HRx.out.carry hb)
  clear HRx
  have HRx := tt
  clear tt
  have tt := keeps_block _ _ _ _ hy hb
  clear hy
  have hy := tt
  clear tt
  have tt := hide (HRy.out.carry hb)
  clear HRy
  have HRy := tt
  clear tt
  have tt := keeps_block _ _ _ _ hs hb
  clear hs
  have hs := tt
  clear tt
  have tt := hide (HRs.out.carry hb)
  clear HRs
  have HRs := tt
  clear tt
  clear hb
  obtain ⟨u5, eu5⟩ : ∃ u, v5.alloc (.cells #[.slice pf1 dz.1.length pft1, .slice pf2 dz.2.1.length pft2, .slice pf3 dz.2.2.length pft3] 26) = u := ⟨_, rfl⟩
  have hb : Below v5.heap.size v5 u5 := by rw [← eu5]; exact (Below.refl _ _).alloc (Nat.le_refl _) _
  have hN : u5.heap[v5.heap.size]? = some (.cells #[.slice pf1 dz.1.length pft1, .slice pf2 dz.2.1.length pft2, .slice pf3 dz.2.2.length pft3] 26 (0, 0)) := by rw [← eu5]; exact heap_alloc_new _ _
  have HN := hide (hO.carry hb).rd
  clear hO
  have hBn := hB.trans (hb.mono hB.size)
  clear hB
  have hB := hBn
  clear hBn
  have tt := keeps_block _ _ _ _ hd hb
  clear hd
  have hd := tt
  clear tt
  have tt := hide (HRd.out.carry hb)
  clear HRd
  have HRd := tt
  clear tt
  have tt := keeps_block _ _ _ _ hw hb
  clear hw
  have hw := tt
  clear tt
  have tt := hide (HRw.out.carry hb)
  clear HRw
  have HRw := tt
  clear tt
  have tt := keeps_block _ _ _ _ hx hb
  clear hx
  have hx := tt
  clear tt
  have tt := hide (HRx.out.carry hb)
  clear HRx
  have HRx := tt
  clear tt
  have tt := keeps_block _ _ _ _ hy hb
  clear hy
  have hy := tt
  clear tt
  have tt := hide (HRy.out.carry hb)
  clear HRy
  have HRy := tt
  clear tt
  have tt := keeps_block _ _ _ _ hs hb
  clear hs
  have hs := tt
  clear tt
  have tt := hide (HRs.out.carry hb)
  clear HRs
  have HRs := tt
  clear tt
  clear hb
  clear hN HN
  go_wp2_with fail
  refine (new_any 4097 _).mono ?_
  rw [nm_g]
  rintro e v6 ⟨dv, rfl, hO, hb⟩
  have hO : OwD v6 u5.heap.size dv dz := hO
  obtain ⟨pg1, pgt1, pg2, pgt2, pg3, pgt3, rfl⟩ := hO.form
  have hBn := hB.trans (hb.mono hB.size)
  clear hB
  have hB := hBn
  clear hBn
  have tt := keeps_block _ _ _ _ hd hb
  clear hd
  have hd := tt
  clear tt
  have tt := hide (HRd.out.carry hb)
  clear HRd
  have HRd := tt
  clear tt
  have tt := keeps_block _ _ _ _ hw hb
  clear hw
  have hw := tt
  clear tt
  have tt := hide (HRw.out.carry hb)
  clear HRw
  have HRw := tt
  clear tt
  have tt := keeps_block _ _ _ _ hx hb
  clear hx
  have hx := tt
  clear tt
  have tt := hide (HRx.out.carry hb)
  clear HRx
  have HRx := tt
  clear tt
  have tt := keeps_block _ _ _ _ hy hb
  clear hy
  have hy := tt
  clear tt
  have tt := hide (HRy.out.carry hb)
  clear HRy
  have HRy := tt
  clear tt
  have tt := keeps_block _ _ _ _ hs hb
  clear hs
  have hs := tt
  clear tt
  have tt := hide (HRs.out.carry hb)
  clear HRs
  have HRs := tt
  clear tt
  clear hb
  obtain ⟨u6, eu6⟩ : ∃ u, v6.alloc (.cells #[.slice pg1 dz.1.length pgt1, .slice pg2 dz.2.1.length pgt2, .slice pg3 dz.2.2.length pgt3] 26) = u := ⟨_, rfl⟩
  have hb : Below v6.heap.size v6 u6 := by rw [← eu6]; exact (Below.refl _ _).alloc (Nat.le_refl _) _
  have hN : u6.heap[v6.heap.size]? = some (.cells #[.slice pg1 dz.1.length pgt1, .slice pg2 dz.2.1.length pgt2, .slice pg3 dz.2.2.length pgt3] 26 (0, 0)) := by rw [← eu6]; exact heap_alloc_new _ _
  have HN := hide (hO.carry hb).rd
  clear hO
  have hBn := hB.trans (hb.mono hB.size)
  clear hB
  have hB := hBn
  clear hBn
  have tt := keeps_block _ _ _ _ hd hb
  clear hd
  have hd := tt
  clear tt
  have tt := hide (HRd.out.carry hb)
  clear HRd
  have HRd := tt
  clear tt
  have tt := keeps_block _ _ _ _ hw hb
  clear hw
  have hw := tt
  clear tt
  have tt := hide (HRw.out.carry hb)
  clear HRw
  have HRw := tt
  clear tt
  have tt := keeps_block _ _ _ _ hx hb
  clear hx
  have hx := tt
  clear tt
  have tt := hide (HRx.out.carry hb)
  clear HRx
  have HRx := tt
  clear tt
  have tt := keeps_block _ _ _ _ hy hb
  clear hy
  have hy := tt
  clear tt
  have tt := hide (HRy.out.carry hb)
  clear HRy
  have HRy := tt
  clear tt
  have tt := keeps_block _ _ _ _ hs hb
  clear hs
  have hs := tt
  clear tt
  have tt := hide (HRs.out.carry hb)
  clear HRs
  have HRs := tt
  clear tt
  clear hb
  clear hN HN
  obtain ⟨cd0, cd1, cd2, _⟩ := cells3 hd
  go_wp2_with fail
  clear cd0 cd1 cd2
  refine (read_any (d := new2) 2 _ HRd.out).mono ?_
  rw [nm_h]
  rintro e v7 ⟨bv, rfl, hO, hb⟩
  clear hO
  have hBn := hB.trans (hb.mono hB.size)
  clear hB
  have hB := hBn
  clear hBn
  have tt := keeps_block _ _ _ _ hd hb
  clear hd
  have hd := tt
  clear tt
  have tt := hide (HRd.out.carry hb)
  clear HRd
  have HRd := tt
  clear tt
  have tt := keeps_block _ _ _ _ hw hb
  clear hw
  have hw := tt
  clear tt
  have tt := hide (HRw.out.carry hb)
  clear HRw
  have HRw := tt
  clear tt
  have tt := keeps_block _ _ _ _ hx hb
  clear hx
  have hx := tt
  clear tt
  have tt := hide (HRx.out.carry hb)
  clear HRx
  have HRx := tt
  clear tt
  have tt := keeps_block _ _ _ _ hy hb
  clear hy
  have hy := tt
  clear tt
  have tt := hide (HRy.out.carry hb)
  clear HRy
  have HRy := tt
  clear tt
  have tt := keeps_block _ _ _ _ hs hb
  clear hs
  have hs := tt
  clear tt
  have tt := hide (HRs.out.carry hb)
  clear HRs
  have HRs := tt
  clear tt
  clear hb
  obtain ⟨cd0, cd1, cd2, _⟩ := cells3 hd
  go_wp2
  refine region_cut (α := Nat × Option Addr × Nat × Option Addr × Nat × Option Addr × Nat × Option Addr × Nat) (F := fun x a => (((((((((a.put (some 64) (.agg #[.slice pd1 new2.1.length pdt1, .slice pd2 new2.2.1.length pdt2, .slice pd3 new2.2.2.length pdt3])).put (some 65) (.slice x.2.1 128 x.2.2.1)).put (some 66) (.slice x.2.1 127 x.2.2.1)).put (some 67) (.tuple #[.agg #[.slice x.2.2.2.1 dz.1.length x.2.2.2.2.1, .slice x.2.2.2.2.2.1 dz.2.1.length x.2.2.2.2.2.2.1, .slice x.2.2.2.2.2.2.2.1 dz.2.2.length x.2.2.2.2.2.2.2.2], .int .i64 3])).put (some 63) (.tuple #[.agg #[.slice x.2.2.2.1 dz.1.length x.2.2.2.2.1, .slice x.2.2.2.2.2.1 dz.2.1.length x.2.2.2.2.2.2.1, .slice x.2.2.2.2.2.2.2.1 dz.2.2.length x.2.2.2.2.2.2.2.2], .int .i64 3])).put (some 68) (.agg #[.slice x.2.2.2.1 dz.1.length x.2.2.2.2.1, .slice x.2.2.2.2.2.1 dz.2.1.length x.2.2.2.2.2.2.1, .slice x.2.2.2.2.2.2.2.1 dz.2.2.length x.2.2.2.2.2.2.2.2])).put (some 69) (.int .i64 3)).put (some 17) (.pointer (some ⟨x.1, 0, none⟩))).put (some 18) (.int .i64 3))) (R := fun x wz => wz.heap[x.1]? = some (.cells #[.slice x.2.2.2.1 dz.1.length x.2.2.2.2.1, .slice x.2.2.2.2.2.1 dz.2.1.length x.2.2.2.2.2.2.1, .slice x.2.2.2.2.2.2.2.1 dz.2.2.length x.2.2.2.2.2.2.2.2] 26 (0, 0)) ∧ RdD wz (.agg #[.slice x.2.2.2.1 dz.1.length x.2.2.2.2.1, .slice x.2.2.2.2.2.1 dz.2.1.length x.2.2.2.2.2.2.1, .slice x.2.2.2.2.2.2.2.1 dz.2.2.length x.2.2.2.2.2.2.2.2]) dz ∧ Below v7.heap.size v7 wz) ?regqi ?impqi
  case regqi =>
    have hK : Keeps (fun wx => (wx.cell? ⟨v1.heap.size, 0, none⟩ = some (.slice pd1 new2.1.length pdt1) ∧ wx.cell? ⟨v1.heap.size, 1, none⟩ = some (.slice pd2 new2.2.1.length pdt2) ∧ wx.cell? ⟨v1.heap.size, 2, none⟩ = some (.slice pd3 new2.2.2.length pdt3)) ∧ Below v7.heap.size v7 wx) := ((keeps_cell _ _).and ((keeps_cell _ _).and (keeps_cell _ _))).and (keeps_below _)
    have hS0 : (fun wx => (wx.cell? ⟨v1.heap.size, 0, none⟩ = some (.slice pd1 new2.1.length pdt1) ∧ wx.cell? ⟨v1.heap.size, 1, none⟩ = some (.slice pd2 new2.2.1.length pdt2) ∧ wx.cell? ⟨v1.heap.size, 2, none⟩ = some (.slice pd3 new2.2.2.length pdt3)) ∧ Below v7.heap.size v7 wx) v7 := ⟨⟨cd0, cd1, cd2⟩, Below.refl _ _⟩
    refine reg_begin hK (by kernel_rfl) hS0 ?_
    intro hS
    have hd0 : Below v7.heap.size v7 v7.drew := (Below.refl _ _).drew
    refine reg_take (i := 0) (v := ?qiv0) rfl (by kernel_rfl) (by kernel_rfl) (by kernel_rfl) (by rfl) ?qiy0 hS ?qir0
    case qiy0 => (rintro wx ⟨⟨x1, x2, x3⟩, hbx⟩; go_simp; all_goals (with_reducible rfl))
    try simp only [Act.put, List.setIfInBounds_toArray, List.set_cons_zero, List.set_cons_succ]
    refine reg_two (i := 1) (j := 7) (by kernel_rfl) ?_ ?_
    · skip
      refine wop_callg (R := fun v wy => ∃ pa ca, v = .slice pa 128 ca ∧ OwB wy v7.heap.size (.slice pa 128 ca) ones ∧ Below v7.heap.size v7 wy ∧ Below (v7.drew).heap.size (v7.drew) wy) rfl (by rfl) (by go_simp) ((all_any 1 v7.drew).mono fun e wy ⟨v, h1, h2, h3⟩ => by obtain ⟨pa, ca, rfl⟩ := h2.form; exact ⟨_, h1, pa, ca, rfl, h2.mono (hd0).size, (hd0).trans (h3.mono (hd0).size), h3⟩) ?_
      rintro va wa ⟨pa, ca, rfl, hOa, hba, hbac⟩
      have hSa := hK _ _ hS0 hba
      refine ⟨hSa, ?_⟩
      clear hS
      have hS := hSa
      try simp only [Act.put, List.setIfInBounds_toArray, List.set_cons_zero, List.set_cons_succ]
      have hRa : Rd wa (.slice pa 127 ca) b127 := rd_take hOa.rd 127 (by omega) (by rw [ones_len]; omega)
      obtain ⟨bq, oq, rfl, hca⟩ := own_some hOa (by rw [ones_len]; omega)
      have hca' : (127 : Int) ≤ ca := by rw [ones_len] at hca; omega
      clear hca
      refine reg_take (i := 2) (v := ?qiav2) rfl (by kernel_rfl) (by kernel_rfl) (by kernel_rfl) (by rfl) ?qiay2 hS ?qiar2
      case qiay2 => (rintro wx ⟨⟨x1, x2, x3⟩, hbx⟩; go_simp; all_goals (with_reducible rfl))
      try simp only [Act.put, List.setIfInBounds_toArray, List.set_cons_zero, List.set_cons_succ]
      refine reg_two (i := 3) (j := 7) (by kernel_rfl) ?_ ?_
      · skip
        refine wop_callg (R := fun v wy => ∃ dv, v = .tuple #[dv, .int .i64 3] ∧ OwD wy v7.heap.size dv dz ∧ Below v7.heap.size v7 wy ∧ Below (wa).heap.size (wa) wy) rfl (by rfl) (by go_simp) ((write_any (d := new2) 0 (some ⟨bq, oq, none⟩) 127 ca b127 wa (HRd.out.carry (hba)) hRa).mono fun e wy ⟨dv, h1, h2, h3⟩ => by rw [nm_i] at h1 h2; exact ⟨_, h1, dv, rfl, h2.mono (hba).size, (hba).trans (h3.mono (hba).size), h3⟩) ?_
        rintro vb wb ⟨dv, rfl, hOb, hbb, hbbc⟩
        obtain ⟨p1, t1, p2, t2, p3, t3, rfl⟩ := hOb.form
        have hSb := hK _ _ hS0 hbb
        refine ⟨hSb, ?_⟩
        clear hS
        have hS := hSb
        try simp only [Act.put, List.setIfInBounds_toArray, List.set_cons_zero, List.set_cons_succ]
        refine reg_take (i := 4) (v := ?qibv4) rfl (by kernel_rfl) (by kernel_rfl) (by kernel_rfl) (by rfl) ?qiby4 hS ?qibr4
        case qiby4 => (rintro wx ⟨⟨x1, x2, x3⟩, hbx⟩; go_simp; all_goals (with_reducible rfl))
        try simp only [Act.put, List.setIfInBounds_toArray, List.set_cons_zero, List.set_cons_succ]
        refine reg_take (i := 5) (v := ?qibv5) rfl (by kernel_rfl) (by kernel_rfl) (by kernel_rfl) (by rfl) ?qiby5 hS ?qibr5
        case qiby5 => (rintro wx ⟨⟨x1, x2, x3⟩, hbx⟩; go_simp; all_goals (with_reducible rfl))
        try simp only [Act.put, List.setIfInBounds_toArray, List.set_cons_zero, List.set_cons_succ]
        refine reg_take (i := 6) (v := ?qibv6) rfl (by kernel_rfl) (by kernel_rfl) (by kernel_rfl) (by rfl) ?qiby6 hS ?qibr6
        case qiby6 => (rintro wx ⟨⟨x1, x2, x3⟩, hbx⟩; go_simp; all_goals (with_reducible rfl))
        try simp only [Act.put, List.setIfInBounds_toArray, List.set_cons_zero, List.set_cons_succ]
        obtain ⟨wc, ewc⟩ : ∃ u, (wb).alloc (.cells #[.slice none 0 0, .slice none 0 0, .slice none 0 0] 26) = u := ⟨_, rfl⟩
        have hbwc : Below (wb).heap.size (wb) wc := by rw [← ewc]; exact (Below.refl _ _).alloc (Nat.le_refl _) _
        have hzwc : wc.heap[(wb).heap.size]? = some (.cells #[.slice none 0 0, .slice none 0 0, .slice none 0 0] 26 (0, 0)) := by rw [← ewc]; exact heap_alloc_new _ _
        have hBwc := (hbb).trans (hbwc.mono (hbb).size)
        have hSwc := hK _ _ hS0 hBwc
        have hszwc : v7.heap.size ≤ (wb).heap.size := (hbb).size
        obtain ⟨gw, egw⟩ : ∃ g, (wb).heap.size = g := ⟨_, rfl⟩
        rw [egw] at hzwc hszwc
        refine reg_run (i := 7) (v := .pointer (some ⟨gw, 0, none⟩)) (w' := wc) rfl (by kernel_rfl) (by rfl) (by rw [← ewc, ← egw]; go_simp) hSwc ?_
        clear hS ewc egw
        have hS := hSwc
        try simp only [Act.put, List.setIfInBounds_toArray, List.set_cons_zero, List.set_cons_succ]
        obtain ⟨wy, ewy, hzy, hgy⟩ := stored3 (.slice p1 dz.1.length t1) (.slice p2 dz.2.1.length t2) (.slice p3 dz.2.2.length t3) (hzwc)
        obtain ⟨vz1, vz2, vz3, vz4⟩ := cells3 (hzwc)
        have hBy : Below v7.heap.size v7 wy := (hBwc).grown hgy (hBwc).size (fun k hk => by cases hk; exact hszwc)
        have hSy := hK _ _ hS0 hBy
        have hRy := ((hOb.carry hbwc).keptT3 hgy (hzwc)).rd
        refine reg_unit (i := 8) (w' := wy) rfl (by kernel_rfl) (by rfl) (by rw [← ewy]; go_simp) hSy ?_
        clear hS
        have hS := hSy
        try simp only [Act.put, List.setIfInBounds_toArray, List.set_cons_zero, List.set_cons_succ]
        refine reg_take (i := 9) (v := ?qicv9) rfl (by kernel_rfl) (by kernel_rfl) (by kernel_rfl) (by rfl) ?qicy9 hS ?qicr9
        case qicy9 => (rintro wx ⟨⟨x1, x2, x3⟩, hbx⟩; go_simp; all_goals (with_reducible rfl))
        try simp only [Act.put, List.setIfInBounds_toArray, List.set_cons_zero, List.set_cons_succ]
        refine wpAnyH_done (by kernel_rfl) ?_ _
        exact NoPanic.normal ⟨rfl, (gw, some ⟨bq, oq, none⟩, ca, p1, t1, p2, t2, p3, t3), rfl, hzy, hRy, hBy⟩
      · skip
        obtain ⟨wc, ewc⟩ : ∃ u, (wa).alloc (.cells #[.slice none 0 0, .slice none 0 0, .slice none 0 0] 26) = u := ⟨_, rfl⟩
        have hbwc : Below (wa).heap.size (wa) wc := by rw [← ewc]; exact (Below.refl _ _).alloc (Nat.le_refl _) _
        have hzwc : wc.heap[(wa).heap.size]? = some (.cells #[.slice none 0 0, .slice none 0 0, .slice none 0 0] 26 (0, 0)) := by rw [← ewc]; exact heap_alloc_new _ _
        have hBwc := (hba).trans (hbwc.mono (hba).size)
        have hSwc := hK _ _ hS0 hBwc
        have hszwc : v7.heap.size ≤ (wa).heap.size := (hba).size
        obtain ⟨gw, egw⟩ : ∃ g, (wa).heap.size = g := ⟨_, rfl⟩
        rw [egw] at hzwc hszwc
        refine wop_run (v := .pointer (some ⟨gw, 0, none⟩)) (w' := wc) rfl (by rfl) (by rw [← ewc, ← egw]; go_simp) ?_
        refine ⟨hSwc, ?_⟩
        clear hS ewc egw
        have hS := hSwc
        try simp only [Act.put, List.setIfInBounds_toArray, List.set_cons_zero, List.set_cons_succ]
        refine reg_callg (i := 3) (R := fun v wy => ∃ dv, v = .tuple #[dv, .int .i64 3] ∧ OwD wy v7.heap.size dv dz ∧ Below v7.heap.size v7 wy ∧ Below (wc).heap.size (wc) wy) rfl (by kernel_rfl) (by rfl) (by go_simp) ((write_any (d := new2) 0 (some ⟨bq, oq, none⟩) 127 ca b127 wc (HRd.out.carry (hBwc)) (hRa.carry hbwc)).mono fun e wy ⟨dv, h1, h2, h3⟩ => by rw [nm_i] at h1 h2; exact ⟨_, h1, dv, rfl, h2.mono (hBwc).size, (hBwc).trans (h3.mono (hBwc).size), h3⟩) ?_
        rintro vb wb ⟨dv, rfl, hOb, hbb, hbbc⟩
        obtain ⟨p1, t1, p2, t2, p3, t3, rfl⟩ := hOb.form
        have hSb := hK _ _ hS0 hbb
        refine ⟨hSb, ?_⟩
        clear hS
        have hS := hSb
        try simp only [Act.put, List.setIfInBounds_toArray, List.set_cons_zero, List.set_cons_succ]
        refine reg_take (i := 4) (v := ?qidv4) rfl (by kernel_rfl) (by kernel_rfl) (by kernel_rfl) (by rfl) ?qidy4 hS ?qidr4
        case qidy4 => (rintro wx ⟨⟨x1, x2, x3⟩, hbx⟩; go_simp; all_goals (with_reducible rfl))
        try simp only [Act.put, List.setIfInBounds_toArray, List.set_cons_zero, List.set_cons_succ]
        refine reg_take (i := 5) (v := ?qidv5) rfl (by kernel_rfl) (by kernel_rfl) (by kernel_rfl) (by rfl) ?qidy5 hS ?qidr5
        case qidy5 => (rintro wx ⟨⟨x1, x2, x3⟩, hbx⟩; go_simp; all_goals (with_reducible rfl))
        try simp only [Act.put, List.setIfInBounds_toArray, List.set_cons_zero, List.set_cons_succ]
        refine reg_take (i := 6) (v := ?qidv6) rfl (by kernel_rfl) (by kernel_rfl) (by kernel_rfl) (by rfl) ?qidy6 hS ?qidr6
        case qidy6 => (rintro wx ⟨⟨x1, x2, x3⟩, hbx⟩; go_simp; all_goals (with_reducible rfl))
        try simp only [Act.put, List.setIfInBounds_toArray, List.set_cons_zero, List.set_cons_succ]
        obtain ⟨wy, ewy, hzy, hgy⟩ := stored3 (.slice p1 dz.1.length t1) (.slice p2 dz.2.1.length t2) (.slice p3 dz.2.2.length t3) (keeps_block _ _ _ _ hzwc hbbc)
        obtain ⟨vz1, vz2, vz3, vz4⟩ := cells3 (keeps_block _ _ _ _ hzwc hbbc)
        have hBy : Below v7.heap.size v7 wy := (hbb).grown hgy (hbb).size (fun k hk => by cases hk; exact hszwc)
        have hSy := hK _ _ hS0 hBy
        have hRy := ((hOb).keptT3 hgy (keeps_block _ _ _ _ hzwc hbbc)).rd
        refine reg_unit (i := 8) (w' := wy) rfl (by kernel_rfl) (by rfl) (by rw [← ewy]; go_simp) hSy ?_
        clear hS
        have hS := hSy
        try simp only [Act.put, List.setIfInBounds_toArray, List.set_cons_zero, List.set_cons_succ]
        refine reg_take (i := 9) (v := ?qiev9) rfl (by kernel_rfl) (by kernel_rfl) (by kernel_rfl) (by rfl) ?qiey9 hS ?qier9
        case qiey9 => (rintro wx ⟨⟨x1, x2, x3⟩, hbx⟩; go_simp; all_goals (with_reducible rfl))
        try simp only [Act.put, List.setIfInBounds_toArray, List.set_cons_zero, List.set_cons_succ]
        refine wpAnyH_done (by kernel_rfl) ?_ _
        exact NoPanic.normal ⟨rfl, (gw, some ⟨bq, oq, none⟩, ca, p1, t1, p2, t2, p3, t3), rfl, hzy, hRy, hBy⟩
    · skip
      obtain ⟨wc, ewc⟩ : ∃ u, (v7.drew).alloc (.cells #[.slice none 0 0, .slice none 0 0, .slice none 0 0] 26) = u := ⟨_, rfl⟩
      have hbwc : Below (v7.drew).heap.size (v7.drew) wc := by rw [← ewc]; exact (Below.refl _ _).alloc (Nat.le_refl _) _
      have hzwc : wc.heap[(v7.drew).heap.size]? = some (.cells #[.slice none 0 0, .slice none 0 0, .slice none 0 0] 26 (0, 0)) := by rw [← ewc]; exact heap_alloc_new _ _
      have hBwc := (hd0).trans (hbwc.mono (hd0).size)
      have hSwc := hK _ _ hS0 hBwc
      have hszwc : v7.heap.size ≤ (v7.drew).heap.size := (hd0).size
      obtain ⟨gw, egw⟩ : ∃ g, (v7.drew).heap.size = g := ⟨_, rfl⟩
      rw [egw] at hzwc hszwc
      refine wop_run (v := .pointer (some ⟨gw, 0, none⟩)) (w' := wc) rfl (by rfl) (by rw [← ewc, ← egw]; go_simp) ?_
      refine ⟨hSwc, ?_⟩
      clear hS ewc egw
      have hS := hSwc
      try simp only [Act.put, List.setIfInBounds_toArray, List.set_cons_zero, List.set_cons_succ]
      refine reg_callg (i := 1) (R := fun v wy => ∃ pa ca, v = .slice pa 128 ca ∧ OwB wy v7.heap.size (.slice pa 128 ca) ones ∧ Below v7.heap.size v7 wy ∧ Below (wc).heap.size (wc) wy) rfl (by kernel_rfl) (by rfl) (by go_simp) ((all_any 1 wc).mono fun e wy ⟨v, h1, h2, h3⟩ => by obtain ⟨pa, ca, rfl⟩ := h2.form; exact ⟨_, h1, pa, ca, rfl, h2.mono (hBwc).size, (hBwc).trans (h3.mono (hBwc).size), h3⟩) ?_
      rintro va wa ⟨pa, ca, rfl, hOa, hba, hbac⟩
      have hSa := hK _ _ hS0 hba
      refine ⟨hSa, ?_⟩
      clear hS
      have hS := hSa
      try simp only [Act.put, List.setIfInBounds_toArray, List.set_cons_zero, List.set_cons_succ]
      have hRa : Rd wa (.slice pa 127 ca) b127 := rd_take hOa.rd 127 (by omega) (by rw [ones_len]; omega)
      obtain ⟨bq, oq, rfl, hca⟩ := own_some hOa (by rw [ones_len]; omega)
      have hca' : (127 : Int) ≤ ca := by rw [ones_len] at hca; omega
      clear hca
      refine reg_take (i := 2) (v := ?qifv2) rfl (by kernel_rfl) (by kernel_rfl) (by kernel_rfl) (by rfl) ?qify2 hS ?qifr2
      case qify2 => (rintro wx ⟨⟨x1, x2, x3⟩, hbx⟩; go_simp; all_goals (with_reducible rfl))
      try simp only [Act.put, List.setIfInBounds_toArray, List.set_cons_zero, List.set_cons_succ]
      refine reg_callg (i := 3) (R := fun v wy => ∃ dv, v = .tuple #[dv, .int .i64 3] ∧ OwD wy v7.heap.size dv dz ∧ Below v7.heap.size v7 wy ∧ Below (wa).heap.size (wa) wy) rfl (by kernel_rfl) (by rfl) (by go_simp) ((write_any (d := new2) 0 (some ⟨bq, oq, none⟩) 127 ca b127 wa (HRd.out.carry (hba)) hRa).mono fun e wy ⟨dv, h1, h2, h3⟩ => by rw [nm_i] at h1 h2; exact ⟨_, h1, dv, rfl, h2.mono (hba).size, (hba).trans (h3.mono (hba).size), h3⟩) ?_
      rintro vb wb ⟨dv, rfl, hOb, hbb, hbbc⟩
      obtain ⟨p1, t1, p2, t2, p3, t3, rfl⟩ := hOb.form
      have hSb := hK _ _ hS0 hbb
      refine ⟨hSb, ?_⟩
      clear hS
      have hS := hSb
      try simp only [Act.put, List.setIfInBounds_toArray, List.set_cons_zero, List.set_cons_succ]
      refine reg_take (i := 4) (v := ?qigv4) rfl (by kernel_rfl) (by kernel_rfl) (by kernel_rfl) (by rfl) ?qigy4 hS ?qigr4
      case qigy4 => (rintro wx ⟨⟨x1, x2, x3⟩, hbx⟩; go_simp; all_goals (with_reducible rfl))
      try simp only [Act.put, List.setIfInBounds_toArray, List.set_cons_zero, List.set_cons_succ]
      refine reg_take (i := 5) (v := ?qigv5) rfl (by kernel_rfl) (by kernel_rfl) (by kernel_rfl) (by rfl) ?qigy5 hS ?qigr5
      case qigy5 => (rintro wx ⟨⟨x1, x2, x3⟩, hbx⟩; go_simp; all_goals (with_reducible rfl))
      try simp only [Act.put, List.setIfInBounds_toArray, List.set_cons_zero, List.set_cons_succ]
      refine reg_take (i := 6) (v := ?qigv6) rfl (by kernel_rfl) (by kernel_rfl) (by kernel_rfl) (by rfl) ?qigy6 hS ?qigr6
      case qigy6 => (rintro wx ⟨⟨x1, x2, x3⟩, hbx⟩; go_simp; all_goals (with_reducible rfl))
      try simp only [Act.put, List.setIfInBounds_toArray, List.set_cons_zero, List.set_cons_succ]
      obtain ⟨wy, ewy, hzy, hgy⟩ := stored3 (.slice p1 dz.1.length t1) (.slice p2 dz.2.1.length t2) (.slice p3 dz.2.2.length t3) (keeps_block _ _ _ _ (keeps_block _ _ _ _ hzwc hbac) hbbc)
      obtain ⟨vz1, vz2, vz3, vz4⟩ := cells3 (keeps_block _ _ _ _ (keeps_block _ _ _ _ hzwc hbac) hbbc)
      have hBy : Below v7.heap.size v7 wy := (hbb).grown hgy (hbb).size (fun k hk => by cases hk; exact hszwc)
      have hSy := hK _ _ hS0 hBy
      have hRy := ((hOb).keptT3 hgy (keeps_block _ _ _ _ (keeps_block _ _ _ _ hzwc hbac) hbbc)).rd
      refine reg_unit (i := 8) (w' := wy) rfl (by kernel_rfl) (by rfl) (by rw [← ewy]; go_simp) hSy ?_
      clear hS
      have hS := hSy
      try simp only [Act.put, List.setIfInBounds_toArray, List.set_cons_zero, List.set_cons_succ]
      refine reg_take (i := 9) (v := ?qihv9) rfl (by kernel_rfl) (by kernel_rfl) (by kernel_rfl) (by rfl) ?qihy9 hS ?qihr9
      case qihy9 => (rintro wx ⟨⟨x1, x2, x3⟩, hbx⟩; go_simp; all_goals (with_reducible rfl))
      try simp only [Act.put, List.setIfInBounds_toArray, List.set_cons_zero, List.set_cons_succ]
      refine wpAnyH_done (by kernel_rfl) ?_ _
      exact NoPanic.normal ⟨rfl, (gw, some ⟨bq, oq, none⟩, ca, p1, t1, p2, t2, p3, t3), rfl, hzy, hRy, hBy⟩
  clear cd0 cd1 cd2
  rintro ⟨gqqi, raqi, rcqi, pi1, pit1, pi2, pit2, pi3, pit3⟩ zqi ⟨hN, hRN, hb⟩
  dsimp only at hN hRN ⊢
  try simp only [Act.put, List.setIfInBounds_toArray, List.set_cons_zero, List.set_cons_succ]
  have HN := hide hRN
  clear hRN
  have hBn := hB.trans (hb.mono hB.size)
  clear hB
  have hB := hBn
  clear hBn
  have tt := keeps_block _ _ _ _ hd hb
  clear hd
  have hd := tt
  clear tt
  have tt := hide (HRd.out.carry hb)
  clear HRd
  have HRd := tt
  clear tt
  have tt := keeps_block _ _ _ _ hw hb
  clear hw
  have hw := tt
  clear tt
  have tt := hide (HRw.out.carry hb)
  clear HRw
  have HRw := tt
  clear tt
  have tt := keeps_block _ _ _ _ hx hb
  clear hx
  have hx := tt
  clear tt
  have tt := hide (HRx.out.carry hb)
  clear HRx
  have HRx := tt
  clear tt
  have tt := keeps_block _ _ _ _ hy hb
  clear hy
  have hy := tt
  clear tt
  have tt := hide (HRy.out.carry hb)
  clear HRy
  have HRy := tt
  clear tt
  have tt := keeps_block _ _ _ _ hs hb
  clear hs
  have hs := tt
  clear tt
  have tt := hide (HRs.out.carry hb)
  clear HRs
  have HRs := tt
  clear tt
  clear hb
  clear hN HN
  obtain ⟨cd0, cd1, cd2, _⟩ := cells3 hd
  go_wp2_with fail
  clear cd0 cd1 cd2
  refine (do_any (d := new2) [] none 0 0 1 _ HRd.out (.inl ⟨rfl, .inl rfl⟩) rfl).mono ?_
  rw [nm_j]
  rintro e v8 ⟨dv, rfl, hO, hb⟩
  have hO : OwD v8 zqi.heap.size dv dz := hO
  obtain ⟨pj1, pjt1, pj2, pjt2, pj3, pjt3, rfl⟩ := hO.form
  have hBn := hB.trans (hb.mono hB.size)
  clear hB
  have hB := hBn
  clear hBn
  have tt := keeps_block _ _ _ _ hd hb
  clear hd
  have hd := tt
  clear tt
  have tt := hide (HRd.out.carry hb)
  clear HRd
  have HRd := tt
  clear tt
  have tt := keeps_block _ _ _ _ hw hb
  clear hw
  have hw := tt
  clear tt
  have tt := hide (HRw.out.carry hb)
  clear HRw
  have HRw := tt
  clear tt
  have tt := keeps_block _ _ _ _ hx hb
  clear hx
  have hx := tt
  clear tt
  have tt := hide (HRx.out.carry hb)
  clear HRx
  have HRx := tt
  clear tt
  have tt := keeps_block _ _ _ _ hy hb
  clear hy
  have hy := tt
  clear tt
  have tt := hide (HRy.out.carry hb)
  clear HRy
  have HRy := tt
  clear tt
  have tt := keeps_block _ _ _ _ hs hb
  clear hs
  have hs := tt
  clear tt
  have tt := hide (HRs.out.carry hb)
  clear HRs
  have HRs := tt
  clear tt
  clear hb
  obtain ⟨u8, eu8⟩ : ∃ u, v8.alloc (.cells #[.slice pj1 dz.1.length pjt1, .slice pj2 dz.2.1.length pjt2, .slice pj3 dz.2.2.length pjt3] 26) = u := ⟨_, rfl⟩
  have hb : Below v8.heap.size v8 u8 := by rw [← eu8]; exact (Below.refl _ _).alloc (Nat.le_refl _) _
  have hN : u8.heap[v8.heap.size]? = some (.cells #[.slice pj1 dz.1.length pjt1, .slice pj2 dz.2.1.length pjt2, .slice pj3 dz.2.2.length pjt3] 26 (0, 0)) := by rw [← eu8]; exact heap_alloc_new _ _
  have HN := hide (hO.carry hb).rd
  clear hO
  have hBn := hB.trans (hb.mono hB.size)
  clear hB
  have hB := hBn
  clear hBn
  have tt := keeps_block _ _ _ _ hd hb
  clear hd
  have hd := tt
  clear tt
  have tt := hide (HRd.out.carry hb)
  clear HRd
  have HRd := tt
  clear tt
  have tt := keeps_block _ _ _ _ hw hb
  clear hw
  have hw := tt
  clear tt
  have tt := hide (HRw.out.carry hb)
  clear HRw
  have HRw := tt
  clear tt
  have tt := keeps_block _ _ _ _ hx hb
  clear hx
  have hx := tt
  clear tt
  have tt := hide (HRx.out.carry hb)
  clear HRx
  have HRx := tt
  clear tt
  have tt := keeps_block _ _ _ _ hy hb
  clear hy
  have hy := tt
  clear tt
  have tt := hide (HRy.out.carry hb)
  clear HRy
  have HRy := tt
  clear tt
  have tt := keeps_block _ _ _ _ hs hb
  clear hs
  have hs := tt
  clear tt
  have tt := hide (HRs.out.carry hb)
  clear HRs
  have HRs := tt
  clear tt
  clear hb
  clear hN HN
  obtain ⟨cd0, cd1, cd2, _⟩ := cells3 hd
  obtain ⟨ul, eul⟩ : ∃ u, u8.alloc (.cells #[.bool true, .int .i64 1, .slice none 0 0] 41) = u := ⟨_, rfl⟩
  have hbul : Below u8.heap.size u8 ul := by rw [← eul]; exact (Below.refl _ _).alloc (Nat.le_refl _) _
  have HFul : Hid (RdA ul (.slice (some ⟨u8.heap.size, 0, none⟩) 1 1) [(true, 1, [])]) := by show RdA _ _ _; rw [← eul]; exact rdA_lit u8 true 1 (.slice none 0 0) [] (.inl ⟨rfl, .inl rfl⟩)
  go_wp2_with fail
  clear cd0 cd1 cd2
  clear eul
  have hBn := hB.trans (hbul.mono hB.size)
  clear hB
  have hB := hBn
  clear hBn
  have tt := keeps_block _ _ _ _ hd hbul
  clear hd
  have hd := tt
  clear tt
  have tt := hide (HRd.out.carry hbul)
  clear HRd
  have HRd := tt
  clear tt
  have tt := keeps_block _ _ _ _ hw hbul
  clear hw
  have hw := tt
  clear tt
  have tt := hide (HRw.out.carry hbul)
  clear HRw
  have HRw := tt
  clear tt
  have tt := keeps_block _ _ _ _ hx hbul
  clear hx
  have hx := tt
  clear tt
  have tt := hide (HRx.out.carry hbul)
  clear HRx
  have HRx := tt
  clear tt
  have tt := keeps_block _ _ _ _ hy hbul
  clear hy
  have hy := tt
  clear tt
  have tt := hide (HRy.out.carry hbul)
  clear HRy
  have HRy := tt
  clear tt
  have tt := keeps_block _ _ _ _ hs hbul
  clear hs
  have hs := tt
  clear tt
  have tt := hide (HRs.out.carry hbul)
  clear HRs
  have HRs := tt
  clear tt
  clear hbul
  refine (do_any (d := new2) [(true, 1, [])] _ 1 1 0 _ HRd.out HFul.out rfl).mono ?_
  rw [nm_k]
  rintro e v9 ⟨dv, rfl, hO, hb⟩
  have hO : OwD v9 ul.heap.size dv dz := hO
  obtain ⟨pk1, pkt1, pk2, pkt2, pk3, pkt3, rfl⟩ := hO.form
  have hBn := hB.trans (hb.mono hB.size)
  clear hB
  have hB := hBn
  clear hBn
  have tt := keeps_block _ _ _ _ hd hb
  clear hd
  have hd := tt
  clear tt
  have tt := hide (HRd.out.carry hb)
  clear HRd
  have HRd := tt
  clear tt
  have tt := keeps_block _ _ _ _ hw hb
  clear hw
  have hw := tt
  clear tt
  have tt := hide (HRw.out.carry hb)
  clear HRw
  have HRw := tt
  clear tt
  have tt := keeps_block _ _ _ _ hx hb
  clear hx
  have hx := tt
  clear tt
  have tt := hide (HRx.out.carry hb)
  clear HRx
  have HRx := tt
  clear tt
  have tt := keeps_block _ _ _ _ hy hb
  clear hy
  have hy := tt
  clear tt
  have tt := hide (HRy.out.carry hb)
  clear HRy
  have HRy := tt
  clear tt
  have tt := keeps_block _ _ _ _ hs hb
  clear hs
  have hs := tt
  clear tt
  have tt := hide (HRs.out.carry hb)
  clear HRs
  have HRs := tt
  clear tt
  clear hb
  obtain ⟨u9, eu9⟩ : ∃ u, v9.alloc (.cells #[.slice pk1 dz.1.length pkt1, .slice pk2 dz.2.1.length pkt2, .slice pk3 dz.2.2.length pkt3] 26) = u := ⟨_, rfl⟩
  have hb : Below v9.heap.size v9 u9 := by rw [← eu9]; exact (Below.refl _ _).alloc (Nat.le_refl _) _
  have hN : u9.heap[v9.heap.size]? = some (.cells #[.slice pk1 dz.1.length pkt1, .slice pk2 dz.2.1.length pkt2, .slice pk3 dz.2.2.length pkt3] 26 (0, 0)) := by rw [← eu9]; exact heap_alloc_new _ _
  have HN := hide (hO.carry hb).rd
  clear hO
  have hBn := hB.trans (hb.mono hB.size)
  clear hB
  have hB := hBn
  clear hBn
  have tt := keeps_block _ _ _ _ hd hb
  clear hd
  have hd := tt
  clear tt
  have tt := hide (HRd.out.carry hb)
  clear HRd
  have HRd := tt
  clear tt
  have tt := keeps_block _ _ _ _ hw hb
  clear hw
  have hw := tt
  clear tt
  have tt := hide (HRw.out.carry hb)
  clear HRw
  have HRw := tt
  clear tt
  have tt := keeps_block _ _ _ _ hx hb
  clear hx
  have hx := tt
  clear tt
  have tt := hide (HRx.out.carry hb)
  clear HRx
  have HRx := tt
  clear tt
  have tt := keeps_block _ _ _ _ hy hb
  clear hy
  have hy := tt
  clear tt
  have tt := hide (HRy.out.carry hb)
  clear HRy
  have HRy := tt
  clear tt
  have tt := keeps_block _ _ _ _ hs hb
  clear hs
  have hs := tt
  clear tt
  have tt := hide (HRs.out.carry hb)
  clear HRs
  have HRs := tt
  clear tt
  clear hb
  clear hN HN
  obtain ⟨_, _, _, eS, _, _, hs3⟩ := HRs.out
  cases eS
  obtain ⟨bs1, os1, rfl, d0, d0', xs, ms, cs, d1, d2, d3⟩ := hs3.at 0 (by decide)
  obtain ⟨bs2, os2, es9, f0, f0', xs', ms', cs', f1, f2, f3⟩ := hs3.at 1 (by decide)
  cases es9
  have hl1 : sD.2.1.length = 0 := rfl
  have hl2 : sD.2.2.length = 2 := rfl
  have g0 : u9.cell? ⟨bs1, os1, none⟩ = some (Value.bool false) := by simpa [sD] using d0
  have g1 : u9.cell? ⟨bs1, os1 + 3, none⟩ = some (Value.bool true) := by simpa [sD] using f0
  clear d0 f0 d0' d1 d2 d3 f0' f1 f2 f3 hs3
  obtain ⟨cs0, cs1, cs2, _⟩ := cells3 hs
  go_wp2_with fail
  clear g0 g1 cs0 cs1 cs2
  refine (alive_any _).mono ?_
  rintro e v10 ⟨rfl, hb⟩
  have hBn := hB.trans (hb.mono hB.size)
  clear hB
  have hB := hBn
  clear hBn
  have tt := keeps_block _ _ _ _ hd hb
  clear hd
  have hd := tt
  clear tt
  have tt := hide (HRd.out.carry hb)
  clear HRd
  have HRd := tt
  clear tt
  have tt := keeps_block _ _ _ _ hw hb
  clear hw
  have hw := tt
  clear tt
  have tt := hide (HRw.out.carry hb)
  clear HRw
  have HRw := tt
  clear tt
  have tt := keeps_block _ _ _ _ hx hb
  clear hx
  have hx := tt
  clear tt
  have tt := hide (HRx.out.carry hb)
  clear HRx
  have HRx := tt
  clear tt
  have tt := keeps_block _ _ _ _ hy hb
  clear hy
  have hy := tt
  clear tt
  have tt := hide (HRy.out.carry hb)
  clear HRy
  have HRy := tt
  clear tt
  have tt := keeps_block _ _ _ _ hs hb
  clear hs
  have hs := tt
  clear tt
  have tt := hide (HRs.out.carry hb)
  clear HRs
  have HRs := tt
  clear tt
  clear hb
  obtain ⟨cw0, cw1, cw2, _⟩ := cells3 hw
  go_wp2_with fail
  clear cw0 cw1 cw2
  refine (block_any (d := wD) 1 _ HRw.out).mono ?_
  rw [nm_bw]
  rintro e v11 ⟨rfl, hb⟩
  have hBn := hB.trans (hb.mono hB.size)
  clear hB
  have hB := hBn
  clear hBn
  have tt := keeps_block _ _ _ _ hd hb
  clear hd
  have hd := tt
  clear tt
  have tt := hide (HRd.out.carry hb)
  clear HRd
  have HRd := tt
  clear tt
  have tt := keeps_block _ _ _ _ hw hb
  clear hw
  have hw := tt
  clear tt
  have tt := hide (HRw.out.carry hb)
  clear HRw
  have HRw := tt
  clear tt
  have tt := keeps_block _ _ _ _ hx hb
  clear hx
  have hx := tt
  clear tt
  have tt := hide (HRx.out.carry hb)
  clear HRx
  have HRx := tt
  clear tt
  have tt := keeps_block _ _ _ _ hy hb
  clear hy
  have hy := tt
  clear tt
  have tt := hide (HRy.out.carry hb)
  clear HRy
  have HRy := tt
  clear tt
  have tt := keeps_block _ _ _ _ hs hb
  clear hs
  have hs := tt
  clear tt
  have tt := hide (HRs.out.carry hb)
  clear HRs
  have HRs := tt
  clear tt
  clear hb
  go_wp2_with fail
  refine (all_any 1 _).mono ?_
  rintro e v12 ⟨va12, rfl, hOa, hb⟩
  have hcv12 := conv_own (l := ones) hOa
  clear hOa
  have hBn := hB.trans (hb.mono hB.size)
  clear hB
  have hB := hBn
  clear hBn
  have tt := keeps_block _ _ _ _ hd hb
  clear hd
  have hd := tt
  clear tt
  have tt := hide (HRd.out.carry hb)
  clear HRd
  have HRd := tt
  clear tt
  have tt := keeps_block _ _ _ _ hw hb
  clear hw
  have hw := tt
  clear tt
  have tt := hide (HRw.out.carry hb)
  clear HRw
  have HRw := tt
  clear tt
  have tt := keeps_block _ _ _ _ hx hb
  clear hx
  have hx := tt
  clear tt
  have tt := hide (HRx.out.carry hb)
  clear HRx
  have HRx := tt
  clear tt
  have tt := keeps_block _ _ _ _ hy hb
  clear hy
  have hy := tt
  clear tt
  have tt := hide (HRy.out.carry hb)
  clear HRy
  have HRy := tt
  clear tt
  have tt := keeps_block _ _ _ _ hs hb
  clear hs
  have hs := tt
  clear tt
  have tt := hide (HRs.out.carry hb)
  clear HRs
  have HRs := tt
  clear tt
  clear hb
  obtain ⟨cx0, cx1, cx2, _⟩ := cells3 hx
  go_wp2_with fail
  clear hcv12 cx0 cx1 cx2
  refine (block_any (d := new2) 1 _ HRx.out).mono ?_
  rw [nm_bx]
  rintro e v13 ⟨rfl, hb⟩
  have hBn := hB.trans (hb.mono hB.size)
  clear hB
  have hB := hBn
  clear hBn
  have tt := keeps_block _ _ _ _ hd hb
  clear hd
  have hd := tt
  clear tt
  have tt := hide (HRd.out.carry hb)
  clear HRd
  have HRd := tt
  clear tt
  have tt := keeps_block _ _ _ _ hw hb
  clear hw
  have hw := tt
  clear tt
  have tt := hide (HRw.out.carry hb)
  clear HRw
  have HRw := tt
  clear tt
  have tt := keeps_block _ _ _ _ hx hb
  clear hx
  have hx := tt
  clear tt
  have tt := hide (HRx.out.carry hb)
  clear HRx
  have HRx := tt
  clear tt
  have tt := keeps_block _ _ _ _ hy hb
  clear hy
  have hy := tt
  clear tt
  have tt := hide (HRy.out.carry hb)
  clear HRy
  have HRy := tt
  clear tt
  have tt := keeps_block _ _ _ _ hs hb
  clear hs
  have hs := tt
  clear tt
  have tt := hide (HRs.out.carry hb)
  clear HRs
  have HRs := tt
  clear tt
  clear hb
  go_wp2_with fail
  refine (all_any 0 _).mono ?_
  rintro e v14 ⟨va14, rfl, hOa, hb⟩
  have hcv14 := conv_own (l := zeros) hOa
  clear hOa
  have hBn := hB.trans (hb.mono hB.size)
  clear hB
  have hB := hBn
  clear hBn
  have tt := keeps_block _ _ _ _ hd hb
  clear hd
  have hd := tt
  clear tt
  have tt := hide (HRd.out.carry hb)
  clear HRd
  have HRd := tt
  clear tt
  have tt := keeps_block _ _ _ _ hw hb
  clear hw
  have hw := tt
  clear tt
  have tt := hide (HRw.out.carry hb)
  clear HRw
  have HRw := tt
  clear tt
  have tt := keeps_block _ _ _ _ hx hb
  clear hx
  have hx := tt
  clear tt
  have tt := hide (HRx.out.carry hb)
  clear HRx
  have HRx := tt
  clear tt
  have tt := keeps_block _ _ _ _ hy hb
  clear hy
  have hy := tt
  clear tt
  have tt := hide (HRy.out.carry hb)
  clear HRy
  have HRy := tt
  clear tt
  have tt := keeps_block _ _ _ _ hs hb
  clear hs
  have hs := tt
  clear tt
  have tt := hide (HRs.out.carry hb)
  clear HRs
  have HRs := tt
  clear tt
  clear hb
  obtain ⟨cy0, cy1, cy2, _⟩ := cells3 hy
  go_wp2_with fail
  clear hcv14 cy0 cy1 cy2
  refine (block_any (d := yD) 1 _ HRy.out).mono ?_
  rw [nm_by]
  rintro e v15 ⟨rfl, hb⟩
  have hBn := hB.trans (hb.mono hB.size)
  clear hB
  have hB := hBn
  clear hBn
  have tt := keeps_block _ _ _ _ hd hb
  clear hd
  have hd := tt
  clear tt
  have tt := hide (HRd.out.carry hb)
  clear HRd
  have HRd := tt
  clear tt
  have tt := keeps_block _ _ _ _ hw hb
  clear hw
  have hw := tt
  clear tt
  have tt := hide (HRw.out.carry hb)
  clear HRw
  have HRw := tt
  clear tt
  have tt := keeps_block _ _ _ _ hx hb
  clear hx
  have hx := tt
  clear tt
  have tt := hide (HRx.out.carry hb)
  clear HRx
  have HRx := tt
  clear tt
  have tt := keeps_block _ _ _ _ hy hb
  clear hy
  have hy := tt
  clear tt
  have tt := hide (HRy.out.carry hb)
  clear HRy
  have HRy := tt
  clear tt
  have tt := keeps_block _ _ _ _ hs hb
  clear hs
  have hs := tt
  clear tt
  have tt := hide (HRs.out.carry hb)
  clear HRs
  have HRs := tt
  clear tt
  clear hb
  go_wp2_with fail
  refine (all_any 1 _).mono ?_
  rintro e v16 ⟨va16, rfl, hOa, hb⟩
  have hcv16 := conv_own (l := ones) hOa
  clear hOa
  have hBn := hB.trans (hb.mono hB.size)
  clear hB
  have hB := hBn
  clear hBn
  have tt := keeps_block _ _ _ _ hd hb
  clear hd
  have hd := tt
  clear tt
  have tt := hide (HRd.out.carry hb)
  clear HRd
  have HRd := tt
  clear tt
  have tt := keeps_block _ _ _ _ hw hb
  clear hw
  have hw := tt
  clear tt
  have tt := hide (HRw.out.carry hb)
  clear HRw
  have HRw := tt
  clear tt
  have tt := keeps_block _ _ _ _ hx hb
  clear hx
  have hx := tt
  clear tt
  have tt := hide (HRx.out.carry hb)
  clear HRx
  have HRx := tt
  clear tt
  have tt := keeps_block _ _ _ _ hy hb
  clear hy
  have hy := tt
  clear tt
  have tt := hide (HRy.out.carry hb)
  clear HRy
  have HRy := tt
  clear tt
  have tt := keeps_block _ _ _ _ hs hb
  clear hs
  have hs := tt
  clear tt
  have tt := hide (HRs.out.carry hb)
  clear HRs
  have HRs := tt
  clear tt
  clear hb
  go_wp2_with fail
  clear hcv16
  refine (check_any (d := dz) _ ⟨_, _, _, rfl, .inl ⟨rfl, .inl rfl⟩, .inl ⟨rfl, .inl rfl⟩, .inl ⟨rfl, .inl rfl⟩⟩).mono ?_
  rw [nm_c]
  rintro e v17 ⟨rfl, hb⟩
  have hBn := hB.trans (hb.mono hB.size)
  clear hB
  have hB := hBn
  clear hBn
  have tt := keeps_block _ _ _ _ hd hb
  clear hd
  have hd := tt
  clear tt
  have tt := hide (HRd.out.carry hb)
  clear HRd
  have HRd := tt
  clear tt
  have tt := keeps_block _ _ _ _ hw hb
  clear hw
  have hw := tt
  clear tt
  have tt := hide (HRw.out.carry hb)
  clear HRw
  have HRw := tt
  clear tt
  have tt := keeps_block _ _ _ _ hx hb
  clear hx
  have hx := tt
  clear tt
  have tt := hide (HRx.out.carry hb)
  clear HRx
  have HRx := tt
  clear tt
  have tt := keeps_block _ _ _ _ hy hb
  clear hy
  have hy := tt
  clear tt
  have tt := hide (HRy.out.carry hb)
  clear HRy
  have HRy := tt
  clear tt
  have tt := keeps_block _ _ _ _ hs hb
  clear hs
  have hs := tt
  clear tt
  have tt := hide (HRs.out.carry hb)
  clear HRs
  have HRs := tt
  clear tt
  clear hb
  obtain ⟨cd0, cd1, cd2, _⟩ := cells3 hd
  obtain ⟨cw0, cw1, cw2, _⟩ := cells3 hw
  go_wp2_with fail
  clear cd0 cd1 cd2 cw0 cw1 cw2
  refine (same_any (d := new2) (e := wD) _ HRd.out HRw.out).mono ?_
  rw [decide_eq_false nm_sw]
  rintro e v18 ⟨rfl, hb⟩
  have hBn := hB.trans (hb.mono hB.size)
  clear hB
  have hB := hBn
  clear hBn
  have tt := keeps_block _ _ _ _ hd hb
  clear hd
  have hd := tt
  clear tt
  have tt := hide (HRd.out.carry hb)
  clear HRd
  have HRd := tt
  clear tt
  have tt := keeps_block _ _ _ _ hw hb
  clear hw
  have hw := tt
  clear tt
  have tt := hide (HRw.out.carry hb)
  clear HRw
  have HRw := tt
  clear tt
  have tt := keeps_block _ _ _ _ hx hb
  clear hx
  have hx := tt
  clear tt
  have tt := hide (HRx.out.carry hb)
  clear HRx
  have HRx := tt
  clear tt
  have tt := keeps_block _ _ _ _ hy hb
  clear hy
  have hy := tt
  clear tt
  have tt := hide (HRy.out.carry hb)
  clear HRy
  have HRy := tt
  clear tt
  have tt := keeps_block _ _ _ _ hs hb
  clear hs
  have hs := tt
  clear tt
  have tt := hide (HRs.out.carry hb)
  clear HRs
  have HRs := tt
  clear tt
  clear hb
  obtain ⟨cd0, cd1, cd2, _⟩ := cells3 hd
  go_wp2_with fail
  clear cd0 cd1 cd2
  refine (same_any (d := new2) (e := new2) _ HRd.out HRd.out).mono ?_
  rw [decide_eq_true (show new2.1 = new2.1 ∧ new2.2.1 = new2.2.1 from ⟨rfl, rfl⟩)]
  rintro e v19 ⟨rfl, hb⟩
  have hBn := hB.trans (hb.mono hB.size)
  clear hB
  have hB := hBn
  clear hBn
  have tt := keeps_block _ _ _ _ hd hb
  clear hd
  have hd := tt
  clear tt
  have tt := hide (HRd.out.carry hb)
  clear HRd
  have HRd := tt
  clear tt
  have tt := keeps_block _ _ _ _ hw hb
  clear hw
  have hw := tt
  clear tt
  have tt := hide (HRw.out.carry hb)
  clear HRw
  have HRw := tt
  clear tt
  have tt := keeps_block _ _ _ _ hx hb
  clear hx
  have hx := tt
  clear tt
  have tt := hide (HRx.out.carry hb)
  clear HRx
  have HRx := tt
  clear tt
  have tt := keeps_block _ _ _ _ hy hb
  clear hy
  have hy := tt
  clear tt
  have tt := hide (HRy.out.carry hb)
  clear HRy
  have HRy := tt
  clear tt
  have tt := keeps_block _ _ _ _ hs hb
  clear hs
  have hs := tt
  clear tt
  have tt := hide (HRs.out.carry hb)
  clear HRs
  have HRs := tt
  clear tt
  clear hb
  go_wp2
  go_ret
  exact ⟨rfl, hB⟩

end Go.Proofs.Ytmcgkhjhdickoaa

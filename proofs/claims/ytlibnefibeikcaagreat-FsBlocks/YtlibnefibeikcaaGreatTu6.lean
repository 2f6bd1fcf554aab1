/-
  What the statements' turn of files does.
-/
import Derived.Test.YtlibnefibeikcaaGreatTz
namespace Go.Proofs.YtlibnefibeikcaaGreat
open Go.RowKit
set_option linter.unusedVariables false
set_option linter.unusedSimpArgs false

theorem tf_same {w w' : World} {base g n c : Nat} (h : RowF w base (.slice (some ⟨g, 0, none⟩) n c) n) (k' : Shp base w w') (k : Nat) (hk : k < n) {u : Value} (hc : w.cell? ⟨g, k * 2 + 1, none⟩ = some u) : w'.cell? ⟨g, k * 2 + 1, none⟩ = some u ∧ w'.frozen? ⟨g, k * 2 + 1, none⟩ = false := by
  rcases h with ⟨h, h0⟩ | ⟨g', cap, cs, e, h1, h2, h3, h4⟩
  · omega
  cases e
  obtain ⟨cs', e1, _, e3⟩ := k'.2.2 g _ _ h2
  have := e3 (by decide)
  subst this
  have e2 := (cell_of_row w g (k * 2 + 1) _ _ (0, 0) h2)
  rw [e2] at hc
  exact ⟨(cell_of_row w' g (k * 2 + 1) _ _ (0, 0) e1).trans hc, frozen_of_row w' g (k * 2 + 1) _ _ e1⟩
theorem exec_app {P : Program} {o : Oper} {a : Act} {s x : Operand} {t : TypeId} {vs vx v : Value} {w w' : World} (ho : o.op = .call { callee := .builtin .append, args := #[s, x], argTypes := #[t, t] }) (hs : a.eval s = vs) (hx : a.eval x = vx) (hrun : (Builtin.append_ #[t, t] o.type #[vs, vx]).run P w = .ok v w') : (execOp a.eval o).run P w = .ok (.value v) w' := by
  simp [execOp, ho, resolve, invoke, builtin, hs, hx, hrun, Result.andThen]
theorem Bq.shp6 {w w' : World} {base p : Nat} {t : TypeId} {cs : Array Value} (h : Bq w p t cs) (k : Shp base w w') (ht : t ≠ 133) : Bq w' p t cs := by
  obtain ⟨cs', e1, _, e3⟩ := k.2.2 p _ _ h
  have := e3 ht
  subst this
  exact e1

set_option maxHeartbeats 4000000 in
set_option maxRecDepth 100000 in
theorem turn6_any (a1 : Option Addr) (n1 c1 : Nat) (a2 : Option Addr) (n2 c2 : Nat) (a3 : Option Addr) (n3 c3 gg : Nat) (a4 : Option Addr) (n4 c4 : Nat) (a5 : Option Addr) (n5 c5 : Nat) (base : Nat) (d : Dk) (w : World) (hO : OwD w base (.agg #[.slice a1 n1 c1, .slice a2 n2 c2, .slice a3 n3 c3]) d) (h4 : RowF w base (.slice a4 n4 c4) n4) (h5 : RowF w base (.slice a5 n5 c5) n5) (hb : base ≤ w.heap.size) (hn4 : n4 ≤ maxLen) (hn5 : n5 ≤ maxLen) :
    Calls Tryz.prog 25 #[.agg #[.slice a1 n1 c1, .slice a2 n2 c2, .slice a3 n3 c3, .int .u32 gg, .slice a4 n4 c4, .slice a5 n5 c5]] w fun e w' => e = .returned (.tuple #[]) ∧ Below base w w' ∧ Tz base w w' := by
  obtain ⟨o1, o2, o3⟩ : OwB w base (.slice a1 n1 c1) d.1 ∧ OwW w base (.slice a2 n2 c2) d.2.1 ∧ OwA w base (.slice a3 n3 c3) d.2.2 := by
    obtain ⟨_, _, _, e, h1, h2, h3⟩ := hO
    injection e with e
    simp at e
    obtain ⟨rfl, rfl, rfl⟩ := e
    exact ⟨h1, h2, h3⟩
  have hl1 : n1 ≤ maxLen := by rw [o1.len']; exact o1.rd.len_le
  have hn2 : n2 = d.2.1.length := by obtain ⟨_, _, e⟩ := o2.rd.form; cases e; rfl
  have hl2 : n2 ≤ maxLen := by rw [hn2]; exact o2.rd.len_le
  unfold maxLen at hl1 hl2 hn4 hn5
  obtain ⟨w1, ew⟩ : ∃ w1, w.alloc (.cells #[.slice a1 n1 c1, .slice a2 n2 c2, .slice a3 n3 c3, .int .u32 gg, .slice a4 n4 c4, .slice a5 n5 c5] 32) = w1 := ⟨_, rfl⟩
  have hb1 : Below w.heap.size w w1 := by rw [← ew]; exact (Below.refl _ _).alloc (Nat.le_refl _) _
  have hX1 : Bq w1 w.heap.size 32 #[.slice a1 n1 c1, .slice a2 n2 c2, .slice a3 n3 c3, .int .u32 gg, .slice a4 n4 c4, .slice a5 n5 c5] := by rw [← ew]; exact Bq.new _ _ _
  have O1 := hide (o1.carry hb1)
  have O2 := hide (o2.carry hb1)
  have R4 := hide (h4.carry hb1)
  have R5 := hide (h5.carry hb1)
  have HBW := hide (hb1.mono hb)
  have HTW := hide (Tz.below (base := base) hb1)
  have HBS := hide (Nat.le_trans hb hb1.size)
  have HBX : Hid (∀ wr, Turned w1 wr → Bq wr w.heap.size 32 #[.slice a1 n1 c1, .slice a2 n2 c2, .slice a3 n3 c3, .int .u32 gg, .slice a4 n4 c4, .slice a5 n5 c5]) := fun wr hT => hT.2.1 _ _ _ _ hX1 (by decide)
  have H2 : Hid (∀ k, k < n2 → ∃ gw av cv lv, a2 = some ⟨gw, 0, none⟩ ∧ OwB w1 base (.slice av lv.length cv) lv ∧ Hid (∀ wr, Turned w1 wr → wr.cell? ⟨gw, k * 2 + 1, none⟩ = some (.slice av lv.length cv))) := by
    intro k hk
    rw [hn2] at hk
    have hO2 := O2.out
    rw [hn2] at hO2
    obtain ⟨gw, h1, h2, h3, vv, h4, h5⟩ := hO2.at k hk
    subst h1
    obtain ⟨zy, e1, hy, hy2⟩ := id hO2
    obtain ⟨cs, hc⟩ := row_block hy gw rfl
    obtain ⟨av, cv, rfl⟩ := h5.form
    refine ⟨gw, av, cv, _, rfl, h5, fun wr hT => ?_⟩
    rw [World.cell?_of_block (w := w1) (a := ⟨gw, k * 2 + 1, none⟩) (by rw [hc]; exact hT.2.1 _ _ _ _ hc (by decide))]
    exact h4
  have HWS := hide ew
  clear hO o1 o2 o3 h4 h5 hb hb1 hX1 hn2
  go_enter Tryz.func25, Tryz.ntmps25
  go_wp2
  clear ew
  go_loopw [2] (fun i wr => ∃ k : Nat, k ≤ n1 ∧ i = .int .i64 k ∧ Hid (Turned w1 wr ∧ Below base w1 wr)) (fun i _ => n1 - (intOf i).toNat)
  case atStart => exact ⟨0, Nat.zero_le _, rfl, hide ⟨Turned.refl _, Below.refl _ _⟩⟩
  case round =>
    obtain ⟨k, hk, rfl, hT⟩ := hrel
    have hbx := HBX.out wr hT.out.1
    have p0 := hbx.cell 0
    have p1 := hbx.cell 1
    have p4 := hbx.cell 4
    have p5 := hbx.cell 5
    clear hbx
    by_cases hlt : k < n1
    · have hlt' : (k : Int) < n1 := by omega
      obtain ⟨g, bk, bj, rfl, hc, hf, hw8, HN⟩ := turn_step O1.out hT.out.1 hT.out.2 k hlt
      go_wp2
      go_region
      go_wp2
      exact ⟨⟨k + 1, by omega, rfl, HN⟩, by simp only [intOf]; omega⟩
    · have hd : decide ((k : Int) < n1) = false := by simpa using (by omega : ¬ (k : Int) < n1)
      go_wp2
      clear p0 p1 p4 p5 hd hlt hk
      obtain ⟨wa, ewa⟩ : ∃ wa, wa = wr := ⟨_, rfl⟩
      rw [← ewa]
      rw [← ewa] at hT
      clear ewa
      go_loopw [3] (fun i wr => ∃ k : Nat, k ≤ n2 ∧ i = .int .i64 k ∧ Hid (Turned w1 wr ∧ Below base w1 wr)) (fun i _ => n2 - (intOf i).toNat)
      case atStart => exact ⟨0, Nat.zero_le _, rfl, hT⟩
      case round =>
        clear hT
        obtain ⟨k, hk, rfl, hT⟩ := hrel
        have hbx := HBX.out wr hT.out.1
        have p1 := hbx.cell 1
        have p4 := hbx.cell 4
        have p5 := hbx.cell 5
        clear hbx
        by_cases hlt : k < n2
        · have hlt' : (k : Int) < n2 := by omega
          obtain ⟨gw, av, cv, lv, rfl, hOv, HCV⟩ := H2.out k hlt
          have hlv : lv.length ≤ maxLen := hOv.rd.len_le
          unfold maxLen at hlv
          have HOV := hide hOv
          clear hOv
          generalize lv.length = m at *
          have hcv := HCV.out wr hT.out.1
          go_wp2
          obtain ⟨wk, ewk⟩ : ∃ wk, wk = wr := ⟨_, rfl⟩
          rw [← ewk]
          rw [← ewk] at hT
          clear ewk hcv p1 p4 p5
          go_loopw [4] (fun i wr => ∃ j : Nat, j ≤ m ∧ i = .int .i64 j ∧ Hid (Turned w1 wr ∧ Below base w1 wr)) (fun i _ => m - (intOf i).toNat)
          case atStart => exact ⟨0, Nat.zero_le _, rfl, hT⟩
          case round =>
            clear hT
            obtain ⟨j, hj, rfl, hT⟩ := hrel
            have p1 := (HBX.out wr hT.out.1).cell 1
            have hcv := HCV.out wr hT.out.1
            by_cases hjt : j < m
            · have hjt' : (j : Int) < m := by omega
              obtain ⟨g, bk, bj, rfl, hc, hf, hw8, HN⟩ := turn_step HOV.out hT.out.1 hT.out.2 j hjt
              go_wp2
              go_region
              go_wp2
              exact ⟨⟨j + 1, by omega, rfl, HN⟩, by simp only [intOf]; omega⟩
            · have hjt' : decide ((j : Int) < m) = false := by simpa using (by omega : ¬ (j : Int) < m)
              go_wp2
              exact ⟨⟨k + 1, by omega, rfl, hT⟩, by simp only [intOf]; omega⟩
        · have hd : decide ((k : Int) < n2) = false := by simpa using (by omega : ¬ (k : Int) < n2)
          go_wp2
          clear p1 p4 p5 hd hlt hk
          obtain ⟨wb, ewb⟩ : ∃ wb, wb = wr := ⟨_, rfl⟩
          rw [← ewb]
          rw [← ewb] at hT
          clear ewb
          have HBXB := hide (HBX.out wb hT.out.1)
          have R4B := hide (R4.out.turned hT.out.1)
          have R5B := hide (R5.out.turned hT.out.1)
          have HBSB := hide (Nat.le_trans HBS.out hT.out.1.1)
          have HBTF : Hid (∀ wr, Tf base wb wr → Bq wr w.heap.size 32 #[.slice a1 n1 c1, .slice a2 n2 c2, .slice a3 n3 c3, .int .u32 gg, .slice a4 n4 c4, .slice a5 n5 c5]) := fun wr hT => hT.2.2.1 _ _ _ HBXB.out (by decide) (by decide)
          have HEND := hide (fun (wr : World) (hf : Tf base wb wr) => (⟨(HBW.out.trans hT.out.2).trans hf.1, (HTW.out.trans (Tz.turned hT.out.1)).trans (Tz.tf hf)⟩ : Below base w wr ∧ Tz base w wr))
          clear hT
          go_loopw [5] (fun i wr => ∃ k : Nat, k ≤ n4 ∧ i = .int .i64 k ∧ Hid (Tf base wb wr)) (fun i _ => n4 - (intOf i).toNat)
          case atStart => exact ⟨0, Nat.zero_le _, rfl, hide (Tf.refl _ _)⟩
          case round =>
            obtain ⟨k, hk, rfl, hT⟩ := hrel
            have hbx := HBTF.out wr hT.out
            have p4 := hbx.cell 4
            have p5 := hbx.cell 5
            clear hbx
            by_cases hlt : k < n4
            · have hlt' : (k : Int) < n4 := by omega
              have hszr := Nat.le_trans HBSB.out hT.out.2.1
              obtain ⟨g, b2, m2, d2, rfl, hc, hmd, g', c', w', hrun0, hsh, HN⟩ := tf_step (w := wr.drew) hszr ((hT.out.2.2.2.2 _ _ R4B.out).carry (Below.refl _ _).drew) k hlt 77 77
              have hc' : wr.cell? ⟨g, k * 2 + 1, none⟩ = some (.slice b2 m2 d2) := hc
              have HRUN := hide hrun0
              have hkp := (Bq.shp6 ((HBTF.out wr hT.out).carry (Below.refl wr.heap.size wr).drew) hsh.out (by decide)).cell 4
              obtain ⟨q9, z9⟩ := tf_same (((hT.out.2.2.2.2 _ _ R4B.out).carry (Below.refl wr.heap.size wr).drew)) hsh.out k hlt hc
              have HSW := hide (show (fun wx => wx.cell? ⟨w.heap.size, 4, none⟩ = some (.slice (some ⟨g, 0, none⟩) n4 c4) ∧ wx.cell? ⟨g, k * 2 + 1, none⟩ = some (.slice b2 m2 d2)) w' from ⟨hkp, q9⟩)
              have HNN := hide ((hT.out.trans (Tf.shp (shp_below hszr (Below.refl _ _).drew))).trans HN.out)
              have hK : Keeps (fun wx => wx.cell? ⟨w.heap.size, 4, none⟩ = some (.slice (some ⟨g, 0, none⟩) n4 c4) ∧ wx.cell? ⟨g, k * 2 + 1, none⟩ = some (.slice b2 m2 d2)) := (keeps_cell _ _).and (keeps_cell _ _)
              clear hrun0 hszr hkp hsh HN
              go_wp2
              refine regL_begin hK 17 (by kernel_rfl) ⟨p4, hc'⟩ ?_
              intro hS
              clear hc'
              generalize wr.drew = wd at *
              refine regL_take (i := 0) (v := ?qdv0) rfl (by kernel_rfl) (by kernel_rfl) (by kernel_rfl) rfl (by kernel_rfl) (by kernel_rfl) (by rfl) ?qdy0 hS ?qdr0
              case qdy0 => (rintro wx ⟨x1, x2⟩; go_simp; all_goals (with_reducible rfl))
              try simp only [Act.put, List.setIfInBounds_toArray, List.set_cons_zero, List.set_cons_succ]
              refine regL_take (i := 1) (v := ?qdv1) rfl (by kernel_rfl) (by kernel_rfl) (by kernel_rfl) rfl (by kernel_rfl) (by kernel_rfl) (by rfl) ?qdy1 hS ?qdr1
              case qdy1 => (rintro wx ⟨x1, x2⟩; go_simp; all_goals (with_reducible rfl))
              try simp only [Act.put, List.setIfInBounds_toArray, List.set_cons_zero, List.set_cons_succ]
              refine regL_take (i := 2) (v := ?qdv2) rfl (by kernel_rfl) (by kernel_rfl) (by kernel_rfl) rfl (by kernel_rfl) (by kernel_rfl) (by rfl) ?qdy2 hS ?qdr2
              case qdy2 => (rintro wx ⟨x1, x2⟩; go_simp; all_goals (with_reducible rfl))
              try simp only [Act.put, List.setIfInBounds_toArray, List.set_cons_zero, List.set_cons_succ]
              refine regL_take (i := 3) (v := ?qdv3) rfl (by kernel_rfl) (by kernel_rfl) (by kernel_rfl) rfl (by kernel_rfl) (by kernel_rfl) (by rfl) ?qdy3 hS ?qdr3
              case qdy3 => (rintro wx ⟨x1, x2⟩; go_simp; all_goals (with_reducible rfl))
              try simp only [Act.put, List.setIfInBounds_toArray, List.set_cons_zero, List.set_cons_succ]
              refine regL_take (i := 4) (v := ?qdv4) rfl (by kernel_rfl) (by kernel_rfl) (by kernel_rfl) rfl (by kernel_rfl) (by kernel_rfl) (by rfl) ?qdy4 hS ?qdr4
              case qdy4 => (rintro wx ⟨x1, x2⟩; go_simp; all_goals (with_reducible rfl))
              try simp only [Act.put, List.setIfInBounds_toArray, List.set_cons_zero, List.set_cons_succ]
              refine regL_take (i := 5) (v := ?qdv5) rfl (by kernel_rfl) (by kernel_rfl) (by kernel_rfl) rfl (by kernel_rfl) (by kernel_rfl) (by rfl) ?qdy5 hS ?qdr5
              case qdy5 => (rintro wx ⟨x1, x2⟩; go_simp; all_goals (with_reducible rfl))
              try simp only [Act.put, List.setIfInBounds_toArray, List.set_cons_zero, List.set_cons_succ]
              refine regL_take (i := 6) (v := ?qdv6) rfl (by kernel_rfl) (by kernel_rfl) (by kernel_rfl) rfl (by kernel_rfl) (by kernel_rfl) (by rfl) ?qdy6 hS ?qdr6
              case qdy6 => (rintro wx ⟨x1, x2⟩; go_simp; all_goals (with_reducible rfl))
              try simp only [Act.put, List.setIfInBounds_toArray, List.set_cons_zero, List.set_cons_succ]
              refine regL_take (i := 7) (v := ?qdv7) rfl (by kernel_rfl) (by kernel_rfl) (by kernel_rfl) rfl (by kernel_rfl) (by kernel_rfl) (by rfl) ?qdy7 hS ?qdr7
              case qdy7 => (rintro wx ⟨x1, x2⟩; go_simp; all_goals (with_reducible rfl))
              try simp only [Act.put, List.setIfInBounds_toArray, List.set_cons_zero, List.set_cons_succ]
              refine regL_take (i := 8) (v := ?qdv8) rfl (by kernel_rfl) (by kernel_rfl) (by kernel_rfl) rfl (by kernel_rfl) (by kernel_rfl) (by rfl) ?qdy8 hS ?qdr8
              case qdy8 => (rintro wx ⟨x1, x2⟩; go_simp; all_goals (with_reducible rfl))
              try simp only [Act.put, List.setIfInBounds_toArray, List.set_cons_zero, List.set_cons_succ]
              refine regL_take (i := 9) (v := ?qdv9) rfl (by kernel_rfl) (by kernel_rfl) (by kernel_rfl) rfl (by kernel_rfl) (by kernel_rfl) (by rfl) ?qdy9 hS ?qdr9
              case qdy9 => (rintro wx ⟨x1, x2⟩; go_simp; all_goals (with_reducible rfl))
              try simp only [Act.put, List.setIfInBounds_toArray, List.set_cons_zero, List.set_cons_succ]
              refine regL_take (i := 10) (v := ?qdv10) rfl (by kernel_rfl) (by kernel_rfl) (by kernel_rfl) rfl (by kernel_rfl) (by kernel_rfl) (by rfl) ?qdy10 hS ?qdr10
              case qdy10 => (rintro wx ⟨x1, x2⟩; go_simp; all_goals (with_reducible rfl))
              try simp only [Act.put, List.setIfInBounds_toArray, List.set_cons_zero, List.set_cons_succ]
              refine regL_take (i := 11) (v := ?qdv11) rfl (by kernel_rfl) (by kernel_rfl) (by kernel_rfl) rfl (by kernel_rfl) (by kernel_rfl) (by rfl) ?qdy11 hS ?qdr11
              case qdy11 => (rintro wx ⟨x1, x2⟩; go_simp; all_goals (with_reducible rfl))
              try simp only [Act.put, List.setIfInBounds_toArray, List.set_cons_zero, List.set_cons_succ]
              refine regL_take (i := 12) (v := ?qdv12) rfl (by kernel_rfl) (by kernel_rfl) (by kernel_rfl) rfl (by kernel_rfl) (by kernel_rfl) (by rfl) ?qdy12 hS ?qdr12
              case qdy12 => (rintro wx ⟨x1, x2⟩; go_simp; all_goals (with_reducible rfl))
              try simp only [Act.put, List.setIfInBounds_toArray, List.set_cons_zero, List.set_cons_succ]
              refine regL_run (i := 13) (v := .slice (some ⟨wd.heap.size, 0, none⟩) 1 1) (w' := wd.alloc (.cells #[.int .i64 77, .int .i64 77] 133)) rfl (by kernel_rfl) (by rfl) (by go_simp) (fun _ => hK _ _ hS ((Below.refl _ _).alloc (Nat.le_refl _) _)) ?_
              try simp only [Act.put, List.setIfInBounds_toArray, List.set_cons_zero, List.set_cons_succ]
              refine regL_run (i := 14) (v := .slice (some ⟨g', 0, none⟩) 1 c') (w' := w') rfl (by kernel_rfl) (by rfl) (exec_app rfl rfl rfl HRUN.out) (fun _ => HSW.out) ?_
              have hS9 := HSW.out
              clear hS
              have hS := hS9
              clear hS9
              try simp only [Act.put, List.setIfInBounds_toArray, List.set_cons_zero, List.set_cons_succ]
              refine regL_run (i := 15) (v := .pointer (some ⟨g, k * 2, none⟩)) (w' := w') rfl (by kernel_rfl) (by rfl) (by go_simp) (fun _ => hS) ?_
              try simp only [Act.put, List.setIfInBounds_toArray, List.set_cons_zero, List.set_cons_succ]
              refine regL_take (i := 16) (v := ?qdv16) rfl (by kernel_rfl) (by kernel_rfl) (by kernel_rfl) rfl (by kernel_rfl) (by kernel_rfl) (by rfl) ?qdy16 hS ?qdr16
              case qdy16 => (rintro wx ⟨x1, x2⟩; go_simp; all_goals (with_reducible rfl))
              try simp only [Act.put, List.setIfInBounds_toArray, List.set_cons_zero, List.set_cons_succ]
              refine regL_last (i := 17) (w' := w'.setCell ⟨g, k * 2 + 1, none⟩ (.slice (some ⟨g', 0, none⟩) 1 c')) rfl (by kernel_rfl) (by kernel_rfl) (by rfl) (by go_simp) ?_
              try simp only [Act.put, List.setIfInBounds_toArray, List.set_cons_zero, List.set_cons_succ]
              refine wpAnyL_done (by kernel_rfl) ?_ _
              refine NoPanic.normal ?_
              clear hS hK
              go_wp2
              exact ⟨⟨k + 1, by omega, rfl, HNN⟩, by simp only [intOf]; omega⟩
            · have hd : decide ((k : Int) < n4) = false := by simpa using (by omega : ¬ (k : Int) < n4)
              go_wp2
              clear p4 p5 hd hlt hk
              obtain ⟨wc, ewc⟩ : ∃ wc, wc = wr := ⟨_, rfl⟩
              rw [← ewc]
              rw [← ewc] at hT
              clear ewc
              go_loopw [6] (fun i wr => ∃ k : Nat, k ≤ n5 ∧ i = .int .i64 k ∧ Hid (Tf base wb wr)) (fun i _ => n5 - (intOf i).toNat)
              case atStart => exact ⟨0, Nat.zero_le _, rfl, hT⟩
              case round =>
                clear hT
                obtain ⟨k, hk, rfl, hT⟩ := hrel
                have p5 := (HBTF.out wr hT.out).cell 5
                by_cases hlt : k < n5
                · have hlt' : (k : Int) < n5 := by omega
                  have hszr := Nat.le_trans HBSB.out hT.out.2.1
                  obtain ⟨g, b2, m2, d2, rfl, hc, hmd, g', c', w', hrun0, hsh, HN⟩ := tf_step (w := wr.drew) hszr ((hT.out.2.2.2.2 _ _ R5B.out).carry (Below.refl _ _).drew) k hlt 78 78
                  have hc' : wr.cell? ⟨g, k * 2 + 1, none⟩ = some (.slice b2 m2 d2) := hc
                  have HRUN := hide hrun0
                  have hkp := (Bq.shp6 ((HBTF.out wr hT.out).carry (Below.refl wr.heap.size wr).drew) hsh.out (by decide)).cell 5
                  obtain ⟨q9, z9⟩ := tf_same (((hT.out.2.2.2.2 _ _ R5B.out).carry (Below.refl wr.heap.size wr).drew)) hsh.out k hlt hc
                  have HSW := hide (show (fun wx => wx.cell? ⟨w.heap.size, 5, none⟩ = some (.slice (some ⟨g, 0, none⟩) n5 c5) ∧ wx.cell? ⟨g, k * 2 + 1, none⟩ = some (.slice b2 m2 d2)) w' from ⟨hkp, q9⟩)
                  have HNN := hide ((hT.out.trans (Tf.shp (shp_below hszr (Below.refl _ _).drew))).trans HN.out)
                  have hK : Keeps (fun wx => wx.cell? ⟨w.heap.size, 5, none⟩ = some (.slice (some ⟨g, 0, none⟩) n5 c5) ∧ wx.cell? ⟨g, k * 2 + 1, none⟩ = some (.slice b2 m2 d2)) := (keeps_cell _ _).and (keeps_cell _ _)
                  clear hrun0 hszr hkp hsh HN
                  go_wp2
                  refine regL_begin hK 17 (by kernel_rfl) ⟨p5, hc'⟩ ?_
                  intro hS
                  clear hc'
                  generalize wr.drew = wd at *
                  refine regL_take (i := 0) (v := ?qev0) rfl (by kernel_rfl) (by kernel_rfl) (by kernel_rfl) rfl (by kernel_rfl) (by kernel_rfl) (by rfl) ?qey0 hS ?qer0
                  case qey0 => (rintro wx ⟨x1, x2⟩; go_simp; all_goals (with_reducible rfl))
                  try simp only [Act.put, List.setIfInBounds_toArray, List.set_cons_zero, List.set_cons_succ]
                  refine regL_take (i := 1) (v := ?qev1) rfl (by kernel_rfl) (by kernel_rfl) (by kernel_rfl) rfl (by kernel_rfl) (by kernel_rfl) (by rfl) ?qey1 hS ?qer1
                  case qey1 => (rintro wx ⟨x1, x2⟩; go_simp; all_goals (with_reducible rfl))
                  try simp only [Act.put, List.setIfInBounds_toArray, List.set_cons_zero, List.set_cons_succ]
                  refine regL_take (i := 2) (v := ?qev2) rfl (by kernel_rfl) (by kernel_rfl) (by kernel_rfl) rfl (by kernel_rfl) (by kernel_rfl) (by rfl) ?qey2 hS ?qer2
                  case qey2 => (rintro wx ⟨x1, x2⟩; go_simp; all_goals (with_reducible rfl))
                  try simp only [Act.put, List.setIfInBounds_toArray, List.set_cons_zero, List.set_cons_succ]
                  refine regL_take (i := 3) (v := ?qev3) rfl (by kernel_rfl) (by kernel_rfl) (by kernel_rfl) rfl (by kernel_rfl) (by kernel_rfl) (by rfl) ?qey3 hS ?qer3
                  case qey3 => (rintro wx ⟨x1, x2⟩; go_simp; all_goals (with_reducible rfl))
                  try simp only [Act.put, List.setIfInBounds_toArray, List.set_cons_zero, List.set_cons_succ]
                  refine regL_take (i := 4) (v := ?qev4) rfl (by kernel_rfl) (by kernel_rfl) (by kernel_rfl) rfl (by kernel_rfl) (by kernel_rfl) (by rfl) ?qey4 hS ?qer4
                  case qey4 => (rintro wx ⟨x1, x2⟩; go_simp; all_goals (with_reducible rfl))
                  try simp only [Act.put, List.setIfInBounds_toArray, List.set_cons_zero, List.set_cons_succ]
                  refine regL_take (i := 5) (v := ?qev5) rfl (by kernel_rfl) (by kernel_rfl) (by kernel_rfl) rfl (by kernel_rfl) (by kernel_rfl) (by rfl) ?qey5 hS ?qer5
                  case qey5 => (rintro wx ⟨x1, x2⟩; go_simp; all_goals (with_reducible rfl))
                  try simp only [Act.put, List.setIfInBounds_toArray, List.set_cons_zero, List.set_cons_succ]
                  refine regL_take (i := 6) (v := ?qev6) rfl (by kernel_rfl) (by kernel_rfl) (by kernel_rfl) rfl (by kernel_rfl) (by kernel_rfl) (by rfl) ?qey6 hS ?qer6
                  case qey6 => (rintro wx ⟨x1, x2⟩; go_simp; all_goals (with_reducible rfl))
                  try simp only [Act.put, List.setIfInBounds_toArray, List.set_cons_zero, List.set_cons_succ]
                  refine regL_take (i := 7) (v := ?qev7) rfl (by kernel_rfl) (by kernel_rfl) (by kernel_rfl) rfl (by kernel_rfl) (by kernel_rfl) (by rfl) ?qey7 hS ?qer7
                  case qey7 => (rintro wx ⟨x1, x2⟩; go_simp; all_goals (with_reducible rfl))
                  try simp only [Act.put, List.setIfInBounds_toArray, List.set_cons_zero, List.set_cons_succ]
                  refine regL_take (i := 8) (v := ?qev8) rfl (by kernel_rfl) (by kernel_rfl) (by kernel_rfl) rfl (by kernel_rfl) (by kernel_rfl) (by rfl) ?qey8 hS ?qer8
                  case qey8 => (rintro wx ⟨x1, x2⟩; go_simp; all_goals (with_reducible rfl))
                  try simp only [Act.put, List.setIfInBounds_toArray, List.set_cons_zero, List.set_cons_succ]
                  refine regL_take (i := 9) (v := ?qev9) rfl (by kernel_rfl) (by kernel_rfl) (by kernel_rfl) rfl (by kernel_rfl) (by kernel_rfl) (by rfl) ?qey9 hS ?qer9
                  case qey9 => (rintro wx ⟨x1, x2⟩; go_simp; all_goals (with_reducible rfl))
                  try simp only [Act.put, List.setIfInBounds_toArray, List.set_cons_zero, List.set_cons_succ]
                  refine regL_take (i := 10) (v := ?qev10) rfl (by kernel_rfl) (by kernel_rfl) (by kernel_rfl) rfl (by kernel_rfl) (by kernel_rfl) (by rfl) ?qey10 hS ?qer10
                  case qey10 => (rintro wx ⟨x1, x2⟩; go_simp; all_goals (with_reducible rfl))
                  try simp only [Act.put, List.setIfInBounds_toArray, List.set_cons_zero, List.set_cons_succ]
                  refine regL_take (i := 11) (v := ?qev11) rfl (by kernel_rfl) (by kernel_rfl) (by kernel_rfl) rfl (by kernel_rfl) (by kernel_rfl) (by rfl) ?qey11 hS ?qer11
                  case qey11 => (rintro wx ⟨x1, x2⟩; go_simp; all_goals (with_reducible rfl))
                  try simp only [Act.put, List.setIfInBounds_toArray, List.set_cons_zero, List.set_cons_succ]
                  refine regL_take (i := 12) (v := ?qev12) rfl (by kernel_rfl) (by kernel_rfl) (by kernel_rfl) rfl (by kernel_rfl) (by kernel_rfl) (by rfl) ?qey12 hS ?qer12
                  case qey12 => (rintro wx ⟨x1, x2⟩; go_simp; all_goals (with_reducible rfl))
                  try simp only [Act.put, List.setIfInBounds_toArray, List.set_cons_zero, List.set_cons_succ]
                  refine regL_run (i := 13) (v := .slice (some ⟨wd.heap.size, 0, none⟩) 1 1) (w' := wd.alloc (.cells #[.int .i64 78, .int .i64 78] 133)) rfl (by kernel_rfl) (by rfl) (by go_simp) (fun _ => hK _ _ hS ((Below.refl _ _).alloc (Nat.le_refl _) _)) ?_
                  try simp only [Act.put, List.setIfInBounds_toArray, List.set_cons_zero, List.set_cons_succ]
                  refine regL_run (i := 14) (v := .slice (some ⟨g', 0, none⟩) 1 c') (w' := w') rfl (by kernel_rfl) (by rfl) (exec_app rfl rfl rfl HRUN.out) (fun _ => HSW.out) ?_
                  have hS9 := HSW.out
                  clear hS
                  have hS := hS9
                  clear hS9
                  try simp only [Act.put, List.setIfInBounds_toArray, List.set_cons_zero, List.set_cons_succ]
                  refine regL_run (i := 15) (v := .pointer (some ⟨g, k * 2, none⟩)) (w' := w') rfl (by kernel_rfl) (by rfl) (by go_simp) (fun _ => hS) ?_
                  try simp only [Act.put, List.setIfInBounds_toArray, List.set_cons_zero, List.set_cons_succ]
                  refine regL_take (i := 16) (v := ?qev16) rfl (by kernel_rfl) (by kernel_rfl) (by kernel_rfl) rfl (by kernel_rfl) (by kernel_rfl) (by rfl) ?qey16 hS ?qer16
                  case qey16 => (rintro wx ⟨x1, x2⟩; go_simp; all_goals (with_reducible rfl))
                  try simp only [Act.put, List.setIfInBounds_toArray, List.set_cons_zero, List.set_cons_succ]
                  refine regL_last (i := 17) (w' := w'.setCell ⟨g, k * 2 + 1, none⟩ (.slice (some ⟨g', 0, none⟩) 1 c')) rfl (by kernel_rfl) (by kernel_rfl) (by rfl) (by go_simp) ?_
                  try simp only [Act.put, List.setIfInBounds_toArray, List.set_cons_zero, List.set_cons_succ]
                  refine wpAnyL_done (by kernel_rfl) ?_ _
                  refine NoPanic.normal ?_
                  clear hS hK
                  go_wp2
                  exact ⟨⟨k + 1, by omega, rfl, HNN⟩, by simp only [intOf]; omega⟩
                · have hd : decide ((k : Int) < n5) = false := by simpa using (by omega : ¬ (k : Int) < n5)
                  have HZ := hide (HEND.out wr hT.out)
                  go_wp2
                  refine bodyPost_end (v := .tuple #[]) ?_ rfl ⟨rfl, HZ.out.1, HZ.out.2⟩
                  simp [results, Tryz.results25, go_sem]

end Go.Proofs.YtlibnefibeikcaaGreat

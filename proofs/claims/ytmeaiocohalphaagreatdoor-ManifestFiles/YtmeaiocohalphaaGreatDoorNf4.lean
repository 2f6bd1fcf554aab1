/-
  What manifest's reader does: a version.
-/
import Derived.Test.YtmeaiocohalphaaGreatDoorROne
import Derived.Test.YtmeaiocohalphaaGreatDoorL2d
import Derived.Test.YtmeaiocohalphaaGreatDoorRegT
import Derived.Test.YtmeaiocohalphaaGreatDoorFiApart
import Derived.Test.YtmeaiocohalphaaGreatDoorFiCut3
import Derived.ArgAppend
import Derived.Laws.OwnMore
import Derived.Test.YtmeaiocohalphaaGreatDoorFiRef3
import Derived.Test.YtmeaiocohalphaaGreatDoorRegL
set_option maxHeartbeats 4000000
set_option maxRecDepth 100000
namespace Go.Proofs.YtmeaiocohalphaaGreatDoor
open Go.RowKit
set_option linter.unusedVariables false
set_option linter.unusedSimpArgs false
theorem OwW.at {w : World} {base n c : Nat} {a : Option Addr} {l : List Pu} (h : OwW w base (.slice a n c) l) (j : Nat) (hj : j < l.length) : ∃ g, a = some ⟨g, 0, none⟩ ∧ base ≤ g ∧ w.cell? ⟨g, j * 2, none⟩ = some (.int .i64 (l[j]).1) ∧ ∃ v, w.cell? ⟨g, j * 2 + 1, none⟩ = some v ∧ OwB w base v (l[j]).2 := by
 obtain ⟨z, rfl, h2, h3⟩ := h
 have hj' : j < z.length := by simpa using hj
 have h2' := h2
 rcases h2.2 with ⟨_, hn⟩ | ⟨g, cap, cur, e, hbg, _⟩
 ·simp at hn; rw [hn] at hj'; exact absurd hj' (by simp)
 ·cases e
  obtain ⟨e1, e2⟩ := cellsW_get z j hj'
  have c1 := h2.cells (g := g) rfl _ _ e1
  have c2 := h2.cells (g := g) rfl _ _ e2
  rw [Addr.add_lit] at c1 c2
  refine ⟨g, rfl, hbg, by simpa using c1, (z[j]).2, by simpa [Nat.add_assoc] using c2, ?_⟩
  have := h3 z[j] (List.getElem_mem hj')
  simpa using this
theorem setBs_take (data : List UInt8) (l : List Pu) (k : Nat) (hk : k < l.length) : setBs data (l.take (k + 1)) = setB (setBs data (l.take k)) l[k] := by
 unfold setBs
 rw [List.take_succ_eq_append_getElem hk, List.foldl_append]
 rfl
theorem setBs_len' (data : List UInt8) (l : List Pu) (k cnt : Nat) (hlen : data.length = 128 * cnt) (hp : ∀ p ∈ l, putE cnt p = 0) : (setBs data (l.take k)).length = 128 * cnt := by
 rw [setBs_len data _ data rfl (fun p hpm => by
  obtain ⟨h1, h2, h3⟩ := putE_ok (hp p (List.mem_of_mem_take hpm))
  exact ⟨h1, by omega, h3⟩)]
 exact hlen
theorem one_sync (w0 : World) (B cnt : Nat) (d : Dk) (v : Value) (N : Int) (x : Option Addr) (m c : Nat) (l : List UInt8) (w : World) (hD : Dv w w0.heap.size B v d) (hbel : Below w0.heap.size w0 w) (hrd : Rd w0 (.slice x m c) l) (hm : m = l.length) (hl : l.length ≤ 140737488355328) (hw : d.2.1.length ≤ 65536) (hn : d.2.2.length < 65536)
  (hlen : d.1.length = 128 * cnt) (hcnt : cnt ≤ 4096) (hp : ∀ p ∈ d.2.1, putE cnt p = 0) :
  Calls Tryz.prog 199 #[v, .agg #[.bool true, .int .i64 N, .slice x m c]] w fun e w' => ∃ v' r, e = .returned (.tuple #[v', .int .i64 r]) ∧ OneR w0 w w' B (some (setBs d.1 d.2.1, [], d.2.2 ++ [(true, N, l)])) v' r := by
 have HLEN := hide hlen
 have HP := hide hp
 clear hlen hp
 have HC := hide hrd
 have HM := hide hm
 have HL := hide hl
 clear hrd hm hl
 obtain ⟨g0, cap, a2, c2, a3, c3, rfl, hB, hB2, hBw0, o1, o2, o3⟩ := hD
 have HRW := hide (show ∀ k, (Value.slice a3 d.2.2.length c3).ownBlock = some k → k < w.heap.size from fun k hk => by
  obtain ⟨z, _, h, _⟩ := o3
  exact (h.lt k hk).2)
 have hRow0 : ∀ k, (Value.slice a3 d.2.2.length c3).ownBlock = some k → w0.heap.size ≤ k := fun k hk => by
  obtain ⟨z, _, h, _⟩ := o3
  have := (h.lt k hk).1
  omega
 have HNE := hide (show ∀ i, (i = w.heap.size + 1 ∨ i = w.heap.size + 2) → some i ≠ (Value.slice a3 d.2.2.length c3).ownBlock from fun i hi e => by
  have := HRW.out _ e.symm
  omega)
 obtain ⟨w1, ew⟩ : ∃ w1, ((w.alloc (.cells #[.slice (some ⟨g0, 0, none⟩) d.1.length cap, .slice a2 d.2.1.length c2, .slice a3 d.2.2.length c3] 27)).alloc (.cells #[.bool true, .int .i64 N, .slice x m c] 206)).alloc (.cells #[.slice none 0 0, .slice none 0 0, .slice none 0 0] 27) = w1 := ⟨_, rfl⟩
 have hb1 : Below w.heap.size w w1 := by rw [← ew]; exact (((Below.refl _ _).alloc (Nat.le_refl _) _).alloc (by simp) _).alloc (by simp; omega) _
 have hd1 : w1.heap[w.heap.size]? = some (.cells #[.slice (some ⟨g0, 0, none⟩) d.1.length cap, .slice a2 d.2.1.length c2, .slice a3 d.2.2.length c3] 27 (0, 0)) := by
  rw [← ew, heap_alloc_old _ _ (by simp; omega), heap_alloc_old _ _ (by simp)]; exact heap_alloc_new _ _
 have hA1 : w1.heap[w.heap.size + 1]? = some (.cells #[.bool true, .int .i64 N, .slice x m c] 206 (0, 0)) := by
  rw [← ew, heap_alloc_old _ _ (by simp)]; exact heap_alloc2 _ _ _
 have hR1 : w1.heap[w.heap.size + 2]? = some (.cells #[.slice none 0 0, .slice none 0 0, .slice none 0 0] 27 (0, 0)) := by
  rw [← ew]
  have := heap_alloc2 (w.alloc (.cells #[.slice (some ⟨g0, 0, none⟩) d.1.length cap, .slice a2 d.2.1.length c2, .slice a3 d.2.2.length c3] 27)) (.cells #[.bool true, .int .i64 N, .slice x m c] 206) (.cells #[.slice none 0 0, .slice none 0 0, .slice none 0 0] 27)
  simpa using this
 obtain ⟨k0, k1, k2, _⟩ := cells3 hd1
 obtain ⟨b0, b1, b2, _⟩ := cells3 hA1
 have hkd : KD w w1 := (KD.refl w).below hb1
 have hg3 : ((65536 : Int) ≤ d.2.2.length) = False := by simp; omega
 have hg3' : decide ((65536 : Int) ≤ d.2.2.length) = false := by simp; omega
 go_enter Tryz.func199, Tryz.ntmps199
 go_wp2
 have hgD : w0.heap.size ≤ w.heap.size := hbel.size
 have hBw : B ≤ w1.heap.size := Nat.le_trans hBw0 hb1.size
 have hS0 : (fun wx => wx.heap[w.heap.size + 1]? = some (.cells #[.bool true, .int .i64 N, .slice x m c] 206 (0, 0)) ∧ wx.heap[w.heap.size]? = some (.cells #[.slice (some ⟨g0, 0, none⟩) d.1.length cap, .slice a2 d.2.1.length c2, .slice a3 d.2.2.length c3] 27 (0, 0)) ∧ wx.heap[w.heap.size + 2]? = some (.cells #[.slice none 0 0, .slice none 0 0, .slice none 0 0] 27 (0, 0)) ∧ Below w0.heap.size w0 wx) w1 := ⟨hA1, hd1, hR1, hbel.trans (hb1.mono hbel.size)⟩
 have hK : Keeps (fun wx => wx.heap[w.heap.size + 1]? = some (.cells #[.bool true, .int .i64 N, .slice x m c] 206 (0, 0)) ∧ wx.heap[w.heap.size]? = some (.cells #[.slice (some ⟨g0, 0, none⟩) d.1.length cap, .slice a2 d.2.1.length c2, .slice a3 d.2.2.length c3] 27 (0, 0)) ∧ wx.heap[w.heap.size + 2]? = some (.cells #[.slice none 0 0, .slice none 0 0, .slice none 0 0] 27 (0, 0)) ∧ Below w0.heap.size w0 wx) := (keeps_block _ _).and ((keeps_block _ _).and ((keeps_block _ _).and (keeps_below _)))
 have o1' := o1
 have o2' := o2
 have o3' := o3
 clear o1 o2 o3
 have hd := hd1
 have o1 := o1'.carry hb1
 have o2 := o2'.carry hb1
 have o3 := o3'.carry hb1
 clear hd1 o1' o2' o3' ew hg3 hg3'  k0 k1 k2 b0 b1 b2 hA1 hR1
 refine regL_begin hK 11 (by kernel_rfl) hS0 ?_
 intro hS
 refine regL_plan [0, 1, 2, 3, 4, 5] (fuel := 6) (a' := ?zp1a) (by kernel_rfl) (by kernel_rfl) (by kernel_rfl) ?zp1p hS ?zp1n
 case zp1p =>
  iterate 6 (apply Yl.cons rfl (by kernel_rfl); focus (rintro wx ⟨xA, xD, xR, x7⟩; obtain ⟨c1, c2, c3, c4⟩ := cells3 xA; obtain ⟨d1, d2, d3, d4⟩ := cells3 xD; go_simp; all_goals (with_reducible rfl)); try simp only [Act.put, List.setIfInBounds_toArray, List.set_cons_zero, List.set_cons_succ])
  exact Yl.nil
 refine regL_callg (i := 6) (R := fun v wy => ∃ p k, v = .agg #[.int .i64 N, .slice p l.length k] ∧ OwB wy B (.slice p l.length k) l ∧ Below w1.heap.size w1 wy) rfl (by kernel_rfl) (by rfl) (by obtain ⟨c1, c2, c3, c4⟩ := cells3 hS.1; obtain ⟨d1, d2, d3, d4⟩ := cells3 hS.2.1; go_simp) ((twinPut_any N x m c l _ HM.out HL.out (HC.out.carry hS.2.2.2)).mono fun e wy ⟨v, h1, h2, h3⟩ => by obtain ⟨p, k, rfl⟩ := h2.form; exact ⟨_, h1, p, k, rfl, h2.mono hBw, (Below.refl _ _).drew.trans h3⟩) ?_
 rintro v7 w7 ⟨p7, k7, rfl, hO7, hb7⟩
 have hS7 := hK _ _ hS0 hb7
 obtain ⟨a9, c9, w9, hrun9, hg9, hd9, hfin⟩ := did_step (s := true) (N := N) (d := d) hB hB2 (Nat.le_trans hBw hb7.size) hgD (keeps_block _ _ _ _ hd hb7) (o1.carry hb7) (o2.carry hb7) (o3.carry hb7) hO7 (by omega)
 have HF := hide hfin
 have hkd9 := (hkd.below hb7).grown hg9 (fun j hj => .inr (by obtain ⟨z, _, h, _⟩ := o3.carry hb7; obtain ⟨cs, hh⟩ := row_block h j hj; exact ⟨cs, _, _, hh, by decide⟩))
 clear hkd
 have hS9 : (fun wx => wx.heap[w.heap.size + 1]? = some (.cells #[.bool true, .int .i64 N, .slice x m c] 206 (0, 0)) ∧ wx.heap[w.heap.size]? = some (.cells #[.slice (some ⟨g0, 0, none⟩) d.1.length cap, .slice a2 d.2.1.length c2, .slice a3 d.2.2.length c3] 27 (0, 0)) ∧ wx.heap[w.heap.size + 2]? = some (.cells #[.slice none 0 0, .slice none 0 0, .slice none 0 0] 27 (0, 0)) ∧ Below w0.heap.size w0 wx) w9 := by
  obtain ⟨xA, xD, xR, x7⟩ := hS7
  exact ⟨(hg9.block _ (Array.getElem?_eq_some_iff.1 xA).1 (HNE.out _ (.inl rfl))).trans xA, hd9, (hg9.block _ (Array.getElem?_eq_some_iff.1 xR).1 (HNE.out _ (.inr rfl))).trans xR, x7.grown hg9 x7.size (fun k hk => hRow0 k hk)⟩
 obtain ⟨ws, ews, hws, hgs⟩ := stored3at2 (.slice a9 (d.2.2.length + 1) c9) hd9
 obtain ⟨z1, z2, z3, z4⟩ := cells3 hd9
 refine ⟨hS7, ?_⟩
 clear hS hfin
 have hS := hS7
 try simp only [Act.put, List.setIfInBounds_toArray, List.set_cons_zero, List.set_cons_succ]
 refine regL_take (i := 7) (v := ?qav7) rfl (by kernel_rfl) (by kernel_rfl) (by kernel_rfl) rfl (by kernel_rfl) (by kernel_rfl) (by rfl) ?qay7 hS ?qar7
 case qay7 => (rintro wx ⟨xA, xD, xR, x7⟩; obtain ⟨c1, c2, c3, c4⟩ := cells3 xA; obtain ⟨d1, d2, d3, d4⟩ := cells3 xD; go_simp; all_goals (with_reducible rfl))
 try simp only [Act.put, List.setIfInBounds_toArray, List.set_cons_zero, List.set_cons_succ]
 refine regL_run (i := 8) (v := .slice (some ⟨w7.heap.size, 0, none⟩) 1 1) (w' := w7.alloc (.cells #[.bool true, .int .i64 N, .slice p7 l.length k7] 206)) rfl (by kernel_rfl) (by rfl) (by go_simp) (fun _ => hK _ _ hS ((Below.refl _ _).alloc (Nat.le_refl _) _)) ?_
 try simp only [Act.put, List.setIfInBounds_toArray, List.set_cons_zero, List.set_cons_succ]
 refine regL_run (i := 9) (v := .slice a9 (d.2.2.length + 1) c9) (w' := w9) rfl (by kernel_rfl) (by rfl) (run_app (v := .slice a3 d.2.2.length c3) (y := .slice (some ⟨w7.heap.size, 0, none⟩) 1 1) rfl rfl rfl hrun9) (fun _ => hS9) ?_
 clear hS
 have hS := hS9
 try simp only [Act.put, List.setIfInBounds_toArray, List.set_cons_zero, List.set_cons_succ]
 refine regL_take (i := 10) (v := ?qav10) rfl (by kernel_rfl) (by kernel_rfl) (by kernel_rfl) rfl (by kernel_rfl) (by kernel_rfl) (by rfl) ?qay10 hS ?qar10
 case qay10 => (rintro wx ⟨xA, xD, xR, x7⟩; obtain ⟨c1, c2, c3, c4⟩ := cells3 xA; obtain ⟨d1, d2, d3, d4⟩ := cells3 xD; go_simp; all_goals (with_reducible rfl))
 try simp only [Act.put, List.setIfInBounds_toArray, List.set_cons_zero, List.set_cons_succ]
 refine regL_last (i := 11) (w' := ws) rfl (by kernel_rfl) (by kernel_rfl) (by rfl) (by rw [← ews]; go_simp) ?_
 try simp only [Act.put, List.setIfInBounds_toArray, List.set_cons_zero, List.set_cons_succ]
 refine wpAnyL_done (by kernel_rfl) ?_ _
 refine NoPanic.normal ?_
 have hkd := hkd9.grown hgs (fun j hj => by cases hj; exact .inl (Nat.le_refl _))
 clear hkd9
 have hDW := HF.out ws hgs hws
 obtain ⟨yA, _, yR, y7⟩ := hS9
 have hAs : ws.heap[w.heap.size + 1]? = some (.cells #[.bool true, .int .i64 N, .slice x m c] 206 (0, 0)) := (hgs.block _ (Array.getElem?_eq_some_iff.1 yA).1 (by simp)).trans yA
 have hRs : ws.heap[w.heap.size + 2]? = some (.cells #[.slice none 0 0, .slice none 0 0, .slice none 0 0] 27 (0, 0)) := (hgs.block _ (Array.getElem?_eq_some_iff.1 yR).1 (by simp)).trans yR
 have hbs : Below w0.heap.size w0 ws := y7.grown hgs y7.size (fun k hk => by cases hk; exact hgD)
 clear hS HF hS7 hrun9 ews z1 z2 z3 z4 yA yR y7 hK hS0 hb7 hO7 hd o1 o2 o3 hg9 hd9 hgs hb1 hBw hRow0 HNE HRW hws
 obtain ⟨d1, ed1⟩ : ∃ d1 : Dk, (d.1, d.2.1, d.2.2 ++ [(true, N, l)]) = d1 := ⟨_, rfl⟩
 rw [ed1] at hDW
 clear hB hB2
 obtain ⟨b0, b1, b2, _⟩ := cells3 hAs
 have hw1 : d1.2.1.length ≤ 65536 := by rw [← ed1]; exact hw
 have hlen1 : d1.1.length = 128 * cnt := by rw [← ed1]; exact HLEN.out
 have HP1 := hide (show ∀ p ∈ d1.2.1, putE cnt p = 0 by rw [← ed1]; exact HP.out)
 have HR := hide (show (setBs d.1 d.2.1, [], d.2.2 ++ [(true, N, l)]) = (setBs d1.1 d1.2.1, ([] : List Pu), d1.2.2) by rw [← ed1])
 clear ed1 hw hn HLEN HP
 obtain ⟨g0, cap, a2, c2, a3, c3, hd, hB, hB2, hBw, _, o1, o2, o3⟩ := hDW
 obtain ⟨k0, k1, k2, _⟩ := cells3 hd
 have O1 := hide o1
 have O2 := hide o2
 have O3 := hide o3
 have HL1 := hide hlen1
 clear o1 o2 o3 hlen1
 generalize e1 : d1.1.length = n1 at *
 generalize e2 : d1.2.1.length = n2 at *
 generalize e3 : d1.2.2.length = n3 at *
 have E1 := hide e1
 have E2 := hide e2
 have E3 := hide e3
 clear e1 e2 e3
 go_wp2
 clear k0 k1 k2 b0 b1 b2
 go_loopw [6] (fun i wr => ∃ k : Nat, k ≤ n2 ∧ i = .int .i64 k ∧ Hid (OwB wr w0.heap.size (.slice (some ⟨g0, 0, none⟩) n1 cap) (setBs d1.1 (d1.2.1.take k))) ∧ ws.grownBy wr (some g0)) (fun i _ => n2 - (intOf i).toNat)
 case atStart => exact ⟨0, Nat.zero_le _, rfl, O1.out, World.grownBy.refl _ _⟩
 case round =>
  obtain ⟨k, hk, rfl, ho, hgr⟩ := hrel
  have hdr : wr.heap[w.heap.size]? = some (.cells #[.slice (some ⟨g0, 0, none⟩) n1 cap, .slice a2 n2 c2, .slice a3 n3 c3] 27 (0, 0)) := (hgr.block _ (Array.getElem?_eq_some_iff.1 hd).1 (by simp; omega)).trans hd
  obtain ⟨k0, k1, k2, k3⟩ := cells3 hdr
  by_cases hlt : k < n2
  ·have hlt' : (k : Int) < n2 := by omega
   have hkl : k < d1.2.1.length := by have := E2.out; omega
   obtain ⟨gw, rfl, hgw, q0, vv, q1, q2⟩ := (O2.out.grown hgr hB2).at k hkl
   obtain ⟨p1, p2, p3⟩ := putE_ok (HP1.out _ (List.getElem_mem hkl))
   obtain ⟨gp, cp, rfl, _⟩ := own_pos q2 (by omega)
   obtain ⟨q, hqe⟩ : ∃ q : Nat, (d1.2.1[k]).1 = (q : Int) := ⟨(d1.2.1[k]).1.toNat, by omega⟩
   obtain ⟨LB, hLB⟩ : ∃ LB, LB = (d1.2.1[k]).2 := ⟨_, rfl⟩
   have HEL := hide (show d1.2.1[k] = ((q : Int), LB) by rw [← hqe, hLB])
   rw [hqe] at q0 p1 p2
   rw [← hLB] at p3 q2 q1
   rw [p3] at q1 q2
   have hq : q < cnt := by omega
   have HLB := hide p3
   have HPB := hide q2
   have HLK := hide (setBs_len' d1.1 d1.2.1 k cnt (E1.out.trans HL1.out) HP1.out)
   clear q2 p1 p2 p3 hqe hLB k3
   have hK : Keeps (fun wx => (wx.cell? ⟨w.heap.size, 0, none⟩ = some (.slice (some ⟨g0, 0, none⟩) n1 cap) ∧ wx.cell? ⟨w.heap.size, 1, none⟩ = some (.slice (some ⟨gw, 0, none⟩) n2 c2) ∧ wx.cell? ⟨w.heap.size, 2, none⟩ = some (.slice a3 n3 c3)) ∧ (wx.cell? ⟨gw, k * 2, none⟩ = some (.int .i64 q) ∧ wx.cell? ⟨gw, k * 2 + 1, none⟩ = some (.slice (some ⟨gp, 0, none⟩) 128 cp))) := ((keeps_cell _ _).and ((keeps_cell _ _).and (keeps_cell _ _))).and ((keeps_cell _ _).and (keeps_cell _ _))
   go_wp2
   refine reg_begin hK (by kernel_rfl) ⟨⟨k0, k1, k2⟩, q0, q1⟩ ?_
   intro hS
   refine reg_plan [0, 1, 2, 3, 4, 5] (fuel := 1) (a' := ?zp2a) (by kernel_rfl) (by kernel_rfl) (by kernel_rfl) ?zp2p hS ?zp2n
   case zp2p =>
    iterate 6 (apply Yl.cons rfl (by kernel_rfl); focus (rintro wx ⟨⟨x1, x2, x3⟩, x4, x5⟩; go_simp; all_goals (with_reducible rfl)); try simp only [Act.put, List.setIfInBounds_toArray, List.set_cons_zero, List.set_cons_succ])
    exact Yl.nil
   refine reg_callg (i := 6) (R := fun v wy => v = .tuple #[] ∧ wr.drew.grownBy wy (some g0) ∧ OwB wy w0.heap.size (.slice (some ⟨g0, 0, none⟩) n1 cap) (setB (setBs d1.1 (d1.2.1.take k)) (q, LB))) rfl (by kernel_rfl) (by rfl) (by obtain ⟨⟨x1, x2, x3⟩, x4, x5⟩ := hS; go_simp) ((rlast_any w0.heap.size B g0 gp n1 cap cp cnt q (setBs d1.1 (d1.2.1.take k)) LB (.slice (some ⟨gw, 0, none⟩) n2 c2) (.slice a3 n3 c3) wr.drew (ho.out.carry (Below.refl _ _).drew) hB2 (HPB.out.carry (Below.refl _ _).drew) HLK.out hcnt hq HLB.out).mono fun e wy ⟨h1, h2, h3⟩ => ⟨_, h1, rfl, h2, h3⟩) ?_
   rintro v59 w9 ⟨rfl, hg9, ho9⟩
   have hS9 : (fun wx => (wx.cell? ⟨w.heap.size, 0, none⟩ = some (.slice (some ⟨g0, 0, none⟩) n1 cap) ∧ wx.cell? ⟨w.heap.size, 1, none⟩ = some (.slice (some ⟨gw, 0, none⟩) n2 c2) ∧ wx.cell? ⟨w.heap.size, 2, none⟩ = some (.slice a3 n3 c3)) ∧ (wx.cell? ⟨gw, k * 2, none⟩ = some (.int .i64 q) ∧ wx.cell? ⟨gw, k * 2 + 1, none⟩ = some (.slice (some ⟨gp, 0, none⟩) 128 cp))) w9 := by
    obtain ⟨⟨x1, x2, x3⟩, x4, x5⟩ := hS
    exact ⟨⟨hg9.cell x1 (by simp; omega), hg9.cell x2 (by simp; omega), hg9.cell x3 (by simp; omega)⟩, hg9.cell x4 (by simp; omega), hg9.cell x5 (by simp; omega)⟩
   refine ⟨hS9, ?_⟩
   clear hS
   have hS := hS9
   try simp only [Act.put, List.setIfInBounds_toArray, List.set_cons_zero, List.set_cons_succ]
   refine wpAnyH_done (by kernel_rfl) ?_ _
   refine NoPanic.normal ?_
   have HOX := hide (show OwB w9 w0.heap.size (.slice (some ⟨g0, 0, none⟩) n1 cap) (setBs d1.1 (d1.2.1.take (k + 1))) by rw [setBs_take _ _ _ hkl, HEL.out]; exact ho9)
   have hgx := grown_trans (grown_trans hgr (grown_none (grown_of_below (Below.refl wr.heap.size wr).drew) (some g0))) hg9
   clear hS hS9 ho9 hg9 hK
   go_wp2
   go_roundw
   case rel => exact ⟨k + 1, by omega, by go_num, HOX.out, hgx⟩
   case measure => simp [intOf] <;> omega
  ·have hlt' : decide ((k : Int) < n2) = false := by simpa using (by omega : ¬ (k : Int) < n2)
   have hdata : OwB wr w0.heap.size (.slice (some ⟨g0, 0, none⟩) n1 cap) (setBs d1.1 d1.2.1) := by
    have := ho.out
    rwa [List.take_of_length_le (by have := E2.out; omega)] at this
   obtain ⟨wt, ewt, hwt, hgt⟩ := stored3at1 (.slice none 0 0) hdr
   have hRr : wr.heap[w.heap.size + 2]? = some (.cells #[.slice none 0 0, .slice none 0 0, .slice none 0 0] 27 (0, 0)) := (hgr.block _ (Array.getElem?_eq_some_iff.1 hRs).1 (by simp; omega)).trans hRs
   have hRt : wt.heap[w.heap.size + 2]? = some (.cells #[.slice none 0 0, .slice none 0 0, .slice none 0 0] 27 (0, 0)) := (hgt.block _ (Array.getElem?_eq_some_iff.1 hRr).1 (by simp)).trans hRr
   have hbr : Below w0.heap.size w0 wr := hbs.grown hgr hbs.size (fun j hj => by cases hj; exact hB)
   have hbt : Below w0.heap.size w0 wt := hbr.grown hgt hbr.size (fun j hj => by cases hj; exact hgD)
   have hln : (setBs d1.1 d1.2.1).length = n1 := by
    have := hdata.len
    omega
   have HO1 := hide (hdata.keptT hgt (fun j hj => by cases hj; exact ⟨_, _, _, hdr, by decide⟩))
   have HO3 := hide ((O3.out.grown hgr hB2).keptT hgt (fun j hj => by cases hj; exact ⟨_, _, _, hdr, by decide, by decide⟩))
   have hBt : B ≤ wt.heap.size := Nat.le_trans hBw (Nat.le_trans hgr.size hgt.size)
   obtain ⟨m0, m1, m2, m3⟩ := cells3 hwt
   obtain ⟨wu, ewu, hwu, hgu⟩ := stored3 (.slice (some ⟨g0, 0, none⟩) n1 cap) (.slice none 0 0) (.slice a3 n3 c3) hRt
   obtain ⟨z1, z2, z3, z4⟩ := cells3 hRt
   obtain ⟨q1, q2, q3, q4⟩ := cells3 hwu
   have hbu := hbt.grown hgu hbt.size (fun j hj => by cases hj; omega)
   have hkdu := ((hkd.grown hgr (fun j hj => by cases hj; exact .inr (by obtain ⟨cs, hh⟩ := row_block O1.out g0 rfl; exact ⟨cs, _, _, hh, by decide⟩))).grown hgt (fun j hj => by cases hj; exact .inl (Nat.le_refl _))).grown hgu (fun j hj => by cases hj; exact .inl (by omega))
   have HV : Hid (Dv wu w0.heap.size B (.agg #[.slice (some ⟨g0, 0, none⟩) n1 cap, .slice none 0 0, .slice a3 n3 c3]) (setBs d1.1 d1.2.1, [], d1.2.2)) := by
    have h := Dp.value (gD := 0) (gR := w.heap.size + 2) (ws := wu) (d := (setBs d1.1 d1.2.1, [], d1.2.2)) (cap := cap) (a2 := none) (c2 := 0) (a3 := a3) (c3 := c3) hB hB2 hBt ⟨_, hRt⟩ (by dsimp only; rw [hln]; exact HO1.out) ⟨[], rfl, World.ownsRow_nil _ _ _ _, by simp⟩ (by dsimp only; rw [E3.out]; exact HO3.out) hgu
    dsimp only at h
    rw [hln, E3.out] at h
    exact h
   clear hdr hdata hwt hgt hRr hRt hbr hbt hln HO1 HO3 hwu hgu hgr ho
   go_wp2
   refine bodyPost_ret (v := .tuple #[.agg #[.slice (some ⟨g0, 0, none⟩) n1 cap, .slice none 0 0, .slice a3 n3 c3], .int .i64 0]) ?_ rfl ?_
   ·simp [results, Tryz.results199, go_sem, *]
   ·exact ⟨_, _, rfl, hkdu, ⟨_, _, _, _, _, _, _, _, _, rfl⟩, hbu, .inr ⟨_, congrArg some HR.out, rfl, HV.out⟩⟩
theorem one_full (w0 : World) (B : Nat) (d : Dk) (v : Value) (s : Bool) (N : Int) (x : Option Addr) (m c : Nat) (w : World) (hD : Dv w w0.heap.size B v d) (hbel : Below w0.heap.size w0 w) (hf : 65536 ≤ d.2.2.length ∨ (s = false ∧ 65536 ≤ d.2.1.length)) :
  Calls Tryz.prog 199 #[v, .agg #[.bool s, .int .i64 N, .slice x m c]] w fun e w' => ∃ v' r, e = .returned (.tuple #[v', .int .i64 r]) ∧ OneR w0 w w' B none v' r := by
 obtain ⟨g0, cap, a2, c2, a3, c3, rfl, hB, hB2, hBw0, o1, o2, o3⟩ := hD
 clear o1 o2 o3
 obtain ⟨w1, ew⟩ : ∃ w1, ((w.alloc (.cells #[.slice (some ⟨g0, 0, none⟩) d.1.length cap, .slice a2 d.2.1.length c2, .slice a3 d.2.2.length c3] 27)).alloc (.cells #[.bool s, .int .i64 N, .slice x m c] 206)).alloc (.cells #[.slice none 0 0, .slice none 0 0, .slice none 0 0] 27) = w1 := ⟨_, rfl⟩
 have hb1 : Below w.heap.size w w1 := by rw [← ew]; exact (((Below.refl _ _).alloc (Nat.le_refl _) _).alloc (by simp) _).alloc (by simp; omega) _
 have hd1 : w1.heap[w.heap.size]? = some (.cells #[.slice (some ⟨g0, 0, none⟩) d.1.length cap, .slice a2 d.2.1.length c2, .slice a3 d.2.2.length c3] 27 (0, 0)) := by
  rw [← ew, heap_alloc_old _ _ (by simp; omega), heap_alloc_old _ _ (by simp)]; exact heap_alloc_new _ _
 have hA1 : w1.heap[w.heap.size + 1]? = some (.cells #[.bool s, .int .i64 N, .slice x m c] 206 (0, 0)) := by
  rw [← ew, heap_alloc_old _ _ (by simp)]; exact heap_alloc2 _ _ _
 have hR1 : w1.heap[w.heap.size + 2]? = some (.cells #[.slice none 0 0, .slice none 0 0, .slice none 0 0] 27 (0, 0)) := by
  rw [← ew]
  have := heap_alloc2 (w.alloc (.cells #[.slice (some ⟨g0, 0, none⟩) d.1.length cap, .slice a2 d.2.1.length c2, .slice a3 d.2.2.length c3] 27)) (.cells #[.bool s, .int .i64 N, .slice x m c] 206) (.cells #[.slice none 0 0, .slice none 0 0, .slice none 0 0] 27)
  simpa using this
 have hbw1 : Below w0.heap.size w0 w1 := hbel.trans (hb1.mono hbel.size)
 have hws := hbel.size
 obtain ⟨k0, k1, k2, _⟩ := cells3 hd1
 obtain ⟨b0, b1, b2, _⟩ := cells3 hA1
 obtain ⟨ws, ews, hws', hgs⟩ := stored3 (.slice (some ⟨g0, 0, none⟩) d.1.length cap) (.slice a2 d.2.1.length c2) (.slice a3 d.2.2.length c3) hR1
 obtain ⟨z1, z2, z3, z4⟩ := cells3 hR1
 obtain ⟨q1, q2, q3, q4⟩ := cells3 hws'
 have hbu := hbw1.grown hgs hbw1.size (fun j hj => by cases hj; omega)
 have hkdu := ((KD.refl w).below hb1).grown hgs (fun j hj => by cases hj; exact .inl (by omega))
 clear hd1 hA1 hR1 hws' hgs hbw1
 by_cases h3 : 65536 ≤ d.2.2.length
 ·have hg3 : ((65536 : Int) ≤ d.2.2.length) = True := by simp; omega
  have hg3' : decide ((65536 : Int) ≤ d.2.2.length) = true := by simp; omega
  go_enter Tryz.func199, Tryz.ntmps199
  go_wp2
  refine bodyPost_ret (v := .tuple #[.agg #[.slice (some ⟨g0, 0, none⟩) d.1.length cap, .slice a2 d.2.1.length c2, .slice a3 d.2.2.length c3], .int .i64 9]) ?_ rfl ?_
  ·simp [results, Tryz.results199, go_sem, *]
  ·exact ⟨_, _, rfl, hkdu, ⟨_, _, _, _, _, _, _, _, _, rfl⟩, hbu, .inl ⟨rfl, rfl⟩⟩
 ·obtain ⟨rfl, h2⟩ : s = false ∧ 65536 ≤ d.2.1.length := by rcases hf with h | h; exact absurd h h3; exact h
  have hg2 : ((65536 : Int) ≤ d.2.1.length) = True := by simp; omega
  have hg2' : decide ((65536 : Int) ≤ d.2.1.length) = true := by simp; omega
  have hg3 : ((65536 : Int) ≤ d.2.2.length) = False := by simp; omega
  have hg3' : decide ((65536 : Int) ≤ d.2.2.length) = false := by simp; omega
  go_enter Tryz.func199, Tryz.ntmps199
  go_wp2
  refine bodyPost_ret (v := .tuple #[.agg #[.slice (some ⟨g0, 0, none⟩) d.1.length cap, .slice a2 d.2.1.length c2, .slice a3 d.2.2.length c3], .int .i64 9]) ?_ rfl ?_
  ·simp [results, Tryz.results199, go_sem, *]
  ·exact ⟨_, _, rfl, hkdu, ⟨_, _, _, _, _, _, _, _, _, rfl⟩, hbu, .inl ⟨rfl, rfl⟩⟩
theorem one_any (w0 : World) (B cnt : Nat) (d : Dk) (v : Value) (s : Bool) (N : Int) (x : Option Addr) (m c : Nat) (l : List UInt8) (w : World) (hD : Dv w w0.heap.size B v d) (hbel : Below w0.heap.size w0 w) (hrd : Rd w0 (.slice x m c) l) (hm : m = l.length) (hl : l.length ≤ 140737488355328) (hF : Fine cnt d) (hcnt : cnt ≤ 4096) :
  Calls Tryz.prog 199 #[v, .agg #[.bool s, .int .i64 N, .slice x m c]] w fun e w' => ∃ v' r, e = .returned (.tuple #[v', .int .i64 r]) ∧ OneR w0 w w' B (oneD d (s, N, l)) v' r := by
 obtain ⟨f1, f2, f3, f4⟩ := hF
 by_cases hf : 65536 ≤ d.2.2.length ∨ (s = false ∧ 65536 ≤ d.2.1.length)
 ·have e : oneD d (s, N, l) = none := by unfold oneD; rw [if_pos hf]
  rw [e]; exact one_full w0 B d v s N x m c w hD hbel hf
 ·cases s with
  | false =>
   have e : oneD d (false, N, l) = some (d.1, d.2.1 ++ [(N, l)], d.2.2 ++ [(false, N, l)]) := by unfold oneD; rw [if_neg hf]; rfl
   rw [e]; exact one_write w0 B d v N x m c l w hD hbel hrd hm hl (by have : ¬ 65536 ≤ d.2.1.length := fun h => hf (.inr ⟨rfl, h⟩); omega) (by have : ¬ 65536 ≤ d.2.2.length := fun h => hf (.inl h); omega)
  | true =>
   have e : oneD d (true, N, l) = some (setBs d.1 d.2.1, [], d.2.2 ++ [(true, N, l)]) := by unfold oneD; rw [if_neg hf]; rfl
   rw [e]; exact one_sync w0 B cnt d v N x m c l w hD hbel hrd hm hl f2 (by have : ¬ 65536 ≤ d.2.2.length := fun h => hf (.inl h); omega) f1 hcnt f4
theorem OwD.keptT3 {w w' : World} {base g : Nat} {v : Value} {d : Dk} {cs : Array Value} (h : OwD w base v d) (hg : w.grownBy w' (some g)) (hh : w.heap[g]? = some (.cells cs 27 (0, 0))) : OwD w' base v d := by
 obtain ⟨⟨t1, t2, t3⟩, t4, t5, t6⟩ := ne_types
 obtain ⟨a, b, c, rfl, h1, h2, h3⟩ := h
 exact ⟨a, b, c, rfl, h1.keptT hg (fun k hk => by cases hk; exact ⟨_, _, _, hh, t3⟩), h2.keptT hg (fun k hk => by cases hk; exact ⟨_, _, _, hh, t3, t5⟩), h3.keptT hg (fun k hk => by cases hk; exact ⟨_, _, _, hh, t3, t6⟩)⟩
def errD (d : Dk) (l : List Ac) : Int := if chk d ≠ 0 then chk d else firstE (mny d) l
theorem doD_err' (d : Dk) (l : List Ac) (many : Int) (h : errD d l ≠ 0) : doD d l many = (dz, errD d l) := by
 unfold doD
 unfold errD at h ⊢
 by_cases hc : chk d = 0
 ·have hx : ¬ (chk d ≠ 0) := by simpa using hc
  simp only [if_neg hx] at h ⊢
  rw [if_pos h]
 ·rw [if_pos hc, if_pos hc]
theorem errD_zero (d : Dk) (l : List Ac) (h : errD d l = 0) : chk d = 0 ∧ firstE (mny d) l = 0 := by
 unfold errD at h
 by_cases hc : chk d = 0
 ·rw [if_neg (by simpa using hc)] at h
  exact ⟨hc, h⟩
 ·rw [if_pos hc] at h; exact absurd h hc
theorem doD_go (d : Dk) (l : List Ac) (mn : Nat) (h : errD d l = 0) (hm : mn ≤ l.length) : doD d l mn = (match onesD d (l.take mn) with | none => (dz, 9) | some x => (x, 0)) := by
 obtain ⟨h1, h2⟩ := errD_zero d l h
 unfold doD
 rw [if_neg (by rw [h1]; decide), if_neg (by rw [h2]; decide), if_neg (by omega)]
 rfl
def Turned (w w' : World) : Prop := w.heap.size ≤ w'.heap.size ∧ (∀ (i : Nat) cs t fr, w.heap[i]? = some (.cells cs t fr) → t ≠ 5 → w'.heap[i]? = some (.cells cs t fr)) ∧
 ∀ (base g n c : Nat) (l : List UInt8), OwB w base (.slice (some ⟨g, 0, none⟩) n c) l → ∃ l', OwB w' base (.slice (some ⟨g, 0, none⟩) n c) l'
theorem Turned.refl (w : World) : Turned w w := ⟨Nat.le_refl _, fun _ _ _ _ h _ => h, fun _ _ _ _ l h => ⟨l, h⟩⟩
theorem Turned.trans {a b c : World} (h : Turned a b) (k : Turned b c) : Turned a c :=
 ⟨Nat.le_trans h.1 k.1, fun i cs t fr hi ht => k.2.1 i cs t fr (h.2.1 i cs t fr hi ht) ht, fun base g n cc l hO => by
  obtain ⟨l', h'⟩ := h.2.2 base g n cc l hO
  exact k.2.2 base g n cc l' h'⟩
theorem Turned.of_below {a b : World} (h : Below a.heap.size a b) : Turned a b :=
 ⟨h.size, fun i cs t fr hi _ => keeps_block _ _ _ _ hi h, fun base g n c l hO => ⟨l, hO.carry h⟩⟩
theorem Turned.set {w : World} {base g n c : Nat} {l : List UInt8} (h : OwB w base (.slice (some ⟨g, 0, none⟩) n c) l) (j : Nat) (b : UInt8) : Turned w (w.setCell ⟨g, j, none⟩ (.int .u8 b.toNat)) := by
 have hg := (h.stored j b).2
 refine ⟨hg.size, fun i cs t fr hi ht => ?_, fun base' g' n' c' l' hO => ?_⟩
 ·refine (hg.block i (Array.getElem?_eq_some_iff.1 hi).1 fun e => ?_).trans hi
  cases e
  obtain ⟨cs', hc⟩ := row_block h g rfl
  rw [hi] at hc
  cases hc
  exact ht rfl
 ·by_cases e : g' = g
  ·subst e
   exact ⟨_, (hO.stored j b).1⟩
  ·exact ⟨l', World.ownsRow.kept hO hg (.inr (by simp [Value.ownBlock]; omega))⟩
theorem OwB.turned {w w' : World} {base : Nat} {v : Value} {l : List UInt8} (h : OwB w base v l) (hT : Turned w w') : ∃ l', OwB w' base v l' := by
 rcases id h with ⟨_, ⟨rfl, hn⟩ | ⟨g, cap, cur, rfl, _⟩⟩
 ·exact ⟨[], World.ownsRow_nil _ _ _ _⟩
 ·exact hT.2.2 _ _ _ _ _ h
theorem OwB.len' {w : World} {base n c : Nat} {a : Option Addr} {l : List UInt8} (h : OwB w base (.slice a n c) l) : n = l.length := by
 obtain ⟨a, c', e⟩ := h.form
 cases e; rfl
theorem wrap8 (b : UInt8) : IntKind.u8.wrap ((b.toNat : Int) + 1) = ((b + 1).toNat : Int) := by
 rw [IntKind.wrap_u8, UInt8.toNat_add]
 have : (1 : UInt8).toNat = 1 := rfl
 rw [this]; omega
theorem turn_step {w1 wr : World} {base n c : Nat} {a : Option Addr} {l : List UInt8} (hO : OwB w1 base (.slice a n c) l) (hT : Turned w1 wr) (hB : Below base w1 wr) (k : Nat) (hk : k < n) :
  ∃ (g : Nat) (bk bj : Int), a = some ⟨g, 0, none⟩ ∧ wr.cell? ⟨g, k, none⟩ = some (.int .u8 bk) ∧ wr.frozen? ⟨g, k, none⟩ = false ∧ IntKind.u8.wrap (bk + 1) = bj ∧
   Hid (Turned w1 (wr.drew.setCell ⟨g, k, none⟩ (.int .u8 bj)) ∧ Below base w1 (wr.drew.setCell ⟨g, k, none⟩ (.int .u8 bj))) := by
 have hn := hO.len'
 rcases id hO with ⟨_, ⟨_, h0⟩ | ⟨g, cap, cur, e, hg, _⟩⟩
 ·omega
 cases e
 obtain ⟨l', hO'⟩ := hO.turned hT
 have hn' := hO'.len'
 have hk' : k < l'.length := by omega
 refine ⟨g, (l'[k]).toNat, _, rfl, hO'.at k hk', hO'.fz k, wrap8 _, ?_, ?_⟩
 ·have := (hO'.carry (Below.refl wr.heap.size wr).drew).stored k (l'[k] + 1)
  exact (hT.trans (Turned.of_below (Below.refl wr.heap.size wr).drew)).trans (Turned.set (hO'.carry (Below.refl wr.heap.size wr).drew) k _)
 ·exact hB.drew.setCell hg _
theorem exec_app {P : Program} {o : Oper} {a : Act} {s x : Operand} {t : TypeId} {vs vx v : Value} {w w' : World} (ho : o.op = .call { callee := .builtin .append, args := #[s, x], argTypes := #[t, t] }) (hs : a.eval s = vs) (hx : a.eval x = vx) (hrun : (Builtin.append_ #[t, t] o.type #[vs, vx]).run P w = .ok v w') : (execOp a.eval o).run P w = .ok (.value v) w' := by
 simp [execOp, ho, resolve, invoke, builtin, hs, hx, hrun, Result.andThen]
theorem OwVw.keepT9 {w w' : World} {base : Nat} {v : Value} {R : Lvs} {t : TypeId} (h : OwVw w base v R) (hk : KeepG t w w') (h1 : 124 ≠ t) (h2 : 105 ≠ t) : OwVw w' base v R :=
 ⟨OwG.keep h.1 hk h2, fun p hp => OwG.keep (h.2 p hp) hk h1⟩
theorem lvs_snoc9 {S : Lvs} {k : Nat} (h : k < S.length) : lvs (S.take (k + 1)) = lvs (S.take k) ++ [(S[k]).2] := by
 show (S.take (k + 1)).map (·.2) = _
 rw [List.take_succ_eq_append_getElem h, List.map_append]
 rfl
theorem version_mr (w0 : World) (q : Nat) (s : Mst) (w : World) (h : MrS w0 w q s) :
  Calls Tryz.prog 49 #[.pointer (some ⟨q, 0, none⟩)] w fun e w' => ∃ a c S, e = .returned (.agg #[.slice a 4 c, .int .i64 (verM s).1.2.1, .int .i64 (verM s).1.2.2.1, .string (bs (verM s).1.2.2.2)]) ∧ OwVw w' w.heap.size (.slice a 4 c) S ∧ lvs S = (verM s).1.1 ∧ MrS w0 w' q (verM s).2 ∧ MrK w w' := by
 obtain ⟨w1, hw1⟩ : ∃ w1, w1 = w.alloc (.cells #[.slice none 0 0, .int .i64 0, .int .i64 0, .string { data := #[] }] 36) := ⟨_, rfl⟩
 have hb1 : Below w.heap.size w w1 := by rw [hw1]; exact (Below.refl _ _).alloc (Nat.le_refl _) _
 have hs1 : w1.heap.size = w.heap.size + 1 := by rw [hw1]; simp
 have hx1 : Bx w1 w.heap.size 36 #[.slice none 0 0, .int .i64 0, .int .i64 0, .string { data := #[] }] := by rw [hw1]; exact Bx.new w _ _
 obtain ⟨w2, hmk, o2, b2⟩ := make_w w1 4 (by omega)
 have hmk2 : (Instr.makeSlice 34 (.int .i64 4) (.int .i64 4)).run Tryz.prog w1 = .ok (.slice (some ⟨w1.heap.size, 0, none⟩) 4 4) w2 := hmk
 rw [hs1] at hmk2 o2
 have hx2 := hx1.carry b2
 obtain ⟨r0, r1, r2, r3⟩ : w2.cell? ⟨w.heap.size, 0, none⟩ = some (.slice none 0 0) ∧ w2.cell? ⟨w.heap.size, 1, none⟩ = some (.int .i64 0) ∧ w2.cell? ⟨w.heap.size, 2, none⟩ = some (.int .i64 0) ∧ w2.cell? ⟨w.heap.size, 3, none⟩ = some (.string { data := #[] }) := ⟨hx2.at 0 rfl, hx2.at 1 rfl, hx2.at 2 rfl, hx2.at 3 rfl⟩
 have f0 := hx2.fz 0
 have hge : w0.heap.size ≤ w.heap.size := h.bel.size
 have hm2 := (h.carry hb1).carry b2
 have hk2 : MrK w w2 := (MrK.below hb1).trans (MrK.below b2)
 have hm3 := mr_set hm2 hx2 (by decide) (by decide) hge 0 (.slice (some ⟨w.heap.size + 1, 0, none⟩) 4 4)
 have hk3 := hk2.hi (Nat.le_refl _) 0 (.slice (some ⟨w.heap.size + 1, 0, none⟩) 4 4)
 have hx3 : Bx (w2.setCell ⟨w.heap.size, 0, none⟩ (.slice (some ⟨w.heap.size + 1, 0, none⟩) 4 4)) w.heap.size 36 #[.slice (some ⟨w.heap.size + 1, 0, none⟩) 4 4, .int .i64 0, .int .i64 0, .string { data := #[] }] := hx2.put 0 (.slice (some ⟨w.heap.size + 1, 0, none⟩) 4 4)
 have ho3 : OwG 1 ecW 105 (w2.setCell ⟨w.heap.size, 0, none⟩ (.slice (some ⟨w.heap.size + 1, 0, none⟩) 4 4)) (w.heap.size + 1) (.slice (some ⟨w.heap.size + 1, 0, none⟩) 4 4) (List.replicate 4 zVw) := OwG.keep o2 (keepX_set hx2 0 _) (by decide)
 have hl3 : LvH (w2.setCell ⟨w.heap.size, 0, none⟩ (.slice (some ⟨w.heap.size + 1, 0, none⟩) 4 4)) (w.heap.size + 1) (w.heap.size + 1) 0 (List.replicate 4 zVw) :=
  ⟨ho3, rfl, fun k _ hk => absurd hk (by omega), fun k hk _ => by rw [List.getElem_replicate]; rfl, by have := b2.size; simp; omega⟩
 obtain ⟨w3, hw3⟩ : ∃ w3, w3 = w2.setCell ⟨w.heap.size, 0, none⟩ (.slice (some ⟨w.heap.size + 1, 0, none⟩) 4 4) := ⟨_, rfl⟩
 rw [← hw3] at hm3 hk3 hx3 hl3
 have HM3 := hide hm3
 have HK3 := hide hk3
 have HX3 := hide hx3
 have HL3 := hide hl3
 have HGE := hide hge
 have e3 := hw3.symm
 obtain ⟨u0, u1, u2, u3⟩ : w3.cell? ⟨w.heap.size, 0, none⟩ = some (.slice (some ⟨w.heap.size + 1, 0, none⟩) 4 4) ∧ w3.cell? ⟨w.heap.size, 1, none⟩ = some (.int .i64 0) ∧ w3.cell? ⟨w.heap.size, 2, none⟩ = some (.int .i64 0) ∧ w3.cell? ⟨w.heap.size, 3, none⟩ = some (.string { data := #[] }) := ⟨hx3.at 0 rfl, hx3.at 1 rfl, hx3.at 2 rfl, hx3.at 3 rfl⟩
 clear hm3 hk3 hx3 hl3 ho3 hm2 hk2 hx2 hx1 hge hmk o2 b2 hb1 h hw3
 go_enter Tryz.func49, Tryz.ntmps49
 go_wp2_with (first | (refine wpList_mkY rfl _ _ _ rfl rfl rfl (w' := w2) (v' := .slice (some ⟨w.heap.size + 1, 0, none⟩) 4 4) (by rw [← hw1]; exact hmk2) ?_) | fail)
 clear hw1 hmk2 r0 r1 r2 r3 f0 e3 u0 u1 u2 u3 hs1
 go_loopw [9] (fun i wr => ∃ (k : Nat) (S : Lvs), k ≤ 4 ∧ i = .int .i64 k ∧ Hid (LvH wr (w.heap.size + 1) (w.heap.size + 1) k S) ∧ Hid (lvs (S.take k) = (levM k s).1) ∧ Hid (MrS w0 wr q (levM k s).2) ∧ Hid (Bx wr w.heap.size 36 #[.slice (some ⟨w.heap.size + 1, 0, none⟩) 4 4, .int .i64 0, .int .i64 0, .string { data := #[] }]) ∧ Hid (MrK w wr)) (fun i _ => 4 - (intOf i).toNat)
 case atStart => exact ⟨0, _, by omega, rfl, HL3, hide rfl, HM3, HX3, HK3⟩
 case round =>
  clear HM3 HK3 HX3 HL3
  obtain ⟨k, S, hk, rfl, hL, hE, hM, hX, hKw⟩ := hrel
  by_cases hlt : k < 4
  ·have hlt' : (k : Int) < 4 := by omega
   obtain ⟨N, hN⟩ : ∃ N, N = numM 32 (levM k s).2 := ⟨_, rfl⟩
   have HNN := hide hN
   have hcon := number_mr w0 q 32 (levM k s).2 wr hM.out (by decide)
   rw [← hN] at hcon
   have hn32 : N.1 ≤ 32 := by rw [hN]; exact numM_le _ _
   clear hN
   go_wp2_with fail
   refine hcon.mono ?_
   rintro e w4 ⟨rfl, h9, k9⟩
   have HM4 := hide h9
   have HX4 := hide (hX.out.keep k9.1 (by decide))
   have HI4 := hide ((hL.out.keep k9.1 (by decide) (by decide) k9.2).begin)
   have HK4 := hide (hKw.out.trans k9)
   obtain ⟨hi, hhi⟩ : ∃ hi, hi = w4.heap.size := ⟨_, rfl⟩
   rw [← hhi] at HI4
   have HS4 := hide hL.out.up
   clear hcon h9 k9 hhi hM hX hKw
   obtain ⟨nn, hnn⟩ : ∃ nn, nn = N.1 := ⟨_, rfl⟩
   rw [← hnn] at hn32 ⊢
   have HN1 := hide hnn
   clear hnn
   go_wp2
   go_loopw [14] (fun i wr => ∃ (j : Nat) (T : Lvs), j ≤ nn ∧ i = .int .i64 j ∧ Hid (LvI wr (w.heap.size + 1) hi (w.heap.size + 1) k T) ∧ Hid (lvs (T.take k) = (levM k s).1 ∧ ∀ h : k < T.length, (T[k]).2 = (tbsM j N.2).1) ∧ Hid (MrS w0 wr q (tbsM j N.2).2) ∧ Hid (Bx wr w.heap.size 36 #[.slice (some ⟨w.heap.size + 1, 0, none⟩) 4 4, .int .i64 0, .int .i64 0, .string { data := #[] }]) ∧ Hid (MrK w wr)) (fun i _ => nn - (intOf i).toNat)
   case atStart => exact ⟨0, S, by omega, rfl, HI4, hide ⟨hE.out, fun h9 => by rw [HS4.out k h9 (Nat.le_refl _)]; rfl⟩, HM4, HX4, HK4⟩
   case round =>
    clear HM4 HX4 HI4 HK4
    obtain ⟨j, T, hj, rfl, hI, hT, hM, hX, hKw⟩ := hrel
    by_cases hjl : j < nn
    ·have hjl' : (j : Int) < nn := by omega
     have hk4 : k < T.length := by have := hI.out.len; omega
     have dr : Below wr.heap.size wr wr.drew := (Below.refl _ _).drew
     obtain ⟨a0, n0, c0, l0, hrow, hn0⟩ := hI.out.row hk4
     have hl0 : l0 = (tbsM j N.2).1 := by have := hT.out.2 hk4; rw [hrow] at this; exact this
     have hl0n : l0.length ≤ 100000 := by rw [hl0, tbsM_len]; omega
     have HId := hide (hI.out.carry dr)
     have HMd := hide (hM.out.carry dr)
     have HXd := hide (hX.out.carry dr)
     have HKd := hide (hKw.out.trans (MrK.below dr))
     obtain ⟨M, hMt⟩ : ∃ M, M = tabM (tbsM j N.2).2 := ⟨_, rfl⟩
     have HMM := hide hMt
     clear hMt
     have hK : Keeps (fun wx => Bx wx w.heap.size 36 #[.slice (some ⟨w.heap.size + 1, 0, none⟩) 4 4, .int .i64 0, .int .i64 0, .string { data := #[] }] ∧ wx.cell? ⟨w.heap.size + 1, k, none⟩ = some (.slice a0 n0 c0)) := fun wx wy h9 hb => ⟨h9.1.carry hb, keeps_cell _ _ wx wy h9.2 hb⟩
     have hS0 : (fun wx => Bx wx w.heap.size 36 #[.slice (some ⟨w.heap.size + 1, 0, none⟩) 4 4, .int .i64 0, .int .i64 0, .string { data := #[] }] ∧ wx.cell? ⟨w.heap.size + 1, k, none⟩ = some (.slice a0 n0 c0)) wr := ⟨hX.out, by have := hI.out.cell hk4; rw [hrow] at this; exact this⟩
     have h0 := hX.out.at 0 rfl
     have HROW := hide hrow
     have HL0 := hide hl0
     have HL0n := hide hl0n
     have HT := hide hT.out.1
     clear hI hT hM hX hKw dr hrow hl0 hl0n hn0
     go_wp2
     refine regL_begin hK 13 (by kernel_rfl) hS0 ?_
     clear hS0 h0
     intro hS
     generalize wr.drew = wd at *
     refine regL_take (i := 0) (v := ?qvv0) rfl (by kernel_rfl) (by kernel_rfl) (by kernel_rfl) rfl (by kernel_rfl) (by kernel_rfl) (by kernel_rfl) ?qvy0 hS ?qvr0
     case qvy0 => (rintro wx ⟨x1, x2⟩; (have y0 := x1.at 0 rfl); go_simp; all_goals (with_reducible rfl))
     try simp only [Act.put, List.setIfInBounds_toArray, List.set_cons_zero, List.set_cons_succ]
     refine regL_take (i := 1) (v := ?qvv1) rfl (by kernel_rfl) (by kernel_rfl) (by kernel_rfl) rfl (by kernel_rfl) (by kernel_rfl) (by kernel_rfl) ?qvy1 hS ?qvr1
     case qvy1 => (rintro wx ⟨x1, x2⟩; (have y0 := x1.at 0 rfl); go_simp; all_goals (with_reducible rfl))
     try simp only [Act.put, List.setIfInBounds_toArray, List.set_cons_zero, List.set_cons_succ]
     refine regL_take (i := 2) (v := ?qvv2) rfl (by kernel_rfl) (by kernel_rfl) (by kernel_rfl) rfl (by kernel_rfl) (by kernel_rfl) (by kernel_rfl) ?qvy2 hS ?qvr2
     case qvy2 => (rintro wx ⟨x1, x2⟩; (have y0 := x1.at 0 rfl); go_simp; all_goals (with_reducible rfl))
     try simp only [Act.put, List.setIfInBounds_toArray, List.set_cons_zero, List.set_cons_succ]
     refine regL_take (i := 3) (v := ?qvv3) rfl (by kernel_rfl) (by kernel_rfl) (by kernel_rfl) rfl (by kernel_rfl) (by kernel_rfl) (by kernel_rfl) ?qvy3 hS ?qvr3
     case qvy3 => (rintro wx ⟨x1, x2⟩; (have y0 := x1.at 0 rfl); go_simp; all_goals (with_reducible rfl))
     try simp only [Act.put, List.setIfInBounds_toArray, List.set_cons_zero, List.set_cons_succ]
     refine regL_take (i := 4) (v := ?qvv4) rfl (by kernel_rfl) (by kernel_rfl) (by kernel_rfl) rfl (by kernel_rfl) (by kernel_rfl) (by kernel_rfl) ?qvy4 hS ?qvr4
     case qvy4 => (rintro wx ⟨x1, x2⟩; (have y0 := x1.at 0 rfl); go_simp; all_goals (with_reducible rfl))
     try simp only [Act.put, List.setIfInBounds_toArray, List.set_cons_zero, List.set_cons_succ]
     refine regL_take (i := 5) (v := ?qvv5) rfl (by kernel_rfl) (by kernel_rfl) (by kernel_rfl) rfl (by kernel_rfl) (by kernel_rfl) (by kernel_rfl) ?qvy5 hS ?qvr5
     case qvy5 => (rintro wx ⟨x1, x2⟩; (have y0 := x1.at 0 rfl); go_simp; all_goals (with_reducible rfl))
     try simp only [Act.put, List.setIfInBounds_toArray, List.set_cons_zero, List.set_cons_succ]
     refine regL_take (i := 6) (v := ?qvv6) rfl (by kernel_rfl) (by kernel_rfl) (by kernel_rfl) rfl (by kernel_rfl) (by kernel_rfl) (by kernel_rfl) ?qvy6 hS ?qvr6
     case qvy6 => (rintro wx ⟨x1, x2⟩; (have y0 := x1.at 0 rfl); go_simp; all_goals (with_reducible rfl))
     try simp only [Act.put, List.setIfInBounds_toArray, List.set_cons_zero, List.set_cons_succ]
     refine regL_take (i := 7) (v := ?qvv7) rfl (by kernel_rfl) (by kernel_rfl) (by kernel_rfl) rfl (by kernel_rfl) (by kernel_rfl) (by kernel_rfl) ?qvy7 hS ?qvr7
     case qvy7 => (rintro wx ⟨x1, x2⟩; (have y0 := x1.at 0 rfl); go_simp; all_goals (with_reducible rfl))
     try simp only [Act.put, List.setIfInBounds_toArray, List.set_cons_zero, List.set_cons_succ]
     refine regL_take (i := 8) (v := ?qvv8) rfl (by kernel_rfl) (by kernel_rfl) (by kernel_rfl) rfl (by kernel_rfl) (by kernel_rfl) (by kernel_rfl) ?qvy8 hS ?qvr8
     case qvy8 => (rintro wx ⟨x1, x2⟩; (have y0 := x1.at 0 rfl); go_simp; all_goals (with_reducible rfl))
     try simp only [Act.put, List.setIfInBounds_toArray, List.set_cons_zero, List.set_cons_succ]
     have hcon := table_mr w0 q (tbsM j N.2).2 wd HMd.out
     rw [← HMM.out] at hcon
     refine regL_callg (i := 9) (R := fun v wy => v = aggM M.1 ∧ MrS w0 wy q M.2 ∧ MrK wd wy) rfl (by kernel_rfl) (by kernel_rfl) (by go_simp; try rfl) (hcon.mono fun e wy h9 => ⟨_, h9.1, rfl, h9.2.1, h9.2.2⟩) ?_
     rintro v9 wy ⟨rfl, hmy, hky⟩
     have HXy := HXd.out.keep hky.1 (by decide)
     have HIy := HId.out.keep hky.1 (by decide) (by decide) hky.2
     have HKy := HKd.out.trans hky
     have hcy := HIy.cell hk4
     rw [HROW.out] at hcy
     refine ⟨⟨HXy, hcy⟩, ?_⟩
     have hSy : Bx wy w.heap.size 36 #[.slice (some ⟨w.heap.size + 1, 0, none⟩) 4 4, .int .i64 0, .int .i64 0, .string { data := #[] }] ∧ wy.cell? ⟨w.heap.size + 1, k, none⟩ = some (.slice a0 n0 c0) := ⟨HXy, hcy⟩
     clear hS hcon
     have hS := hSy
     clear hSy
     obtain ⟨g8, n8, c8, w8, hrun, HBl, hkM, hc8, hf8, hI8, hB8, hk8⟩ := HIy.app hk4 HROW.out HL0n.out M.1
     have HX8 := HXy.keep hkM (by decide)
     have HM8 := (MrS.keep hmy hkM (by decide) (by decide) (hmy.bel.trans (HBl.mono (by have := HIy.bh; have := HGE.out; omega))))
     unfold aggM
     try simp only [Act.put, List.setIfInBounds_toArray, List.set_cons_zero, List.set_cons_succ]
     refine regL_run (i := 10) (v := .slice (some ⟨wy.heap.size, 0, none⟩) 1 1) (w' := wy.alloc (.cells #[.string (bs M.1.1), .int .i64 M.1.2.1, .int .i64 M.1.2.2.1, .string (bs (Mlo M.1)), .string (bs (Mhi M.1))] 124)) rfl (by kernel_rfl) (by kernel_rfl) (by go_simp) (fun _ => hK _ _ hS ((Below.refl _ _).alloc (Nat.le_refl _) _)) ?_
     try simp only [Act.put, List.setIfInBounds_toArray, List.set_cons_zero, List.set_cons_succ]
     refine regL_run (i := 11) (v := .slice (some ⟨g8, 0, none⟩) n8 c8) (w' := w8) rfl (by kernel_rfl) (by kernel_rfl) (exec_app rfl rfl rfl hrun) (fun _ => ⟨HX8, hc8⟩) ?_
     clear hS
     have hS : Bx w8 w.heap.size 36 #[.slice (some ⟨w.heap.size + 1, 0, none⟩) 4 4, .int .i64 0, .int .i64 0, .string { data := #[] }] ∧ w8.cell? ⟨w.heap.size + 1, k, none⟩ = some (.slice a0 n0 c0) := ⟨HX8, hc8⟩
     try simp only [Act.put, List.setIfInBounds_toArray, List.set_cons_zero, List.set_cons_succ]
     refine regL_run (i := 12) (v := .pointer (some ⟨w.heap.size + 1, k, none⟩)) (w' := w8) rfl (by kernel_rfl) (by kernel_rfl) (by go_simp) (fun _ => hS) ?_
     try simp only [Act.put, List.setIfInBounds_toArray, List.set_cons_zero, List.set_cons_succ]
     refine regL_last (i := 13) (w' := w8.setCell ⟨w.heap.size + 1, k, none⟩ (.slice (some ⟨g8, 0, none⟩) n8 c8)) rfl (by kernel_rfl) (by kernel_rfl) (by kernel_rfl) (by go_simp) ?_
     try simp only [Act.put, List.setIfInBounds_toArray, List.set_cons_zero, List.set_cons_succ]
     refine wpAnyL_done (by kernel_rfl) ?_ _
     refine NoPanic.normal ?_
     have HI9 := hide hI8
     have HX9 := hide (HX8.keep hk8 (by decide))
     have HM9 := hide (show MrS w0 (w8.setCell ⟨w.heap.size + 1, k, none⟩ (.slice (some ⟨g8, 0, none⟩) n8 c8)) q (tbsM (j + 1) N.2).2 by
      rw [tbsM, ← HMM.out]
      exact HM8.keep hk8 (by decide) (by decide) (belowX_set HM8.bel (by have := HGE.out; omega) _ _))
     have HKK9 := hide ((HKy.low HBl (by have := HIy.bh; omega)).hi (show w.heap.size ≤ w.heap.size + 1 by omega) k (.slice (some ⟨g8, 0, none⟩) n8 c8))
     have HT9 : lvs ((T.set k (.slice (some ⟨g8, 0, none⟩) n8 c8, l0 ++ [M.1])).take k) = (levM k s).1 ∧ ∀ h : k < (T.set k (.slice (some ⟨g8, 0, none⟩) n8 c8, l0 ++ [M.1])).length, ((T.set k (.slice (some ⟨g8, 0, none⟩) n8 c8, l0 ++ [M.1]))[k]).2 = (tbsM (j + 1) N.2).1 := by
      refine ⟨?_, fun h9 => ?_⟩
      ·rw [List.take_set_of_le (Nat.le_refl _)]; exact HT.out
      ·rw [List.getElem_set_self, tbsM, ← HMM.out, ← HL0.out]
     clear hS hK HXy HIy HKy hmy hky hrun HBl hkM hc8 hI8 hB8 hk8 HX8 HM8
     generalize w8.setCell ⟨w.heap.size + 1, k, none⟩ (.slice (some ⟨g8, 0, none⟩) n8 c8) = w9 at *
     clear hf8
     go_wp2
     go_roundw
     case rel => exact ⟨j + 1, _, by omega, by go_num, HI9, hide HT9, HM9, HX9, HKK9⟩
     case measure => simp only [intOf]; omega
    ·have hd : decide ((j : Int) < nn) = false := by simpa using (by omega : ¬ (j : Int) < nn)
     obtain rfl : j = nn := by omega
     have hk4 : k < T.length := by have := hI.out.len; omega
     have HL9 := hide hI.out.done
     have HE9 := hide (show lvs (T.take (k + 1)) = (levM (k + 1) s).1 by
      rw [lvs_snoc9 hk4, hT.out.1, hT.out.2 hk4, levM, ← HNN.out, ← HN1.out])
     have HM9 := hide (show MrS w0 wr q (levM (k + 1) s).2 by
      rw [levM, ← HNN.out, ← HN1.out]; exact hM.out)
     clear hI hT hM hk4
     go_wp2
     go_roundw
     case rel => exact ⟨k + 1, T, by omega, by go_num, HL9, HE9, HM9, hX, hKw⟩
     case measure => simp only [intOf]; omega
  ·have hd : decide ((k : Int) < 4) = false := by simpa using (by omega : ¬ (k : Int) < 4)
   obtain rfl : k = 4 := by omega
   have HO := hide hL.out.all
   have HE := hide (show lvs S = (levM 4 s).1 by have := hE.out; rw [List.take_of_length_le (by have := hL.out.len; omega)] at this; exact this)
   clear hL hE hlt hk
   have hcon := number_mr w0 q 1099511627776 ((levM 4 s).2) wr hM.out (by decide)
   obtain ⟨x0, hx0⟩ : ∃ x, x = numM 1099511627776 ((levM 4 s).2) := ⟨_, rfl⟩
   rw [← hx0] at hcon
   have HD0 := hide hx0
   clear hx0
   have r0 := hX.out.at 0 rfl
   have r1 := hX.out.at 1 rfl
   have r2 := hX.out.at 2 rfl
   have r3 := hX.out.at 3 rfl
   go_wp2_with fail
   refine hcon.mono ?_
   rintro e w10 ⟨rfl, h9, k9⟩
   have hx9 := hX.out.keep k9.1 (by decide)
   have hk9 := hKw.out.trans k9
   have ho9 := HO.out.keepT9 k9.1 (by decide) (by decide)
   clear hcon hM hX hKw HO k9 r0 r1 r2 r3
   have s0 := hx9.at 0 rfl
   have s1 := hx9.at 1 rfl
   have s2 := hx9.at 2 rfl
   have s3 := hx9.at 3 rfl
   have g0 := hx9.fz 1
   have HM0 := hide (mr_set h9 hx9 (by decide) (by decide) HGE.out 1 (.int .i64 (x0.1 : Nat)))
   have HX0 := hide (show Bx (w10.setCell ⟨w.heap.size, 1, none⟩ (.int .i64 (x0.1 : Nat))) w.heap.size 36 #[.slice (some ⟨w.heap.size + 1, 0, none⟩) 4 4, .int .i64 (x0.1 : Nat), .int .i64 0, .string { data := #[] }] from hx9.put 1 (.int .i64 (x0.1 : Nat)))
   have HK0 := hide (hk9.hi (Nat.le_refl _) 1 (.int .i64 (x0.1 : Nat)))
   have HO0 := hide (ho9.keepT9 (keepX_set hx9 1 (.int .i64 (x0.1 : Nat))) (by decide) (by decide))
   obtain ⟨w11, hww11⟩ : ∃ wn, wn = w10.setCell ⟨w.heap.size, 1, none⟩ (.int .i64 (x0.1 : Nat)) := ⟨_, rfl⟩
   rw [← hww11] at HM0 HX0 HK0 HO0
   clear h9 hx9 hk9 ho9
   have hcon := number_mr w0 q 1099511627776 (x0.2) w11 HM0.out (by decide)
   obtain ⟨x1, hx1⟩ : ∃ x, x = numM 1099511627776 (x0.2) := ⟨_, rfl⟩
   rw [← hx1] at hcon
   have HD1 := hide hx1
   clear hx1
   have r0 := HX0.out.at 0 rfl
   have r1 := HX0.out.at 1 rfl
   have r2 := HX0.out.at 2 rfl
   have r3 := HX0.out.at 3 rfl
   go_wp2_with fail
   rw [← hww11]
   clear hww11 s0 s1 s2 s3 g0
   refine hcon.mono ?_
   rintro e w12 ⟨rfl, h9, k9⟩
   have hx9 := HX0.out.keep k9.1 (by decide)
   have hk9 := HK0.out.trans k9
   have ho9 := HO0.out.keepT9 k9.1 (by decide) (by decide)
   clear hcon HM0 HX0 HK0 HO0 k9 r0 r1 r2 r3
   have s0 := hx9.at 0 rfl
   have s1 := hx9.at 1 rfl
   have s2 := hx9.at 2 rfl
   have s3 := hx9.at 3 rfl
   have g1 := hx9.fz 2
   have HM1 := hide (mr_set h9 hx9 (by decide) (by decide) HGE.out 2 (.int .i64 (x1.1 : Nat)))
   have HX1 := hide (show Bx (w12.setCell ⟨w.heap.size, 2, none⟩ (.int .i64 (x1.1 : Nat))) w.heap.size 36 #[.slice (some ⟨w.heap.size + 1, 0, none⟩) 4 4, .int .i64 (x0.1 : Nat), .int .i64 (x1.1 : Nat), .string { data := #[] }] from hx9.put 2 (.int .i64 (x1.1 : Nat)))
   have HK1 := hide (hk9.hi (Nat.le_refl _) 2 (.int .i64 (x1.1 : Nat)))
   have HO1 := hide (ho9.keepT9 (keepX_set hx9 2 (.int .i64 (x1.1 : Nat))) (by decide) (by decide))
   obtain ⟨w13, hww13⟩ : ∃ wn, wn = w12.setCell ⟨w.heap.size, 2, none⟩ (.int .i64 (x1.1 : Nat)) := ⟨_, rfl⟩
   rw [← hww13] at HM1 HX1 HK1 HO1
   clear h9 hx9 hk9 ho9
   have hcon := text_mr w0 q (x1.2) w13 HM1.out
   obtain ⟨x2, hx2⟩ : ∃ x, x = texM (x1.2) := ⟨_, rfl⟩
   rw [← hx2] at hcon
   have HD2 := hide hx2
   clear hx2
   have r0 := HX1.out.at 0 rfl
   have r1 := HX1.out.at 1 rfl
   have r2 := HX1.out.at 2 rfl
   have r3 := HX1.out.at 3 rfl
   go_wp2_with fail
   rw [← hww13]
   clear hww13 s0 s1 s2 s3 g1
   refine hcon.mono ?_
   rintro e w14 ⟨rfl, h9, k9⟩
   have hx9 := HX1.out.keep k9.1 (by decide)
   have hk9 := HK1.out.trans k9
   have ho9 := HO1.out.keepT9 k9.1 (by decide) (by decide)
   clear hcon HM1 HX1 HK1 HO1 k9 r0 r1 r2 r3
   have s0 := hx9.at 0 rfl
   have s1 := hx9.at 1 rfl
   have s2 := hx9.at 2 rfl
   have s3 := hx9.at 3 rfl
   have g2 := hx9.fz 3
   have HM2 := hide (mr_set h9 hx9 (by decide) (by decide) HGE.out 3 (.string (bs x2.1)))
   have HX2 := hide (show Bx (w14.setCell ⟨w.heap.size, 3, none⟩ (.string (bs x2.1))) w.heap.size 36 #[.slice (some ⟨w.heap.size + 1, 0, none⟩) 4 4, .int .i64 (x0.1 : Nat), .int .i64 (x1.1 : Nat), .string (bs x2.1)] from hx9.put 3 (.string (bs x2.1)))
   have HK2 := hide (hk9.hi (Nat.le_refl _) 3 (.string (bs x2.1)))
   have HO2 := hide (ho9.keepT9 (keepX_set hx9 3 (.string (bs x2.1))) (by decide) (by decide))
   obtain ⟨w15, hww15⟩ : ∃ wn, wn = w14.setCell ⟨w.heap.size, 3, none⟩ (.string (bs x2.1)) := ⟨_, rfl⟩
   rw [← hww15] at HM2 HX2 HK2 HO2
   clear h9 hx9 hk9 ho9
   have r0 := HX2.out.at 0 rfl
   have r1 := HX2.out.at 1 rfl
   have r2 := HX2.out.at 2 rfl
   have r3 := HX2.out.at 3 rfl
   have f0 := HX2.out.fz 0
   have f1 := HX2.out.fz 1
   have f2 := HX2.out.fz 2
   have f3 := HX2.out.fz 3
   have p1 := HX2.out.put 0 (.slice (some ⟨w.heap.size + 1, 0, none⟩) 4 4)
   have p2 := p1.put 1 (.int .i64 (x0.1 : Nat))
   have p3 := p2.put 2 (.int .i64 (x1.1 : Nat))
   have p4 := p3.put 3 (.string (bs x2.1))
   have m1 := mr_set HM2.out HX2.out (by decide) (by decide) HGE.out 0 (.slice (some ⟨w.heap.size + 1, 0, none⟩) 4 4)
   have m2 := mr_set m1 p1 (by decide) (by decide) HGE.out 1 (.int .i64 (x0.1 : Nat))
   have m3 := mr_set m2 p2 (by decide) (by decide) HGE.out 2 (.int .i64 (x1.1 : Nat))
   have m4 := mr_set m3 p3 (by decide) (by decide) HGE.out 3 (.string (bs x2.1))
   have q4 := (((HK2.out.hi (Nat.le_refl _) 0 (.slice (some ⟨w.heap.size + 1, 0, none⟩) 4 4)).hi (Nat.le_refl _) 1 (.int .i64 (x0.1 : Nat))).hi (Nat.le_refl _) 2 (.int .i64 (x1.1 : Nat))).hi (Nat.le_refl _) 3 (.string (bs x2.1))
   have o4 := (((HO2.out.keepT9 (keepX_set HX2.out 0 (.slice (some ⟨w.heap.size + 1, 0, none⟩) 4 4)) (by decide) (by decide)).keepT9 (keepX_set p1 1 (.int .i64 (x0.1 : Nat))) (by decide) (by decide)).keepT9 (keepX_set p2 2 (.int .i64 (x1.1 : Nat))) (by decide) (by decide)).keepT9 (keepX_set p3 3 (.string (bs x2.1))) (by decide) (by decide)
   obtain ⟨w9, hw9⟩ : ∃ wn, wn = (((w15.setCell ⟨w.heap.size, 0, none⟩ (.slice (some ⟨w.heap.size + 1, 0, none⟩) 4 4)).setCell ⟨w.heap.size, 1, none⟩ (.int .i64 (x0.1 : Nat))).setCell ⟨w.heap.size, 2, none⟩ (.int .i64 (x1.1 : Nat))).setCell ⟨w.heap.size, 3, none⟩ (.string (bs x2.1)) := ⟨_, rfl⟩
   rw [← hw9] at p4 m4 q4 o4
   have HM := hide m4
   have HK := hide q4
   have HO := hide (o4.mono (show w.heap.size ≤ w.heap.size + 1 by omega))
   have P5 := hide (show Bx w9 w.heap.size 36 #[.slice (some ⟨w.heap.size + 1, 0, none⟩) 4 4, .int .i64 (x0.1 : Nat), .int .i64 (x1.1 : Nat), .string (bs x2.1)] from p4)
   clear p1 p2 p3 p4 m1 m2 m3 m4 q4 o4 HM2 HX2 HK2 HO2
   have e11 := hww15.symm
   clear hww15
   go_wp2
   rw [← hw9]
   clear hw9 s0 s1 s2 s3 g2 e11 r0 r1 r2 r3 f0 f1 f2 f3
   have z0 := P5.out.at 0 rfl
   have z1 := P5.out.at 1 rfl
   have z2 := P5.out.at 2 rfl
   have z3 := P5.out.at 3 rfl
   have hT2 : verM s = (((levM 4 s).1, (x0.1 : Int), (x1.1 : Int), x2.1), x2.2) := by unfold verM; rw [← HD0.out, ← HD1.out, ← HD2.out]
   refine bodyPost_ret (v := .agg #[.slice (some ⟨w.heap.size + 1, 0, none⟩) 4 4, .int .i64 (x0.1 : Nat), .int .i64 (x1.1 : Nat), .string (bs x2.1)]) ?_ rfl ⟨_, _, S, by rw [hT2], HO.out, by rw [hT2]; exact HE.out, by rw [hT2]; exact HM.out, HK.out⟩
   clear hT2
   simp [results, Tryz.results49, go_sem, *]
end Go.Proofs.YtmeaiocohalphaaGreatDoor

/-
  What the document's last does: a block's bytes last.
-/
import Derived.Test.YtnigdbhjaoeblaaGreatRSame
namespace Go.Proofs.YtnigdbhjaoeblaaGreat
open Go.RowKit
set_option linter.unusedVariables false
set_option linter.unusedSimpArgs false

theorem OwB.at {w : World} {base g n c : Nat} {l : List UInt8} (h : OwB w base (.slice (some ⟨g, 0, none⟩) n c) l) (j : Nat) (hj : j < l.length) : w.cell? ⟨g, j, none⟩ = some (.int .u8 (l[j]).toNat) := by
  have hx : (u8v l)[j]? = some (.int .u8 (l[j]).toNat) := by simp [u8v, List.getElem?_eq_getElem hj]
  have := World.ownsRow.cells h (g := g) rfl _ _ hx
  rw [Addr.add_lit] at this
  simpa using this
theorem OwB.len {w : World} {base g n c : Nat} {l : List UInt8} (h : OwB w base (.slice (some ⟨g, 0, none⟩) n c) l) : n = l.length := by
  obtain ⟨a, c', e⟩ := h.form
  cases e; rfl
theorem OwB.fz {w : World} {base g n c : Nat} {l : List UInt8} (h : OwB w base (.slice (some ⟨g, 0, none⟩) n c) l) (j : Nat) : w.frozen? ⟨g, j, none⟩ = false := by
  obtain rfl := h.len
  exact World.ownsRow.frozenAt h j
theorem OwB.stored {w : World} {base g n c : Nat} {l : List UInt8} (h : OwB w base (.slice (some ⟨g, 0, none⟩) n c) l) (j : Nat) (b : UInt8) :
    OwB (w.setCell ⟨g, j, none⟩ (.int .u8 b.toNat)) base (.slice (some ⟨g, 0, none⟩) n c) (l.set j b) ∧ w.grownBy (w.setCell ⟨g, j, none⟩ (.int .u8 b.toNat)) (some g) := by
  obtain rfl := h.len
  obtain ⟨h1, h2⟩ := World.ownsRow.stored h j (.int .u8 b.toNat)
  refine ⟨?_, h2⟩
  unfold OwB
  rw [List.length_set]
  have : u8v (l.set j b) = (u8v l).set j (.int .u8 b.toNat) := by simp [u8v, List.map_set]
  rw [this]; exact h1

theorem splice_step (data l : List UInt8) (o k : Nat) (hk : k < l.length) (hf : o + l.length ≤ data.length) : (splice data o (l.take k)).set (o + k) l[k] = splice data o (l.take (k + 1)) := by
  unfold splice
  have e1 : (data.take o).length = o := by simp; omega
  have e2 : (l.take k).length = k := by simp; omega
  have e3 : (l.take (k + 1)).length = k + 1 := by simp; omega
  rw [List.set_append_right _ _ (by omega), e1, show o + k - o = k by omega, List.set_append_right _ _ (by omega), e2, Nat.sub_self, e3]
  have hd : o + k < data.length := by omega
  rw [List.drop_eq_getElem_cons hd, List.set_cons_zero, List.take_succ_eq_append_getElem hk, List.append_assoc]
  rfl

theorem last_arith {q k n1 cnt o : Nat} (ho : o = q * 128) (hn : n1 = 128 * cnt) (hq : q < cnt) (hc : cnt ≤ 4096) (hk : k < 128) : IntKind.i64.wrap ((q : Int) * 128) = (o : Int) ∧ IntKind.i64.wrap ((o : Int) + (k : Int)) = (o : Int) + k ∧ (o : Int) + k < n1 ∧ (0 : Int) ≤ (o : Int) + k ∧ ((o : Int) + k).toNat = o + k := by
  rw [IntKind.wrap_i64, IntKind.wrap_i64]
  refine ⟨by omega, by omega, by omega, by omega, by omega⟩

set_option maxHeartbeats 1000000 in
set_option maxRecDepth 100000 in
theorem rlast_any (base B g0 gp n1 cap cp cnt q : Nat) (data l : List UInt8) (y z : Value) (w : World) (hown : OwB w base (.slice (some ⟨g0, 0, none⟩) n1 cap) data) (hg0 : g0 < B) (hp : OwB w B (.slice (some ⟨gp, 0, none⟩) 128 cp) l) (hlen : data.length = 128 * cnt) (hcnt : cnt ≤ 4096) (hq : q < cnt) (hl : l.length = 128) :
    Calls Tryz.prog 199 #[.agg #[.slice (some ⟨g0, 0, none⟩) n1 cap, y, z], .agg #[.int .i64 q, .slice (some ⟨gp, 0, none⟩) 128 cp]] w fun e w' => e = .returned (.tuple #[]) ∧ w.grownBy w' (some g0) ∧ OwB w' base (.slice (some ⟨g0, 0, none⟩) n1 cap) (setB data (q, l)) := by
  have hn1 : n1 = 128 * cnt := hown.len.trans hlen
  obtain ⟨o, ho⟩ : ∃ o, o = q * 128 := ⟨_, rfl⟩
  have hgw : g0 < w.heap.size := (World.ownsRow.lt hown g0 rfl).2
  have HOWN := hide hown
  have HP := hide hp
  have HLEN := hide hlen
  have HL := hide hl
  have HSET := hide (show setB data (q, l) = splice data o l by rw [setB_eq _ _ hl, ho]; rfl)
  have HA := hide (show ∀ k, k < 128 → _ from fun k hk => last_arith ho hn1 hq hcnt hk)
  have HF := hide (show o + 128 ≤ data.length by omega)
  clear hown hp hlen hl hn1 ho hq hcnt
  obtain ⟨w1, ew⟩ : ∃ w1, (w.alloc (.cells #[.slice (some ⟨g0, 0, none⟩) n1 cap, y, z] 27)).alloc (.cells #[.int .i64 q, .slice (some ⟨gp, 0, none⟩) 128 cp] 53) = w1 := ⟨_, rfl⟩
  have hb1 : Below w.heap.size w w1 := by rw [← ew]; exact ((Below.refl _ _).alloc (Nat.le_refl _) _).alloc (by simp) _
  have hd1 : w1.heap[w.heap.size]? = some (.cells #[.slice (some ⟨g0, 0, none⟩) n1 cap, y, z] 27 (0, 0)) := by
    rw [← ew, heap_alloc_old _ _ (by simp)]; exact heap_alloc_new _ _
  have he1 : w1.heap[w.heap.size + 1]? = some (.cells #[.int .i64 q, .slice (some ⟨gp, 0, none⟩) 128 cp] 53 (0, 0)) := by rw [← ew]; exact heap_alloc2 _ _ _
  go_enter Tryz.func199, Tryz.ntmps199
  go_wp2
  clear ew
  go_loopw [4] (fun i wr => ∃ k : Nat, k ≤ 128 ∧ i = .int .i64 k ∧ Hid (OwB wr base (.slice (some ⟨g0, 0, none⟩) n1 cap) (splice data o (l.take k))) ∧ w1.grownBy wr (some g0)) (fun i _ => 128 - (intOf i).toNat)
  case atStart =>
    refine ⟨0, Nat.zero_le _, rfl, ?_, World.grownBy.refl _ _⟩
    show OwB _ _ _ _
    have e : splice data o (l.take 0) = data := by simp [splice]
    rw [e]; exact HOWN.out.carry hb1
  case round =>
    obtain ⟨k, hk, rfl, ho, hgr⟩ := hrel
    by_cases hlt : k < 128
    · have hlt' : (k : Int) < 128 := by omega
      obtain ⟨a1, a2, a3, a4, a5⟩ := HA.out k hlt
      have hd : wr.heap[w.heap.size]? = some (.cells #[.slice (some ⟨g0, 0, none⟩) n1 cap, y, z] 27 (0, 0)) := (hgr.block _ (Array.getElem?_eq_some_iff.1 hd1).1 (by simp; omega)).trans hd1
      have he : wr.heap[w.heap.size + 1]? = some (.cells #[.int .i64 q, .slice (some ⟨gp, 0, none⟩) 128 cp] 53 (0, 0)) := (hgr.block _ (Array.getElem?_eq_some_iff.1 he1).1 (by simp; omega)).trans he1
      obtain ⟨p0, p1, p2, _⟩ := cells3 hd
      obtain ⟨s0, s1, _⟩ := cells2 he
      have hkl : k < l.length := by have := HL.out; omega
      have hpc := ((HP.out.carry hb1).grown hgr hg0).at k hkl
      obtain ⟨bk, hbk⟩ : ∃ bk : Int, bk = ((l[k]).toNat : Int) := ⟨_, rfl⟩
      rw [← hbk] at hpc
      have HBK := hide hbk
      have hfz := ho.out.fz (o + k)
      have hcl := ho.out.at (o + k) (by rw [length_splice]; have := HF.out; omega; have := HF.out; have := HL.out; simp; omega)
      clear p1 p2 hbk
      have hK : Keeps (fun wx => (wx.cell? ⟨w.heap.size, 0, none⟩ = some (.slice (some ⟨g0, 0, none⟩) n1 cap) ∧ wx.cell? ⟨w.heap.size + 1, 0, none⟩ = some (.int .i64 q) ∧ wx.cell? ⟨w.heap.size + 1, 1, none⟩ = some (.slice (some ⟨gp, 0, none⟩) 128 cp)) ∧ wx.cell? ⟨gp, k, none⟩ = some (.int .u8 bk)) := ((keeps_cell _ _).and ((keeps_cell _ _).and (keeps_cell _ _))).and (keeps_cell _ _)
      go_wp2
      refine regL_begin hK 13 (by kernel_rfl) ⟨⟨p0, s0, s1⟩, hpc⟩ ?_
      intro hS
      refine regL_take (i := 0) (v := ?qav0) rfl (by kernel_rfl) (by kernel_rfl) (by kernel_rfl) rfl (by kernel_rfl) (by kernel_rfl) (by rfl) ?qay0 hS ?qar0
      case qay0 => (rintro wx ⟨⟨x1, x2, x3⟩, x4⟩; go_simp; all_goals (with_reducible rfl))
      try simp only [Act.put, List.setIfInBounds_toArray, List.set_cons_zero, List.set_cons_succ]
      refine regL_take (i := 1) (v := ?qav1) rfl (by kernel_rfl) (by kernel_rfl) (by kernel_rfl) rfl (by kernel_rfl) (by kernel_rfl) (by rfl) ?qay1 hS ?qar1
      case qay1 => (rintro wx ⟨⟨x1, x2, x3⟩, x4⟩; go_simp; all_goals (with_reducible rfl))
      try simp only [Act.put, List.setIfInBounds_toArray, List.set_cons_zero, List.set_cons_succ]
      refine regL_take (i := 2) (v := ?qav2) rfl (by kernel_rfl) (by kernel_rfl) (by kernel_rfl) rfl (by kernel_rfl) (by kernel_rfl) (by rfl) ?qay2 hS ?qar2
      case qay2 => (rintro wx ⟨⟨x1, x2, x3⟩, x4⟩; go_simp; all_goals (with_reducible rfl))
      try simp only [Act.put, List.setIfInBounds_toArray, List.set_cons_zero, List.set_cons_succ]
      refine regL_take (i := 3) (v := ?qav3) rfl (by kernel_rfl) (by kernel_rfl) (by kernel_rfl) rfl (by kernel_rfl) (by kernel_rfl) (by rfl) ?qay3 hS ?qar3
      case qay3 => (rintro wx ⟨⟨x1, x2, x3⟩, x4⟩; go_simp; all_goals (with_reducible rfl))
      try simp only [Act.put, List.setIfInBounds_toArray, List.set_cons_zero, List.set_cons_succ]
      refine regL_take (i := 4) (v := ?qav4) rfl (by kernel_rfl) (by kernel_rfl) (by kernel_rfl) rfl (by kernel_rfl) (by kernel_rfl) (by rfl) ?qay4 hS ?qar4
      case qay4 => (rintro wx ⟨⟨x1, x2, x3⟩, x4⟩; go_simp; all_goals (with_reducible rfl))
      try simp only [Act.put, List.setIfInBounds_toArray, List.set_cons_zero, List.set_cons_succ]
      refine regL_take (i := 5) (v := ?qav5) rfl (by kernel_rfl) (by kernel_rfl) (by kernel_rfl) rfl (by kernel_rfl) (by kernel_rfl) (by rfl) ?qay5 hS ?qar5
      case qay5 => (rintro wx ⟨⟨x1, x2, x3⟩, x4⟩; go_simp; all_goals (with_reducible rfl))
      try simp only [Act.put, List.setIfInBounds_toArray, List.set_cons_zero, List.set_cons_succ]
      refine regL_take (i := 6) (v := ?qav6) rfl (by kernel_rfl) (by kernel_rfl) (by kernel_rfl) rfl (by kernel_rfl) (by kernel_rfl) (by rfl) ?qay6 hS ?qar6
      case qay6 => (rintro wx ⟨⟨x1, x2, x3⟩, x4⟩; go_simp; all_goals (with_reducible rfl))
      try simp only [Act.put, List.setIfInBounds_toArray, List.set_cons_zero, List.set_cons_succ]
      refine regL_take (i := 7) (v := ?qav7) rfl (by kernel_rfl) (by kernel_rfl) (by kernel_rfl) rfl (by kernel_rfl) (by kernel_rfl) (by rfl) ?qay7 hS ?qar7
      case qay7 => (rintro wx ⟨⟨x1, x2, x3⟩, x4⟩; go_simp; all_goals (with_reducible rfl))
      try simp only [Act.put, List.setIfInBounds_toArray, List.set_cons_zero, List.set_cons_succ]
      refine regL_take (i := 8) (v := ?qav8) rfl (by kernel_rfl) (by kernel_rfl) (by kernel_rfl) rfl (by kernel_rfl) (by kernel_rfl) (by rfl) ?qay8 hS ?qar8
      case qay8 => (rintro wx ⟨⟨x1, x2, x3⟩, x4⟩; go_simp; all_goals (with_reducible rfl))
      try simp only [Act.put, List.setIfInBounds_toArray, List.set_cons_zero, List.set_cons_succ]
      refine regL_take (i := 9) (v := ?qav9) rfl (by kernel_rfl) (by kernel_rfl) (by kernel_rfl) rfl (by kernel_rfl) (by kernel_rfl) (by rfl) ?qay9 hS ?qar9
      case qay9 => (rintro wx ⟨⟨x1, x2, x3⟩, x4⟩; go_simp; all_goals (with_reducible rfl))
      try simp only [Act.put, List.setIfInBounds_toArray, List.set_cons_zero, List.set_cons_succ]
      refine regL_take (i := 10) (v := ?qav10) rfl (by kernel_rfl) (by kernel_rfl) (by kernel_rfl) rfl (by kernel_rfl) (by kernel_rfl) (by rfl) ?qay10 hS ?qar10
      case qay10 => (rintro wx ⟨⟨x1, x2, x3⟩, x4⟩; go_simp; all_goals (with_reducible rfl))
      try simp only [Act.put, List.setIfInBounds_toArray, List.set_cons_zero, List.set_cons_succ]
      refine regL_take (i := 11) (v := ?qav11) rfl (by kernel_rfl) (by kernel_rfl) (by kernel_rfl) rfl (by kernel_rfl) (by kernel_rfl) (by rfl) ?qay11 hS ?qar11
      case qay11 => (rintro wx ⟨⟨x1, x2, x3⟩, x4⟩; go_simp; all_goals (with_reducible rfl))
      try simp only [Act.put, List.setIfInBounds_toArray, List.set_cons_zero, List.set_cons_succ]
      refine regL_take (i := 12) (v := ?qav12) rfl (by kernel_rfl) (by kernel_rfl) (by kernel_rfl) rfl (by kernel_rfl) (by kernel_rfl) (by rfl) ?qay12 hS ?qar12
      case qay12 => (rintro wx ⟨⟨x1, x2, x3⟩, x4⟩; go_simp; all_goals (with_reducible rfl))
      try simp only [Act.put, List.setIfInBounds_toArray, List.set_cons_zero, List.set_cons_succ]
      refine regL_last (i := 13) (w' := wr.drew.setCell ⟨g0, o + k, none⟩ (.int .u8 bk)) rfl (by kernel_rfl) (by kernel_rfl) (by rfl) (by go_simp) ?_
      try simp only [Act.put, List.setIfInBounds_toArray, List.set_cons_zero, List.set_cons_succ]
      refine wpAnyL_done (by kernel_rfl) ?_ _
      refine NoPanic.normal ?_
      obtain ⟨o1, o2⟩ := ho.out.stored (o + k) l[k]
      rw [splice_step _ _ _ _ hkl (by have := HF.out; have := HL.out; omega), ← HBK.out] at o1
      rw [← HBK.out] at o2
      go_wp2
      go_roundw
      case rel => exact ⟨k + 1, by omega, by go_num, o1.carry (Below.refl _ _).drew, grown_trans (grown_trans hgr o2) (grown_none (grown_of_below (Below.refl _ _).drew) _)⟩
      case measure => simp [intOf] <;> omega
    · have hlt' : decide ((k : Int) < 128) = false := by simpa using (by omega : ¬ (k : Int) < 128)
      obtain rfl : k = 128 := by omega
      go_wp2
      refine bodyPost_end (v := .tuple #[]) (by simp [results, Tryz.results199, go_sem]) rfl ?_
      refine ⟨rfl, ⟨hgr.os.trans (grown_of_below hb1).os, hgr.tape.trans (grown_of_below hb1).tape, hgr.output.trans (grown_of_below hb1).output, Nat.le_trans hb1.size hgr.size, fun i hi hr => (hgr.block i (Nat.lt_of_lt_of_le hi hb1.size) hr).trans ((grown_of_below hb1).block i hi (by simp))⟩, ?_⟩
      rw [HSET.out]
      have := ho.out
      rwa [List.take_of_length_le (by have := HL.out; omega)] at this

end Go.Proofs.YtnigdbhjaoeblaaGreat

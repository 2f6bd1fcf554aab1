/-
  The way: files on the way to what is answered, in memory.
-/
import Derived.Test.YtnigdbhjaoeblaaGreatLNames3
namespace Go.Proofs.YtnigdbhjaoeblaaGreat
open Go.RowKit
set_option linter.unusedVariables false
set_option linter.unusedSimpArgs false

theorem Tryz.infoSl8 : (Tryz.prog.info? 23).map (fun i => (i.zero, i.size, i.bytes)) = some (some (.slice none 0 0), 1, 24) := by kernel_rfl
theorem own_kept2 {w w' : World} {b1 b2 : Nat} {e1 e2 : TypeId} {s1 s2 : Nat} {v1 v2 : Value} {n1 n2 : Nat} {x1 x2 : List Value} (h : w.ownsRow b1 e1 s1 v1 n1 x1) (hr : w.ownsRow b2 e2 s2 v2 n2 x2) (hne : e1 ≠ e2) (hg : w.grownBy w' v2.ownBlock) : w'.ownsRow b1 e1 s1 v1 n1 x1 := by
  refine World.ownsRow.kept h hg ?_
  rcases h.2 with ⟨rfl, _⟩ | ⟨g1, c1, cur1, rfl, _, hg1, _⟩
  · exact .inl rfl
  · right
    rcases hr.2 with ⟨rfl, _⟩ | ⟨g2, c2, cur2, rfl, _, hg2, _⟩
    · intro e; cases e
    · intro e
      have e' : g1 = g2 := by injection e
      subst e'
      rw [hg1] at hg2
      injection hg2 with e2
      injection e2 with _ e3
      exact hne e3
/-- Rows of rows of bytes. -/
def OwBB (w : World) (base : Nat) (v : Value) (ls : List (List UInt8)) : Prop := ∃ ps : List (List UInt8 × Value), ps.map (·.1) = ls ∧ w.ownsRow base 23 1 v ls.length (ps.map (·.2)) ∧ ∀ p ∈ ps, OwB w base p.2 p.1
theorem OwBB.nil (w : World) (base : Nat) : OwBB w base (.slice none 0 0) [] := ⟨[], rfl, World.ownsRow_nil _ _ _ _, by simp⟩
theorem OwBB.carry {w w' : World} {base : Nat} {v : Value} {ls : List (List UInt8)} (h : OwBB w base v ls) (hb : Below w.heap.size w w') : OwBB w' base v ls := by
  obtain ⟨ps, e, h1, h2⟩ := h
  exact ⟨ps, e, own_carry h1 hb, fun p hp => (h2 p hp).carry hb⟩
theorem OwBB.mono {w : World} {base base' : Nat} {v : Value} {ls : List (List UInt8)} (h : OwBB w base v ls) (hb : base' ≤ base) : OwBB w base' v ls := by
  obtain ⟨ps, e, h1, h2⟩ := h
  exact ⟨ps, e, own_mono h1 hb, fun p hp => (h2 p hp).mono hb⟩
theorem OwBB.grown {w w' : World} {base g : Nat} {v : Value} {ls : List (List UInt8)} (h : OwBB w base v ls) (hg : w.grownBy w' (some g)) (hb : g < base) : OwBB w' base v ls := by
  obtain ⟨ps, e, h1, h2⟩ := h
  exact ⟨ps, e, own_grown h1 hg hb, fun p hp => (h2 p hp).grown hg hb⟩
theorem OwBB.form {w : World} {base : Nat} {v : Value} {ls : List (List UInt8)} (h : OwBB w base v ls) : ∃ a c, v = .slice a ls.length c := by
  obtain ⟨ps, e, h1, h2⟩ := h
  rcases h1.2 with ⟨rfl, hn⟩ | ⟨g, cap, cur, rfl, _⟩
  · rw [hn]; exact ⟨_, _, rfl⟩
  · exact ⟨_, _, rfl⟩
theorem OwBB.at {w : World} {base : Nat} {a : Option Addr} {n c : Nat} {ls : List (List UInt8)} (h : OwBB w base (.slice a n c) ls) (j : Nat) (hj : j < ls.length) :
    ∃ g y z, a = some ⟨g, 0, none⟩ ∧ w.cell? ⟨g, j, none⟩ = some (.slice y (ls[j]).length z) ∧ OwB w base (.slice y (ls[j]).length z) ls[j] := by
  obtain ⟨ps, rfl, h1, h2⟩ := h
  have hjp : j < ps.length := by simpa using hj
  rcases h1.2 with ⟨e, hn⟩ | ⟨g, cap, cur, e, _⟩
  · simp at hn; subst hn; simp at hj
  · cases e
    have c1 := h1.cells (g := g) rfl j ((ps[j]).2) (by simp [List.getElem?_eq_getElem hjp])
    have ho := h2 ps[j] (List.getElem_mem hjp)
    obtain ⟨y, z, hv⟩ := ho.form
    simp only [List.getElem_map]
    rw [hv] at c1 ho
    exact ⟨g, y, z, rfl, by simpa [Addr.add_lit] using c1, ho⟩
theorem app_blk {w : World} {base : Nat} {v : Value} {ls : List (List UInt8)} (h : OwBB w base v ls) (hb : base ≤ w.heap.size) (hl : ls.length ≤ 1000000) (y : Option Addr) (n z : Nat) (l : List UInt8) (hx : OwB w base (.slice y n z) l) :
    ∃ g c w', (Builtin.append_ #[258, 258] 258 #[v, .slice (some ⟨w.heap.size, 0, none⟩) 1 1]).run Tryz.prog (w.alloc (.cells #[.slice y n z] 23)) = .ok (.slice (some ⟨g, 0, none⟩) (ls.length + 1) c) w' ∧
      OwBB w' base (.slice (some ⟨g, 0, none⟩) (ls.length + 1) c) (ls ++ [l]) ∧ Below base w w' := by
  obtain ⟨ps, e, h1, h2⟩ := h
  obtain ⟨w8, ew8⟩ : ∃ w8, w8 = w.alloc (.cells #[.slice y n z] 23) := ⟨_, rfl⟩
  have hn8 := alloc_news w #[.slice y n z] 23
  rw [← ew8] at hn8 ⊢
  have hb8 : Below w.heap.size w w8 := by rw [ew8]; exact (Below.refl _ _).alloc (Nat.le_refl _) _
  obtain ⟨i0, hi, hz0, hz1, hz2⟩ := info_parts Tryz.infoSl8
  have q2 : w8.ownsRow base 23 1 v ls.length (ps.map (·.2)) := own_carry h1 hb8
  obtain ⟨v9, w9, hrun9, hown9, hg9, _⟩ := run_append_own (P := Tryz.prog) w8 base 258 258 23 i0 _ 1 24 Tryz.underlying258 hi hz0 hz1 hz2 rfl (by decide) _ _ _ q2 ⟨w.heap.size, 0, none⟩ 1 1 [.slice y n z] rfl hn8 (by
    intro u hu
    simp at hu
    subst hu
    rfl) (by unfold maxLen; omega) (by omega) (Nat.le_trans hb hb8.size)
  have hb9 : Below base w w9 := (hb8.mono hb).grown hg9 (Nat.le_trans hb hb8.size) fun k hk => (q2.lt k hk).1
  have hin : ∀ p ∈ ps ++ [(l, .slice y n z)], OwB w9 base p.2 p.1 := by
    intro p hp
    have h0 : OwB w8 base p.2 p.1 := by
      rcases List.mem_append.1 hp with hp | hp
      · exact (h2 p hp).carry hb8
      · obtain rfl : p = (l, .slice y n z) := by simpa using hp
        exact hx.carry hb8
    exact own_kept2 h0 q2 (by decide) hg9
  rcases hown9.2 with ⟨_, h0⟩ | ⟨g, cap, cur, h0, _⟩
  · exact absurd h0 (by omega)
  · subst h0
    refine ⟨g, cap, w9, hrun9, ⟨ps ++ [(l, .slice y n z)], by simp [e], ?_, hin⟩, hb9⟩
    rw [List.map_append]
    simpa using hown9
/-- As many bytes as there is room for are copied into bytes of one's own. -/
theorem wpList_copyt {P : Program} (w : World) {ops : Array Oper} {rest : List Oper} {o : Oper} {a : Act} {Q : Exit → Act → World → Prop} (hgd : o.guard = none) (d s : Operand) (dT : TypeId)
    (ho : o.op = .call { callee := .builtin .copy, args := #[d, s], argTypes := #[dT, dT] }) (hu : P.underlying dT = some (.slice 5)) (hsz : (P.info? 5).map (·.size) = some 1)
    (base g dLen dCap : Nat) (hd : a.eval d = .slice (some ⟨g, 0, none⟩) dLen dCap) (v : Value) (l : List UInt8) (hs : a.eval s = v) (hrd : Rd w v l) (hpos : l ≠ [])
    (data : List UInt8) (hown : OwB w base (.slice (some ⟨g, 0, none⟩) dLen dCap) data) (hdl : data.length = dLen)
    (h : ∀ w', w.grownBy w' (some g) → OwB w' base (.slice (some ⟨g, 0, none⟩) dLen dCap) (splice data 0 (l.take dLen)) → wpList P ops Q rest (a.put o.dst (goInt (l.take dLen).length)) w') :
    wpList P ops Q (o :: rest) a w := by
  rcases hrd with ⟨e, _⟩ | ⟨b, of, c, rfl, hc, hm, hcell⟩
  · exact absurd e hpos
  · have hlt : (l.take dLen).length = min dLen l.length := List.length_take
    have hlen : (u8v (l.take dLen)).length = min dLen l.length := by simp [u8v]
    obtain ⟨hx, h' | ⟨g', cap', cur, e, h1, h2, h3, h4, h5, h6⟩⟩ := hown
    · cases h'.1
    · cases e
      have htk : cur.toList.take data.length = u8v data := by rw [← h6, Nat.mul_one]
      have hcs : data.length ≤ cur.size := by rw [h5]; omega
      refine wpList_copy_own hgd d s dT dT ho 5 hu hsz g 0 _ dCap ⟨b, of, none⟩ l.length c hd hs cur _ h2 (u8v (l.take data.length)) (by rw [hlen]; exact Nat.min_comm _ _) ?_ (by rw [hlen]; omega) (u8v_oneCell _) ?_
      · intro j u hj
        obtain ⟨hj', rfl⟩ := u8v_getElem? (l.take data.length) j u hj
        rw [Addr.add_lit]
        rw [List.length_take] at hj'
        rw [List.getElem_take]
        exact hcell j (by omega)
      · rw [hlen, ← hlt]
        refine h _ ⟨rfl, rfl, rfl, by simp [World.setRow], fun k _ hk => setRow_other w g k _ (fun e => hk (by rw [e]))⟩ ?_
        have hl2 : (splice data 0 (l.take data.length)).length = data.length := length_splice _ _ _ (by rw [hlt]; omega)
        refine ⟨by simp [u8v], .inr ⟨g, dCap, _, by rw [hl2], h1, setRow_heap w g _ _ _ _ h2, by rw [hl2]; exact h3, h4, ?_, ?_⟩⟩
        · have hz : cur.toList.length = dCap * 1 := by rw [Array.length_toList, h5]
          simp [hlen]; omega
        · rw [hl2, u8v_splice, hlen, Nat.mul_one]
          show ((cur.toList.take 0 ++ (u8v (l.take data.length) ++ cur.toList.drop (0 + (l.take data.length).length))).take data.length) = _
          simp only [List.take_zero, List.nil_append, Nat.zero_add]
          rw [List.take_append, hlen, List.take_of_length_le (by rw [hlen]; omega), ← htk, List.drop_take, hlt]
theorem pad_splice (l : List UInt8) : splice (List.replicate 128 0) 0 (l.take 128) = padB l := by
  unfold splice padB
  rw [List.take_zero, List.nil_append, List.drop_replicate, List.length_take]
  congr 2
  omega
theorem padB_len (l : List UInt8) : (padB l).length = 128 := by unfold padB; rw [List.length_append, List.length_take, List.length_replicate]; omega
theorem wholeB_len (l : List UInt8) : (wholeB l).length = (l.length + 127) / 128 := by simp [wholeB]
theorem wholeB_get (l : List UInt8) (k : Nat) (h : k < (wholeB l).length) : (wholeB l)[k] = padB (l.drop (128 * k)) := by simp [wholeB]
theorem wrap128 (k : Nat) (h : k ≤ 1000000) : wrap64 (((128 * k : Nat) : Int) + 128) = ((128 * (k + 1) : Nat) : Int) := by unfold wrap64; omega

set_option maxHeartbeats 2000000 in
set_option maxRecDepth 100000 in
theorem whole_any6 (a : Option Addr) (n c : Nat) (l : List UInt8) (w : World) (hrd : Rd w (.slice a n c) l) (hn : n = l.length) (hl : l.length ≤ 1000000) :
    Calls Tryz.prog 206 #[.slice a n c] w fun e w' => ∃ v, e = .returned v ∧ OwBB w' w.heap.size v (wholeB l) ∧ Below w.heap.size w w' := by
  have hm : n ≤ 1000000 := by omega
  have HR := hide hrd
  have HN := hide hn
  clear hrd hn hl
  go_enter Tryz.func206, Tryz.ntmps206
  go_wp2
  go_loopw [4, 3] (fun i v wr => ∃ k : Nat, 128 * k < n + 128 ∧ i = .int .i64 ((128 * k : Nat) : Int) ∧ Hid (OwBB wr w.heap.size v ((wholeB l).take k)) ∧ Below w.heap.size w wr) (fun i _ _ => n + 128 - (intOf i).toNat)
  case atStart => exact ⟨0, by omega, rfl, hide (by simpa using OwBB.nil _ _), Below.refl _ _⟩
  case round =>
    obtain ⟨k, hk, rfl, hown, hbel⟩ := hrel
    by_cases hlt : 128 * k < n
    · obtain ⟨at9, hat⟩ : ∃ at9, at9 = 128 * k := ⟨_, rfl⟩
      rw [← hat] at hlt ⊢
      have hlt' : (at9 : Int) < n := by omega
      have HTL := hide (show ((wholeB l).take k).length = k by rw [List.length_take, wholeB_len]; have := HN.out; omega)
      have HT := hide (show (wholeB l).take (k + 1) = (wholeB l).take k ++ [padB (l.drop at9)] by
        have hkl : k < (wholeB l).length := by rw [wholeB_len]; have := HN.out; omega
        rw [List.take_succ_eq_append_getElem hkl, wholeB_get, hat])
      obtain ⟨b9, o9, rfl, hnc⟩ := rd_some6 HR.out (by intro e; have := HN.out; rw [e] at this; simp at this; omega)
      obtain ⟨av, cv, e9⟩ := hown.out.form
      rw [HTL.out] at e9
      subst e9
      have hrs := rd_at (HR.out) at9 (n - at9) (by have := HN.out; omega) (by intro e; have := HN.out; rw [e] at this; simp at this; omega)
      rw [List.take_of_length_le (by rw [List.length_drop]; have := HN.out; omega)] at hrs
      have HRS := hide hrs
      have HW := hide (show wrap64 ((at9 : Int) + 128) = ((128 * (k + 1) : Nat) : Int) by rw [hat]; exact wrap128 k (by omega))
      have HPOS := hide (show l.drop at9 ≠ [] by intro e; have := congrArg List.length e; rw [List.length_drop] at this; have := HN.out; simp at *; omega)
      have y1 : at9 ≤ n := by omega
      have y2 : ¬ at9 = c := by omega
      have y3 : at9 ≤ c := by omega
      have HMS := hide (show n + 128 - 128 * (k + 1) < n + 128 - at9 ∧ 128 * (k + 1) < n + 128 by omega)
      have HAT := hide (show at9 = 128 * k ∧ k ≤ 1000000 from ⟨hat, by omega⟩)
      clear hat hrs hk
      obtain ⟨w2, hmk, hO2, hb2⟩ := make128 wr
      have HB2 := hide (show Below w.heap.size w w2 from hbel.trans (hb2.mono hbel.size))
      have HO2 := hide hO2
      have HOW2 := hide (hown.out.carry hb2)
      have HRS2 := hide (HRS.out.carry HB2.out)
      have hbsz := hbel.size
      have HBR := hide hbel
      have HBs := hide hb2
      have HAPP := hide (fun (w3 : World) (hg3 : w2.grownBy w3 (some wr.heap.size)) (hO3 : OwB w3 wr.heap.size (.slice (some ⟨wr.heap.size, 0, none⟩) 128 128) (splice (List.replicate 128 0) 0 ((l.drop at9).take 128))) => by
        have hb3 : Below wr.heap.size wr w3 := HBs.out.grown hg3 HBs.out.size (by intro k hk; cases hk; omega)
        obtain ⟨g9, c9, w9, hrun, ho9, hb9⟩ := app_blk (hown.out.carry hb3) (Nat.le_trans hbsz hb3.size) (by rw [HTL.out]; have := HAT.out.2; omega) (some ⟨wr.heap.size, 0, none⟩) 128 128 _ (hO3.mono hbsz)
        rw [pad_splice] at ho9
        rw [HTL.out] at hrun ho9
        exact (⟨g9, c9, w9, hrun, ho9, (HBR.out.trans (hb3.mono HBR.out.size)).trans hb9⟩ : ∃ g9 c9 w9, (Builtin.append_ #[258, 258] 258 #[.slice av k cv, .slice (some ⟨w3.heap.size, 0, none⟩) 1 1]).run Tryz.prog (w3.alloc (.cells #[.slice (some ⟨wr.heap.size, 0, none⟩) 128 128] 23)) = .ok (.slice (some ⟨g9, 0, none⟩) (k + 1) c9) w9 ∧ OwBB w9 w.heap.size (.slice (some ⟨g9, 0, none⟩) (k + 1) c9) ((wholeB l).take k ++ [padB (l.drop at9)]) ∧ Below w.heap.size w w9))
      clear hO2 hown hbel hb2
      go_wp2_with (first | (refine wpList_copyt w2 rfl (.tmp 13) (.tmp 16) 23 rfl Tryz.underlying23 Tryz.sizeB wr.heap.size wr.heap.size 128 128 rfl _ (l.drop at9) rfl HRS2.out HPOS.out _ HO2.out (by simp) ?_; intro w3 hg3 hO3; obtain ⟨g9, c9, w9, hrun, ho9, hb9⟩ := HAPP.out w3 hg3 hO3; clear hg3 hO3) | (at_builtin; refine wpList_runappE rfl (.tmp 18) (.tmp 20) 258 rfl rfl rfl rfl hrun ?_))
      go_roundw
      case rel => exact ⟨k + 1, HMS.out.2, congrArg (Value.int .i64) (by have := HAT.out.1; omega), hide (by rw [HT.out]; exact ho9), hb9⟩
      case measure => simp only [intOf]; have := HAT.out.1; omega
    · have hd : decide (((128 * k : Nat) : Int) < n) = false := by simpa using (by omega : ¬ ((128 * k : Nat) : Int) < n)
      have HO := hide (show OwBB wr w.heap.size _ (wholeB l) by
        have := hown.out
        rwa [List.take_of_length_le (by rw [wholeB_len]; have := HN.out; omega)] at this)
      clear hown
      go_wp2
      go_ret
      exact ⟨_, rfl, HO.out, hbel⟩

end Go.Proofs.YtnigdbhjaoeblaaGreat
namespace Go.Proofs.YtnigdbhjaoeblaaGreat
open Go.RowKit
set_option linter.unusedVariables false
set_option linter.unusedSimpArgs false

abbrev WayAt (w : World) (p : Nat) (x : FsV) (e : Int) (ab : Option Addr) (nb cb : Nat) : Prop := Bq w p 137 #[.slice x.a1 x.n1 x.c1, .slice x.a2 x.n2 x.c2, .slice x.a3 x.n3 x.c3, .int .u32 x.g, .slice x.a4 x.n4 x.c4, .slice x.a5 x.n5 x.c5, .int .i64 e, .slice ab nb cb]
theorem way_cells {w : World} {p : Nat} {x : FsV} {e : Int} {ab : Option Addr} {nb cb : Nat} (h : WayAt w p x e ab nb cb) : w.cell? ⟨p, 0, none⟩ = some (.slice x.a1 x.n1 x.c1) ∧ w.cell? ⟨p, 1, none⟩ = some (.slice x.a2 x.n2 x.c2) ∧ w.cell? ⟨p, 2, none⟩ = some (.slice x.a3 x.n3 x.c3) ∧ w.cell? ⟨p, 3, none⟩ = some (.int .u32 x.g) ∧ w.cell? ⟨p, 4, none⟩ = some (.slice x.a4 x.n4 x.c4) ∧ w.cell? ⟨p, 5, none⟩ = some (.slice x.a5 x.n5 x.c5) ∧ w.cell? ⟨p, 6, none⟩ = some (.int .i64 e) ∧ w.cell? ⟨p, 7, none⟩ = some (.slice ab nb cb) :=
  ⟨h.cell 0, h.cell 1, h.cell 2, h.cell 3, h.cell 4, h.cell 5, h.cell 6, h.cell 7⟩
/-- In every later world in which only the way has changed its files read so. -/
def WayR (w : World) (p base : Nat) (o : Bool) (y : Wy) (x : FsV) (ab : Option Addr) (nb cb : Nat) : Prop :=
  ∀ w', w.grownBy w' (some p) → RdX w' x y.1 ∧ Rd w' (.slice ab nb cb) y.2.2 ∧ (o = true → y.2.1 = 0 → OwD w' base x.dv y.1.1)
theorem WayR.later {w w1 : World} {p base : Nat} {o : Bool} {y : Wy} {x : FsV} {ab : Option Addr} {nb cb : Nat} (h : WayR w p base o y x ab nb cb) (hg : w.grownBy w1 (some p)) : WayR w1 p base o y x ab nb cb := fun w' h' => h w' (hg.trans h')
def WayS (w : World) (p base : Nat) (o : Bool) (y : Wy) : Prop := ∃ (x : FsV) (ab : Option Addr) (nb cb : Nat), WayAt w p x y.2.1 ab nb cb ∧ nb = y.2.2.length ∧ WfX y.1 ∧ WayR w p base o y x ab nb cb
theorem grown_below {w w' : World} (p : Nat) (hb : Below w.heap.size w w') : w.grownBy w' (some p) := ⟨hb.os, hb.tape, hb.output, hb.size, fun k hk _ => hb.block k hk⟩
theorem grown_set {w w' : World} {p : Nat} (h : w.grownBy w' (some p)) (j : Nat) (v : Value) : w.grownBy (w'.setCell ⟨p, j, none⟩ v) (some p) := h.trans (grown_setCellE w' ⟨p, j, none⟩ v)
theorem WayS.carry {w w' : World} {p base : Nat} {o : Bool} {y : Wy} (h : WayS w p base o y) (hb : Below w.heap.size w w') : WayS w' p base o y := by
  obtain ⟨x, ab, nb, cb, h1, h2, h3, h4⟩ := h
  exact ⟨x, ab, nb, cb, h1.carry hb, h2, h3, h4.later (grown_below p hb)⟩
theorem WayS.lt {w : World} {p base : Nat} {o : Bool} {y : Wy} (h : WayS w p base o y) : p < w.heap.size := by
  obtain ⟨x, ab, nb, cb, h1, _⟩ := h
  exact h1.lt
theorem WayS.err {w : World} {p base : Nat} {o : Bool} {y : Wy} (o' : Bool) (h : WayS w p base o y) (he : y.2.1 ≠ 0) : WayS w p base o' y := by
  obtain ⟨x, ab, nb, cb, h1, h2, h3, h4⟩ := h
  exact ⟨x, ab, nb, cb, h1, h2, h3, fun w' hg => ⟨(h4 w' hg).1, (h4 w' hg).2.1, fun _ h0 => absurd h0 he⟩⟩
theorem WayS.any {w : World} {p base : Nat} {o : Bool} {y : Wy} (h : WayS w p base o y) : WayS w p base false y := by
  obtain ⟨x, ab, nb, cb, h1, h2, h3, h4⟩ := h
  exact ⟨x, ab, nb, cb, h1, h2, h3, fun w' hg => ⟨(h4 w' hg).1, (h4 w' hg).2.1, fun h0 => by cases h0⟩⟩

/-- Another error. -/
theorem WayS.setErr {w : World} {p base : Nat} {o : Bool} {y : Wy} (r : Int) (h : WayS w p base o y) (he : y.2.1 = 0) : WayS (w.setCell ⟨p, 6, none⟩ (.int .i64 r)) p base o (y.1, r, y.2.2) ∧ w.grownBy (w.setCell ⟨p, 6, none⟩ (.int .i64 r)) (some p) := by
  obtain ⟨x, ab, nb, cb, h1, h2, h3, h4⟩ := h
  have hg := grown_setCellE w ⟨p, 6, none⟩ (.int .i64 r)
  refine ⟨⟨x, ab, nb, cb, h1.put 6 _, h2, h3, fun w' hw => ?_⟩, hg⟩
  obtain ⟨a, b, c⟩ := h4 w' (hg.trans hw)
  exact ⟨a, b, fun h0 _ => c h0 he⟩
/-- Another disk, of one's own. -/
theorem WayS.setDisk {w w1 : World} {p base b1 : Nat} {o : Bool} {y : Wy} {d : Dk} {a1 : Option Addr} {n1 c1 : Nat} {a2 : Option Addr} {n2 c2 : Nat} {a3 : Option Addr} {n3 c3 : Nat} (h : WayS w p base o y) (hb : Below w.heap.size w w1) (hb1 : base ≤ b1) (hp : p < b1) (ho : OwD w1 b1 (.agg #[.slice a1 n1 c1, .slice a2 n2 c2, .slice a3 n3 c3]) d) :
    WayS (((w1.setCell ⟨p, 0, none⟩ (.slice a1 n1 c1)).setCell ⟨p, 1, none⟩ (.slice a2 n2 c2)).setCell ⟨p, 2, none⟩ (.slice a3 n3 c3)) p base true (diskW y d) ∧ w.grownBy (((w1.setCell ⟨p, 0, none⟩ (.slice a1 n1 c1)).setCell ⟨p, 1, none⟩ (.slice a2 n2 c2)).setCell ⟨p, 2, none⟩ (.slice a3 n3 c3)) (some p) := by
  obtain ⟨x, ab, nb, cb, h1, h2, h3, h4⟩ := h
  have g1 : w1.grownBy (((w1.setCell ⟨p, 0, none⟩ (.slice a1 n1 c1)).setCell ⟨p, 1, none⟩ (.slice a2 n2 c2)).setCell ⟨p, 2, none⟩ (.slice a3 n3 c3)) (some p) := grown_set (grown_set (grown_set (World.grownBy.refl _ _) 0 _) 1 _) 2 _
  have g0 := (grown_below p hb).trans g1
  refine ⟨⟨⟨a1, n1, c1, a2, n2, c2, a3, n3, c3, x.g, x.a4, x.n4, x.c4, x.a5, x.n5, x.c5⟩, ab, nb, cb, (((h1.carry hb).put 0 _).put 1 _).put 2 _, h2, ⟨h3.g, h3.fl, h3.kl⟩, fun w' hw => ?_⟩, g0⟩
  obtain ⟨a, b, c⟩ := h4 w' (g0.trans hw)
  have ho' := ho.grown (g1.trans hw) hp
  have hl := RdD.mk3 ho'.rd
  exact ⟨⟨ho'.rd, hl.1, hl.2, a.g, a.fl, a.n4, a.kl, a.n5⟩, b, fun _ _ => ho'.mono hb1⟩
/-- The next gen. -/
theorem WayS.setGen {w : World} {p base : Nat} {o : Bool} {y : Wy} (g : Nat) (hg : g < 4294967296) (h : WayS w p base o y) : WayS (w.setCell ⟨p, 3, none⟩ (.int .u32 g)) p base o ((y.1.1, g, y.1.2.2), y.2) ∧ w.grownBy (w.setCell ⟨p, 3, none⟩ (.int .u32 g)) (some p) := by
  obtain ⟨x, ab, nb, cb, h1, h2, h3, h4⟩ := h
  have hg' := grown_setCellE w ⟨p, 3, none⟩ (.int .u32 g)
  refine ⟨⟨⟨x.a1, x.n1, x.c1, x.a2, x.n2, x.c2, x.a3, x.n3, x.c3, g, x.a4, x.n4, x.c4, x.a5, x.n5, x.c5⟩, ab, nb, cb, h1.put 3 _, h2, ⟨hg, h3.fl, h3.kl⟩, fun w' hw => ?_⟩, hg'⟩
  obtain ⟨a, b, c⟩ := h4 w' (hg'.trans hw)
  exact ⟨⟨a.d, a.n1, a.n2, rfl, a.fl, a.n4, a.kl, a.n5⟩, b, c⟩
/-- Another directory, of one's own. -/
theorem WayS.setDir {w w1 : World} {p base b1 : Nat} {o : Bool} {y : Wy} {l : List Fl} {ab : Option Addr} {nb cb : Nat} (h : WayS w p base o y) (hb : Below w.heap.size w w1) (hn : nb = l.length) (hw : wfFs l) (ho : OwF w1 b1 (.slice ab nb cb) l) :
    WayS (w1.setCell ⟨p, 4, none⟩ (.slice ab nb cb)) p base o ((y.1.1, y.1.2.1, l, y.1.2.2.2), y.2) ∧ w.grownBy (w1.setCell ⟨p, 4, none⟩ (.slice ab nb cb)) (some p) := by
  obtain ⟨x, ab', nb', cb', h1, h2, h3, h4⟩ := h
  have g1 := grown_setCellE w1 ⟨p, 4, none⟩ (.slice ab nb cb)
  have g0 := (grown_below p hb).trans g1
  refine ⟨⟨⟨x.a1, x.n1, x.c1, x.a2, x.n2, x.c2, x.a3, x.n3, x.c3, x.g, ab, nb, cb, x.a5, x.n5, x.c5⟩, ab', nb', cb', (h1.carry hb).put 4 _, h2, ⟨h3.g, hw, h3.kl⟩, fun w' hw => ?_⟩, g0⟩
  obtain ⟨a, b, c⟩ := h4 w' (g0.trans hw)
  exact ⟨⟨a.d, a.n1, a.n2, a.g, (ho.keptS (g1.trans hw) (h1.carry hb) (by decide) (by decide)).rd, hn, a.kl, a.n5⟩, b, c⟩
/-- The directory is the committed one. -/
theorem WayS.setKept {w : World} {p base : Nat} {o : Bool} {y : Wy} {x : FsV} {ab : Option Addr} {nb cb : Nat} (h1 : WayAt w p x y.2.1 ab nb cb) (h2 : nb = y.2.2.length) (h3 : WfX y.1) (h4 : WayR w p base o y x ab nb cb) :
    WayS (w.setCell ⟨p, 5, none⟩ (.slice x.a4 x.n4 x.c4)) p base o ((y.1.1, y.1.2.1, y.1.2.2.1, y.1.2.2.1), y.2) ∧ w.grownBy (w.setCell ⟨p, 5, none⟩ (.slice x.a4 x.n4 x.c4)) (some p) := by
  have g1 := grown_setCellE w ⟨p, 5, none⟩ (.slice x.a4 x.n4 x.c4)
  refine ⟨⟨⟨x.a1, x.n1, x.c1, x.a2, x.n2, x.c2, x.a3, x.n3, x.c3, x.g, x.a4, x.n4, x.c4, x.a4, x.n4, x.c4⟩, ab, nb, cb, h1.put 5 _, h2, ⟨h3.g, h3.fl, h3.fl⟩, fun w' hw => ?_⟩, g1⟩
  obtain ⟨a, b, c⟩ := h4 w' (g1.trans hw)
  exact ⟨⟨a.d, a.n1, a.n2, a.g, a.fl, a.n4, a.fl, a.n4⟩, b, c⟩

end Go.Proofs.YtnigdbhjaoeblaaGreat

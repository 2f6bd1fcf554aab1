/-
  What frame's filled does: a block of a record.
-/
import Derived.Test.YtkhkdagdgbmdkaaFr2
namespace Go.Proofs.Ytkhkdagdgbmdkaa
open Go.RowKit
set_option linter.unusedVariables false
set_option linter.unusedSimpArgs false

theorem take_spliceF {α : Type} (cur x : List α) (off n : Nat) (h : off + x.length ≤ n) (hn : n ≤ cur.length) : (cur.take off ++ (x ++ cur.drop (off + x.length))).take n = (cur.take n).take off ++ (x ++ (cur.take n).drop (off + x.length)) := by
  have h1 : (cur.take off).length = off := by rw [List.length_take]; omega
  rw [List.take_append, List.take_append, h1, List.take_of_length_le (l := cur.take off) (by omega), List.take_of_length_le (l := x) (by omega), List.take_take, Nat.min_eq_left (by omega), List.drop_take, Nat.sub_sub]
/-- As many bytes as there is room for are copied into bytes of one's own, from a place on. -/
theorem wpList_copyF {P : Program} (w : World) {ops : Array Oper} {rest : List Oper} {o : Oper} {a : Act} {Q : Exit → Act → World → Prop} (hgd : o.guard = none) (d s : Operand) (dT : TypeId)
    (ho : o.op = .call { callee := .builtin .copy, args := #[d, s], argTypes := #[dT, dT] }) (hu : P.underlying dT = some (.slice 5)) (hsz : (P.info? 5).map (·.size) = some 1)
    (base g n c off dLen dCap : Nat) (hd : a.eval d = .slice (some ⟨g, off, none⟩) dLen dCap) (v : Value) (l : List UInt8) (hs : a.eval s = v) (hrd : Rd w v l)
    (data : List UInt8) (hown : OwB w base (.slice (some ⟨g, 0, none⟩) n c) data) (hfit : off + dLen = data.length)
    (h : ∀ w', w.grownBy w' (some g) → OwB w' base (.slice (some ⟨g, 0, none⟩) n c) (splice data off (l.take dLen)) → wpList P ops Q rest (a.put o.dst (goInt (l.take dLen).length)) w') :
    wpList P ops Q (o :: rest) a w := by
  obtain ⟨sa, sc, rfl⟩ := hrd.form
  by_cases hpos : l = []
  · subst hpos
    refine wpList_copy_nothing hgd d s dT dT ho 5 hu hsz _ _ _ _ _ _ hd hs (Nat.min_eq_left (Nat.zero_le _)) ?_
    have hh := h w (World.grownBy.refl _ _)
    have e0 : (([] : List UInt8).take dLen).length = 0 := by simp
    rw [e0] at hh
    refine hh ?_
    have e : splice data off (([] : List UInt8).take dLen) = data := by simp [splice]
    rw [e]; exact hown
  · rcases hrd with ⟨e, _⟩ | ⟨b, of, c', e, hc, hm, hcell⟩
    · exact absurd e hpos
    · cases e
      have hlt : (l.take dLen).length = min dLen l.length := List.length_take
      have hlen : (u8v (l.take dLen)).length = min dLen l.length := by simp [u8v]
      obtain ⟨hx, h' | ⟨g', cap', cur, e, h1, h2, h3, h4, h5, h6⟩⟩ := hown
      · cases h'.1
      · cases e
        have htk : cur.toList.take data.length = u8v data := by rw [← h6, Nat.mul_one]
        have hcs : data.length ≤ cur.size := by rw [h5]; omega
        refine wpList_copy_own hgd d s dT dT ho 5 hu hsz g off _ dCap ⟨b, of, none⟩ l.length sc hd hs cur _ h2 (u8v (l.take dLen)) (by rw [hlen]; exact Nat.min_comm _ _) ?_ (by rw [hlen]; omega) (u8v_oneCell _) ?_
        · intro j u hj
          obtain ⟨hj', rfl⟩ := u8v_getElem? (l.take dLen) j u hj
          rw [Addr.add_lit]
          rw [List.length_take] at hj'
          rw [List.getElem_take]
          exact hcell j (by omega)
        · rw [hlen, ← hlt]
          refine h _ ⟨rfl, rfl, rfl, by simp [World.setRow], fun k _ hk => setRow_other w g k _ (fun e => hk (by rw [e]))⟩ ?_
          have hl2 : (splice data off (l.take dLen)).length = data.length := length_splice _ _ _ (by rw [hlt]; omega)
          refine ⟨by simp [u8v], .inr ⟨g, c, _, by rw [hl2], h1, setRow_heap w g _ _ _ _ h2, by rw [hl2]; exact h3, h4, ?_, ?_⟩⟩
          · have hz : cur.toList.length = c * 1 := by rw [Array.length_toList, h5]
            simp [hlen]; omega
          · rw [hl2, u8v_splice, hlen, Nat.mul_one]
            show ((cur.toList.take off ++ (u8v (l.take dLen) ++ cur.toList.drop (off + (l.take dLen).length))).take data.length) = _
            have hx1 : off + (u8v (l.take dLen)).length ≤ data.length := by rw [hlen]; omega
            have := take_spliceF cur.toList (u8v (l.take dLen)) off data.length hx1 (by rw [Array.length_toList]; exact hcs)
            rw [htk, hlen] at this
            rw [hlt]; exact this

theorem splice_app (Z p q : List UInt8) (k : Nat) (hk : k = p.length) (h : p.length + q.length ≤ Z.length) : splice (splice Z 0 p) k q = splice Z 0 (p ++ q) := by
  subst hk
  unfold splice
  simp only [List.take_zero, List.nil_append, Nat.zero_add]
  rw [List.take_left, List.drop_append, List.drop_of_length_le (by omega), List.nil_append, List.drop_drop, List.length_append, List.append_assoc]
  congr 3
  omega

/-- What bytes a block has, one behind the other. -/
theorem fill_bytes (h : Hd) (i m : Nat) (rest : List UInt8) :
    (splice (splice (List.replicate 128 0) 0 (hdB h ++ (le2 i ++ le2 m))) 21 (rest.take 107)).set 20 (UInt8.ofNat (min rest.length 107)) = fillB h i m rest := by
  have e1 : splice (List.replicate 128 0) 0 (hdB h ++ (le2 i ++ le2 m)) = hdB h ++ (le2 i ++ (le2 m ++ (0 :: List.replicate 107 0))) := by
    unfold splice; simp [hdB, le4, le2]
  rw [e1]
  have e2 : splice (hdB h ++ (le2 i ++ (le2 m ++ (0 :: List.replicate 107 0)))) 21 (rest.take 107) = hdB h ++ (le2 i ++ (le2 m ++ (0 :: (rest.take 107 ++ List.replicate (107 - rest.length) 0)))) := by
    unfold splice
    have e3 : (hdB h ++ (le2 i ++ (le2 m ++ (0 :: List.replicate 107 (0 : UInt8))))).take 21 = hdB h ++ (le2 i ++ (le2 m ++ [0])) := by simp [hdB, le4, le2]
    have e4 : ∀ k, (hdB h ++ (le2 i ++ (le2 m ++ (0 :: List.replicate 107 (0 : UInt8))))).drop (21 + k) = List.replicate (107 - k) 0 := by
      intro k
      rw [← List.drop_drop]
      have : (hdB h ++ (le2 i ++ (le2 m ++ (0 :: List.replicate 107 (0 : UInt8))))).drop 21 = List.replicate 107 0 := by simp [hdB, le4, le2]
      rw [this, List.drop_replicate]
    rw [e3, e4, List.length_take]
    have e5 : 107 - min 107 rest.length = 107 - rest.length := by omega
    rw [e5]
    simp [List.append_assoc]
  rw [e2]
  simp [fillB, padP, hdB, le4, le2]

/-- The first bytes of a beginning, laid. -/
def begZ (h : Hd) (j : Nat) : List UInt8 := splice (List.replicate 128 0) 0 ((hdB h).take (4 * j))
theorem begZ_len (h : Hd) (j : Nat) : (begZ h j).length = 128 := by
  unfold begZ; rw [length_splice _ _ _ (by rw [List.length_take, hdB_len, List.length_replicate]; omega), List.length_replicate]
theorem begZ_4 (h : Hd) : begZ h 4 = splice (List.replicate 128 0) 0 (hdB h) := rfl
theorem begZ_s0 (h : Hd) : splice (begZ h 0) 0 ((le4 h.1).take 4) = begZ h 1 := by
  unfold begZ
  rw [splice_app _ _ _ _ (by rw [List.length_take, hdB_len]; rfl) (by rw [List.length_take, hdB_len, List.length_take, le4_len, List.length_replicate]; decide)]
  rfl
theorem begZ_s1 (h : Hd) : splice (begZ h 1) 4 ((le4 h.2.1).take 4) = begZ h 2 := by
  unfold begZ
  rw [splice_app _ _ _ _ (by rw [List.length_take, hdB_len]; rfl) (by rw [List.length_take, hdB_len, List.length_take, le4_len, List.length_replicate]; decide)]
  rfl
theorem begZ_s2 (h : Hd) : splice (begZ h 2) 8 ((le4 h.2.2.1).take 4) = begZ h 3 := by
  unfold begZ
  rw [splice_app _ _ _ _ (by rw [List.length_take, hdB_len]; rfl) (by rw [List.length_take, hdB_len, List.length_take, le4_len, List.length_replicate]; decide)]
  rfl
theorem begZ_s3 (h : Hd) : splice (begZ h 3) 12 ((le4 h.2.2.2).take 4) = begZ h 4 := by
  unfold begZ
  rw [splice_app _ _ _ _ (by rw [List.length_take, hdB_len]; rfl) (by rw [List.length_take, hdB_len, List.length_take, le4_len, List.length_replicate]; decide)]
  rfl

theorem Try.ix0 (x0 x1 x2 x3 : Nat) (wx : World) : (Instr.index 54 (.agg #[.int .u32 x0, .int .u32 x1, .int .u32 x2, .int .u32 x3]) (.int .i64 0)).run Try.prog wx = .ok (.int .u32 x0) wx := by rfl
theorem Try.ix1 (x0 x1 x2 x3 : Nat) (wx : World) : (Instr.index 54 (.agg #[.int .u32 x0, .int .u32 x1, .int .u32 x2, .int .u32 x3]) (.int .i64 1)).run Try.prog wx = .ok (.int .u32 x1) wx := by rfl
theorem Try.ix2 (x0 x1 x2 x3 : Nat) (wx : World) : (Instr.index 54 (.agg #[.int .u32 x0, .int .u32 x1, .int .u32 x2, .int .u32 x3]) (.int .i64 2)).run Try.prog wx = .ok (.int .u32 x2) wx := by rfl
theorem Try.ix3 (x0 x1 x2 x3 : Nat) (wx : World) : (Instr.index 54 (.agg #[.int .u32 x0, .int .u32 x1, .int .u32 x2, .int .u32 x3]) (.int .i64 3)).run Try.prog wx = .ok (.int .u32 x3) wx := by rfl

set_option maxHeartbeats 2000000 in
set_option maxRecDepth 100000 in
theorem filled_any (h : Hd) (place many : Nat) (rv : Value) (rest : List UInt8) (w : World) (hh : okH h) (hp : place < 65536) (hm : many < 65536) (hrd : Rd w rv rest) :
    Calls Try.prog 22 #[.agg #[.int .u32 h.1, .int .u32 h.2.1, .int .u32 h.2.2.1, .int .u32 h.2.2.2], .int .i64 place, .int .i64 many, rv] w fun e w' => ∃ c, e = .returned (.tuple #[.slice (some ⟨w.heap.size + 1, 0, none⟩) 128 c, .int .i64 (min rest.length 107 : Nat)]) ∧ OwB w' w.heap.size (.slice (some ⟨w.heap.size + 1, 0, none⟩) 128 c) (fillB h place many rest) ∧ Below w.heap.size w w' := by
  have HR := hide hrd
  obtain ⟨x0, x1, x2, x3⟩ := h
  obtain ⟨h0, h1, h2, h3⟩ := hh
  have h0 : x0 < 4294967296 := h0
  have h1 : x1 < 4294967296 := h1
  have h2 : x2 < 4294967296 := h2
  have h3 : x3 < 4294967296 := h3
  have H0 := hide h0
  have H1 := hide h1
  have H2 := hide h2
  have H3 := hide h3
  obtain ⟨w2, hmk, hO2, hb2⟩ := make128 (w.alloc (.cells #[.int .u32 x0, .int .u32 x1, .int .u32 x2, .int .u32 x3] 54))
  have hsz : (w.alloc (.cells #[.int .u32 x0, .int .u32 x1, .int .u32 x2, .int .u32 x3] 54)).heap.size = w.heap.size + 1 := by simp
  rw [hsz] at hmk hO2 hb2
  have hB2 : Below w.heap.size w w2 := ((Below.refl _ _).alloc (Nat.le_refl _) _).trans (hb2.mono (by omega))
  have q0 : w2.cell? ⟨w.heap.size, 0, none⟩ = some (.int .u32 x0) := by rw [hb2.cell (by show w.heap.size < _; omega)]; simp
  have q1 : w2.cell? ⟨w.heap.size, 1, none⟩ = some (.int .u32 x1) := by rw [hb2.cell (by show w.heap.size < _; omega)]; simp
  have q2 : w2.cell? ⟨w.heap.size, 2, none⟩ = some (.int .u32 x2) := by rw [hb2.cell (by show w.heap.size < _; omega)]; simp
  have q3 : w2.cell? ⟨w.heap.size, 3, none⟩ = some (.int .u32 x3) := by rw [hb2.cell (by show w.heap.size < _; omega)]; simp
  have HO2 := hide hO2
  have HHP := hide hp
  have HHM := hide hm
  have HSZ := hide hsz
  clear hO2 hrd hb2 h0 h1 h2 h3 hsz
  go_enter Try.func22, Try.ntmps22
  go_wp2
  go_loopw [14] (fun i wr => ∃ j : Nat, j ≤ 4 ∧ i = .int .i64 j ∧ Hid (OwB wr w.heap.size (.slice (some ⟨w.heap.size + 1, 0, none⟩) 128 128) (begZ (x0, x1, x2, x3) j)) ∧ Below w.heap.size w wr) (fun i _ => 4 - (intOf i).toNat)
  case atStart => exact ⟨0, Nat.zero_le _, rfl, hide (HO2.out.mono (by omega)), hB2⟩
  case round =>
    clear q0 q1 q2 q3 hmk hB2 hp hm
    obtain ⟨j, hj, rfl, ho, hbel⟩ := hrel
    by_cases hlt : j < 4
    · obtain rfl | rfl | rfl | rfl : j = 0 ∨ j = 1 ∨ j = 2 ∨ j = 3 := by omega
      · clear hlt hj
        have hix := Try.ix0 x0 x1 x2 x3
        go_wp2_with fail
        refine (fput_any w.heap.size (w.heap.size + 1) 128 128 0 4 128 _ x0 _ ho.out (by omega) (by rw [begZ_len]; omega) H0.out).mono ?_
        rintro e w3 ⟨rfl, hg3, hO3⟩
        rw [begZ_s0] at hO3
        have hB3 : Below w.heap.size w w3 := hbel.grown hg3 hbel.size (fun k hk => by cases hk; omega)
        have HO3 := hide hO3
        clear hO3 hg3 ho hbel
        go_wp2
        go_roundw
        case rel => exact ⟨1, by omega, rfl, HO3, hB3⟩
        case measure => simp only [intOf]; omega
      · clear hlt hj
        have hix := Try.ix1 x0 x1 x2 x3
        go_wp2_with fail
        refine (fput_any w.heap.size (w.heap.size + 1) 128 128 4 4 124 _ x1 _ ho.out (by omega) (by rw [begZ_len]; omega) H1.out).mono ?_
        rintro e w3 ⟨rfl, hg3, hO3⟩
        rw [begZ_s1] at hO3
        have hB3 : Below w.heap.size w w3 := hbel.grown hg3 hbel.size (fun k hk => by cases hk; omega)
        have HO3 := hide hO3
        clear hO3 hg3 ho hbel
        go_wp2
        go_roundw
        case rel => exact ⟨2, by omega, rfl, HO3, hB3⟩
        case measure => simp only [intOf]; omega
      · clear hlt hj
        have hix := Try.ix2 x0 x1 x2 x3
        go_wp2_with fail
        refine (fput_any w.heap.size (w.heap.size + 1) 128 128 8 4 120 _ x2 _ ho.out (by omega) (by rw [begZ_len]; omega) H2.out).mono ?_
        rintro e w3 ⟨rfl, hg3, hO3⟩
        rw [begZ_s2] at hO3
        have hB3 : Below w.heap.size w w3 := hbel.grown hg3 hbel.size (fun k hk => by cases hk; omega)
        have HO3 := hide hO3
        clear hO3 hg3 ho hbel
        go_wp2
        go_roundw
        case rel => exact ⟨3, by omega, rfl, HO3, hB3⟩
        case measure => simp only [intOf]; omega
      · clear hlt hj
        have hix := Try.ix3 x0 x1 x2 x3
        go_wp2_with fail
        refine (fput_any w.heap.size (w.heap.size + 1) 128 128 12 4 116 _ x3 _ ho.out (by omega) (by rw [begZ_len]; omega) H3.out).mono ?_
        rintro e w3 ⟨rfl, hg3, hO3⟩
        rw [begZ_s3] at hO3
        have hB3 : Below w.heap.size w w3 := hbel.grown hg3 hbel.size (fun k hk => by cases hk; omega)
        have HO3 := hide hO3
        clear hO3 hg3 ho hbel
        go_wp2
        go_roundw
        case rel => exact ⟨4, by omega, rfl, HO3, hB3⟩
        case measure => simp only [intOf]; omega
    · have hd : decide ((j : Int) < 4) = false := by simpa using (by omega : ¬ (j : Int) < 4)
      obtain rfl : j = 4 := by omega
      have hwp : IntKind.u32.wrap (place : Int) = place := by rw [IntKind.wrap_u32']; have := HHP.out; omega
      have hwm : IntKind.u32.wrap (many : Int) = many := by rw [IntKind.wrap_u32']; have := HHM.out; omega
      go_wp2_with fail
      refine (fput_any w.heap.size (w.heap.size + 1) 128 128 16 2 112 _ place _ ho.out (by omega) (by rw [begZ_len]; omega) (by have := HHP.out; omega)).mono ?_
      rintro e w4 ⟨rfl, hg4, hO4⟩
      have hB4 : Below w.heap.size w w4 := hbel.grown hg4 hbel.size (fun k hk => by cases hk; omega)
      have HO4 := hide hO4
      clear hO4 hg4 ho hbel hd
      go_wp2_with fail
      refine (fput_any w.heap.size (w.heap.size + 1) 128 128 18 2 110 _ many _ HO4.out (by omega) (by rw [length_splice _ _ _ (by rw [begZ_len, List.length_take, le4_len]; decide), begZ_len]; omega) (by have := HHM.out; omega)).mono ?_
      rintro e w5 ⟨rfl, hg5, hO5⟩
      have hB5 : Below w.heap.size w w5 := hB4.grown hg5 hB4.size (fun k hk => by cases hk; omega)
      rw [begZ_4, splice_app (List.replicate 128 0) (hdB (x0, x1, x2, x3)) ((le4 place).take 2) 16 rfl (by rw [hdB_len, List.length_take, le4_len, List.length_replicate]; decide), splice_app (List.replicate 128 0) (hdB (x0, x1, x2, x3) ++ (le4 place).take 2) ((le4 many).take 2) 18 rfl (by rw [List.length_append, hdB_len, List.length_take, List.length_take, le4_len, le4_len, List.length_replicate]; decide)] at hO5
      have e5 : (hdB (x0, x1, x2, x3) ++ (le4 place).take 2) ++ (le4 many).take 2 = hdB (x0, x1, x2, x3) ++ (le2 place ++ le2 many) := by rw [List.append_assoc]; rfl
      rw [e5] at hO5
      have HO5 := hide hO5
      have HL5 := hide (show (splice (List.replicate 128 0) 0 (hdB (x0, x1, x2, x3) ++ (le2 place ++ le2 many))).length = 128 by rw [length_splice _ _ _ (by rw [List.length_append, List.length_append, hdB_len, le2_len, le2_len, List.length_replicate]; decide), List.length_replicate])
      have HFB := hide (fill_bytes (x0, x1, x2, x3) place many rest)
      obtain ⟨Z, hZ⟩ : ∃ Z, Z = splice (List.replicate 128 0) 0 (hdB (x0, x1, x2, x3) ++ (le2 place ++ le2 many)) := ⟨_, rfl⟩
      rw [← hZ] at HO5 HL5 HFB
      obtain ⟨F, hF⟩ : ∃ F, F = fillB (x0, x1, x2, x3) place many rest := ⟨_, rfl⟩
      have HF := hide hF
      have HRM := hide (show (rest.take 107).length = min rest.length 107 by rw [List.length_take]; omega)
      obtain ⟨q, hq⟩ : ∃ q, q = min rest.length 107 := ⟨_, rfl⟩
      have hq1 : q ≤ 107 := by omega
      have hq2 : IntKind.u8.wrap (q : Int) = ((UInt8.ofNat q).toNat : Int) := by rw [IntKind.wrap_u8', UInt8.toNat_ofNat']; omega
      have HQ := hide hq
      rw [← hq] at HRM HFB
      have HR5 := hide (HR.out.carry hB5)
      clear hO5 hg5 hB4 HO4 hZ hF hq e5 hwp hwm
      have HK := hide (fun (w6 : World) (hg6 : w5.grownBy w6 (some (w.heap.size + 1))) (hO6 : OwB w6 w.heap.size (.slice (some ⟨w.heap.size + 1, 0, none⟩) 128 128) (splice Z 21 (rest.take 107))) => by
        have hl6 : (splice Z 21 (rest.take 107)).length = 128 := by rw [length_splice _ _ _ (by rw [HL5.out, HRM.out]; omega), HL5.out]
        obtain ⟨o1, o2⟩ := hO6.stored 20 (UInt8.ofNat q)
        rw [HFB.out] at o1
        have hB6 : Below w.heap.size w w6 := hB5.grown hg6 hB5.size (fun k hk => by cases hk; omega)
        have hB7 := hB6.grown o2 hB6.size (fun k hk => by cases hk; omega)
        exact (⟨hO6.fz 20, ⟨_, hO6.at 20 (by omega)⟩, o1, hB7⟩ : w6.frozen? ⟨w.heap.size + 1, 20, none⟩ = false ∧ (∃ v, w6.cell? ⟨w.heap.size + 1, 20, none⟩ = some v) ∧ OwB (w6.setCell ⟨w.heap.size + 1, 20, none⟩ (.int .u8 (UInt8.ofNat q).toNat)) w.heap.size (.slice (some ⟨w.heap.size + 1, 0, none⟩) 128 128) (fillB (x0, x1, x2, x3) place many rest) ∧ Below w.heap.size w (w6.setCell ⟨w.heap.size + 1, 20, none⟩ (.int .u8 (UInt8.ofNat q).toNat))))
      go_wp2_with (refine wpList_copyF w5 rfl (.tmp 37) (.tmp 38) 25 rfl Try.underlying25 Try.sizeB w.heap.size (w.heap.size + 1) 128 128 21 107 107 rfl _ rest rfl HR5.out _ HO5.out (by rw [HL5.out]) ?_; intro w6 hg6 hO6; obtain ⟨hfz, ⟨cv, hcv⟩, ho7, hb7⟩ := HK.out w6 hg6 hO6; have HO7 := hide ho7; have HB7 := hide hb7; clear hg6 hO6 ho7 hb7; rw [HRM.out])
      go_ret2
      refine ⟨128, ?_, HO7.out, HB7.out⟩
      rw [← HQ.out]
      rfl

end Go.Proofs.Ytkhkdagdgbmdkaa

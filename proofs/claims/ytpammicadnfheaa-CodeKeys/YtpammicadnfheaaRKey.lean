/-
  What the document's May, part and Key do.
-/
import Derived.Test.YtpammicadnfheaaKey
namespace Go.Proofs.Ytpammicadnfheaa
open Go.RowKit
set_option linter.unusedVariables false
set_option linter.unusedSimpArgs false

set_option maxHeartbeats 400000 in
set_option maxRecDepth 100000 in
theorem rmay_any (t : Bool) (n : Nat) (s : List UInt8) (w : World) (hn : n < 18446744073709551616) :
    Calls Try.prog 34 #[.agg #[.bool t, .int .u64 n, .string (bs s)]] w fun e w' => e = .returned (.bool (!nb (t, n, s))) ∧ Below w.heap.size w w' := by
  have es : (bs s).toList = s := by rw [ByteArray.toList_eq, bs_toList]
  cases t
  · go_enter Try.func34, Try.ntmps34
    go_wp2
    go_ret
    refine ⟨ret_bool ?_, (Below.refl _ _).alloc (Nat.le_refl _) _⟩
    first | (cases s <;> simp [nb]; done) | (rw [ByteArray.toList_eq, bs_toList]; cases s <;> simp [nb])
  · by_cases h0 : n = 0
    · subst h0
      go_enter Try.func34, Try.ntmps34
      go_wp2
      go_ret
      exact ⟨ret_bool (by simp [nb]), (Below.refl _ _).alloc (Nat.le_refl _) _⟩
    · have h0' : ((n : Int) == 0) = false := by simpa using (by omega : ¬ (n : Int) = 0)
      go_enter Try.func34, Try.ntmps34
      go_wp2
      go_ret
      exact ⟨ret_bool (by simp [nb, h0]), (Below.refl _ _).alloc (Nat.le_refl _) _⟩

section
variable {P : Program}
/-- Bytes of a literal are appended to a row of one's own. -/
theorem wpList_applN {ops : Array Oper} {rest : List Oper} {o : Oper} {a : Act} {Q : Exit → Act → World → Prop} (wr : World) (hgd : o.guard = none) (s x : Operand) (t : TypeId)
    (ho : o.op = .call { callee := .builtin .append, args := #[s, x], argTypes := #[t, t] })
    (base : Nat) (e : TypeId) (ht : P.underlying t = some (.slice e)) (hi : (P.info? e).map (fun i => (i.zero, i.size, i.bytes)) = some (some (.int .u8 0), 1, 1))
    (v : Value) (l : List UInt8) (hown : wr.ownsRow base e 1 v l.length (u8v l)) (hs : a.eval s = v) (hb : base ≤ wr.heap.size)
    (arr : Array Value) (cs : List UInt8) (harr : arr = (u8v cs).toArray) (m : Nat) (hm : m = cs.length) (N : Nat) (hN : wr.heap.size = N) (hx : a.eval x = .slice (some ⟨N, 0, none⟩) m m) (h0 : 0 < m) (hlen : l.length + m ≤ 1000000000000)
    (h : ∀ v' w', w'.ownsRow base e 1 v' (l ++ cs).length (u8v (l ++ cs)) → Gro wr v w' v' → wpList P ops Q rest (a.put o.dst v') w') :
    wpList P ops Q (o :: rest) a (wr.alloc (.cells arr e)) := by
  subst hN
  exact wpList_appl wr hgd s x t ho base e ht hi v l hown hs hb arr cs harr m hm hx h0 hlen h
end

theorem bs_get' (l : List UInt8) (k : Nat) (h : k < (bs l).size) : (bs l)[k] = l[k]'(by rwa [bs_size] at h) := by
  show (bs l).data[k] = _
  simp [bs]
theorem rword_byte (n i : Nat) : ((n : Int) / 2 ^ (8 * i)).tmod 256 % 256 = ((UInt8.ofNat (n / 256 ^ i)).toNat : Int) := by
  have h0 : (0 : Int) ≤ (n : Int) / 2 ^ (8 * i) := by
    have e : ((2 : Int) ^ (8 * i)) = ((2 ^ (8 * i) : Nat) : Int) := by rw [Int.natCast_pow]; rfl
    rw [e]
    exact Int.ediv_nonneg (Int.natCast_nonneg _) (Int.natCast_nonneg _)
  rw [← word_byte, Int.tmod_eq_emod_of_nonneg h0]
  omega

set_option maxHeartbeats 600000 in
set_option maxRecDepth 100000 in
theorem rpart_any (t : Bool) (n : Nat) (s : List UInt8) (w : World) (hn : n < 18446744073709551616) (hs : s.length ≤ 100000) :
    Calls Try.prog 35 #[.agg #[.bool t, .int .u64 n, .string (bs s)]] w fun e w' => ∃ v, e = .returned v ∧ w'.ownsRow w.heap.size 5 1 v (pb (t, n, s)).length (u8v (pb (t, n, s))) ∧ Below w.heap.size w w' := by
  have hss := bs_size s
  have hB0 : Below w.heap.size w (w.alloc (.cells #[.bool t, .int .u64 n, .string (bs s)] 32)) := (Below.refl _ _).alloc (Nat.le_refl _) _
  have hS0 : w.heap.size < (w.alloc (.cells #[.bool t, .int .u64 n, .string (bs s)] 32)).heap.size := by simp
  have HB0 := hide hB0
  have HS0 := hide hS0
  clear hB0 hS0
  cases t
  · go_enter Try.func35, Try.ntmps35
    go_wp2_with (at_builtin; go_must (refine wpList_applN _ rfl (.tmp 9) (.tmp 10) 26 rfl w.heap.size 5 Try.underlying26 Try.infoB _ [] (World.ownsRow_nil _ _ _ _) rfl (Nat.le_of_lt HS0.out) _ [1] (by rfl) 1 rfl (w.heap.size + 1) (by simp) rfl (by decide) (by simp) ?_); intro v1 w1 hown1 hgro1; have k1 : w1.cell? ⟨w.heap.size, 1, none⟩ = some (.int .u64 n) := hgro1.cell (by simp) (by simp [Value.ownBlock]); have HOB := hide (fun k hk => (hown1.lt k hk).1); have HVB := hide (hgro1.apart HS0.out (by simp [Value.ownBlock])); have HB1 := hide (hgro1.below HB0.out (Nat.le_refl _) (by simp [Value.ownBlock])); clear hgro1)
    have hz1 : w.heap.size ≤ w1.heap.size := HB1.out.size
    have HK := hide k1
    clear k1
    go_loopw [3, 4] (fun x i wr => ∃ (j : Nat) (pre : List UInt8), j ≤ 8 ∧ pre.length + j = 8 ∧ i = .int .i64 (8 * (j : Int) - 8) ∧ wb n = pre ++ wbk n j ∧ wr.ownsRow w.heap.size 5 1 x (1 :: pre).length (u8v (1 :: pre)) ∧ Gro w1 v1 wr x) (fun _ i _ => (intOf i + 8).toNat)
    case atStart => exact ⟨8, [], Nat.le_refl _, rfl, rfl, rfl, hown1, Gro.refl _ _⟩
    case round =>
      clear hown1
      obtain ⟨j, pre, hj, hpl, rfl, hpre, hown, hgro⟩ := hrel
      have HP := hide hpre
      have hbw : w.heap.size ≤ wr.heap.size := Nat.le_trans hz1 hgro.1.size
      clear hpre
      by_cases hj0 : j = 0
      · subst hj0
        go_wp2
        go_ret
        have e : pb (false, n, s) = 1 :: pre := by simp only [pb, Bool.false_eq_true, if_false, HP.out]; simp [wbk]
        rw [e]
        exact ⟨_, rfl, hown, hgro.below HB1.out (Nat.le_refl _) HOB.out⟩
      · obtain ⟨i, rfl⟩ : ∃ i, j = i + 1 := ⟨j - 1, by omega⟩
        have ei : 8 * ((i + 1 : Nat) : Int) - 8 = ((8 * i : Nat) : Int) := by omega
        rw [ei]
        clear ei
        have hk1 : wr.cell? ⟨w.heap.size, 1, none⟩ = some (.int .u64 n) := hgro.cell HK.out HVB.out
        have h8 : ((8 * i : Nat) : Int) ≤ 56 := by omega
        have h80 : (0 : Int) ≤ ((8 * i : Nat) : Int) := by omega
        go_wp2_with (at_builtin; go_must (refine wpList_appl wr rfl (.tmp 16) (.tmp 24) 26 rfl w.heap.size 5 Try.underlying26 Try.infoB _ (1 :: pre) hown rfl hbw _ [UInt8.ofNat (n / 256 ^ i)] (by simp only [u8v, List.map_cons, List.map_nil, ← rword_byte]) 1 rfl rfl (by decide) (by simp; omega) ?_); intro v2 w2 hown2 hgro2)
        go_roundw
        case rel => exact ⟨i, pre ++ [UInt8.ofNat (n / 256 ^ i)], by omega, by simp; omega, by go_num, by rw [HP.out]; simp [wbk], by simpa using hown2, hgro.trans hgro2⟩
        case measure => simp [intOf] <;> omega
  · go_enter Try.func35, Try.ntmps35
    go_wp2_with (at_builtin; go_must (refine wpList_applN _ rfl (.tmp 27) (.tmp 28) 26 rfl w.heap.size 5 Try.underlying26 Try.infoB _ [] (World.ownsRow_nil _ _ _ _) rfl (Nat.le_of_lt HS0.out) _ [2] (by rfl) 1 rfl (w.heap.size + 1) (by simp) rfl (by decide) (by simp) ?_); intro v1 w1 hown1 hgro1; have k2 : w1.cell? ⟨w.heap.size, 2, none⟩ = some (.string (bs s)) := hgro1.cell (by simp) (by simp [Value.ownBlock]); have HOB := hide (fun k hk => (hown1.lt k hk).1); have HVB := hide (hgro1.apart HS0.out (by simp [Value.ownBlock])); have HB1 := hide (hgro1.below HB0.out (Nat.le_refl _) (by simp [Value.ownBlock])); clear hgro1)
    have hz1 : w.heap.size ≤ w1.heap.size := HB1.out.size
    have HK := hide k2
    clear k2
    go_loopw [3, 5] (fun x i wr => ∃ k : Nat, k ≤ s.length ∧ i = .int .i64 k ∧ wr.ownsRow w.heap.size 5 1 x (2 :: esc (s.take k)).length (u8v (2 :: esc (s.take k))) ∧ Gro w1 v1 wr x) (fun _ i _ => s.length - (intOf i).toNat)
    case atStart => exact ⟨0, Nat.zero_le _, rfl, hown1, Gro.refl _ _⟩
    case round =>
      clear hown1
      obtain ⟨k, hk, rfl, hown, hgro⟩ := hrel
      have hbw : w.heap.size ≤ wr.heap.size := Nat.le_trans hz1 hgro.1.size
      have hk2 : wr.cell? ⟨w.heap.size, 2, none⟩ = some (.string (bs s)) := hgro.cell HK.out HVB.out
      have hel := esc_len (s.take k)
      have htl : (s.take k).length ≤ k := List.length_take_le _ _
      by_cases hlt : k < s.length
      · have hlt' : (k : Int) < s.length := by omega
        have HE : Hid (esc (s.take (k + 1)) = esc (s.take k) ++ if s[k] = 0 then [0, 255] else [s[k]]) := by
          show _ = _
          rw [List.take_succ_eq_append_getElem hlt, esc_append]
          congr 1
        obtain ⟨c, hcx⟩ : ∃ c, c = s[k] := ⟨_, rfl⟩
        rw [← hcx] at HE
        have hg : ∀ h, (bs s)[k]'h = c := fun h => by rw [bs_get']; exact hcx.symm
        clear hcx
        have hcb := c.toNat_lt
        by_cases h0 : c = 0
        · subst h0
          rw [if_pos rfl] at HE
          go_wp2_with (first | (at_builtin; refine wpList_appl wr rfl (.tmp 37) (.tmp 42) 26 rfl w.heap.size 5 Try.underlying26 Try.infoB _ _ hown rfl hbw _ [0] (by rfl) 1 rfl rfl (by decide) (by simp; omega) ?_; intro v2 w2 hown2 hgro2; have hbw2 : w.heap.size ≤ w2.heap.size := Nat.le_trans hbw hgro2.1.size; have hk3 : w2.cell? ⟨w.heap.size, 2, none⟩ = some (.string (bs s)) := (hgro.trans hgro2).cell HK.out HVB.out) | (at_builtin; refine wpList_appl w2 rfl (.tmp 49) (.tmp 50) 26 rfl w.heap.size 5 Try.underlying26 Try.infoB _ _ hown2 rfl hbw2 _ [255] (by rfl) 1 rfl rfl (by decide) (by simp; omega) ?_; intro v3 w3 hown3 hgro3))
          go_roundw
          case rel => exact ⟨k + 1, by omega, by go_num, by rw [HE.out]; simpa using hown3, (hgro.trans hgro2).trans hgro3⟩
          case measure => simp [intOf] <;> omega
        · rw [if_neg h0] at HE
          have h0' : ((c.toNat : Int) == 0) = false := by
            have : c.toNat ≠ 0 := fun h => h0 (by rw [← UInt8.toNat_inj]; simpa using h)
            simpa using this
          go_wp2_with (at_builtin; go_must (refine wpList_appl wr rfl (.tmp 37) (.tmp 42) 26 rfl w.heap.size 5 Try.underlying26 Try.infoB _ _ hown rfl hbw _ [c] (by rfl) 1 rfl rfl (by decide) (by simp; omega) ?_); intro v2 w2 hown2 hgro2; have hk3 : w2.cell? ⟨w.heap.size, 2, none⟩ = some (.string (bs s)) := (hgro.trans hgro2).cell HK.out HVB.out)
          go_roundw
          case rel => exact ⟨k + 1, by omega, by go_num, by rw [HE.out]; simpa using hown2, hgro.trans hgro2⟩
          case measure => simp [intOf] <;> omega
      · go_wp2_with (at_builtin; go_must (refine wpList_appl wr rfl (.tmp 52) (.tmp 53) 26 rfl w.heap.size 5 Try.underlying26 Try.infoB _ _ hown rfl hbw _ [0, 0] (by rfl) 2 rfl rfl (by decide) (by simp; omega) ?_); intro v2 w2 hown2 hgro2)
        go_ret
        refine ⟨_, rfl, ?_, (hgro.trans hgro2).below HB1.out (Nat.le_refl _) HOB.out⟩
        rw [List.take_of_length_le (by omega)] at hown2
        simpa [pb] using hown2

set_option maxHeartbeats 400000 in
set_option maxRecDepth 100000 in
theorem rkey_few (l : List Pt) (a : Option Addr) (c : Nat) (w : World) (hlen : l.length ≤ 1000000000) (h : l.length < 1 ∨ 8 < l.length) :
    Calls Try.prog 24 #[.slice a l.length c] w fun e w' => e = .returned (kyV l) ∧ w' = w := by
  have HK : Hid (kyV l = .tuple #[.string ByteArray.empty, .int .i64 4]) := by show _ = _; rw [kyV, ky_many h]; rfl
  rcases h with h | h
  · have h' : (l.length : Int) < 1 := by omega
    go_enter Try.func24, Try.ntmps24
    go_wp2
    all_goals (go_ret2; exact ⟨by rw [HK.out]; rfl, rfl⟩)
  · have h' : (8 : Int) < l.length := by omega
    go_enter Try.func24, Try.ntmps24
    go_wp2
    all_goals (go_ret2; exact ⟨by rw [HK.out]; rfl, rfl⟩)

theorem any_take_false {l : List Pt} {k : Nat} (hk : k < l.length) (h : (l.take k).any nb = false) (h2 : nb l[k] = false) : (l.take (k + 1)).any nb = false := by
  rw [List.take_succ_eq_append_getElem hk, List.any_append, h]; simpa using h2

set_option maxHeartbeats 1000000 in
set_option maxRecDepth 100000 in
theorem rkey_row (b off c : Nat) (l : List Pt) (w : World) (h1 : 1 ≤ l.length) (h8 : l.length ≤ 8) (hcell : ∀ j, (h : j < l.length) →
    w.cell? ⟨b, off + j * 3, none⟩ = some (.bool (l[j]).1) ∧ w.cell? ⟨b, off + j * 3 + 1, none⟩ = some (.int .u64 (l[j]).2.1) ∧ w.cell? ⟨b, off + j * 3 + 2, none⟩ = some (.string (bs (l[j]).2.2)) ∧
    (l[j]).2.1 < 18446744073709551616 ∧ (l[j]).2.2.length ≤ maxLen) :
    Calls Try.prog 24 #[.slice (some ⟨b, off, none⟩) l.length c] w fun e w' => e = .returned (kyV l) ∧ Below w.heap.size w w' := by
  have HNO := hide (show ¬ (l.length < 1 ∨ 8 < l.length) by omega)
  have HC := hide hcell
  clear hcell
  go_enter Try.func24, Try.ntmps24
  go_wp2
  go_loopw [4] (fun i wr => ∃ k : Nat, k ≤ l.length ∧ i = .int .i64 k ∧ (l.take k).any nb = false ∧ Below w.heap.size w wr) (fun i _ => l.length - (intOf i).toNat)
  case atStart => exact ⟨0, Nat.zero_le _, rfl, rfl, Below.refl _ _⟩
  case round =>
    obtain ⟨k, hk, rfl, hno, hbel⟩ := hrel
    have HN := hide hno
    clear hno
    by_cases hlt : k < l.length
    · have hlt' : (k : Int) < l.length := by omega
      obtain ⟨c0, c1, c2, h3, h4⟩ := HC.out k hlt
      rw [← hbel.cell (World.block_lt_of_cell? w _ c0)] at c0
      rw [← hbel.cell (World.block_lt_of_cell? w _ c1)] at c1
      rw [← hbel.cell (World.block_lt_of_cell? w _ c2)] at c2
      have HA : Hid (nb l[k] = true → l.any nb = true) := fun h => List.any_eq_true.2 ⟨_, List.getElem_mem hlt, h⟩
      have HT : Hid (nb l[k] = false → (l.take (k + 1)).any nb = false) := any_take_false hlt HN.out
      obtain ⟨⟨t, n, s⟩, hp⟩ : ∃ p : Pt, l[k] = p := ⟨_, rfl⟩
      rw [hp] at c0 c1 c2 h3 HA HT
      clear hp h4
      dsimp only at c0 c1 c2 h3
      go_wp2_with fail
      refine (rmay_any t n s _ h3).mono ?_
      rintro e w2 ⟨rfl, hb2⟩
      have hbel2 : Below w.heap.size w w2 := hbel.trans (hb2.mono hbel.size)
      cases hnb : nb (t, n, s) with
      | true =>
        have HK : Hid (kyV l = .tuple #[.string ByteArray.empty, .int .i64 8]) := by show _ = _; rw [kyV, ky_nb HNO.out (HA.out hnb)]; rfl
        clear hnb
        go_wp2
        go_ret2
        exact ⟨by rw [HK.out]; rfl, hbel2⟩
      | false =>
        have HF := hide (HT.out hnb)
        clear hnb
        go_wp2
        go_roundw
        case rel => exact ⟨k + 1, by omega, by go_num, HF.out, hbel2⟩
        case measure => simp [intOf] <;> omega
    · have hlt' : ¬ (k : Int) < l.length := by omega
      have HNB : Hid (l.any nb = false) := by
        have := HN.out
        rw [List.take_of_length_le (by omega)] at this
        exact this
      clear HN
      go_wp2
      go_loopw [5, 6] (fun x i wx => ∃ k : Nat, k ≤ l.length ∧ i = .int .i64 k ∧ (∀ j, (h : j < l.length) → j < k → (l[j]).2.2.length ≤ 64) ∧ wx.ownsRow w.heap.size 5 1 x (pbs (l.take k)).length (u8v (pbs (l.take k))) ∧ Below w.heap.size w wx) (fun _ i _ => l.length - (intOf i).toNat)
      case atStart => exact ⟨0, Nat.zero_le _, rfl, fun j _ h => by omega, World.ownsRow_nil _ _ _ _, hbel⟩
      case round =>
        clear hbel
        obtain ⟨k, hk, rfl, hsh, hown, hbel⟩ := hrel
        have HSH := hide hsh
        clear hsh
        have hlen : (pbs (l.take k)).length ≤ k * 137 := by
          have := pbs_take_len (l.take k) (fun j h => by
            simp only [List.getElem_take]
            have : j < k := by simp at h; omega
            exact HSH.out j (by omega) this) k (by simp; omega)
          rwa [List.take_take, Nat.min_self] at this
        by_cases hlt : k < l.length
        · have hlt' : (k : Int) < l.length := by omega
          obtain ⟨c0, c1, c2, h3, h4⟩ := HC.out k hlt
          rw [← hbel.cell (World.block_lt_of_cell? w _ c0)] at c0
          rw [← hbel.cell (World.block_lt_of_cell? w _ c1)] at c1
          rw [← hbel.cell (World.block_lt_of_cell? w _ c2)] at c2
          have HT : Hid (pbs (l.take (k + 1)) = pbs (l.take k) ++ pb l[k]) := pbs_snoc l k hlt
          have HL : Hid (64 < (l[k]).2.2.length → ky l = ([], 3)) := fun h => ky_long HNO.out HNB.out hlt h
          obtain ⟨⟨t, n, s⟩, hp⟩ : ∃ p : Pt, l[k] = p := ⟨_, rfl⟩
          have HP := hide hp
          rw [hp] at c0 c1 c2 h3 HT HL
          clear hp h4
          dsimp only at c0 c1 c2 h3
          have hss := bs_size s
          by_cases h64 : 64 < s.length
          · have HK : Hid (kyV l = .tuple #[.string ByteArray.empty, .int .i64 3]) := by show _ = _; rw [kyV, HL.out h64]; rfl
            have h64' : (64 : Int) < s.length := by omega
            go_wp2
            go_ret2
            exact ⟨by rw [HK.out]; rfl, hbel⟩
          · have h64' : (s.length : Int) ≤ 64 := by omega
            have hpb := pb_len (t, n, s)
            dsimp only at hpb
            go_wp2_with fail
            refine (rpart_any t n s _ h3 (by omega)).mono ?_
            rintro e w2 ⟨v2, rfl, hown2, hb2⟩
            have hbel2 : Below w.heap.size w w2 := hbel.trans (hb2.mono hbel.size)
            have hownc := own_carry hown hb2
            have hrd := own_rd hown2
            clear hown2 hown hb2 hbel
            go_wp2_with (at_builtin; go_must (refine wpList_apprd w w2 rfl (.tmp 40) (.tmp 45) 26 rfl w.heap.size 5 Try.underlying26 Try.infoB _ _ hownc rfl hbel2 (Nat.le_refl _) _ (pb (t, n, s)) hrd rfl (by omega) ?_); intro v3 w3 hown3 hbel3)
            go_roundw
            case rel => exact ⟨k + 1, by omega, by go_num, fun j h hj => by
              by_cases e : j = k
              · subst e; rw [HP.out]; exact Nat.le_of_not_lt h64
              · exact HSH.out j h (by omega), by rw [HT.out]; exact hown3, hbel3⟩
            case measure => simp [intOf] <;> omega
        · obtain rfl : k = l.length := by omega
          rw [List.take_length] at hown hlen
          have hpp := pbs_pos h1
          have hrd := own_rd hown
          obtain ⟨g, cap, rfl, _, _⟩ := hown.form hpp
          have hconv := conv_rd (P := Try.prog) 26 5 9 Try.underlying26 Try.underlying5 Try.underlying9 hrd
          by_cases h64 : 64 < (pbs l).length
          · have HK : Hid (kyV l = .tuple #[.string ByteArray.empty, .int .i64 3]) := by show _ = _; rw [kyV, ky_total HNO.out HNB.out h64]; rfl
            have h64' : (64 : Int) < (pbs l).length := by omega
            go_wp2
            go_ret2
            exact ⟨by rw [HK.out]; rfl, hbel⟩
          · have HK : Hid (kyV l = .tuple #[.string (bs (pbs l)), .int .i64 0]) := by show _ = _; rw [kyV, ky_ok HNO.out HNB.out (fun j h => HSH.out j h h) (by omega)]
            have h64' : ((pbs l).length : Int) ≤ 64 := by omega
            go_wp2
            go_ret2
            exact ⟨by rw [HK.out]; rfl, hbel⟩

theorem rkey_any {v : Value} {l : List Pt} (w : World) (hlen : l.length ≤ 1000000000) (h : RdP w v l) :
    Calls Try.prog 24 #[v] w fun e w' => e = .returned (kyV l) ∧ Below w.heap.size w w' := by
  rcases h with ⟨rfl, rfl | ⟨ad, c, rfl⟩⟩ | ⟨b, off, c, rfl, hc, hm, hcell⟩
  · exact (rkey_few [] none 0 w (by simp) (.inl (by simp))).mono fun e w' ⟨h1, h2⟩ => ⟨h1, by subst h2; exact Below.refl _ _⟩
  · exact (rkey_few [] (some ad) c w (by simp) (.inl (by simp))).mono fun e w' ⟨h1, h2⟩ => ⟨h1, by subst h2; exact Below.refl _ _⟩
  · by_cases h : l.length < 1 ∨ 8 < l.length
    · exact (rkey_few l (some ⟨b, off, none⟩) c w hlen h).mono fun e w' ⟨h1, h2⟩ => ⟨h1, by subst h2; exact Below.refl _ _⟩
    · exact rkey_row b off c l w (by omega) (by omega) hcell

end Go.Proofs.Ytpammicadnfheaa

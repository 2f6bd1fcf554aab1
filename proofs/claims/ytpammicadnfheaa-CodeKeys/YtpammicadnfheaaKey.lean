/-
  What code.Key, and what it calls, do.
-/
import Derived.Test.YtpammicadnfheaaBase
import Derived.Test.YtpammicadnfheaaMathPt
import Derived.Test.YtpammicadnfheaaGro
import Derived.WalkKit
import Derived.WalkSpells
import Derived.WalkLawsBesides
import Derived.Lib.ConvBytes
namespace Go.Proofs.Ytpammicadnfheaa
open Go.RowKit
set_option linter.unusedVariables false
set_option linter.unusedSimpArgs false

theorem ret_bool {a b : Bool} (h : a = b) : Ending.returned (.bool a) = .returned (.bool b) := by rw [h]

set_option maxHeartbeats 400000 in
set_option maxRecDepth 100000 in
theorem may_any (t : Bool) (n : Nat) (s : ByteArray) (w : World) (hn : n < 18446744073709551616) :
    Calls Try.prog 31 #[.agg #[.bool t, .int .u64 n, .string s]] w fun e w' => e = .returned (.bool (nb (t, n, s.data.toList))) ∧ Below w.heap.size w w' := by
  cases t
  · go_enter Try.func31, Try.ntmps31
    go_wp2
    go_ret
    refine ⟨ret_bool ?_, (Below.refl _ _).alloc (Nat.le_refl _) _⟩
    rw [ByteArray.toList_eq]
    cases s.data.toList <;> simp [nb]
  · go_enter Try.func31, Try.ntmps31
    go_wp2
    all_goals (go_ret; exact ⟨ret_bool (by simp [nb, *]), (Below.refl _ _).alloc (Nat.le_refl _) _⟩)

set_option maxHeartbeats 400000 in
set_option maxRecDepth 100000 in
theorem index_nil (a : Option Addr) (c : Nat) (w : World) :
    Calls Try.prog 37 #[.slice a 0 c, .func (.func 31) #[] #[]] w fun e w' => e = .returned (.int .i64 (-1)) ∧ w' = w := by
  go_enter Try.func37, Try.ntmps37
  go_wp2
  go_loop [8] (fun i => i = .int .i64 0) (fun _ => 0)
  case atStart => rfl
  case round =>
    obtain rfl := hrel
    go_wp2
    go_ret
    exact ⟨rfl, rfl⟩

set_option maxHeartbeats 400000 in
set_option maxRecDepth 100000 in
theorem index_row (b off c : Nat) (l : List Pt) (w : World) (hlen : l.length ≤ 1000000) (hcell : ∀ j, (h : j < l.length) →
    w.cell? ⟨b, off + j * 3, none⟩ = some (.bool (l[j]).1) ∧ w.cell? ⟨b, off + j * 3 + 1, none⟩ = some (.int .u64 (l[j]).2.1) ∧ w.cell? ⟨b, off + j * 3 + 2, none⟩ = some (.string (bs (l[j]).2.2)) ∧
    (l[j]).2.1 < 18446744073709551616 ∧ (l[j]).2.2.length ≤ maxLen) :
    Calls Try.prog 37 #[.slice (some ⟨b, off, none⟩) l.length c, .func (.func 31) #[] #[]] w fun e w' => ∃ r : Int, e = .returned (.int .i64 r) ∧ decide (0 ≤ r) = l.any nb ∧ Below w.heap.size w w' := by
  have HC : Hid (∀ j, (h : j < l.length) →
    w.cell? ⟨b, off + j * 3, none⟩ = some (.bool (l[j]).1) ∧ w.cell? ⟨b, off + j * 3 + 1, none⟩ = some (.int .u64 (l[j]).2.1) ∧ w.cell? ⟨b, off + j * 3 + 2, none⟩ = some (.string (bs (l[j]).2.2)) ∧
    (l[j]).2.1 < 18446744073709551616 ∧ (l[j]).2.2.length ≤ maxLen) := hcell
  clear hcell
  go_enter Try.func37, Try.ntmps37
  go_wp2
  go_loopw [8] (fun i wr => ∃ k : Nat, k ≤ l.length ∧ i = .int .i64 k ∧ (l.take k).any nb = false ∧ Below w.heap.size w wr) (fun i _ => l.length - (intOf i).toNat)
  case atStart => exact ⟨0, Nat.zero_le _, rfl, rfl, Below.refl _ _⟩
  case round =>
    obtain ⟨k, hk, rfl, hno, hbel⟩ := hrel
    have HN : Hid ((l.take k).any nb = false) := hno
    clear hno
    by_cases hlt : k < l.length
    · obtain ⟨h0, h1, h2, h3, h4⟩ := HC.out k hlt
      rw [← hbel.cell (World.block_lt_of_cell? w _ h0)] at h0
      rw [← hbel.cell (World.block_lt_of_cell? w _ h1)] at h1
      rw [← hbel.cell (World.block_lt_of_cell? w _ h2)] at h2
      have HT : Hid ((l.take (k + 1)).any nb = nb l[k]) := by
        show _ = _
        rw [List.take_succ_eq_append_getElem hlt, List.any_append, HN.out]; simp
      have HA : Hid (nb l[k] = true → l.any nb = true) := fun h => List.any_eq_true.2 ⟨_, List.getElem_mem hlt, h⟩
      obtain ⟨⟨t, n, s⟩, hp⟩ : ∃ p : Pt, l[k] = p := ⟨_, rfl⟩
      rw [hp] at h0 h1 h2 h3 HT HA
      clear hp h4
      dsimp only at h0 h1 h2 h3
      go_wp2_with (go_at_call 31; go_must (refine (may_any t n (bs s) _ h3).mono ?_); rintro e w1 ⟨rfl, hbel1⟩; rw [bs_toList]; cases hnb : nb (t, n, s))
      · go_wp2
        go_roundw
        case rel => exact ⟨k + 1, by omega, by go_num, by rw [HT.out]; assumption, hbel.trans (hbel1.mono hbel.size)⟩
        case measure => simp [intOf] <;> omega
      · go_wp2
        go_ret
        refine ⟨_, rfl, ?_, hbel.trans (hbel1.mono hbel.size)⟩
        rw [HA.out (by assumption)]
        simp
    · go_wp2
      go_ret
      refine ⟨_, rfl, ?_, hbel⟩
      have := HN.out
      rw [List.take_of_length_le (by omega)] at this
      rw [this]; rfl

set_option maxHeartbeats 400000 in
set_option maxRecDepth 100000 in
theorem contains_any {v : Value} {l : List Pt} (w : World) (hlen : l.length ≤ 1000000) (h : RdP w v l) :
    Calls Try.prog 30 #[v, .func (.func 31) #[] #[]] w fun e w' => e = .returned (.bool (l.any nb)) ∧ Below w.heap.size w w' := by
  rcases h with ⟨rfl, rfl | ⟨ad, c, rfl⟩⟩ | ⟨b, off, c, rfl, hc, hm, hcell⟩
  · go_enter Try.func30, Try.ntmps30
    go_wp2_with (go_at_call 37; go_must (refine (index_nil _ _ _).mono ?_); rintro e w1 ⟨rfl, rfl⟩)
    go_ret
    exact ⟨rfl, Below.refl _ _⟩
  · go_enter Try.func30, Try.ntmps30
    go_wp2_with (go_at_call 37; go_must (refine (index_nil _ _ _).mono ?_); rintro e w1 ⟨rfl, rfl⟩)
    go_ret
    exact ⟨rfl, Below.refl _ _⟩
  · have HC := hide hcell
    clear hcell
    go_enter Try.func30, Try.ntmps30
    go_wp2_with (go_at_call 37; go_must (refine (index_row b off c l _ hlen HC.out).mono ?_); rintro e w1 ⟨r, rfl, hr, hbel⟩; have HR := hide hr; clear hr)
    go_ret
    exact ⟨ret_bool HR.out, hbel⟩

theorem word_byte (n i : Nat) : (n : Int) / 2 ^ (8 * i) % 256 = ((UInt8.ofNat (n / 256 ^ i)).toNat : Int) := by
  rw [UInt8.toNat_ofNat', show 256 ^ i = 2 ^ (8 * i) by rw [Nat.pow_mul]]
  show (n : Int) / 2 ^ (8 * i) % 256 = ((n / 2 ^ (8 * i) % 256 : Nat) : Int)
  have e : ((2 : Int) ^ (8 * i)) = ((2 ^ (8 * i) : Nat) : Int) := by rw [Int.natCast_pow]; rfl
  rw [e]
  generalize 2 ^ (8 * i) = q
  omega

set_option maxHeartbeats 400000 in
set_option maxRecDepth 100000 in
theorem word_any (base : Nat) (v : Value) (l : List UInt8) (n : Nat) (w : World) (hn : n < 18446744073709551616) (hb : base ≤ w.heap.size) (hl : l.length ≤ 1000000) (hown : w.ownsRow base 5 1 v l.length (u8v l)) :
    Calls Try.prog 39 #[v, .int .u64 n] w fun e w' => ∃ v', e = .returned v' ∧ w'.ownsRow base 5 1 v' (l ++ wb n).length (u8v (l ++ wb n)) ∧ Gro w v w' v' := by
  go_enter Try.func39, Try.ntmps39
  go_wp2
  go_loopw [0, 5] (fun x i wr => ∃ (j : Nat) (pre : List UInt8), j ≤ 8 ∧ pre.length + j = 8 ∧ i = .int .i64 ((j : Int) - 1) ∧ wb n = pre ++ wbk n j ∧ wr.ownsRow base 5 1 x (l ++ pre).length (u8v (l ++ pre)) ∧ Gro w v wr x) (fun _ i _ => (intOf i + 1).toNat)
  case atStart => exact ⟨8, [], Nat.le_refl _, rfl, rfl, rfl, by simpa using hown, Gro.refl _ _⟩
  case round =>
    clear hown
    obtain ⟨j, pre, hj, hpl, rfl, hpre, hown, hgro⟩ := hrel
    have HP := hide hpre
    have hbw : base ≤ wr.heap.size := Nat.le_trans hb hgro.1.size
    clear hpre
    by_cases hj0 : j = 0
    · subst hj0
      go_wp2
      go_ret
      have e : wb n = pre := by rw [HP.out]; simp [wbk]
      rw [e]
      exact ⟨_, rfl, hown, hgro⟩
    · obtain ⟨i, rfl⟩ : ∃ i, j = i + 1 := ⟨j - 1, by omega⟩
      have ei : ((i + 1 : Nat) : Int) - 1 = (i : Int) := by omega
      rw [ei]
      clear ei
      go_wp2_with (at_builtin; go_must (refine wpList_appl wr rfl (.tmp 10) (.tmp 16) 26 rfl base 5 Try.underlying26 Try.infoB _ (l ++ pre) hown rfl hbw _ [UInt8.ofNat (n / 256 ^ i)] (by simp only [u8v, List.map_cons, List.map_nil, ← word_byte]) 1 rfl rfl (by decide) (by simp; omega) ?_); intro v' w1 hown1 hgro1)
      go_roundw
      case rel => exact ⟨i, pre ++ [UInt8.ofNat (n / 256 ^ i)], by omega, by simp; omega, by go_num, by rw [HP.out]; simp [wbk], by simpa using hown1, hgro.trans hgro1⟩
      case measure => simp [intOf] <;> omega

theorem bytesWorld_below (w : World) (e : TypeId) (s : ByteArray) : Below w.heap.size w (Lib.bytesWorld w e s) :=
  ⟨rfl, rfl, rfl, by rw [Lib.bytesWorld_size]; omega, fun k hk => Lib.bytesWorld_at_old w e s k hk⟩

set_option maxHeartbeats 400000 in
set_option maxRecDepth 100000 in
theorem etext_any (base : Nat) (v : Value) (l : List UInt8) (s : List UInt8) (w : World) (hs : s.length ≤ 1000000) (hb : base ≤ w.heap.size) (hl : l.length ≤ 1000000) (hown : w.ownsRow base 5 1 v l.length (u8v l)) :
    Calls Try.prog 38 #[v, .string (bs s)] w fun e w' => ∃ v', e = .returned v' ∧ w'.ownsRow base 5 1 v' (l ++ (esc s ++ [0, 0])).length (u8v (l ++ (esc s ++ [0, 0]))) ∧ Gro w v w' v' := by
  have hcv := Lib.run_convert_string_bytes (P := Try.prog) w 9 26 5 (bs s) Try.underlying9 Try.underlying26 Try.underlying5
  have hvb : v.ownBlock ≠ some w.heap.size := fun h => by have := (hown.lt _ h).2; omega
  have hbw := bytesWorld_below w 5 (bs s)
  have hcell : ∀ j, (h : j < s.length) → (Lib.bytesWorld w 5 (bs s)).cell? ⟨w.heap.size, j, none⟩ = some (.int .u8 (s[j]).toNat) := fun j hj => by
    rw [Lib.bytesWorld_cell w 5 (bs s) j (by rw [bs_size]; exact hj), bs_toList]
    simp [List.getD, List.getElem?_eq_getElem hj]
  have hown' := own_carry hown hbw
  have hsz := Lib.bytesWorld_size w 5 (bs s)
  rw [bs_size] at hcv
  obtain ⟨w0, hw0⟩ : ∃ w0, w0 = Lib.bytesWorld w 5 (bs s) := ⟨_, rfl⟩
  rw [← hw0] at hcv hbw hcell hown' hsz
  clear hw0 hown
  have HC := hide hcell
  have HV := hide hvb
  have HB := hide hbw
  have HO := hide hown'
  have hsz' : w.heap.size < w0.heap.size := by omega
  clear hcell hvb hbw hown' hsz
  go_enter Try.func38, Try.ntmps38
  go_wp2
  go_loopw [0, 10] (fun x i wr => ∃ k : Nat, k ≤ s.length ∧ i = .int .i64 k ∧ wr.ownsRow base 5 1 x (l ++ esc (s.take k)).length (u8v (l ++ esc (s.take k))) ∧ Gro w0 v wr x) (fun _ i _ => s.length - (intOf i).toNat)
  case atStart => exact ⟨0, Nat.zero_le _, rfl, by simpa [esc] using HO.out, Gro.refl _ _⟩
  case round =>
    obtain ⟨k, hk, rfl, hown, hgro⟩ := hrel
    have hbw : base ≤ wr.heap.size := by have := hgro.1.size; omega
    have hel := esc_len (s.take k)
    have htl : (s.take k).length ≤ k := List.length_take_le _ _
    by_cases hlt : k < s.length
    · have hc : wr.cell? ⟨w.heap.size, k, none⟩ = some (.int .u8 (s[k]).toNat) := hgro.cell (HC.out k hlt) HV.out
      have HE : Hid (esc (s.take (k + 1)) = esc (s.take k) ++ if s[k] = 0 then [0, 255] else [s[k]]) := by
        show _ = _
        rw [List.take_succ_eq_append_getElem hlt, esc_append]
        congr 1
      obtain ⟨c, hcx⟩ : ∃ c, c = s[k] := ⟨_, rfl⟩
      rw [← hcx] at hc HE
      clear hcx
      have hcb := c.toNat_lt
      by_cases h0 : c = 0
      · subst h0
        rw [if_pos rfl] at HE
        go_wp2_with (first | (at_builtin; refine wpList_appl wr rfl (.tmp 14) (.tmp 16) 26 rfl base 5 Try.underlying26 Try.infoB _ _ hown rfl hbw _ [0] (by rfl) 1 rfl rfl (by decide) (by simp; omega) ?_; intro v1 w1 hown1 hgro1; have hbw1 : base ≤ w1.heap.size := Nat.le_trans hbw hgro1.1.size) | (at_builtin; refine wpList_appl w1 rfl (.tmp 20) (.tmp 21) 26 rfl base 5 Try.underlying26 Try.infoB _ _ hown1 rfl hbw1 _ [255] (by rfl) 1 rfl rfl (by decide) (by simp; omega) ?_; intro v2 w2 hown2 hgro2))
        go_roundw
        case rel => exact ⟨k + 1, by omega, by go_num, by rw [HE.out]; simpa using hown2, (hgro.trans hgro1).trans hgro2⟩
        case measure => simp [intOf] <;> omega
      · rw [if_neg h0] at HE
        have h0' : ((c.toNat : Int) == 0) = false := by
          have : c.toNat ≠ 0 := fun h => h0 (by rw [← UInt8.toNat_inj]; simpa using h)
          simpa using this
        go_wp2_with (at_builtin; go_must (refine wpList_appl wr rfl (.tmp 14) (.tmp 16) 26 rfl base 5 Try.underlying26 Try.infoB _ _ hown rfl hbw _ [c] (by rfl) 1 rfl rfl (by decide) (by simp; omega) ?_); intro v1 w1 hown1 hgro1)
        go_roundw
        case rel => exact ⟨k + 1, by omega, by go_num, by rw [HE.out]; simpa using hown1, hgro.trans hgro1⟩
        case measure => simp [intOf] <;> omega
    · go_wp2_with (at_builtin; go_must (refine wpList_appl wr rfl (.tmp 24) (.tmp 25) 26 rfl base 5 Try.underlying26 Try.infoB _ _ hown rfl hbw _ [0, 0] (by rfl) 2 rfl rfl (by decide) (by simp; omega) ?_); intro v1 w1 hown1 hgro1)
      go_ret
      refine ⟨_, rfl, ?_, Gro.after HB.out (hgro.trans hgro1)⟩
      rw [List.take_of_length_le (by omega)] at hown1
      simpa using hown1

set_option maxHeartbeats 400000 in
set_option maxRecDepth 100000 in
theorem part_any (base : Nat) (v : Value) (l : List UInt8) (t : Bool) (n : Nat) (s : List UInt8) (w : World) (hn : n < 18446744073709551616) (hs : s.length ≤ 100000) (hb : base ≤ w.heap.size) (hl : l.length ≤ 100000) (hown : w.ownsRow base 5 1 v l.length (u8v l)) :
    Calls Try.prog 32 #[v, .agg #[.bool t, .int .u64 n, .string (bs s)]] w fun e w' => ∃ v', e = .returned v' ∧ w'.ownsRow base 5 1 v' (l ++ pb (t, n, s)).length (u8v (l ++ pb (t, n, s))) ∧ Gro w v w' v' := by
  cases t
  · go_enter Try.func32, Try.ntmps32
    go_wp2
    have hS0 : (w.alloc (.cells #[.bool false, .int .u64 n, .string (bs s)] 32)).drew.cell? ⟨w.heap.size, 1, none⟩ = some (.int .u64 n) := by simp
    refine reg_begin' (S := fun wx => wx.cell? ⟨w.heap.size, 1, none⟩ = some (.int .u64 n)) (by kernel_rfl) hS0 ?_
    intro hS
    refine reg_take (i := 0) (v := ?qv0) rfl (by kernel_rfl) (by kernel_rfl) (by kernel_rfl) (by rfl) ?qy0 hS ?qr0
    case qy0 => (intro wx hx; go_simp; all_goals (with_reducible rfl))
    try simp only [Act.put, List.setIfInBounds_toArray, List.set_cons_zero, List.set_cons_succ]
    refine reg_take (i := 3) (v := ?qv3) rfl (by kernel_rfl) (by kernel_rfl) (by kernel_rfl) (by rfl) ?qy3 hS ?qr3
    case qy3 => (intro wx hx; go_simp; all_goals (with_reducible rfl))
    try simp only [Act.put, List.setIfInBounds_toArray, List.set_cons_zero, List.set_cons_succ]
    refine reg_take (i := 4) (v := ?qv4) rfl (by kernel_rfl) (by kernel_rfl) (by kernel_rfl) (by rfl) ?qy4 hS ?qr4
    case qy4 => (intro wx hx; go_simp; all_goals (with_reducible rfl))
    try simp only [Act.put, List.setIfInBounds_toArray, List.set_cons_zero, List.set_cons_succ]
    refine reg_run (i := 1) (v := .slice (some ⟨w.heap.size + 1, 0, none⟩) 1 1) (w' := (w.alloc (.cells #[.bool false, .int .u64 n, .string (bs s)] 32)).drew.alloc (.cells #[.int .u8 1] 5)) rfl (by kernel_rfl) (by rfl) (by go_simp) ((World.cell?_alloc_lt _ _ _ (World.block_lt_of_cell? _ _ hS0)).trans hS0) ?_
    try simp only [Act.put, List.setIfInBounds_toArray, List.set_cons_zero, List.set_cons_succ]
    have hwr : Below w.heap.size w (w.alloc (.cells #[.bool false, .int .u64 n, .string (bs s)] 32)).drew := ((Below.refl _ _).alloc (Nat.le_refl _) _).drew
    obtain ⟨wr, hwe⟩ : ∃ wr, wr = (w.alloc (.cells #[.bool false, .int .u64 n, .string (bs s)] 32)).drew := ⟨_, rfl⟩
    have hsz : w.heap.size + 1 = wr.heap.size := by rw [hwe]; simp
    rw [← hwe] at hS hwr ⊢
    rw [hsz]
    clear hwe hS0
    have hownr := own_carry hown hwr
    have hvb : v.ownBlock ≠ some w.heap.size := fun h => by have := (hown.lt _ h).2; omega
    refine reg_op (i := 2) rfl (by kernel_rfl) (by rfl) ?_
    refine wp_appl wr (.tmp 17) (.tmp 18) 26 rfl base 5 Try.underlying26 Try.infoB _ l hownr rfl (by omega) _ [1] (by rfl) 1 rfl rfl (by decide) (by omega) ?_
    intro v1 w1 hown1 hgro1
    refine ⟨hgro1.cell hS hvb, ?_⟩
    try simp only [Act.put, List.setIfInBounds_toArray, List.set_cons_zero, List.set_cons_succ]
    refine reg_callg (i := 5) (R := fun v2 w2 => w2.ownsRow base 5 1 v2 (l ++ [1] ++ wb n).length (u8v (l ++ [1] ++ wb n)) ∧ Gro w1 v1 w2 v2) rfl (by kernel_rfl) (by rfl) (by go_simp) (word_any base v1 _ n w1 hn (Nat.le_trans (by omega) hgro1.1.size) (by simp; omega) hown1) ?_
    rintro v2 w2 ⟨hown2, hgro2⟩
    have hS2 := (hgro1.trans hgro2).cell hS hvb
    refine ⟨hS2, ?_⟩
    have hS := hS2
    try simp only [Act.put, List.setIfInBounds_toArray, List.set_cons_zero, List.set_cons_succ]
    refine reg_take (i := 6) (v := ?qv6) rfl (by kernel_rfl) (by kernel_rfl) (by kernel_rfl) (by rfl) ?qy6 hS ?qr6
    case qy6 => (intro wx hx; go_simp; all_goals (with_reducible rfl))
    try simp only [Act.put, List.setIfInBounds_toArray, List.set_cons_zero, List.set_cons_succ]
    refine wpAnyH_done (by kernel_rfl) ?_ _
    refine NoPanic.normal ?_
    go_wp2
    go_ret
    refine ⟨_, rfl, ?_, Gro.after hwr (hgro1.trans hgro2)⟩
    simpa [pb] using hown2
  · go_enter Try.func32, Try.ntmps32
    go_wp2
    have hS0 : (w.alloc (.cells #[.bool true, .int .u64 n, .string (bs s)] 32)).drew.cell? ⟨w.heap.size, 2, none⟩ = some (.string (bs s)) := by simp
    refine reg_begin' (S := fun wx => wx.cell? ⟨w.heap.size, 2, none⟩ = some (.string (bs s))) (by kernel_rfl) hS0 ?_
    intro hS
    refine reg_take (i := 0) (v := ?pv0) rfl (by kernel_rfl) (by kernel_rfl) (by kernel_rfl) (by rfl) ?py0 hS ?pr0
    case py0 => (intro wx hx; go_simp; all_goals (with_reducible rfl))
    try simp only [Act.put, List.setIfInBounds_toArray, List.set_cons_zero, List.set_cons_succ]
    refine reg_take (i := 3) (v := ?pv3) rfl (by kernel_rfl) (by kernel_rfl) (by kernel_rfl) (by rfl) ?py3 hS ?pr3
    case py3 => (intro wx hx; go_simp; all_goals (with_reducible rfl))
    try simp only [Act.put, List.setIfInBounds_toArray, List.set_cons_zero, List.set_cons_succ]
    refine reg_take (i := 4) (v := ?pv4) rfl (by kernel_rfl) (by kernel_rfl) (by kernel_rfl) (by rfl) ?py4 hS ?pr4
    case py4 => (intro wx hx; go_simp; all_goals (with_reducible rfl))
    try simp only [Act.put, List.setIfInBounds_toArray, List.set_cons_zero, List.set_cons_succ]
    refine reg_run (i := 1) (v := .slice (some ⟨w.heap.size + 1, 0, none⟩) 1 1) (w' := (w.alloc (.cells #[.bool true, .int .u64 n, .string (bs s)] 32)).drew.alloc (.cells #[.int .u8 2] 5)) rfl (by kernel_rfl) (by rfl) (by go_simp) ((World.cell?_alloc_lt _ _ _ (World.block_lt_of_cell? _ _ hS0)).trans hS0) ?_
    try simp only [Act.put, List.setIfInBounds_toArray, List.set_cons_zero, List.set_cons_succ]
    have hwr : Below w.heap.size w (w.alloc (.cells #[.bool true, .int .u64 n, .string (bs s)] 32)).drew := ((Below.refl _ _).alloc (Nat.le_refl _) _).drew
    obtain ⟨wr, hwe⟩ : ∃ wr, wr = (w.alloc (.cells #[.bool true, .int .u64 n, .string (bs s)] 32)).drew := ⟨_, rfl⟩
    have hsz : w.heap.size + 1 = wr.heap.size := by rw [hwe]; simp
    rw [← hwe] at hS hwr ⊢
    rw [hsz]
    clear hwe hS0
    have hownr := own_carry hown hwr
    have hvb : v.ownBlock ≠ some w.heap.size := fun h => by have := (hown.lt _ h).2; omega
    refine reg_op (i := 2) rfl (by kernel_rfl) (by rfl) ?_
    refine wp_appl wr (.tmp 9) (.tmp 10) 26 rfl base 5 Try.underlying26 Try.infoB _ l hownr rfl (by omega) _ [2] (by rfl) 1 rfl rfl (by decide) (by omega) ?_
    intro v1 w1 hown1 hgro1
    refine ⟨hgro1.cell hS hvb, ?_⟩
    try simp only [Act.put, List.setIfInBounds_toArray, List.set_cons_zero, List.set_cons_succ]
    refine reg_callg (i := 5) (R := fun v2 w2 => w2.ownsRow base 5 1 v2 (l ++ [2] ++ (esc s ++ [0, 0])).length (u8v (l ++ [2] ++ (esc s ++ [0, 0]))) ∧ Gro w1 v1 w2 v2) rfl (by kernel_rfl) (by rfl) (by go_simp) (etext_any base v1 _ s w1 (by omega) (Nat.le_trans (by omega) hgro1.1.size) (by simp; omega) hown1) ?_
    rintro v2 w2 ⟨hown2, hgro2⟩
    have hS2 := (hgro1.trans hgro2).cell hS hvb
    refine ⟨hS2, ?_⟩
    have hS := hS2
    try simp only [Act.put, List.setIfInBounds_toArray, List.set_cons_zero, List.set_cons_succ]
    refine reg_take (i := 6) (v := ?pv6) rfl (by kernel_rfl) (by kernel_rfl) (by kernel_rfl) (by rfl) ?py6 hS ?pr6
    case py6 => (intro wx hx; go_simp; all_goals (with_reducible rfl))
    try simp only [Act.put, List.setIfInBounds_toArray, List.set_cons_zero, List.set_cons_succ]
    refine wpAnyH_done (by kernel_rfl) ?_ _
    refine NoPanic.normal ?_
    go_wp2
    go_ret
    refine ⟨_, rfl, ?_, Gro.after hwr (hgro1.trans hgro2)⟩
    simpa [pb] using hown2

/-- What Key answers. -/
def kyV (l : List Pt) : Value := .tuple #[.string (bs (ky l).1), .int .i64 (ky l).2]

set_option maxHeartbeats 400000 in
set_option maxRecDepth 100000 in
theorem key_few (l : List Pt) (a : Option Addr) (c : Nat) (w : World) (hlen : l.length ≤ 1000000000) (h : l.length < 1 ∨ 8 < l.length) :
    Calls Try.prog 11 #[.slice a l.length c] w fun e w' => e = .returned (kyV l) ∧ w' = w := by
  have HK : Hid (kyV l = .tuple #[.string ByteArray.empty, .int .i64 4]) := by show _ = _; rw [kyV, ky_many h]; rfl
  rcases h with h | h
  · have h' : (l.length : Int) < 1 := by omega
    go_enter Try.func11, Try.ntmps11
    go_wp2
    all_goals (go_ret2; exact ⟨by rw [HK.out]; rfl, rfl⟩)
  · have h' : (8 : Int) < l.length := by omega
    go_enter Try.func11, Try.ntmps11
    go_wp2
    all_goals (go_ret2; exact ⟨by rw [HK.out]; rfl, rfl⟩)

set_option maxHeartbeats 600000 in
set_option maxRecDepth 100000 in
theorem key_row (b off c : Nat) (l : List Pt) (w : World) (h1 : 1 ≤ l.length) (h8 : l.length ≤ 8) (hcell : ∀ j, (h : j < l.length) →
    w.cell? ⟨b, off + j * 3, none⟩ = some (.bool (l[j]).1) ∧ w.cell? ⟨b, off + j * 3 + 1, none⟩ = some (.int .u64 (l[j]).2.1) ∧ w.cell? ⟨b, off + j * 3 + 2, none⟩ = some (.string (bs (l[j]).2.2)) ∧
    (l[j]).2.1 < 18446744073709551616 ∧ (l[j]).2.2.length ≤ maxLen) (hlc : l.length ≤ c) (hcm : c ≤ maxLen) :
    Calls Try.prog 11 #[.slice (some ⟨b, off, none⟩) l.length c] w fun e w' => e = .returned (kyV l) ∧ Below w.heap.size w w' := by
  have hno : ¬ (l.length < 1 ∨ 8 < l.length) := by omega
  have HNO := hide hno
  clear hno
  have HC := hide hcell
  have hrd : RdP w (.slice (some ⟨b, off, none⟩) l.length c) l := .inr ⟨b, off, c, rfl, hlc, hcm, hcell⟩
  have HRD := hide hrd
  clear hcell hrd
  go_enter Try.func11, Try.ntmps11
  go_wp2_with fail
  refine (contains_any _ (by omega) HRD.out).mono ?_
  rintro e w1 ⟨rfl, hbel1⟩
  cases hnb : l.any nb with
  | true =>
    have HK : Hid (kyV l = .tuple #[.string ByteArray.empty, .int .i64 8]) := by show _ = _; rw [kyV, ky_nb HNO.out hnb]; rfl
    clear hnb
    go_wp2
    go_ret2
    exact ⟨by rw [HK.out]; rfl, hbel1⟩
  | false =>
    have HN := hide hnb
    clear hnb
    go_wp2
    go_loopw [4, 19] (fun x i wr => ∃ k : Nat, k ≤ l.length ∧ i = .int .i64 k ∧ (∀ j, (h : j < l.length) → j < k → (l[j]).2.2.length ≤ 64) ∧ wr.ownsRow w.heap.size 5 1 x (pbs (l.take k)).length (u8v (pbs (l.take k))) ∧ Below w.heap.size w wr) (fun _ i _ => l.length - (intOf i).toNat)
    case atStart => exact ⟨0, Nat.zero_le _, rfl, fun j _ h => by omega, World.ownsRow_nil _ _ _ _, hbel1⟩
    case round =>
      clear hbel1
      obtain ⟨k, hk, rfl, hsh, hown, hbel⟩ := hrel
      have HSH := hide hsh
      clear hsh
      have hlen : (pbs (l.take k)).length ≤ k * 137 := by
        have := pbs_take_len (l.take k) (fun j h => by
          simp only [List.getElem_take]
          have : j < k := by simp at h; omega
          exact HSH.out j (by omega) this) k (by simp; omega)
        rwa [List.take_take, Nat.min_self] at this
      by_cases hlt : k < l.length
      · obtain ⟨c0, c1, c2, h3, h4⟩ := HC.out k hlt
        rw [← hbel.cell (World.block_lt_of_cell? w _ c0)] at c0
        rw [← hbel.cell (World.block_lt_of_cell? w _ c1)] at c1
        rw [← hbel.cell (World.block_lt_of_cell? w _ c2)] at c2
        have HT : Hid (pbs (l.take (k + 1)) = pbs (l.take k) ++ pb l[k]) := pbs_snoc l k hlt
        have HL : Hid (64 < (l[k]).2.2.length → ky l = ([], 3)) := fun h => ky_long HNO.out HN.out hlt h
        obtain ⟨⟨t, n, s⟩, hp⟩ : ∃ p : Pt, l[k] = p := ⟨_, rfl⟩
        have HP := hide hp
        rw [hp] at c0 c1 c2 h3 HT HL
        clear hp h4
        dsimp only at c0 c1 c2 h3
        have hss := bs_size s
        by_cases h64 : 64 < s.length
        · have HK : Hid (kyV l = .tuple #[.string ByteArray.empty, .int .i64 3]) := by show _ = _; rw [kyV, HL.out h64]; rfl
          have h64' : (64 : Int) < s.length := by omega
          go_wp2
          go_ret2
          exact ⟨by rw [HK.out]; rfl, hbel.alloc hbel.size _⟩
        · have h64' : (s.length : Int) ≤ 64 := by omega
          have hbv : ∀ j, u4.ownBlock = some j → w.heap.size ≤ j := fun j hj => (hown.lt j hj).1
          go_wp2_with fail
          refine (part_any w.heap.size _ (pbs (l.take k)) t n s _ h3 (by omega) (by have := hbel.size; simp; omega) (by omega) (hown.alloc _)).mono ?_
          rintro e w2 ⟨v', rfl, hown2, hgro2⟩
          have hbel2 := hgro2.below (hbel.alloc hbel.size _) (Nat.le_refl _) hbv
          clear hgro2
          go_wp2
          go_roundw
          case rel => exact ⟨k + 1, by omega, by go_num, fun j h hj => by
            by_cases e : j = k
            · subst e; rw [HP.out]; exact Nat.le_of_not_lt h64
            · exact HSH.out j h (by omega), by rw [HT.out]; exact hown2, hbel2⟩
          case measure => simp [intOf] <;> omega
      · obtain rfl : k = l.length := by omega
        rw [List.take_length] at hown hlen
        have hpp := pbs_pos h1
        have hrd := own_rd hown
        obtain ⟨g, cap, rfl, _, _⟩ := hown.form hpp
        have hconv := conv_rd (P := Try.prog) 26 5 9 Try.underlying26 Try.underlying5 Try.underlying9 hrd
        by_cases h64 : 64 < (pbs l).length
        · have HK : Hid (kyV l = .tuple #[.string ByteArray.empty, .int .i64 3]) := by show _ = _; rw [kyV, ky_total HNO.out HN.out h64]; rfl
          have h64' : (64 : Int) < (pbs l).length := by omega
          go_wp2
          go_ret2
          exact ⟨by rw [HK.out]; rfl, hbel⟩
        · have HK : Hid (kyV l = .tuple #[.string (bs (pbs l)), .int .i64 0]) := by show _ = _; rw [kyV, ky_ok HNO.out HN.out (fun j h => HSH.out j h h) (by omega)]
          have h64' : ((pbs l).length : Int) ≤ 64 := by omega
          go_wp2
          go_ret2
          exact ⟨by rw [HK.out]; rfl, hbel⟩

theorem key_any {v : Value} {l : List Pt} (w : World) (hlen : l.length ≤ 1000000000) (h : RdP w v l) :
    Calls Try.prog 11 #[v] w fun e w' => e = .returned (kyV l) ∧ Below w.heap.size w w' := by
  rcases h with ⟨rfl, rfl | ⟨ad, c, rfl⟩⟩ | ⟨b, off, c, rfl, hc, hm, hcell⟩
  · exact (key_few [] none 0 w (by simp) (.inl (by simp))).mono fun e w' ⟨h1, h2⟩ => ⟨h1, by subst h2; exact Below.refl _ _⟩
  · exact (key_few [] (some ad) c w (by simp) (.inl (by simp))).mono fun e w' ⟨h1, h2⟩ => ⟨h1, by subst h2; exact Below.refl _ _⟩
  · by_cases h : l.length < 1 ∨ 8 < l.length
    · exact (key_few l (some ⟨b, off, none⟩) c w hlen h).mono fun e w' ⟨h1, h2⟩ => ⟨h1, by subst h2; exact Below.refl _ _⟩
    · exact key_row b off c l w (by omega) (by omega) hcell hc hm

end Go.Proofs.Ytpammicadnfheaa

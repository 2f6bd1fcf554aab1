/-
  What code.Parts, and what it calls, do.
-/
import Derived.Test.YtpammicadnfheaaKey
import Derived.Test.YtpammicadnfheaaMathCp
import Derived.Laws.Externs
import Derived.Deep.QuietTactic
import Derived.BigQuiet
namespace Go.Proofs.Ytpammicadnfheaa
open Go.RowKit
set_option linter.unusedVariables false
set_option linter.unusedSimpArgs false

set_option maxHeartbeats 400000 in
set_option maxRecDepth 100000 in
theorem indexByte_any (l : List UInt8) (w : World) :
    Calls Try.prog 45 #[.string (bs l), .int .u8 0] w fun e w' => e = .returned (.int .i64 (Lib.indexByte l 0)) ∧ w' = w := by
  go_enter Try.func45, Try.ntmps45
  go_wp2
  rw [run_callFunc_extern Try.func49 (by kernel_rfl) (by kernel_rfl) (by kernel_rfl) (e := Extern.BytealgIndexByte.indexByte) (by kernel_rfl), Lib.run_indexByteString]
  simp only [Result.andThen]
  rw [Oper.upon_value]
  go_wp2
  go_ret
  exact ⟨rfl, rfl⟩

theorem bs_extract (l : List UInt8) (i j : Nat) (hj : j ≤ l.length) : (bs l).extract i j = bs ((l.take j).drop i) := by
  apply WideShapes.bytes_inj
  simp [bs, ByteArray.data_extract, List.drop_take]

set_option maxHeartbeats 400000 in
set_option maxRecDepth 100000 in
theorem index_any (l : List UInt8) (w : World) (hl : l.length ≤ 1000000) :
    Calls Try.prog 44 #[.string (bs l), .string { data := #[0] }] w fun e w' => e = .returned (.int .i64 (Lib.indexByte l 0)) ∧ w' = w := by
  have hss := bs_size l
  by_cases h0 : l = [0]
  · subst h0
    have hq : ([(0 : UInt8)] == (bs [0]).toList) = true := by rw [ByteArray.toList_eq, bs_toList]; rfl
    go_enter Try.func44, Try.ntmps44
    go_wp2_with (go_at_call 45; go_must (refine (indexByte_any _ _).mono ?_); rintro e w1 ⟨rfl, rfl⟩)
    go_ret
    exact ⟨rfl, rfl⟩
  · have hq : ([(0 : UInt8)] == (bs l).toList) = false := by
      rw [ByteArray.toList_eq, bs_toList]
      simpa using fun h => h0 h.symm
    clear h0
    go_enter Try.func44, Try.ntmps44
    go_wp2_with (go_at_call 45; go_must (refine (indexByte_any _ _).mono ?_); rintro e w1 ⟨rfl, rfl⟩)
    go_ret
    exact ⟨rfl, rfl⟩

set_option maxHeartbeats 400000 in
set_option maxRecDepth 100000 in
theorem lcut_any (l : List UInt8) (w : World) (hl : l.length ≤ 1000000) :
    Calls Try.prog 43 #[.string (bs l), .string { data := #[0] }] w fun e w' => e = .returned (.tuple #[.string (bs (hd l)), .string (bs (tl l)), .bool (fd l)]) ∧ ∃ n, w' = w.drewN n := by
  have hss := bs_size l
  have hix := indexByte_eq l
  go_enter Try.func43, Try.ntmps43
  go_wp2_with fail
  refine (index_any l _ hl).mono ?_
  rintro e w1 ⟨rfl, rfl⟩
  rw [hix]
  clear hix
  cases hf : fd l with
  | true =>
    have HS : Hid (l = hd l ++ 0 :: tl l) := fd_split hf
    have HF := hide hf
    have hlen : (hd l).length + 1 + (tl l).length = l.length := by
      have := congrArg List.length HS.out; simp at this; omega
    obtain ⟨i, hi⟩ : ∃ i, i = (hd l).length := ⟨_, rfl⟩
    have HI := hide hi
    rw [← hi] at hlen ⊢
    clear hi hf
    have hi1 : (i : Int) ≤ l.length := by omega
    have hi2 : (i : Int) + 1 ≤ l.length := by omega
    go_wp2
    go_quiet (fail)
    go_wp2
    go_ret3
    refine ⟨?_, ⟨_, rfl⟩⟩
    show Ending.returned (.tuple #[.string ((bs l).extract 0 i), .string ((bs l).extract (i + 1) l.length), .bool true]) = _
    rw [bs_extract l 0 i (by omega), bs_extract l (i + 1) l.length (Nat.le_refl _)]
    have e1 : (l.take i).drop 0 = hd l := by
      rw [List.drop_zero, HI.out]
      have h := congrArg (List.take (hd l).length) HS.out
      rw [List.take_left] at h
      exact h
    have e2 : (l.take l.length).drop (i + 1) = tl l := by
      rw [List.take_length, HI.out]
      have h := congrArg (List.drop ((hd l).length + 1)) HS.out
      rw [h, ← List.drop_drop, List.drop_left]
      rfl
    rw [e1, e2, HF.out]
  | false =>
    have HN := hide (fd_no hf)
    have HF := hide hf
    clear hf
    go_wp2
    go_ret3
    refine ⟨?_, ⟨0, rfl⟩⟩
    show Ending.returned (.tuple #[.string (bs l), .string { data := #[] }, .bool false]) = Ending.returned (.tuple #[.string (bs (hd l)), .string (bs (tl l)), .bool (fd l)])
    rw [HN.out.1, HN.out.2, HF.out]
    rfl

set_option maxHeartbeats 400000 in
set_option maxRecDepth 100000 in
theorem scut_any (l : List UInt8) (w : World) (hl : l.length ≤ 1000000) :
    Calls Try.prog 42 #[.string (bs l), .string { data := #[0] }] w fun e w' => e = .returned (.tuple #[.string (bs (hd l)), .string (bs (tl l)), .bool (fd l)]) ∧ ∃ n, w' = w.drewN n := by
  go_enter Try.func42, Try.ntmps42
  go_wp2_with (go_at_call 43; go_must (refine (lcut_any l _ hl).mono ?_); rintro e w1 ⟨rfl, n, rfl⟩)
  go_ret3
  exact ⟨rfl, ⟨n, rfl⟩⟩

def cwV : Option (Nat × List UInt8) → Value
  | none => .tuple #[.int .u64 0, .string (bs []), .bool false]
  | some (n, r) => .tuple #[.int .u64 n, .string (bs r), .bool true]

theorem bs_get (l : List UInt8) (k : Nat) (h : k < (bs l).size) : (bs l)[k] = l[k]'(by rwa [bs_size] at h) := by
  show (bs l).data[k] = _
  simp [bs]
theorem or_byte (x b : Nat) (hx : x < 72057594037927936) (hb : b < 256) :
    bits BinOp.or IntKind.u64 ((x : Int) * 256) (IntKind.u64.wrap (b : Int)) = ((x * 256 + b : Nat) : Int) := by
  rw [IntKind.wrap_u64, show ((b : Int)) % 18446744073709551616 = (b : Int) by omega, show (x : Int) * 256 = ((x * 256 : Nat) : Int) by omega]
  rw [u64_or_nat _ _ (by omega) (by omega)]
  congr 1
  have h := Nat.two_pow_add_eq_or_of_lt (i := 8) (b := b) (by omega) x
  rw [Nat.mul_comm] at h
  exact h.symm

set_option maxHeartbeats 400000 in
set_option maxRecDepth 100000 in
theorem cword_any (l : List UInt8) (w : World) (hl : l.length ≤ 1000000) :
    Calls Try.prog 40 #[.string (bs l)] w fun e w' => e = .returned (cwV (cw l)) ∧ ∃ n, w' = w.drewN n := by
  have hss := bs_size l
  by_cases h8 : l.length < 8
  · have h8' : (l.length : Int) < 8 := by omega
    go_enter Try.func40, Try.ntmps40
    go_wp2
    go_ret3
    exact ⟨by rw [cw, if_pos h8]; rfl, ⟨0, rfl⟩⟩
  · have h8' : (8 : Int) ≤ l.length := by omega
    go_enter Try.func40, Try.ntmps40
    go_wp2
    go_loop [5, 10] (fun n i => ∃ k : Nat, k ≤ 8 ∧ i = .int .i64 k ∧ n = .int .u64 (wn (l.take k) 0 : Nat)) (fun _ i => 8 - (intOf i).toNat)
    case atStart => exact ⟨0, Nat.zero_le _, rfl, rfl⟩
    case round =>
      obtain ⟨k, hk, rfl, rfl⟩ := hrel
      by_cases hlt : k < 8
      · have hlt' : (k : Int) < 8 := by omega
        have hkl : (k : Int) < l.length := by omega
        have HW : Hid (wn (l.take (k + 1)) 0 = wn (l.take k) 0 * 256 + (l[k]'(by omega)).toNat) := by
          show _ = _
          rw [List.take_succ_eq_append_getElem (by omega), wn_snoc]
        have hb := wn_lt (l.take k)
        have hkk : (l.take k).length = k := by simp; omega
        rw [hkk] at hb
        have hp : 256 ^ k ≤ 256 ^ 7 := Nat.pow_le_pow_right (by decide) (by omega)
        have hb2 : wn (l.take k) 0 < 256 ^ 7 := Nat.lt_of_lt_of_le hb hp
        obtain ⟨x, hx⟩ : ∃ x, x = wn (l.take k) 0 := ⟨_, rfl⟩
        rw [← hx] at HW hb2 ⊢
        have hb3 : x < 72057594037927936 := by omega
        clear hb hp hb2 hx hkk
        go_wp2
        go_round
        case rel => exact ⟨k + 1, by omega, by go_num, by rw [HW.out, bs_get, or_byte x _ hb3 (l[k]'(by omega)).toNat_lt]⟩
        case measure => simp [intOf] <;> omega
      · obtain rfl : k = 8 := by omega
        go_wp2
        go_quiet (fail)
        go_wp2
        go_ret3
        refine ⟨?_, ⟨_, rfl⟩⟩
        rw [cw, if_neg h8]
        show Ending.returned (.tuple #[.int .u64 (wn (l.take 8) 0 : Nat), .string ((bs l).extract 8 l.length), .bool true]) = _
        rw [bs_extract l 8 l.length (Nat.le_refl _), List.take_length]
        rfl

/-- What cutText answers. -/
def cxV : Option (List UInt8 × List UInt8) → Value
  | none => .tuple #[.string (bs []), .string (bs []), .bool false]
  | some (t, r) => .tuple #[.string (bs t), .string (bs r), .bool true]

set_option maxHeartbeats 600000 in
set_option maxRecDepth 100000 in
theorem ctext_any (l : List UInt8) (w : World) (hl : l.length ≤ 10000) :
    Calls Try.prog 41 #[.string (bs l)] w fun e w' => e = .returned (cxV (ctx l)) ∧ Below w.heap.size w w' := by
  go_enter Try.func41, Try.ntmps41
  go_wp2
  go_loopw [0, 5] (fun s x wr => ∃ (r p : List UInt8), s = .string (bs r) ∧ p.length + r.length ≤ l.length ∧ ctx l = ((ctx r).map fun y => (p ++ y.1, y.2)) ∧ wr.ownsRow w.heap.size 5 1 x p.length (u8v p) ∧ Below w.heap.size w wr)
    (fun s _ _ => match s with | .string b => b.size | _ => 0)
  case atStart => exact ⟨l, [], rfl, by simp, by cases ctx l <;> simp, World.ownsRow_nil _ _ _ _, Below.refl _ _⟩
  case round =>
    obtain ⟨r, p, rfl, hlen, hctx, hown, hbel⟩ := hrel
    have HX := hide hctx
    clear hctx
    have hhl := hd_le r
    have htl := tl_le r
    have hst := bs_size (tl r)
    go_wp2_with fail
    refine (scut_any r _ (by omega)).mono ?_
    rintro e w1 ⟨rfl, n, rfl⟩
    have hbel' : Below w.heap.size w (wr.drewN n) := below_drewN hbel n
    have hown' : (wr.drewN n).ownsRow w.heap.size 5 1 u5 p.length (u8v p) := hown
    obtain ⟨wd, hwd⟩ : ∃ wd, wd = wr.drewN n := ⟨_, rfl⟩
    rw [← hwd] at hbel' hown' ⊢
    clear hwd hbel hown
    cases ht : tl r with
    | nil =>
      have HK : Hid (ctx l = none) := by show _ = _; rw [HX.out, ctx_end ht]; rfl
      have hq : (bs []).toList.isEmpty = true := by rw [ByteArray.toList_eq]; rfl
      clear hst ht
      go_wp2
      go_ret3
      rw [HK.out]
      exact ⟨rfl, hbel'⟩
    | cons d q =>
      rw [ht] at hst htl
      have hdl : (hd r).length + 1 + (q.length + 1) = r.length := by
        cases hf : fd r with
        | false => have := (fd_no hf).2; rw [this] at ht; simp at ht
        | true =>
          have := congrArg List.length (fd_split hf)
          rw [ht] at this
          simp at this; omega
      have hq : (bs (d :: q)).toList.isEmpty = false := by rw [ByteArray.toList_eq, bs_toList]; rfl
      have hg : ∀ h, (bs (d :: q))[0]'h = d := fun h => by rw [bs_get]; rfl
      have hx : (bs (d :: q)).extract 1 (q.length + 1) = bs q := by rw [bs_extract _ _ _ (by simp)]; simp
      have hsz : (bs (d :: q)).size = q.length + 1 := by rw [bs_size]; rfl
      have hdb := d.toNat_lt
      have hbl := bs_toList (hd r)
      have hbz := bs_size (hd r)
      by_cases h0 : d = 0
      · subst h0
        have HK : Hid (ctx l = some (p ++ hd r, q)) := by show _ = _; rw [HX.out, ctx_zero ht]; rfl
        clear ht hst
        go_wp2_with (at_builtin; go_must (refine wpList_appstr w wd rfl (.tmp 17) (.tmp 18) 26 9 rfl w.heap.size 5 Try.underlying26 Try.underlying9 Try.infoB _ p hown' rfl hbel' (Nat.le_refl _) (bs (hd r)) rfl (by rw [bs_size]; omega) ?_); intro v1 w1 hown1 hbel1; rw [bs_toList] at hown1; have hconv : ∀ m, (convert 26 9 v1).run Try.prog (w1.drewN m) = .ok (.string (bs (p ++ hd r))) (w1.drewN m) := fun m => conv_rd _ _ _ Try.underlying26 Try.underlying5 Try.underlying9 ((own_rd hown1).carry (below_drewN (Below.refl _ _) m)))
        go_quiet (fail)
        go_wp2
        go_ret3
        rw [HK.out]
        exact ⟨rfl, below_drewN hbel1 _⟩
      · have h0n : d.toNat ≠ 0 := fun h => h0 (by rw [← UInt8.toNat_inj]; simpa using h)
        have h0' : ((d.toNat : Int) == 0) = false := by simpa using h0n
        by_cases h255 : d = 255
        · subst h255
          have HK : Hid (ctx l = ((ctx q).map fun y => (p ++ hd r ++ [0] ++ y.1, y.2))) := by
            show _ = _
            rw [HX.out, ctx_more ht]
            cases ctx q <;> simp
          clear ht hst
          go_wp2_with (first | (at_builtin; refine wpList_appstr w wd rfl (.tmp 17) (.tmp 18) 26 9 rfl w.heap.size 5 Try.underlying26 Try.underlying9 Try.infoB _ p hown' rfl hbel' (Nat.le_refl _) (bs (hd r)) rfl (by rw [bs_size]; omega) ?_; intro v1 w1 hown1 hbel1; rw [bs_toList] at hown1) | (at_builtin; refine wpList_app1 w w1 rfl (.tmp 30) (.tmp 31) 26 rfl w.heap.size 5 Try.underlying26 Try.infoB _ (p ++ hd r) hown1 rfl hbel1 (Nat.le_refl _) _ 0 (by rfl) rfl (by simp; omega) ?_; intro v2 w2 hown2 hbel2))
          go_roundw
          case rel => exact ⟨q, p ++ hd r ++ [0], rfl, by simp; omega, HK.out, hown2, hbel2⟩
          case measure => simp [bs_size] <;> omega
        · have h255n : d.toNat ≠ 255 := fun h => h255 (by rw [← UInt8.toNat_inj]; simpa using h)
          have h255' : ((d.toNat : Int) == 255) = false := by simpa using (by omega : ¬ (d.toNat : Int) = 255)
          have HK : Hid (ctx l = none) := by show _ = _; rw [HX.out, ctx_bad ht h0 h255]; rfl
          clear ht hst
          go_wp2_with (at_builtin; go_must (refine wpList_appstr w wd rfl (.tmp 17) (.tmp 18) 26 9 rfl w.heap.size 5 Try.underlying26 Try.underlying9 Try.infoB _ p hown' rfl hbel' (Nat.le_refl _) (bs (hd r)) rfl (by rw [bs_size]; omega) ?_); intro v1 w1 hown1 hbel1)
          go_ret3
          rw [HK.out]
          exact ⟨rfl, hbel1⟩

theorem bcell {W w1 : World} (hb : Below W.heap.size W w1) : (∀ b o, b < W.heap.size → w1.cell? ⟨b, o, none⟩ = W.cell? ⟨b, o, none⟩) ∧ (∀ b o, b < W.heap.size → w1.frozen? ⟨b, o, none⟩ = W.frozen? ⟨b, o, none⟩) :=
  ⟨fun b o h => hb.cell (p := ⟨b, o, none⟩) h, fun b o h => hb.frozen (p := ⟨b, o, none⟩) h⟩

theorem below3 {w w2 : World} (hb : Below w.heap.size w w2) (a b c : Value) : Below w.heap.size w (((w2.setCell ⟨w.heap.size, 0, none⟩ a).setCell ⟨w.heap.size, 1, none⟩ b).setCell ⟨w.heap.size, 2, none⟩ c) :=
  ((hb.setCell (Nat.le_refl _) a).setCell (Nat.le_refl _) b).setCell (Nat.le_refl _) c

/-- What cutPart answers: a part and what stands behind it, where there is one. -/
def CpV (l : List UInt8) (e : Ending) : Prop :=
  ∃ (p : Pt) (s : List UInt8), e = .returned (.tuple #[ptV p, .string (bs s), .bool (cp l).isSome]) ∧ (∀ q r, cp l = some (q, r) → p = q ∧ s = r)

set_option maxHeartbeats 400000 in
set_option maxRecDepth 100000 in
theorem cpart_any (c : UInt8) (l : List UInt8) (w : World) (hl : l.length ≤ 1000) :
    Calls Try.prog 33 #[.string (bs (c :: l))] w fun e w' => CpV (c :: l) e ∧ Below w.heap.size w w' := by
  have hg : ∀ h, (bs (c :: l))[0]'h = c := fun h => by rw [bs_get]; rfl
  have hx : (bs (c :: l)).extract 1 (l.length + 1) = bs l := by rw [bs_extract _ _ _ (by simp)]; simp
  have hsz : (bs (c :: l)).size = l.length + 1 := by rw [bs_size]; rfl
  have hcb := c.toNat_lt
  by_cases h1 : c = 1
  · subst h1
    go_enter Try.func33, Try.ntmps33
    go_wp2_with fail
    refine (cword_any l _ (by omega)).mono ?_
    rintro e w1 ⟨rfl, m, rfl⟩
    cases hcw : cw l with
    | none =>
      have HK : Hid (cp (1 :: l) = none) := by show _ = _; simp [cp, hcw]
      clear hcw
      unfold cwV
      go_wp2
      refine bodyPost_ret (v := .tuple #[ptV (false, 0, []), .string (bs []), .bool false]) ?_ rfl ⟨⟨(false, 0, []), [], by rw [HK.out]; rfl, fun q r h => by rw [HK.out] at h; cases h⟩, below3 (below_drewN ((Below.refl w.heap.size w).alloc (Nat.le_refl _) _) m) _ _ _⟩
      unfold ptV
      simp [results, Try.results33, go_sem, *] <;> rfl
    | some x =>
      obtain ⟨n, r⟩ := x
      have HK : Hid (cp (1 :: l) = some ((false, n, []), r)) := by show _ = _; simp [cp, hcw]
      clear hcw
      unfold cwV
      go_wp2
      refine bodyPost_ret (v := .tuple #[ptV (false, n, []), .string (bs r), .bool true]) ?_ rfl ⟨⟨(false, n, []), r, by rw [HK.out]; rfl, fun q r h => by rw [HK.out] at h; cases h; exact ⟨rfl, rfl⟩⟩, below3 (below_drewN ((Below.refl w.heap.size w).alloc (Nat.le_refl _) _) m) _ _ _⟩
      unfold ptV
      simp [results, Try.results33, go_sem, *] <;> rfl
  · have h1' : ((c.toNat : Int) == 1) = false := by
      have : c.toNat ≠ 1 := fun h => h1 (by rw [← UInt8.toNat_inj]; simpa using h)
      simpa using (by omega : ¬ (c.toNat : Int) = 1)
    by_cases h2 : c = 2
    · subst h2
      go_enter Try.func33, Try.ntmps33
      go_wp2_with fail
      refine (ctext_any l _ (by omega)).mono ?_
      rintro e w1 ⟨rfl, hb⟩
      have k0 : w1.cell? ⟨w.heap.size, 0, none⟩ = some (.bool false) := (hb.cell (by simp)).trans (by simp)
      have k1 : w1.cell? ⟨w.heap.size, 1, none⟩ = some (.int .u64 0) := (hb.cell (by simp)).trans (by simp)
      have k2 : w1.cell? ⟨w.heap.size, 2, none⟩ = some (.string { data := #[] }) := (hb.cell (by simp)).trans (by simp)
      have f0 : w1.frozen? ⟨w.heap.size, 0, none⟩ = false := (hb.frozen (by simp)).trans (by simp)
      have f1 : w1.frozen? ⟨w.heap.size, 1, none⟩ = false := (hb.frozen (by simp)).trans (by simp)
      have f2 : w1.frozen? ⟨w.heap.size, 2, none⟩ = false := (hb.frozen (by simp)).trans (by simp)
      have hbb : Below w.heap.size w w1 := ((Below.refl _ _).alloc (Nat.le_refl _) _).trans (hb.mono (by simp))
      clear hb
      cases hcx : ctx l with
      | none =>
        have HK : Hid (cp (2 :: l) = none) := by show _ = _; simp [cp, hcx]
        clear hcx
        unfold cxV
        go_wp2
        refine bodyPost_ret (v := .tuple #[ptV (true, 0, []), .string (bs []), .bool false]) ?_ rfl ⟨⟨(true, 0, []), [], by rw [HK.out]; rfl, fun q r h => by rw [HK.out] at h; cases h⟩, below3 hbb _ _ _⟩
        unfold ptV
        simp [results, Try.results33, go_sem, *] <;> rfl
      | some x =>
        obtain ⟨s, r⟩ := x
        have HK : Hid (cp (2 :: l) = some ((true, 0, s), r)) := by show _ = _; simp [cp, hcx]
        clear hcx
        unfold cxV
        go_wp2
        refine bodyPost_ret (v := .tuple #[ptV (true, 0, s), .string (bs r), .bool true]) ?_ rfl ⟨⟨(true, 0, s), r, by rw [HK.out]; rfl, fun q r h => by rw [HK.out] at h; cases h; exact ⟨rfl, rfl⟩⟩, below3 hbb _ _ _⟩
        unfold ptV
        simp [results, Try.results33, go_sem, *] <;> rfl
    · have h2' : ((c.toNat : Int) == 2) = false := by
        have : c.toNat ≠ 2 := fun h => h2 (by rw [← UInt8.toNat_inj]; simpa using h)
        simpa using (by omega : ¬ (c.toNat : Int) = 2)
      have HK : Hid (cp (c :: l) = none) := by show _ = _; simp [cp, h1, h2]
      clear h1 h2
      go_enter Try.func33, Try.ntmps33
      go_wp2
      refine bodyPost_ret (v := .tuple #[ptV (false, 0, []), .string (bs []), .bool false]) ?_ rfl ⟨⟨(false, 0, []), [], by rw [HK.out]; rfl, fun q r h => by rw [HK.out] at h; cases h⟩, (Below.refl w.heap.size w).alloc (Nat.le_refl _) _⟩
      unfold ptV
      simp [results, Try.results33, go_sem, *] <;> rfl

end Go.Proofs.Ytpammicadnfheaa

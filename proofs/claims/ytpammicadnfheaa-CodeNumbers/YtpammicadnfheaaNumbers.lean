/-
  What the statement CodeNumbers does: it answers true, and changes nothing that was there.
-/
import Derived.Test.YtpammicadnfheaaCut
import Derived.Test.YtpammicadnfheaaReg
namespace Go.Proofs.Ytpammicadnfheaa
open Go.RowKit

abbrev Try.underlyingB := Try.underlying5

theorem small_rd (n : Nat) (w : World) (hn : n < 18446744073709551616) : Calls Try.prog 16 #[.int .u64 n] w fun e w' => ∃ v, e = .returned v ∧ Rd w' v (sm n) ∧ Below w.heap.size w w' :=
  (small_any n w hn).mono fun _ _ ⟨v, h1, h2, h3⟩ => ⟨v, h1, own_rd h2, h3⟩
theorem rsmall_rd (n : Nat) (w : World) (hn : n < 18446744073709551616) : Calls Try.prog 21 #[.int .u64 n] w fun e w' => ∃ v, e = .returned v ∧ Rd w' v (sm n) ∧ Below w.heap.size w w' :=
  (rsmall_any n w hn).mono fun _ _ ⟨v, h1, h2, h3⟩ => ⟨v, h1, own_rd h2, h3⟩
theorem text_rd (s : ByteArray) (w : World) (hs : s.size ≤ 1000000000) : Calls Try.prog 17 #[.string s] w fun e w' => ∃ v, e = .returned v ∧ Rd w' v (tx s.data.toList) ∧ Below w.heap.size w w' :=
  (text_any s w hs).mono fun _ _ ⟨v, h1, h2, h3⟩ => ⟨v, h1, own_rd h2, h3⟩
theorem rtext_rd (s : ByteArray) (w : World) (hs : s.size ≤ 1000000000) : Calls Try.prog 22 #[.string s] w fun e w' => ∃ v, e = .returned v ∧ Rd w' v (tx s.data.toList) ∧ Below w.heap.size w w' :=
  (rtext_any s w hs).mono fun _ _ ⟨v, h1, h2, h3⟩ => ⟨v, h1, own_rd h2, h3⟩

set_option maxHeartbeats 1000000 in
set_option maxRecDepth 100000 in
theorem numbers_any (n : Nat) (s : ByteArray) (vb : Value) (a2 : Option Addr) (c2 : Nat) (l : List UInt8) (w : World) (hn : n < 18446744073709551616) (hvb : vb = .slice a2 l.length c2) (hb : Rd w vb l) :
    Calls Try.prog 4 #[.int .u64 n, .string s, .slice a2 l.length c2] w fun e w' => e = .returned (.bool true) ∧ Below w.heap.size w w' := by
  have HV : Hid (vb = .slice a2 l.length c2) := hvb
  clear hvb
  by_cases hs0 : s.size ≤ 100000
  · by_cases hl0 : l.length ≤ 100000
    · have hs : s.size ≤ 1000000000 := by omega
      have hb' : Rd w (.slice a2 l.length c2) l := HV.out ▸ hb
      go_enter Try.func4, Try.ntmps4
      go_wp2_with (at_builtin; go_must (refine wpList_apprd w w rfl _ (.tmp 29) 26 rfl w.heap.size 5 Try.underlying26 Try.infoB _ [] (World.ownsRow_nil _ _ _ _) rfl (Below.refl _ _) (Nat.le_refl _) _ l hb' rfl (by simp; omega) ?_); intro vin w1 hown1 hbel1)
      simp only [List.nil_append] at hown1
      have hin := own_rd hown1
      have hbr := hb'.carry hbel1
      obtain ⟨x8, x9, x10, hrd⟩ := rdV_form (rd l)
      have HRD : Hid (rdV (rd l) = .tuple #[.int .u64 x8, .int .i64 x9, .int .i64 x10]) := hrd
      clear hrd hb hb'
      refine (read_any _ hin).mono ?_
      rintro e w2 ⟨rfl, rfl⟩
      rw [HRD.out]
      go_wp2_with fail
      refine (rread_any _ (by omega) hbr).mono ?_
      rintro e w2 ⟨rfl, rfl⟩
      rw [HRD.out]
      go_wp2_with fail
      refine (cut_any _ (by omega) hin).mono ?_
      rintro e w3 ⟨vc, rfl, hcv, hbel3⟩
      obtain ⟨y, rfl, hy⟩ := cutV_form hcv
      clear hcv
      go_wp2_with fail
      refine (rcut_any _ (by omega) (hbr.carry hbel3)).mono ?_
      rintro e w4 ⟨vc, rfl, hcv, hbel4⟩
      obtain ⟨y', rfl, hy'⟩ := cutV_form hcv
      clear hcv
      go_wp2_with fail
      have hK : Keeps (fun wx => (Rd wx y (cutR l) ∧ Rd wx y' (cutR l)) ∧ Below w4.heap.size w4 wx) := ((keeps_rd _ _).and (keeps_rd _ _)).and (keeps_below w4)
      refine reg_begin hK (by kernel_rfl) ⟨⟨(own_rd hy).carry hbel4, own_rd hy'⟩, Below.refl _ _⟩ ?_
      intro hS
      refine reg_take (i := 0) (oi := { dst := some 55, op := Op.move (Operand.tmp 0), type := 22, pos := "law.go:20", after := #[], guard := none }) (v := ?qv0) rfl (by kernel_rfl) (by kernel_rfl) (by kernel_rfl) (by rfl) ?qy0 hS ?qr0
      case qy0 => (intro wx hx; go_simp; all_goals (with_reducible rfl))
      try simp only [Act.put, List.setIfInBounds_toArray, List.set_cons_zero, List.set_cons_succ]
      refine reg_take (i := 3) (oi := { dst := some 58, op := Op.move (Operand.tmp 0), type := 22, pos := "law.go:20", after := #[], guard := none }) (v := ?qv3) rfl (by kernel_rfl) (by kernel_rfl) (by kernel_rfl) (by rfl) ?qy3 hS ?qr3
      case qy3 => (intro wx hx; go_simp; all_goals (with_reducible rfl))
      try simp only [Act.put, List.setIfInBounds_toArray, List.set_cons_zero, List.set_cons_succ]
      refine reg_call hK (i := 1) (oi := { dst := some 56, op := Op.call { callee := Callee.value (Operand.func 16), args := #[Operand.tmp 55], argTypes := #[22] }, type := 26, pos := "law.go:20", after := #[{ on := 0, ground := Ground.data }], guard := none }) (R := fun v w => Rd w v (sm n)) rfl (by kernel_rfl) (by rfl) (by go_simp) hS (small_rd n _ hn) (fun v => keeps_rd v _) ?_
      intro v56 w56 hKn hRn hSn
      clear hK hS
      have hK := hKn
      have hS := hSn
      clear hKn hSn
      try simp only [Act.put, List.setIfInBounds_toArray, List.set_cons_zero, List.set_cons_succ]
      refine reg_take (i := 2) (oi := { dst := some 57, op := Op.convert 26 9 (Operand.tmp 56), type := 9, pos := "law.go:20", after := #[{ on := 1, ground := Ground.data }], guard := none }) (v := .string (bs (sm n))) rfl (by kernel_rfl) (by kernel_rfl) (by kernel_rfl) (by rfl) (fun wx hx => yield_conv rfl Try.underlying26 Try.underlyingB Try.underlying9 rfl (hx.2)) hS ?_
      try simp only [Act.put, List.setIfInBounds_toArray, List.set_cons_zero, List.set_cons_succ]
      refine reg_call hK (i := 4) (oi := { dst := some 59, op := Op.call { callee := Callee.value (Operand.func 21), args := #[Operand.tmp 58], argTypes := #[22] }, type := 26, pos := "law.go:20", after := #[{ on := 3, ground := Ground.data }, { on := 1, ground := Ground.chain }], guard := none }) (R := fun v w => Rd w v (sm n)) rfl (by kernel_rfl) (by rfl) (by go_simp) hS (rsmall_rd n _ hn) (fun v => keeps_rd v _) ?_
      intro v59 w59 hKn hRn hSn
      clear hK hS
      have hK := hKn
      have hS := hSn
      clear hKn hSn
      try simp only [Act.put, List.setIfInBounds_toArray, List.set_cons_zero, List.set_cons_succ]
      refine reg_take (i := 5) (oi := { dst := some 60, op := Op.convert 26 9 (Operand.tmp 59), type := 9, pos := "law.go:20", after := #[{ on := 4, ground := Ground.data }], guard := none }) (v := .string (bs (sm n))) rfl (by kernel_rfl) (by kernel_rfl) (by kernel_rfl) (by rfl) (fun wx hx => yield_conv rfl Try.underlying26 Try.underlyingB Try.underlying9 rfl (hx.2)) hS ?_
      try simp only [Act.put, List.setIfInBounds_toArray, List.set_cons_zero, List.set_cons_succ]
      refine reg_take (i := 6) (oi := { dst := some 61, op := Op.binOp BinOp.neq 9 (Operand.tmp 57) (Operand.tmp 60) 9, type := 4, pos := "law.go:20", after := #[{ on := 2, ground := Ground.data }, { on := 5, ground := Ground.data }], guard := none }) (v := ?qv6) rfl (by kernel_rfl) (by kernel_rfl) (by kernel_rfl) (by rfl) ?qy6 hS ?qr6
      case qy6 => (intro wx hx; go_simp; all_goals (with_reducible rfl))
      try simp only [Act.put, List.setIfInBounds_toArray, List.set_cons_zero, List.set_cons_succ]
      refine reg_take (i := 7) (oi := { dst := some 62, op := Op.move (Operand.tmp 61), type := 4, pos := "law.go:20", after := #[{ on := 6, ground := Ground.data }, { on := 4, ground := Ground.chain }], guard := none }) (v := ?qv7) rfl (by kernel_rfl) (by kernel_rfl) (by kernel_rfl) (by rfl) ?qy7 hS ?qr7
      case qy7 => (intro wx hx; go_simp; all_goals (with_reducible rfl))
      try simp only [Act.put, List.setIfInBounds_toArray, List.set_cons_zero, List.set_cons_succ]
      refine reg_take (i := 8) (oi := { dst := some 63, op := Op.move (Operand.tmp 1), type := 9, pos := "law.go:20", after := #[{ on := 7, ground := Ground.guard }], guard := some (7, false) }) (v := ?qv8) rfl (by kernel_rfl) (by kernel_rfl) (by kernel_rfl) (by rfl) ?qy8 hS ?qr8
      case qy8 => (intro wx hx; go_simp; all_goals (with_reducible rfl))
      try simp only [Act.put, List.setIfInBounds_toArray, List.set_cons_zero, List.set_cons_succ]
      refine reg_take (i := 11) (oi := { dst := some 66, op := Op.move (Operand.tmp 1), type := 9, pos := "law.go:20", after := #[{ on := 7, ground := Ground.guard }], guard := some (7, false) }) (v := ?qv11) rfl (by kernel_rfl) (by kernel_rfl) (by kernel_rfl) (by rfl) ?qy11 hS ?qr11
      case qy11 => (intro wx hx; go_simp; all_goals (with_reducible rfl))
      try simp only [Act.put, List.setIfInBounds_toArray, List.set_cons_zero, List.set_cons_succ]
      refine reg_call hK (i := 9) (oi := { dst := some 64, op := Op.call { callee := Callee.value (Operand.func 17), args := #[Operand.tmp 63], argTypes := #[9] }, type := 26, pos := "law.go:20", after := #[{ on := 8, ground := Ground.data }, { on := 7, ground := Ground.chain }, { on := 7, ground := Ground.guard }], guard := some (7, false) }) (R := fun v w => Rd w v (tx s.data.toList)) rfl (by kernel_rfl) (by rfl) (by go_simp) hS (text_rd s _ hs) (fun v => keeps_rd v _) ?_
      intro v64 w64 hKn hRn hSn
      clear hK hS
      have hK := hKn
      have hS := hSn
      clear hKn hSn
      try simp only [Act.put, List.setIfInBounds_toArray, List.set_cons_zero, List.set_cons_succ]
      refine reg_take (i := 10) (oi := { dst := some 65, op := Op.convert 26 9 (Operand.tmp 64), type := 9, pos := "law.go:20", after := #[{ on := 9, ground := Ground.data }, { on := 7, ground := Ground.guard }], guard := some (7, false) }) (v := .string (bs (tx s.data.toList))) rfl (by kernel_rfl) (by kernel_rfl) (by kernel_rfl) (by rfl) (fun wx hx => yield_conv rfl Try.underlying26 Try.underlyingB Try.underlying9 rfl (hx.2)) hS ?_
      try simp only [Act.put, List.setIfInBounds_toArray, List.set_cons_zero, List.set_cons_succ]
      refine reg_call hK (i := 12) (oi := { dst := some 67, op := Op.call { callee := Callee.value (Operand.func 22), args := #[Operand.tmp 66], argTypes := #[9] }, type := 26, pos := "law.go:20", after := #[{ on := 11, ground := Ground.data }, { on := 9, ground := Ground.chain }, { on := 7, ground := Ground.guard }], guard := some (7, false) }) (R := fun v w => Rd w v (tx s.data.toList)) rfl (by kernel_rfl) (by rfl) (by go_simp) hS (rtext_rd s _ hs) (fun v => keeps_rd v _) ?_
      intro v67 w67 hKn hRn hSn
      clear hK hS
      have hK := hKn
      have hS := hSn
      clear hKn hSn
      try simp only [Act.put, List.setIfInBounds_toArray, List.set_cons_zero, List.set_cons_succ]
      refine reg_take (i := 13) (oi := { dst := some 68, op := Op.convert 26 9 (Operand.tmp 67), type := 9, pos := "law.go:20", after := #[{ on := 12, ground := Ground.data }, { on := 7, ground := Ground.guard }], guard := some (7, false) }) (v := .string (bs (tx s.data.toList))) rfl (by kernel_rfl) (by kernel_rfl) (by kernel_rfl) (by rfl) (fun wx hx => yield_conv rfl Try.underlying26 Try.underlyingB Try.underlying9 rfl (hx.2)) hS ?_
      try simp only [Act.put, List.setIfInBounds_toArray, List.set_cons_zero, List.set_cons_succ]
      refine reg_take (i := 14) (oi := { dst := some 69, op := Op.binOp BinOp.neq 9 (Operand.tmp 65) (Operand.tmp 68) 9, type := 4, pos := "law.go:20", after := #[{ on := 10, ground := Ground.data }, { on := 13, ground := Ground.data }, { on := 7, ground := Ground.guard }], guard := some (7, false) }) (v := ?qv14) rfl (by kernel_rfl) (by kernel_rfl) (by kernel_rfl) (by rfl) ?qy14 hS ?qr14
      case qy14 => (intro wx hx; go_simp; all_goals (with_reducible rfl))
      try simp only [Act.put, List.setIfInBounds_toArray, List.set_cons_zero, List.set_cons_succ]
      refine reg_take (i := 15) (oi := { dst := some 70, op := Op.pick (Operand.tmp 62) (Operand.const (Value.bool true)) (Operand.tmp 69), type := 4, pos := "law.go:20", after := #[{ on := 7, ground := Ground.data }, { on := 14, ground := Ground.data }], guard := none }) (v := ?qv15) rfl (by kernel_rfl) (by kernel_rfl) (by kernel_rfl) (by rfl) ?qy15 hS ?qr15
      case qy15 => (intro wx hx; go_simp; all_goals (with_reducible rfl))
      try simp only [Act.put, List.setIfInBounds_toArray, List.set_cons_zero, List.set_cons_succ]
      refine reg_take (i := 16) (oi := { dst := some 71, op := Op.move (Operand.tmp 70), type := 4, pos := "law.go:20", after := #[{ on := 15, ground := Ground.data }, { on := 12, ground := Ground.chain }], guard := none }) (v := ?qv16) rfl (by kernel_rfl) (by kernel_rfl) (by kernel_rfl) (by rfl) ?qy16 hS ?qr16
      case qy16 => (intro wx hx; go_simp; all_goals (with_reducible rfl))
      try simp only [Act.put, List.setIfInBounds_toArray, List.set_cons_zero, List.set_cons_succ]
      refine reg_take (i := 17) (oi := { dst := some 72, op := Op.move (Operand.tmp 8), type := 22, pos := "law.go:20", after := #[{ on := 16, ground := Ground.guard }], guard := some (16, false) }) (v := ?qv17) rfl (by kernel_rfl) (by kernel_rfl) (by kernel_rfl) (by rfl) ?qy17 hS ?qr17
      case qy17 => (intro wx hx; go_simp; all_goals (with_reducible rfl))
      try simp only [Act.put, List.setIfInBounds_toArray, List.set_cons_zero, List.set_cons_succ]
      refine reg_take (i := 18) (oi := { dst := some 73, op := Op.move (Operand.tmp 11), type := 22, pos := "law.go:20", after := #[{ on := 16, ground := Ground.guard }], guard := some (16, false) }) (v := ?qv18) rfl (by kernel_rfl) (by kernel_rfl) (by kernel_rfl) (by rfl) ?qy18 hS ?qr18
      case qy18 => (intro wx hx; go_simp; all_goals (with_reducible rfl))
      try simp only [Act.put, List.setIfInBounds_toArray, List.set_cons_zero, List.set_cons_succ]
      refine reg_take (i := 19) (oi := { dst := some 74, op := Op.binOp BinOp.neq 22 (Operand.tmp 72) (Operand.tmp 73) 22, type := 4, pos := "law.go:20", after := #[{ on := 17, ground := Ground.data }, { on := 18, ground := Ground.data }, { on := 16, ground := Ground.guard }], guard := some (16, false) }) (v := ?qv19) rfl (by kernel_rfl) (by kernel_rfl) (by kernel_rfl) (by rfl) ?qy19 hS ?qr19
      case qy19 => (intro wx hx; go_simp; all_goals (with_reducible rfl))
      try simp only [Act.put, List.setIfInBounds_toArray, List.set_cons_zero, List.set_cons_succ]
      refine reg_take (i := 20) (oi := { dst := some 75, op := Op.pick (Operand.tmp 71) (Operand.const (Value.bool true)) (Operand.tmp 74), type := 4, pos := "law.go:20", after := #[{ on := 16, ground := Ground.data }, { on := 19, ground := Ground.data }], guard := none }) (v := ?qv20) rfl (by kernel_rfl) (by kernel_rfl) (by kernel_rfl) (by rfl) ?qy20 hS ?qr20
      case qy20 => (intro wx hx; go_simp; all_goals (with_reducible rfl))
      try simp only [Act.put, List.setIfInBounds_toArray, List.set_cons_zero, List.set_cons_succ]
      refine reg_take (i := 21) (oi := { dst := some 76, op := Op.move (Operand.tmp 75), type := 4, pos := "law.go:20", after := #[{ on := 20, ground := Ground.data }, { on := 16, ground := Ground.chain }], guard := none }) (v := ?qv21) rfl (by kernel_rfl) (by kernel_rfl) (by kernel_rfl) (by rfl) ?qy21 hS ?qr21
      case qy21 => (intro wx hx; go_simp; all_goals (with_reducible rfl))
      try simp only [Act.put, List.setIfInBounds_toArray, List.set_cons_zero, List.set_cons_succ]
      refine reg_take (i := 22) (oi := { dst := some 77, op := Op.move (Operand.tmp 9), type := 3, pos := "law.go:20", after := #[{ on := 21, ground := Ground.guard }], guard := some (21, false) }) (v := ?qv22) rfl (by kernel_rfl) (by kernel_rfl) (by kernel_rfl) (by rfl) ?qy22 hS ?qr22
      case qy22 => (intro wx hx; go_simp; all_goals (with_reducible rfl))
      try simp only [Act.put, List.setIfInBounds_toArray, List.set_cons_zero, List.set_cons_succ]
      refine reg_take (i := 23) (oi := { dst := some 78, op := Op.move (Operand.tmp 12), type := 3, pos := "law.go:20", after := #[{ on := 21, ground := Ground.guard }], guard := some (21, false) }) (v := ?qv23) rfl (by kernel_rfl) (by kernel_rfl) (by kernel_rfl) (by rfl) ?qy23 hS ?qr23
      case qy23 => (intro wx hx; go_simp; all_goals (with_reducible rfl))
      try simp only [Act.put, List.setIfInBounds_toArray, List.set_cons_zero, List.set_cons_succ]
      refine reg_take (i := 24) (oi := { dst := some 79, op := Op.binOp BinOp.neq 3 (Operand.tmp 77) (Operand.tmp 78) 3, type := 4, pos := "law.go:20", after := #[{ on := 22, ground := Ground.data }, { on := 23, ground := Ground.data }, { on := 21, ground := Ground.guard }], guard := some (21, false) }) (v := ?qv24) rfl (by kernel_rfl) (by kernel_rfl) (by kernel_rfl) (by rfl) ?qy24 hS ?qr24
      case qy24 => (intro wx hx; go_simp; all_goals (with_reducible rfl))
      try simp only [Act.put, List.setIfInBounds_toArray, List.set_cons_zero, List.set_cons_succ]
      refine reg_take (i := 25) (oi := { dst := some 80, op := Op.pick (Operand.tmp 76) (Operand.const (Value.bool true)) (Operand.tmp 79), type := 4, pos := "law.go:20", after := #[{ on := 21, ground := Ground.data }, { on := 24, ground := Ground.data }], guard := none }) (v := ?qv25) rfl (by kernel_rfl) (by kernel_rfl) (by kernel_rfl) (by rfl) ?qy25 hS ?qr25
      case qy25 => (intro wx hx; go_simp; all_goals (with_reducible rfl))
      try simp only [Act.put, List.setIfInBounds_toArray, List.set_cons_zero, List.set_cons_succ]
      refine reg_take (i := 26) (oi := { dst := some 81, op := Op.move (Operand.tmp 80), type := 4, pos := "law.go:20", after := #[{ on := 25, ground := Ground.data }, { on := 21, ground := Ground.chain }], guard := none }) (v := ?qv26) rfl (by kernel_rfl) (by kernel_rfl) (by kernel_rfl) (by rfl) ?qy26 hS ?qr26
      case qy26 => (intro wx hx; go_simp; all_goals (with_reducible rfl))
      try simp only [Act.put, List.setIfInBounds_toArray, List.set_cons_zero, List.set_cons_succ]
      refine reg_take (i := 27) (oi := { dst := some 82, op := Op.move (Operand.tmp 10), type := 23, pos := "law.go:20", after := #[{ on := 26, ground := Ground.guard }], guard := some (26, false) }) (v := ?qv27) rfl (by kernel_rfl) (by kernel_rfl) (by kernel_rfl) (by rfl) ?qy27 hS ?qr27
      case qy27 => (intro wx hx; go_simp; all_goals (with_reducible rfl))
      try simp only [Act.put, List.setIfInBounds_toArray, List.set_cons_zero, List.set_cons_succ]
      refine reg_take (i := 28) (oi := { dst := some 83, op := Op.move (Operand.tmp 13), type := 3, pos := "law.go:20", after := #[{ on := 26, ground := Ground.guard }], guard := some (26, false) }) (v := ?qv28) rfl (by kernel_rfl) (by kernel_rfl) (by kernel_rfl) (by rfl) ?qy28 hS ?qr28
      case qy28 => (intro wx hx; go_simp; all_goals (with_reducible rfl))
      try simp only [Act.put, List.setIfInBounds_toArray, List.set_cons_zero, List.set_cons_succ]
      refine reg_take (i := 29) (oi := { dst := some 84, op := Op.binOp BinOp.neq 3 (Operand.tmp 82) (Operand.tmp 83) 3, type := 4, pos := "law.go:20", after := #[{ on := 27, ground := Ground.data }, { on := 28, ground := Ground.data }, { on := 26, ground := Ground.guard }], guard := some (26, false) }) (v := ?qv29) rfl (by kernel_rfl) (by kernel_rfl) (by kernel_rfl) (by rfl) ?qy29 hS ?qr29
      case qy29 => (intro wx hx; go_simp; all_goals (with_reducible rfl))
      try simp only [Act.put, List.setIfInBounds_toArray, List.set_cons_zero, List.set_cons_succ]
      refine reg_take (i := 30) (oi := { dst := some 85, op := Op.pick (Operand.tmp 81) (Operand.const (Value.bool true)) (Operand.tmp 84), type := 4, pos := "law.go:20", after := #[{ on := 26, ground := Ground.data }, { on := 29, ground := Ground.data }], guard := none }) (v := ?qv30) rfl (by kernel_rfl) (by kernel_rfl) (by kernel_rfl) (by rfl) ?qy30 hS ?qr30
      case qy30 => (intro wx hx; go_simp; all_goals (with_reducible rfl))
      try simp only [Act.put, List.setIfInBounds_toArray, List.set_cons_zero, List.set_cons_succ]
      refine reg_take (i := 31) (oi := { dst := some 86, op := Op.move (Operand.tmp 85), type := 4, pos := "law.go:20", after := #[{ on := 30, ground := Ground.data }, { on := 26, ground := Ground.chain }], guard := none }) (v := ?qv31) rfl (by kernel_rfl) (by kernel_rfl) (by kernel_rfl) (by rfl) ?qy31 hS ?qr31
      case qy31 => (intro wx hx; go_simp; all_goals (with_reducible rfl))
      try simp only [Act.put, List.setIfInBounds_toArray, List.set_cons_zero, List.set_cons_succ]
      refine reg_take (i := 32) (oi := { dst := some 87, op := Op.move (Operand.tmp 14), type := 9, pos := "law.go:20", after := #[{ on := 31, ground := Ground.guard }], guard := some (31, false) }) (v := ?qv32) rfl (by kernel_rfl) (by kernel_rfl) (by kernel_rfl) (by rfl) ?qy32 hS ?qr32
      case qy32 => (intro wx hx; go_simp; all_goals (with_reducible rfl))
      try simp only [Act.put, List.setIfInBounds_toArray, List.set_cons_zero, List.set_cons_succ]
      refine reg_take (i := 33) (oi := { dst := some 88, op := Op.move (Operand.tmp 17), type := 9, pos := "law.go:20", after := #[{ on := 31, ground := Ground.guard }], guard := some (31, false) }) (v := ?qv33) rfl (by kernel_rfl) (by kernel_rfl) (by kernel_rfl) (by rfl) ?qy33 hS ?qr33
      case qy33 => (intro wx hx; go_simp; all_goals (with_reducible rfl))
      try simp only [Act.put, List.setIfInBounds_toArray, List.set_cons_zero, List.set_cons_succ]
      refine reg_take (i := 34) (oi := { dst := some 89, op := Op.binOp BinOp.neq 9 (Operand.tmp 87) (Operand.tmp 88) 9, type := 4, pos := "law.go:20", after := #[{ on := 32, ground := Ground.data }, { on := 33, ground := Ground.data }, { on := 31, ground := Ground.guard }], guard := some (31, false) }) (v := ?qv34) rfl (by kernel_rfl) (by kernel_rfl) (by kernel_rfl) (by rfl) ?qy34 hS ?qr34
      case qy34 => (intro wx hx; go_simp; all_goals (with_reducible rfl))
      try simp only [Act.put, List.setIfInBounds_toArray, List.set_cons_zero, List.set_cons_succ]
      refine reg_take (i := 35) (oi := { dst := some 90, op := Op.pick (Operand.tmp 86) (Operand.const (Value.bool true)) (Operand.tmp 89), type := 4, pos := "law.go:20", after := #[{ on := 31, ground := Ground.data }, { on := 34, ground := Ground.data }], guard := none }) (v := ?qv35) rfl (by kernel_rfl) (by kernel_rfl) (by kernel_rfl) (by rfl) ?qy35 hS ?qr35
      case qy35 => (intro wx hx; go_simp; all_goals (with_reducible rfl))
      try simp only [Act.put, List.setIfInBounds_toArray, List.set_cons_zero, List.set_cons_succ]
      refine reg_take (i := 36) (oi := { dst := some 91, op := Op.move (Operand.tmp 90), type := 4, pos := "law.go:20", after := #[{ on := 35, ground := Ground.data }, { on := 31, ground := Ground.chain }], guard := none }) (v := ?qv36) rfl (by kernel_rfl) (by kernel_rfl) (by kernel_rfl) (by rfl) ?qy36 hS ?qr36
      case qy36 => (intro wx hx; go_simp; all_goals (with_reducible rfl))
      try simp only [Act.put, List.setIfInBounds_toArray, List.set_cons_zero, List.set_cons_succ]
      refine reg_take (i := 37) (oi := { dst := some 92, op := Op.move (Operand.tmp 15), type := 26, pos := "law.go:20", after := #[{ on := 36, ground := Ground.guard }], guard := some (36, false) }) (v := ?qv37) rfl (by kernel_rfl) (by kernel_rfl) (by kernel_rfl) (by rfl) ?qy37 hS ?qr37
      case qy37 => (intro wx hx; go_simp; all_goals (with_reducible rfl))
      try simp only [Act.put, List.setIfInBounds_toArray, List.set_cons_zero, List.set_cons_succ]
      refine reg_take (i := 38) (oi := { dst := some 93, op := Op.convert 26 9 (Operand.tmp 92), type := 9, pos := "law.go:20", after := #[{ on := 37, ground := Ground.data }, { on := 36, ground := Ground.guard }], guard := some (36, false) }) (v := .string (bs (cutR l))) rfl (by kernel_rfl) (by kernel_rfl) (by kernel_rfl) (by rfl) (fun wx hx => yield_conv rfl Try.underlying26 Try.underlyingB Try.underlying9 rfl (hx.1.1.1.1.1.1)) hS ?_
      try simp only [Act.put, List.setIfInBounds_toArray, List.set_cons_zero, List.set_cons_succ]
      refine reg_take (i := 39) (oi := { dst := some 94, op := Op.move (Operand.tmp 18), type := 26, pos := "law.go:20", after := #[{ on := 36, ground := Ground.guard }], guard := some (36, false) }) (v := ?qv39) rfl (by kernel_rfl) (by kernel_rfl) (by kernel_rfl) (by rfl) ?qy39 hS ?qr39
      case qy39 => (intro wx hx; go_simp; all_goals (with_reducible rfl))
      try simp only [Act.put, List.setIfInBounds_toArray, List.set_cons_zero, List.set_cons_succ]
      refine reg_take (i := 40) (oi := { dst := some 95, op := Op.convert 26 9 (Operand.tmp 94), type := 9, pos := "law.go:20", after := #[{ on := 39, ground := Ground.data }, { on := 36, ground := Ground.guard }], guard := some (36, false) }) (v := .string (bs (cutR l))) rfl (by kernel_rfl) (by kernel_rfl) (by kernel_rfl) (by rfl) (fun wx hx => yield_conv rfl Try.underlying26 Try.underlyingB Try.underlying9 rfl (hx.1.1.1.1.1.2)) hS ?_
      try simp only [Act.put, List.setIfInBounds_toArray, List.set_cons_zero, List.set_cons_succ]
      refine reg_take (i := 41) (oi := { dst := some 96, op := Op.binOp BinOp.neq 9 (Operand.tmp 93) (Operand.tmp 95) 9, type := 4, pos := "law.go:20", after := #[{ on := 38, ground := Ground.data }, { on := 40, ground := Ground.data }, { on := 36, ground := Ground.guard }], guard := some (36, false) }) (v := ?qv41) rfl (by kernel_rfl) (by kernel_rfl) (by kernel_rfl) (by rfl) ?qy41 hS ?qr41
      case qy41 => (intro wx hx; go_simp; all_goals (with_reducible rfl))
      try simp only [Act.put, List.setIfInBounds_toArray, List.set_cons_zero, List.set_cons_succ]
      refine reg_take (i := 42) (oi := { dst := some 97, op := Op.pick (Operand.tmp 91) (Operand.const (Value.bool true)) (Operand.tmp 96), type := 4, pos := "law.go:20", after := #[{ on := 36, ground := Ground.data }, { on := 41, ground := Ground.data }], guard := none }) (v := ?qv42) rfl (by kernel_rfl) (by kernel_rfl) (by kernel_rfl) (by rfl) ?qy42 hS ?qr42
      case qy42 => (intro wx hx; go_simp; all_goals (with_reducible rfl))
      try simp only [Act.put, List.setIfInBounds_toArray, List.set_cons_zero, List.set_cons_succ]
      refine reg_take (i := 43) (oi := { dst := some 98, op := Op.move (Operand.tmp 97), type := 4, pos := "law.go:20", after := #[{ on := 42, ground := Ground.data }, { on := 36, ground := Ground.chain }], guard := none }) (v := ?qv43) rfl (by kernel_rfl) (by kernel_rfl) (by kernel_rfl) (by rfl) ?qy43 hS ?qr43
      case qy43 => (intro wx hx; go_simp; all_goals (with_reducible rfl))
      try simp only [Act.put, List.setIfInBounds_toArray, List.set_cons_zero, List.set_cons_succ]
      refine reg_take (i := 44) (oi := { dst := some 99, op := Op.move (Operand.tmp 16), type := 23, pos := "law.go:20", after := #[{ on := 43, ground := Ground.guard }], guard := some (43, false) }) (v := ?qv44) rfl (by kernel_rfl) (by kernel_rfl) (by kernel_rfl) (by rfl) ?qy44 hS ?qr44
      case qy44 => (intro wx hx; go_simp; all_goals (with_reducible rfl))
      try simp only [Act.put, List.setIfInBounds_toArray, List.set_cons_zero, List.set_cons_succ]
      refine reg_take (i := 45) (oi := { dst := some 100, op := Op.move (Operand.tmp 19), type := 3, pos := "law.go:20", after := #[{ on := 43, ground := Ground.guard }], guard := some (43, false) }) (v := ?qv45) rfl (by kernel_rfl) (by kernel_rfl) (by kernel_rfl) (by rfl) ?qy45 hS ?qr45
      case qy45 => (intro wx hx; go_simp; all_goals (with_reducible rfl))
      try simp only [Act.put, List.setIfInBounds_toArray, List.set_cons_zero, List.set_cons_succ]
      refine reg_take (i := 46) (oi := { dst := some 101, op := Op.binOp BinOp.neq 3 (Operand.tmp 99) (Operand.tmp 100) 3, type := 4, pos := "law.go:20", after := #[{ on := 44, ground := Ground.data }, { on := 45, ground := Ground.data }, { on := 43, ground := Ground.guard }], guard := some (43, false) }) (v := ?qv46) rfl (by kernel_rfl) (by kernel_rfl) (by kernel_rfl) (by rfl) ?qy46 hS ?qr46
      case qy46 => (intro wx hx; go_simp; all_goals (with_reducible rfl))
      try simp only [Act.put, List.setIfInBounds_toArray, List.set_cons_zero, List.set_cons_succ]
      refine reg_take (i := 47) (oi := { dst := some 102, op := Op.pick (Operand.tmp 98) (Operand.const (Value.bool true)) (Operand.tmp 101), type := 4, pos := "law.go:20", after := #[{ on := 43, ground := Ground.data }, { on := 46, ground := Ground.data }], guard := none }) (v := ?qv47) rfl (by kernel_rfl) (by kernel_rfl) (by kernel_rfl) (by rfl) ?qy47 hS ?qr47
      case qy47 => (intro wx hx; go_simp; all_goals (with_reducible rfl))
      try simp only [Act.put, List.setIfInBounds_toArray, List.set_cons_zero, List.set_cons_succ]
      refine wpAnyH_done (by kernel_rfl) ?_ _
      refine NoPanic.normal ?_
      have hbelr : Below w4.heap.size w4 w67 := hS.1.1.1.1.2
      have hy67 := own_carry (own_carry hy hbel4) hbelr
      have hbel67 : Below w2.heap.size w2 w67 := keeps_below w2 _ _ (keeps_below w2 _ _ hbel3 hbel4) hbelr
      have hrl := cutR_le l
      clear hK hS hy hy' hbel3 hbel4 hbelr hRn
      obtain ⟨r, hr⟩ : ∃ r, r = cutR l := ⟨_, rfl⟩
      rw [← hr] at hy67 hrl
      clear hr
      have hconv1 : ∀ wx, Below w2.heap.size w2 wx → (convert 26 9 vin).run Try.prog wx = .ok (.string (bs l)) wx := fun wx h => conv_rd _ _ _ Try.underlying26 Try.underlying5 Try.underlying9 (hin.carry h)
      have hconv2 : ∀ wx, Below w2.heap.size w2 wx → (convert 26 9 (.slice a2 l.length c2)).run Try.prog wx = .ok (.string (bs l)) wx := fun wx h => conv_rd _ _ _ Try.underlying26 Try.underlying5 Try.underlying9 (hbr.carry h)
      have hbw : Below w.heap.size w w2 := hbel1
      clear hin hbr hown1
      rcases hy67.2 with ⟨rfl, hn0⟩ | ⟨g, cap, cur, rfl, hg1, hg2, hg3⟩
      · go_wp2
        go_loop [20] (fun i => i = .int .i64 0) (fun _ => 0)
        case atStart => rfl
        case round =>
          obtain rfl := hrel
          go_wp2
          go_ret
          exact ⟨rfl, keeps_below w _ _ hbw hbel67⟩
      · go_wp2
        go_loopw [20] (fun i wr => ∃ (k : Nat) (xs : List UInt8), k ≤ r.length ∧ xs.length = r.length ∧ i = .int .i64 k ∧ wr.ownsRow w2.heap.size 5 1 (.slice (some ⟨g, 0, none⟩) r.length cap) r.length (u8v xs) ∧ Below w2.heap.size w2 wr) (fun i _ => r.length - (intOf i).toNat)
        case atStart => exact ⟨0, r, Nat.zero_le _, rfl, rfl, hy67, hbel67⟩
        case round =>
          obtain ⟨k, xs, hk, hxl, rfl, hown, hbel⟩ := hrel
          by_cases hlt : k < r.length
          · have hcell : wr.cell? ⟨g, k, none⟩ = some (.int .u8 (xs[k]'(by omega)).toNat) := by
              rw [hown.cellAt k (by omega)]
              simp [u8v, List.getElem?_eq_getElem (show k < xs.length by omega)]
            have hfz := hown.frozenAt k
            obtain ⟨x, hx⟩ : ∃ x, x = xs[k]'(by omega) := ⟨_, rfl⟩
            rw [← hx] at hcell
            have hxb := x.toNat_lt
            clear hx hy67 hbel67 hg2 hg3
            go_wp2
            go_roundw
            case rel =>
              refine ⟨k + 1, xs.set k (UInt8.ofNat (x.toNat + 1)), by omega, by simp [hxl], by go_num, ?_, hbel.setCell hg1 _⟩
              have h := (hown.stored k (.int .u8 (UInt8.ofNat (x.toNat + 1)).toNat)).1
              rw [show u8v (xs.set k (UInt8.ofNat (x.toNat + 1))) = (u8v xs).set k (.int .u8 (UInt8.ofNat (x.toNat + 1)).toNat) from by simp [u8v, List.map_set]]
              rw [UInt8.toNat_ofNat'] at h ⊢
              exact h
            case measure => simp [intOf] <;> omega
          · go_wp2
            go_ret
            exact ⟨rfl, keeps_below w _ _ hbw hbel⟩
    · have hl0' : (100000 : Int) < l.length := by omega
      go_enter Try.func4, Try.ntmps4
      go_wp2
      go_ret
      exact ⟨rfl, Below.refl _ _⟩
  · have hl0' : (100000 : Int) < s.size := by omega
    go_enter Try.func4, Try.ntmps4
    go_wp2
    go_ret
    exact ⟨rfl, Below.refl _ _⟩
end Go.Proofs.Ytpammicadnfheaa

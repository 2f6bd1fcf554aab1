/-
  What sieve.May and sieve.Make do.
-/
import Derived.Test.YtmeaiocohalphaaGreatDoorVn1
import Derived.Test.YtmeaiocohalphaaGreatDoorMathMf
import Derived.Shelf.Bytes.WriteAny
import Derived.Shelf.Bytes.Bytes
import Derived.Lib.BufferOld
import Derived.WalkKit
import Derived.Laws.BitsAllLaws
import Derived.BigQuiet
set_option maxHeartbeats 4000000
set_option maxRecDepth 100000
namespace Go.Proofs.YtmeaiocohalphaaGreatDoor
open Go.RowKit Go.Shelf
set_option linter.unusedVariables false
set_option linter.unusedSimpArgs false
def Tryz.laysM180_ren : Go.Shelf.Ren := ⟨fun | 180 => 85 | 251 => 162 | 252 => 163 | 181 => 224 | 184 => 225 | 290 => 226 | 324 => 263 | n => n, fun | 130 => 228 | 37 => 23 | 3 => 3 | 75 => 144 | 0 => 0 | 93 => 142 | 91 => 140 | 131 => 229 | 4 => 4 | 20 => 20 | 5 => 5 | 80 => 168 | 9 => 9 | n => n, fun | 14 => 0 | n => n⟩
theorem Tryz.laysM180 : Go.Proofs.LaysM.n180 Tryz.prog Tryz.laysM180_ren := {
 mixed := by kernel_rfl
 f180 := Tryz.func85.trans (congrArg some (by kernel_rfl))
 f181 := Tryz.func224.trans (congrArg some (by kernel_rfl))
 f184 := Tryz.func225.trans (congrArg some (by kernel_rfl))
 f251 := Tryz.func162.trans (congrArg some (by kernel_rfl))
 f252 := Tryz.func163.trans (congrArg some (by kernel_rfl))
 f290 := Tryz.func226.trans (congrArg some (by kernel_rfl))
 f324 := Tryz.func263.trans (congrArg some (by kernel_rfl))
 t0 := Tryz.underlying0
 a0 := Tryz.isAgg0
 z0 := Tryz.sizeOf0
 v0 := Tryz.zeroValue0
 t3 := Tryz.underlying3
 a3 := Tryz.isAgg3
 z3 := Tryz.sizeOf3
 v3 := Tryz.zeroValue3
 t4 := Tryz.underlying4
 a4 := Tryz.isAgg4
 z4 := Tryz.sizeOf4
 v4 := Tryz.zeroValue4
 t20 := Tryz.underlying20
 a20 := Tryz.isAgg20
 z20 := Tryz.sizeOf20
 v20 := Tryz.zeroValue20
 t37 := Tryz.underlying23
 a37 := Tryz.isAgg23
 z37 := Tryz.sizeOf23
 v37 := Tryz.zeroValue23
 t75 := Tryz.underlying144
 a75 := Tryz.isAgg144
 z75 := Tryz.sizeOf144
 v75 := Tryz.zeroValue144
 t91 := Tryz.underlying140
 a91 := Tryz.isAgg140
 z91 := Tryz.sizeOf140
 v91 := Tryz.zeroValue140
 t93 := Tryz.underlying142
 a93 := Tryz.isAgg142
 z93 := Tryz.sizeOf142
 v93 := Tryz.zeroValue142
 t130 := Tryz.underlying228
 a130 := Tryz.isAgg228
 z130 := Tryz.sizeOf228
 v130 := Tryz.zeroValue228
 t131 := Tryz.underlying229
 a131 := Tryz.isAgg229
 z131 := Tryz.sizeOf229
 v131 := Tryz.zeroValue229
 g14 := by kernel_rfl
 t5 := Tryz.underlying5
 a5 := Tryz.isAgg5
 z5 := Tryz.sizeOf5
 v5 := Tryz.zeroValue5
 t9 := Tryz.underlying9
 a9 := Tryz.isAgg9
 z9 := Tryz.sizeOf9
 v9 := Tryz.zeroValue9
 t80 := Tryz.underlying168
 a80 := Tryz.isAgg168
 z80 := Tryz.sizeOf168
 v80 := Tryz.zeroValue168
 i0 := by kernel_rfl
 i3 := by kernel_rfl
 i4 := by kernel_rfl
 i5 := by kernel_rfl
 i9 := by kernel_rfl
 i20 := by kernel_rfl
 i37 := by kernel_rfl
 i75 := by kernel_rfl
 i80 := by kernel_rfl
 i91 := by kernel_rfl
 i93 := by kernel_rfl
 i130 := by kernel_rfl
 i131 := by kernel_rfl
 m14 := by kernel_rfl }
def Tryz.laysM183_ren : Go.Shelf.Ren := ⟨fun | 183 => 88 | n => n, fun | 130 => 228 | 37 => 23 | 0 => 0 | 93 => 142 | 3 => 3 | 5 => 5 | 91 => 140 | n => n, fun | n => n⟩
theorem Tryz.laysM183 : Go.Proofs.LaysM.n183 Tryz.prog Tryz.laysM183_ren := {
 mixed := by kernel_rfl
 f183 := Tryz.func88.trans (congrArg some (by kernel_rfl))
 t0 := Tryz.underlying0
 a0 := Tryz.isAgg0
 z0 := Tryz.sizeOf0
 v0 := Tryz.zeroValue0
 t3 := Tryz.underlying3
 a3 := Tryz.isAgg3
 z3 := Tryz.sizeOf3
 v3 := Tryz.zeroValue3
 t37 := Tryz.underlying23
 a37 := Tryz.isAgg23
 z37 := Tryz.sizeOf23
 v37 := Tryz.zeroValue23
 t93 := Tryz.underlying142
 a93 := Tryz.isAgg142
 z93 := Tryz.sizeOf142
 v93 := Tryz.zeroValue142
 t130 := Tryz.underlying228
 a130 := Tryz.isAgg228
 z130 := Tryz.sizeOf228
 v130 := Tryz.zeroValue228
 t5 := Tryz.underlying5
 a5 := Tryz.isAgg5
 z5 := Tryz.sizeOf5
 v5 := Tryz.zeroValue5
 t91 := Tryz.underlying140
 a91 := Tryz.isAgg140
 z91 := Tryz.sizeOf140
 v91 := Tryz.zeroValue140
 i0 := by kernel_rfl
 i3 := by kernel_rfl
 i5 := by kernel_rfl
 i37 := by kernel_rfl
 i91 := by kernel_rfl
 i93 := by kernel_rfl
 i130 := by kernel_rfl }
def IsBf (w : World) (B b : Nat) (l : List UInt8) : Prop := Go.Lib.IsBuffer 142 5 B b (u8v l) w
theorem IsBf.lt {w : World} {B b : Nat} {l : List UInt8} (h : IsBf w B b l) : b < w.heap.size := Go.Lib.IsBuffer.lt h
theorem IsBf.old {w w' : World} {B b : Nat} {l : List UInt8} (h : IsBf w B b l) (hb : Below w.heap.size w w') : IsBf w' B b l := Go.Lib.IsBuffer.old h hb
theorem IsBf.new (w : World) : IsBf (w.alloc (.cells #[.slice none 0 0, .int .i64 0, .int .i8 0] 142)) w.heap.size w.heap.size [] := Go.Lib.fresh_isBuffer 142 5 w
theorem qadk (l : List UInt8) : ∀ v ∈ u8v l, v.oneCell' = true := by
 intro v hv
 unfold u8v at hv
 obtain ⟨x, _, rfl⟩ := List.mem_map.1 hv
 rfl
theorem qum (l : List UInt8) : (u8v l).length = l.length := by simp [u8v]
theorem qx6 (B b : Nat) (l s : List UInt8) (v : Value) (base : Nat) (w : World) (h : IsBf w B b l) (hB : B ≤ w.heap.size) (hs : OwY w base v s) (hb : b < base) (h0 : 0 < s.length) (hl : l.length + s.length ≤ 10000000) :
  Calls Tryz.prog 85 #[.pointer (some ⟨b, 0, none⟩), v] w fun e w' => e = .returned (.tuple #[.int .i64 s.length, .nilIface]) ∧ IsBf w' B b (l ++ s) ∧ Below B w w' ∧ Go.Lib.OthersKept 5 (some b) w w' := by
 have hc := fun g (hg : v.ownBlock = some g) => World.ownsRow.cells hs (g := g) hg
 rcases hs.2 with ⟨_, hn⟩ | ⟨g, cap, cur, rfl, hbg, _⟩
 ·omega
 have := Go.Proofs.Any.Buffer_Write_any Tryz.laysM180 B b (u8v l) (u8v s) ⟨g, 0, none⟩ s.length cap w h hB (qadk l) (qum s) (by show g ≠ b; omega) (hc g rfl) (qadk s) (by rw [qum]; omega)
 refine Calls.mono this ?_
 rintro e w' ⟨rfl, h1, h2, h3⟩
 exact ⟨rfl, by unfold IsBf; rw [qf7]; exact h1, h2, h3⟩
theorem qahj (B b : Nat) (l : List UInt8) (w : World) (h : IsBf w B b l) :
  Calls Tryz.prog 88 #[.pointer (some ⟨b, 0, none⟩)] w fun e w' => ∃ v, e = .returned v ∧ OwY w' B v l ∧ Below w.heap.size w w' := by
 refine Calls.mono (Go.Proofs.Any.Buffer_Bytes Tryz.laysM183 B b (u8v l) w h) ?_
 rintro e w' ⟨v, rfl, h1, n, rfl⟩
 rw [qum] at h1
 exact ⟨v, rfl, h1, qfx (Below.refl _ _) n⟩
theorem qjr {t : TypeId} {b : Option Nat} {w w' : World} (h : Below w.heap.size w w') : Go.Lib.OthersKept t b w w' := fun k o hk _ _ => (h.block k (Array.getElem?_eq_some_iff.1 hk).1).trans hk
theorem qfz (B b : Nat) (l : List UInt8) (n : Nat) (w : World) (h : IsBf w B b l) (hB : B ≤ w.heap.size) (hn : n < 9223372036854775808) (hl : l.length ≤ 1000000) :
  Calls Tryz.prog 84 #[.int .i64 n, .pointer (some ⟨b, 0, none⟩)] w fun e w' => e = .returned (.tuple #[]) ∧ IsBf w' B b (l ++ sm n) ∧ Below B w w' ∧ Go.Lib.OthersKept 5 (some b) w w' := by
 have g0 : (n : Int) % 18446744073709551616 = n := by omega
 have HI := hide h
 have HN := hide hn
 have HL := hide hl
 clear h hn hl
 go_enter Tryz.func84, Tryz.ntmps84
 go_wp2_with fail
 refine (qak7 n w (by have := HN.out; omega)).mono ?_
 rintro e w1 ⟨v, rfl, hv, b1⟩
 have hw := qx6 B b l (sm n) v w.heap.size w1 (HI.out.old b1) (Nat.le_trans hB b1.size) hv HI.out.lt (by have := qwb n; omega) (by have := HL.out; have := qaf (n := n) (by have := HN.out; omega); omega)
 have hk1 : Go.Lib.OthersKept 5 (some b) w w1 := qjr b1
 have hb1 : Below B w w1 := b1.mono hB
 clear hv b1 g0
 go_wp2_with fail
 refine hw.mono ?_
 rintro e w2 ⟨rfl, h2, b2, k2⟩
 have HA := hide (show IsBf w2 B b (l ++ sm n) ∧ Below B w w2 ∧ Go.Lib.OthersKept 5 (some b) w w2 from ⟨h2, hb1.trans b2, hk1.trans k2⟩)
 clear hw h2 b2 k2 hk1 hb1
 go_wp2
 refine bodyPost_end (v := .tuple #[]) ?_ rfl ⟨rfl, HA.out⟩
 simp [results, Tryz.results84, go_sem]
theorem qqo (B b : Nat) (l s : List UInt8) (w : World) (h : IsBf w B b l) (hB : B ≤ w.heap.size) (hs : s.length ≤ 1000000) (hl : l.length ≤ 1000000) :
  Calls Tryz.prog 87 #[.string (bs s), .pointer (some ⟨b, 0, none⟩)] w fun e w' => e = .returned (.tuple #[]) ∧ IsBf w' B b (l ++ tx s) ∧ Below B w w' ∧ Go.Lib.OthersKept 5 (some b) w w' := by
 have HI := hide h
 have HN := hide hs
 have HL := hide hl
 clear h hs hl
 go_enter Tryz.func87, Tryz.ntmps87
 go_wp2_with fail
 refine (qadf s w HN.out).mono ?_
 rintro e w1 ⟨v, rfl, hv, b1⟩
 have hw := qx6 B b l (tx s) v w.heap.size w1 (HI.out.old b1) (Nat.le_trans hB b1.size) hv HI.out.lt (by unfold tx; rw [List.length_append]; have := qwb s.length; omega) (by have := HL.out; have := HN.out; have := qda s (by omega); omega)
 have hk1 : Go.Lib.OthersKept 5 (some b) w w1 := qjr b1
 have hb1 : Below B w w1 := b1.mono hB
 clear hv b1
 go_wp2_with fail
 refine hw.mono ?_
 rintro e w2 ⟨rfl, h2, b2, k2⟩
 have HA := hide (show IsBf w2 B b (l ++ tx s) ∧ Below B w w2 ∧ Go.Lib.OthersKept 5 (some b) w w2 from ⟨h2, hb1.trans b2, hk1.trans k2⟩)
 clear hw h2 b2 k2 hk1 hb1
 go_wp2
 refine bodyPost_end (v := .tuple #[]) ?_ rfl ⟨rfl, HA.out⟩
 simp [results, Tryz.results87, go_sem]
end Go.Proofs.YtmeaiocohalphaaGreatDoor
namespace Go.Proofs.YtmeaiocohalphaaGreatDoor
open Go.RowKit
set_option linter.unusedVariables false
set_option linter.unusedSimpArgs false
theorem qadl (s : List UInt8) (n : Nat) : txO s n = true ↔ 1 ≤ s.length ∧ s.length ≤ n := by unfold txO; simp
theorem qale (m : Mta) : mtO m = true ↔ txO m.1 16 = true ∧ 1 ≤ m.2.1 ∧ m.2.1 ≤ 16384 ∧ 1 ≤ m.2.2.1 ∧ m.2.2.1 ≤ 65536 ∧ txO (Mlo m) 64 = true ∧ txO (Mhi m) 64 = true ∧ ltS (Mhi m) (Mlo m) = false := by
 unfold mtO
 simp [and_assoc]
theorem qais (a b : List UInt8) : (!Op.bytesLess (bs a).toList (bs b).toList && !((bs a).toList == (bs b).toList)) = ltS b a := by
 rw [lt_bs, ByteArray.toList_eq, ByteArray.toList_eq, qbw, qbw]
 rcases qkz a b with h | h | h
 ·rw [h, qre h]; rfl
 ·subst h; rw [qen]; simp
 ·rw [h, qre h]
  have : ¬ a = b := fun e => by rw [e, qen] at h; cases h
  simp [this]
theorem leS_bs (a b : List UInt8) : (Op.bytesLess (bs a).toList (bs b).toList || ((bs a).toList == (bs b).toList)) = !ltS b a := by
 rw [← qais]; cases Op.bytesLess (bs a).toList (bs b).toList <;> cases ((bs a).toList == (bs b).toList) <;> rfl
theorem eq_bs (s t : List UInt8) : ((bs s).toList == (bs t).toList) = decide (s = t) := by
 rw [ByteArray.toList_eq, ByteArray.toList_eq, qbw, qbw, Bool.eq_iff_iff]; simp
theorem qbz (s : List UInt8) (w : World) :
  Calls Tryz.prog 81 #[.string (bs s)] w fun e w' => e = .returned (.bool (txO s 16)) ∧ w' = w := by
 have hs := qcl s
 have HI := hide (qadl s 16)
 by_cases h1 : 1 ≤ s.length
 ·have h1' : (1 : Int) ≤ s.length := by omega
  have h3' : (0 : Int) < s.length := by omega
  have h3'' : 0 < s.length := by omega
  by_cases h2 : s.length ≤ 16
  ·have h2' : (s.length : Int) ≤ 16 := by omega
   have HE := hide (show txO s 16 = true by rw [HI.out]; exact ⟨h1, h2⟩)
   go_enter Tryz.func81, Tryz.ntmps81
   go_wp2
   go_ret
   exact ⟨qac (by rw [HE.out]; try simp), rfl⟩
  ·have h2' : decide ((s.length : Int) ≤ 16) = false := by simpa using (by omega : ¬ (s.length : Int) ≤ 16)
   have HE := hide (show txO s 16 = false by rw [← Bool.not_eq_true, HI.out]; omega)
   clear h2
   go_enter Tryz.func81, Tryz.ntmps81
   go_wp2
   go_ret
   exact ⟨qac (by rw [HE.out]; try simp), rfl⟩
 ·have h0 : s.length = 0 := by omega
  have h1' : decide ((1 : Int) ≤ s.length) = false := by simpa using (by omega : ¬ (1 : Int) ≤ s.length)
  have h3' : decide ((0 : Int) < s.length) = false := by simpa using (by omega : ¬ (0 : Int) < s.length)
  have HE := hide (show txO s 16 = false by rw [← Bool.not_eq_true, HI.out]; omega)
  go_enter Tryz.func81, Tryz.ntmps81
  go_wp2
  go_ret
  exact ⟨qac (by rw [HE.out]; try simp), rfl⟩
theorem qim (s : List UInt8) (w : World) :
  Calls Tryz.prog 260 #[.string (bs s)] w fun e w' => e = .returned (.bool (txO s 64)) ∧ w' = w := by
 have hs := qcl s
 have HI := hide (qadl s 64)
 by_cases h1 : 1 ≤ s.length
 ·have h1' : (1 : Int) ≤ s.length := by omega
  have h3' : (0 : Int) < s.length := by omega
  have h3'' : 0 < s.length := by omega
  by_cases h2 : s.length ≤ 64
  ·have h2' : (s.length : Int) ≤ 64 := by omega
   have HE := hide (show txO s 64 = true by rw [HI.out]; exact ⟨h1, h2⟩)
   go_enter Tryz.func260, Tryz.ntmps260
   go_wp2
   go_ret
   exact ⟨qac (by rw [HE.out]; try simp), rfl⟩
  ·have h2' : decide ((s.length : Int) ≤ 64) = false := by simpa using (by omega : ¬ (s.length : Int) ≤ 64)
   have HE := hide (show txO s 64 = false by rw [← Bool.not_eq_true, HI.out]; omega)
   clear h2
   go_enter Tryz.func260, Tryz.ntmps260
   go_wp2
   go_ret
   exact ⟨qac (by rw [HE.out]; try simp), rfl⟩
 ·have h0 : s.length = 0 := by omega
  have h1' : decide ((1 : Int) ≤ s.length) = false := by simpa using (by omega : ¬ (1 : Int) ≤ s.length)
  have h3' : decide ((0 : Int) < s.length) = false := by simpa using (by omega : ¬ (0 : Int) < s.length)
  have HE := hide (show txO s 64 = false by rw [← Bool.not_eq_true, HI.out]; omega)
  go_enter Tryz.func260, Tryz.ntmps260
  go_wp2
  go_ret
  exact ⟨qac (by rw [HE.out]; try simp), rfl⟩
theorem qadm (x y : Mta) (w : World) :
  Calls Tryz.prog 158 #[.agg #[.string (bs x.1), .int .i64 x.2.1, .int .i64 x.2.2.1, .string (bs (Mlo x)), .string (bs (Mhi x))], .agg #[.string (bs y.1), .int .i64 y.2.1, .int .i64 y.2.2.1, .string (bs (Mlo y)), .string (bs (Mhi y))]] w fun e w' => e = .returned (.bool (abvM x y)) ∧ Below w.heap.size w w' := by
 obtain ⟨w1, hw1⟩ : ∃ w1, w1 = w.alloc (.cells #[.string (bs x.1), .int .i64 x.2.1, .int .i64 x.2.2.1, .string (bs (Mlo x)), .string (bs (Mhi x))] 124) := ⟨_, rfl⟩
 obtain ⟨w2, hw2⟩ : ∃ w2, w2 = w1.alloc (.cells #[.string (bs y.1), .int .i64 y.2.1, .int .i64 y.2.2.1, .string (bs (Mlo y)), .string (bs (Mhi y))] 124) := ⟨_, rfl⟩
 have hb1 : Below w.heap.size w w1 := by rw [hw1]; exact (Below.refl _ _).alloc (Nat.le_refl _) _
 have hb2 : Below w1.heap.size w1 w2 := by rw [hw2]; exact (Below.refl _ _).alloc (Nat.le_refl _) _
 have HX := hide (show MvAt w2 w.heap.size x from (show MvAt w1 w.heap.size x by rw [hw1]; exact MvAt.new w x).carry hb2)
 have HY := hide (show MvAt w2 (w.heap.size + 1) y by rw [hw2, show w.heap.size + 1 = w1.heap.size by rw [hw1]; simp]; exact MvAt.new w1 y)
 have HB := hide (show Below w.heap.size w w2 from hb1.trans (hb2.mono hb1.size))
 clear hb1 hb2
 have HL := hide (qais (Mlo x) (Mhi y))
 obtain ⟨x0, x1, x2, x3, x4⟩ := HX.out.cells
 obtain ⟨y0, y1, y2, y3, y4⟩ := HY.out.cells
 go_enter Tryz.func158, Tryz.ntmps158
 go_wp2
 rw [← hw1, ← hw2]
 clear hw1 hw2
 go_wp2
 go_ret
 exact ⟨qac HL.out, HB.out⟩
theorem qahk (x : Mta) (w : World) :
  Calls Tryz.prog 222 #[.agg #[.string (bs x.1), .int .i64 x.2.1, .int .i64 x.2.2.1, .string (bs (Mlo x)), .string (bs (Mhi x))]] w fun e w' => e = .returned (.bool (mtO x)) ∧ Below w.heap.size w w' := by
 have HI := hide (qale x)
 obtain ⟨w1, hw1⟩ : ∃ w1, w1 = w.alloc (.cells #[.string (bs x.1), .int .i64 x.2.1, .int .i64 x.2.2.1, .string (bs (Mlo x)), .string (bs (Mhi x))] 124) := ⟨_, rfl⟩
 have HB := hide (show Below w.heap.size w w1 by rw [hw1]; exact (Below.refl _ _).alloc (Nat.le_refl _) _)
 have HX := hide (show MvAt w1 w.heap.size x by rw [hw1]; exact MvAt.new w x)
 obtain ⟨x0, x1, x2, x3, x4⟩ := HX.out.cells
 have HL := hide (leS_bs (Mlo x) (Mhi x))
 generalize ltS (Mhi x) (Mlo x) = b7 at HI HL
 generalize mtO x = r at *
 obtain ⟨xn, xs, xm, xl, xh⟩ := x
 simp only [Mlo, Mhi] at *
 cases hb0 : txO xn 16 with
 | false =>
  have HE := hide (show r = false by rw [← Bool.not_eq_true, HI.out]; rintro ⟨q0, q1, q2, q3, q4, q5, q6, q7⟩; rw [hb0] at q0; cases q0)
  go_enter Tryz.func222, Tryz.ntmps222
  go_wp2_with fail
  rw [← hw1]
  clear hw1
  go_wp2_with (first | (go_at_call 81; refine (qbz _ _).mono ?_; rintro e wc ⟨rfl, rfl⟩) | (go_at_call 260; refine (qim _ _).mono ?_; rintro e wc ⟨rfl, rfl⟩))
  go_ret
  exact ⟨qac (by first | (rw [HE.out]; done) | (rw [HE.out]; exact HL.out) | (rw [HE.out]; simp; done)), HB.out⟩
 | true =>
 by_cases c1 : 1 ≤ xs
 ·have d1 : decide (xs < 1) = false := by simpa using c1
  by_cases c2 : xs ≤ 16384
  ·have d2 : decide (16384 < xs) = false := by simpa using c2
   by_cases c3 : 1 ≤ xm
   ·have d3 : decide (xm < 1) = false := by simpa using c3
    by_cases c4 : xm ≤ 65536
    ·have d4 : decide (65536 < xm) = false := by simpa using c4
     cases hb5 : txO xl 64 with
     | false =>
      have HE := hide (show r = false by rw [← Bool.not_eq_true, HI.out]; rintro ⟨q0, q1, q2, q3, q4, q5, q6, q7⟩; rw [hb5] at q5; cases q5)
      go_enter Tryz.func222, Tryz.ntmps222
      go_wp2_with fail
      rw [← hw1]
      clear hw1
      go_wp2_with (first | (go_at_call 81; refine (qbz _ _).mono ?_; rintro e wc ⟨rfl, rfl⟩) | (go_at_call 260; refine (qim _ _).mono ?_; rintro e wc ⟨rfl, rfl⟩))
      go_ret
      exact ⟨qac (by first | (rw [HE.out]; done) | (rw [HE.out]; exact HL.out) | (rw [HE.out]; simp; done)), HB.out⟩
     | true =>
     cases hb6 : txO xh 64 with
     | false =>
      have HE := hide (show r = false by rw [← Bool.not_eq_true, HI.out]; rintro ⟨q0, q1, q2, q3, q4, q5, q6, q7⟩; rw [hb6] at q6; cases q6)
      go_enter Tryz.func222, Tryz.ntmps222
      go_wp2_with fail
      rw [← hw1]
      clear hw1
      go_wp2_with (first | (go_at_call 81; refine (qbz _ _).mono ?_; rintro e wc ⟨rfl, rfl⟩) | (go_at_call 260; refine (qim _ _).mono ?_; rintro e wc ⟨rfl, rfl⟩))
      go_ret
      exact ⟨qac (by first | (rw [HE.out]; done) | (rw [HE.out]; exact HL.out) | (rw [HE.out]; simp; done)), HB.out⟩
     | true =>
     cases b7 with
     | true =>
      have HE := hide (show r = false by rw [← Bool.not_eq_true, HI.out]; rintro ⟨q0, q1, q2, q3, q4, q5, q6, q7⟩; cases q7)
      go_enter Tryz.func222, Tryz.ntmps222
      go_wp2_with fail
      rw [← hw1]
      clear hw1
      go_wp2_with (first | (go_at_call 81; refine (qbz _ _).mono ?_; rintro e wc ⟨rfl, rfl⟩) | (go_at_call 260; refine (qim _ _).mono ?_; rintro e wc ⟨rfl, rfl⟩))
      go_ret
      exact ⟨qac (by first | (rw [HE.out]; done) | (rw [HE.out]; exact HL.out) | (rw [HE.out]; simp; done)), HB.out⟩
     | false =>
     have HE := hide (show r = true by rw [HI.out]; exact ⟨hb0, by omega, by omega, by omega, by omega, hb5, hb6, rfl⟩)
     go_enter Tryz.func222, Tryz.ntmps222
     go_wp2_with fail
     rw [← hw1]
     clear hw1
     go_wp2_with (first | (go_at_call 81; refine (qbz _ _).mono ?_; rintro e wc ⟨rfl, rfl⟩) | (go_at_call 260; refine (qim _ _).mono ?_; rintro e wc ⟨rfl, rfl⟩))
     go_ret
     exact ⟨qac (by first | (rw [HE.out]; done) | (rw [HE.out]; exact HL.out) | (rw [HE.out]; simp; done)), HB.out⟩
    ·have d4 : 65536 < xm := by omega
     have HE := hide (show r = false by rw [← Bool.not_eq_true, HI.out]; omega)
     go_enter Tryz.func222, Tryz.ntmps222
     go_wp2_with fail
     rw [← hw1]
     clear hw1
     go_wp2_with (first | (go_at_call 81; refine (qbz _ _).mono ?_; rintro e wc ⟨rfl, rfl⟩) | (go_at_call 260; refine (qim _ _).mono ?_; rintro e wc ⟨rfl, rfl⟩))
     go_ret
     exact ⟨qac (by first | (rw [HE.out]; done) | (rw [HE.out]; exact HL.out) | (rw [HE.out]; simp; done)), HB.out⟩
   ·have d3 : xm < 1 := by omega
    have HE := hide (show r = false by rw [← Bool.not_eq_true, HI.out]; omega)
    go_enter Tryz.func222, Tryz.ntmps222
    go_wp2_with fail
    rw [← hw1]
    clear hw1
    go_wp2_with (first | (go_at_call 81; refine (qbz _ _).mono ?_; rintro e wc ⟨rfl, rfl⟩) | (go_at_call 260; refine (qim _ _).mono ?_; rintro e wc ⟨rfl, rfl⟩))
    go_ret
    exact ⟨qac (by first | (rw [HE.out]; done) | (rw [HE.out]; exact HL.out) | (rw [HE.out]; simp; done)), HB.out⟩
  ·have d2 : 16384 < xs := by omega
   have HE := hide (show r = false by rw [← Bool.not_eq_true, HI.out]; omega)
   go_enter Tryz.func222, Tryz.ntmps222
   go_wp2_with fail
   rw [← hw1]
   clear hw1
   go_wp2_with (first | (go_at_call 81; refine (qbz _ _).mono ?_; rintro e wc ⟨rfl, rfl⟩) | (go_at_call 260; refine (qim _ _).mono ?_; rintro e wc ⟨rfl, rfl⟩))
   go_ret
   exact ⟨qac (by first | (rw [HE.out]; done) | (rw [HE.out]; exact HL.out) | (rw [HE.out]; simp; done)), HB.out⟩
 ·have d1 : xs < 1 := by omega
  have HE := hide (show r = false by rw [← Bool.not_eq_true, HI.out]; omega)
  go_enter Tryz.func222, Tryz.ntmps222
  go_wp2_with fail
  rw [← hw1]
  clear hw1
  go_wp2_with (first | (go_at_call 81; refine (qbz _ _).mono ?_; rintro e wc ⟨rfl, rfl⟩) | (go_at_call 260; refine (qim _ _).mono ?_; rintro e wc ⟨rfl, rfl⟩))
  go_ret
  exact ⟨qac (by first | (rw [HE.out]; done) | (rw [HE.out]; exact HL.out) | (rw [HE.out]; simp; done)), HB.out⟩
end Go.Proofs.YtmeaiocohalphaaGreatDoor
namespace Go.Proofs.YtmeaiocohalphaaGreatDoor
open Go.RowKit
set_option linter.unusedVariables false
def hs1 (h : Nat) (c : UInt8) : Nat := (h ^^^ c.toNat) * 1099511628211 % 18446744073709551616
def hsh (s : List UInt8) : Nat := s.foldl hs1 14695981039346656037
def odN (n : Nat) : Nat := if n % 2 = 0 then n + 1 else n
def btN (s : List UInt8) (N i : Nat) : Nat := (hsh s % 4294967296 + i * odN (hsh s / 4294967296)) % N
def stB (b : List UInt8) (n : Nat) : List UInt8 := b.set (n / 8) (UInt8.ofNat ((b.getD (n / 8) 0).toNat ||| 2 ^ (n % 8)))
@[simp] theorem qalf (b : List UInt8) (n : Nat) : (stB b n).length = b.length := by simp [stB]
def ptK (s : List UInt8) (N : Nat) : Nat → List UInt8 → List UInt8
 | 0, b => b
 | k + 1, b => stB (ptK s N k b) (btN s N k)
@[simp] theorem qadn (s : List UInt8) (N : Nat) : ∀ (k : Nat) (b : List UInt8), (ptK s N k b).length = b.length
 | 0, b => rfl
 | k + 1, b => by rw [ptK, qalf, qadn s N k b]
def ptL (N : Nat) (ks : List (List UInt8)) (b : List UInt8) : List UInt8 := ks.foldl (fun b s => ptK s N 4 b) b
theorem qado (N : Nat) : ∀ (ks : List (List UInt8)) (b : List UInt8), (ptL N ks b).length = b.length
 | [], b => rfl
 | s :: ks, b => by
  show (ptL N ks (ptK s N 4 b)).length = _
  rw [qado N ks, qadn]
def szV (ks : List (List UInt8)) : Nat := max 8 ks.length
def qait (ks : List (List UInt8)) : List UInt8 := ptL (szV ks * 8) ks (List.replicate (szV ks) 0)
@[simp] theorem sieveL_len (ks : List (List UInt8)) : (qait ks).length = szV ks := by unfold qait; rw [qado, List.length_replicate]
end Go.Proofs.YtmeaiocohalphaaGreatDoor
namespace Go.Proofs.YtmeaiocohalphaaGreatDoor
open Go.RowKit
set_option linter.unusedVariables false
set_option linter.unusedSimpArgs false
def ecT (s : List UInt8) : List Value := [.string (bs s)]
theorem qadp (s : List UInt8) : (ecT s).length = 1 := rfl
def RdTx (w : World) (v : Value) (l : List (List UInt8)) : Prop := RdG 1 ecT w v l
def OwTx (w : World) (base : Nat) (v : Value) (l : List (List UInt8)) : Prop := OwG 1 ecT 9 w base v l
theorem RdTx.len {w : World} {a : Option Addr} {n c : Nat} {l : List (List UInt8)} (h : RdTx w (.slice a n c) l) : n = l.length := RdG.len h
theorem OwTx.rd {w : World} {base : Nat} {v : Value} {l : List (List UInt8)} (h : OwTx w base v l) : RdTx w v l := OwG.rd qadp h
theorem OwTx.carry {w w' : World} {base : Nat} {v : Value} {l : List (List UInt8)} (h : OwTx w base v l) (hb : Below w.heap.size w w') : OwTx w' base v l := OwG.carry h hb
end Go.Proofs.YtmeaiocohalphaaGreatDoor

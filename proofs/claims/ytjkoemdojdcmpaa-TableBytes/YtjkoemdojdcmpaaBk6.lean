/-
  What block.cutKey, cutEnd and cutEntry do.
-/
import Derived.Test.YtjkoemdojdcmpaaBk5
namespace Go.Proofs.Ytjkoemdojdcmpaa
open Go.RowKit
set_option linter.unusedVariables false
set_option linter.unusedSimpArgs false

theorem bs_addK (a b : List UInt8) : bs a ++ bs b = bs (a ++ b) := by
  apply ByteArray.ext
  simp [bs]
def CkP (A : List UInt8) (a : Option Addr) (n c : Nat) (l : List UInt8) (e : Ending) : Prop :=
  (∃ k r a2 n2 c2, cutK A l = some (k, r) ∧ e = .returned (.tuple #[.string (bs k), .slice a2 n2 c2, .bool true]) ∧ n2 = r.length ∧ ∀ wx, Rd wx (.slice a n c) l → Rd wx (.slice a2 n2 c2) r) ∨
  (cutK A l = none ∧ ∃ (k : List UInt8) (a2 : Option Addr) (n2 c2 : Nat), e = .returned (.tuple #[.string (bs k), .slice a2 n2 c2, .bool false]))
theorem cutK_n1 {A l : List UInt8} (h : cutW A.length l = none) : cutK A l = none := by simp [cutK, h]
theorem cutK_n2 {A l q : List UInt8} {m : Nat} (h : cutW A.length l = some (m, q)) (h2 : ct q = none) : cutK A l = none := by simp [cutK, h, h2]
theorem cutK_s {A l q s z : List UInt8} {m : Nat} (h : cutW A.length l = some (m, q)) (h2 : ct q = some (s, z)) : cutK A l = if cmn A (A.take m ++ s) = m then some (A.take m ++ s, z) else none := by simp [cutK, h, h2]

set_option maxHeartbeats 1000000 in
set_option maxRecDepth 100000 in
theorem cutKey_bk (A : List UInt8) (a : Option Addr) (n c : Nat) (l : List UInt8) (w : World) (hA : A.length ≤ 1000) (hl : l.length ≤ 1000000) (hrd : Rd w (.slice a n c) l) :
    Calls Try.prog 88 #[.slice a n c, .string (bs A)] w fun e w' => CkP A a n c l e ∧ Below w.heap.size w w' := by
  have hsA := bs_size A
  obtain ⟨na, hna⟩ : ∃ na, na = A.length := ⟨_, rfl⟩
  rw [← hna] at hsA hA
  have g0 : (na : Int) % 18446744073709551616 = na := by omega
  have HR := hide hrd
  have HNA := hide hna
  cases h1 : cutW A.length l with
  | none =>
    have hc := cutNum_none A.length a n c l w hrd h1
    rw [← hna] at hc
    have HE := hide (cutK_n1 h1)
    clear hrd h1 hna hl
    go_enter Try.func88, Try.ntmps88
    go_wp2_with fail
    refine hc.mono ?_
    rintro e w1 ⟨rfl, b1⟩
    clear hc
    go_wp2
    go_ret3
    exact ⟨.inr ⟨HE.out, [], _, _, _, rfl⟩, b1⟩
  | some p =>
    obtain ⟨m, q⟩ := p
    have hc := cutNum_some A.length a n c l q m w (by omega) hrd h1
    rw [← hna] at hc
    have HQL := hide (Nat.le_trans (cutW_len h1) hl)
    have HMA := hide (show m ≤ na by rw [hna]; exact (cutW_can h1).2)
    have H1 := hide h1
    clear h1 hna hl hrd
    go_enter Try.func88, Try.ntmps88
    go_wp2_with fail
    refine hc.mono ?_
    rintro e w1 ⟨a2, c2, rfl, hs2, b1⟩
    clear hc
    have HR2 := hide (hs2 w1 (HR.out.carry b1))
    have HS2 := hide hs2
    have HB1 := hide b1
    obtain ⟨qn, hqn⟩ : ∃ qn, qn = q.length := ⟨_, rfl⟩
    rw [← hqn] at HR2 HS2 ⊢
    clear hs2 b1 g0 hqn
    go_wp2_with fail
    refine (cutText_bk a2 qn c2 q w1 HQL.out HR2.out).mono ?_
    rintro e w2 ⟨hP, b2⟩
    have HB2 := hide (show Below w.heap.size w w2 from HB1.out.trans (b2.mono HB1.out.size))
    clear b2 HB1 HR2
    rcases hP with ⟨s, z, a3, n3, c3, h2, rfl, hn3, hs3⟩ | ⟨h2, rfl⟩
    · have HE := hide (cutK_s H1.out h2)
      have HN3 := hide hn3
      have HS3 := hide hs3
      have HSL := hide (Nat.le_trans (ct_len h2).2 HQL.out)
      clear h2 hn3 hs3
      have hx1 := bs_take A m (by rw [← HNA.out]; exact HMA.out)
      have hsz : ¬ 9223372036854775807 < (bs (A.take m)).size + (bs s).size := by
        have := HSL.out
        have := HMA.out
        rw [bs_size, bs_size, List.length_take]
        omega
      have hadd := bs_addK (A.take m) s
      obtain ⟨K, hK⟩ : ∃ K, K = A.take m ++ s := ⟨_, rfl⟩
      rw [← hK] at hadd HE
      have hma : m ≤ na := HMA.out
      have hma' : (m : Int) ≤ na := by omega
      clear hK
      go_wp2_with fail
      clear hx1 hsz hadd hma hma'
      refine (common_bk A K w2 (by rw [← HNA.out]; omega)).mono ?_
      rintro e w3 ⟨rfl, b3⟩
      have HB3 := hide (show Below w.heap.size w w3 from HB2.out.trans (b3.mono HB2.out.size))
      clear b3 HB2
      by_cases hcm : cmn A K = m
      · rw [if_pos hcm] at HE
        have hcm' : (((cmn A K : Nat) : Int) == (m : Int)) = true := by rw [hcm]; simp
        generalize cmn A K = cm at *
        clear hcm
        go_wp2
        go_ret3
        exact ⟨.inl ⟨K, z, a3, n3, c3, HE.out, by simp_all, HN3.out, fun wx hx => HS3.out wx (HS2.out wx hx)⟩, HB3.out⟩
      · rw [if_neg hcm] at HE
        have hcm' : (((cmn A K : Nat) : Int) == (m : Int)) = false := by rw [beq_eq_false_iff_ne]; omega
        generalize cmn A K = cm at *
        clear hcm
        go_wp2
        go_ret3
        exact ⟨.inr ⟨HE.out, K, a3, n3, c3, by simp_all⟩, HB3.out⟩
    · have HE := hide (cutK_n2 H1.out h2)
      clear h2
      go_wp2
      go_ret3
      exact ⟨.inr ⟨HE.out, [], _, _, _, rfl⟩, HB2.out⟩

theorem byteT_bk (w : World) : Calls Try.prog 82 #[.bool true] w fun e w' => e = .returned (.int .u8 1) ∧ w' = w := byteOf_bk true w
theorem byteF_bk (w : World) : Calls Try.prog 82 #[.bool false] w fun e w' => e = .returned (.int .u8 0) ∧ w' = w := byteOf_bk false w
def CvP (a : Option Addr) (n c : Nat) (l : List UInt8) (e : Ending) : Prop :=
  (∃ (d : Bool) (v r : List UInt8) (a2 : Option Addr) (n2 c2 : Nat), cutV l = some ((d, v), r) ∧ e = .returned (.tuple #[.bool d, .string (bs v), .slice a2 n2 c2, .bool true]) ∧ n2 = r.length ∧ ∀ wx, Rd wx (.slice a n c) l → Rd wx (.slice a2 n2 c2) r) ∨
  (cutV l = none ∧ ∃ (d : Bool) (v : List UInt8) (a2 : Option Addr) (n2 c2 : Nat), e = .returned (.tuple #[.bool d, .string (bs v), .slice a2 n2 c2, .bool false]))

set_option maxHeartbeats 1000000 in
set_option maxRecDepth 100000 in
theorem cutEnd_bk (a : Option Addr) (n c : Nat) (l : List UInt8) (w : World) (hl : l.length ≤ 1000000) (hrd : Rd w (.slice a n c) l) :
    Calls Try.prog 89 #[.slice a n c] w fun e w' => CvP a n c l e ∧ Below w.heap.size w w' := by
  have hn : n = l.length := by obtain ⟨_, _, e⟩ := rd_formX hrd; cases e; rfl
  have HR := hide hrd
  cases l with
  | nil =>
    obtain rfl : n = 0 := hn
    clear hrd
    go_enter Try.func89, Try.ntmps89
    go_wp2
    refine bodyPost_ret (v := .tuple #[.bool false, .string (bs []), .slice none 0 0, .bool false]) ?_ rfl ⟨.inr ⟨rfl, false, [], none, 0, 0, rfl⟩, Below.refl _ _⟩
    simp [results, Try.results89, go_sem, *]
    rfl
  | cons x q =>
    obtain ⟨g, off, ha, hx⟩ := rd_cellX hrd 0 (by simp)
    subst ha
    simp only [Nat.add_zero, List.getElem_cons_zero] at hx
    have hn0 : ((n : Int) == 0) = false := by rw [beq_eq_false_iff_ne, hn]; simp only [List.length_cons]; omega
    have hn1 : (0 : Int) < n := by rw [hn]; simp only [List.length_cons]; omega
    obtain ⟨a2, c2, hsl0, hsr⟩ := sliceY hrd 1 (by simp)
    have HQL := hide (show q.length ≤ 1000000 by simp only [List.length_cons] at hl; omega)
    have HNQ := hide (show n - 1 = q.length by rw [hn]; simp)
    have HRQ := hide (show ∀ wx, Rd wx (.slice (some ⟨g, off, none⟩) n c) (x :: q) → Rd wx (.slice a2 (n - 1) c2) q by simpa using hsr)
    have hsl : ∀ wx, (Instr.slice 22 (.slice (some ⟨g, off, none⟩) n c) (some (.int .i64 1)) none none).run Try.prog wx = .ok (.slice a2 (n - 1) c2) wx := hsl0
    obtain ⟨qn, hqn⟩ : ∃ qn, qn = n - 1 := ⟨_, rfl⟩
    rw [← hqn] at HNQ HRQ hsl
    clear hsl0 hsr hrd hl hn hqn
    by_cases h1 : x.toNat = 1
    · obtain rfl : x = 1 := UInt8.toNat_inj.1 (by rw [h1]; rfl)
      have hx4 : ((1 : UInt8).toNat : Int) = 1 := rfl
      rw [hx4] at hx
      clear h1 hx4
      have HE := hide (show cutV (1 :: q) = some ((true, []), q) by simp [cutV])
      go_enter Try.func89, Try.ntmps89
      go_wp2
      go_quiet (exact Calls.quiet_of_same (byteT_bk _))
      have hx1 : (w.drewN nq).cell? ⟨g, off, none⟩ = some (.int .u8 1) := hx
      have HBd := hide (show Below w.heap.size w (w.drewN nq) from belowX_drewN (Below.refl _ _) _)
      generalize w.drewN nq = wd at *
      clear hx
      go_wp2
      go_quiet (exact Calls.quiet_of_same (byteT_bk _))
      go_wp2
      go_quiet (fail)
      go_wp2
      refine bodyPost_ret (v := .tuple #[.bool true, .string (bs []), .slice a2 qn c2, .bool true]) ?_ rfl ⟨.inl ⟨true, [], q, a2, qn, c2, HE.out, rfl, HNQ.out, HRQ.out⟩, belowX_drewN (belowX_drewN HBd.out _) _⟩
      simp [results, Try.results89, go_sem, *]
      rfl
    · by_cases h0 : x.toNat = 0
      · obtain rfl : x = 0 := UInt8.toNat_inj.1 (by rw [h0]; rfl)
        have hx4 : ((0 : UInt8).toNat : Int) = 0 := rfl
        rw [hx4] at hx
        clear h1 h0 hx4
        go_enter Try.func89, Try.ntmps89
        go_wp2
        go_quiet (exact Calls.quiet_of_same (byteT_bk _))
        have hx1 : (w.drewN nq).cell? ⟨g, off, none⟩ = some (.int .u8 0) := hx
        have HBd := hide (show Below w.heap.size w (w.drewN nq) from belowX_drewN (Below.refl _ _) _)
        generalize w.drewN nq = wd at *
        clear hx
        go_wp2
        go_quiet (exact Calls.quiet_of_same (byteF_bk _))
        go_wp2_with (first | (refine wpList_slY rfl (.tmp 28) (.const (.int .i64 1)) 22 (by kernel_rfl) rfl rfl rfl hsl ?_) | fail)
        have HBe := hide (show Below w.heap.size w (wd.drewN nq) from belowX_drewN HBd.out _)
        generalize wd.drewN nq = we at *
        have HRe := hide (HRQ.out we (HR.out.carry HBe.out))
        clear hsl hx1
        refine (cutText_bk a2 qn c2 q we HQL.out HRe.out).mono ?_
        rintro e w2 ⟨hP, b2⟩
        have HB2 := hide (show Below w.heap.size w w2 from HBe.out.trans (b2.mono HBe.out.size))
        clear b2 HBe HRe
        rcases hP with ⟨s, z, a3, n3, c3, h2, rfl, hn3, hs3⟩ | ⟨h2, rfl⟩
        · have HE := hide (show cutV (0 :: q) = some ((false, s), z) by simp [cutV, h2])
          have HN3 := hide hn3
          have HS3 := hide hs3
          clear h2 hn3 hs3
          go_wp2
          refine bodyPost_ret (v := .tuple #[.bool false, .string (bs s), .slice a3 n3 c3, .bool true]) ?_ rfl ⟨.inl ⟨false, s, z, a3, n3, c3, HE.out, rfl, HN3.out, fun wx hx => HS3.out wx (HRQ.out wx hx)⟩, HB2.out⟩
          simp [results, Try.results89, go_sem, *]
        · have HE := hide (show cutV (0 :: q) = none by simp [cutV, h2])
          clear h2
          go_wp2
          refine bodyPost_ret (v := .tuple #[.bool false, .string (bs []), .slice none 0 0, .bool false]) ?_ rfl ⟨.inr ⟨HE.out, false, [], none, 0, 0, rfl⟩, HB2.out⟩
          simp [results, Try.results89, go_sem, *]
      · have HE := hide (show cutV (x :: q) = none by simp [cutV, h1, h0])
        have e1 : (((x.toNat : Nat) : Int) == 1) = false := by simpa using (by omega : ¬ ((x.toNat : Nat) : Int) = 1)
        have e0 : (((x.toNat : Nat) : Int) == 0) = false := by simpa using (by omega : ¬ ((x.toNat : Nat) : Int) = 0)
        generalize x.toNat = xn at *
        clear h1 h0 hsl
        go_enter Try.func89, Try.ntmps89
        go_wp2
        go_quiet (exact Calls.quiet_of_same (byteT_bk _))
        have hx1 : (w.drewN nq).cell? ⟨g, off, none⟩ = some (.int .u8 xn) := hx
        have HBd := hide (show Below w.heap.size w (w.drewN nq) from belowX_drewN (Below.refl _ _) _)
        generalize w.drewN nq = wd at *
        clear hx
        go_wp2
        go_quiet (exact Calls.quiet_of_same (byteF_bk _))
        go_wp2
        refine bodyPost_ret (v := .tuple #[.bool false, .string (bs []), .slice none 0 0, .bool false]) ?_ rfl ⟨.inr ⟨HE.out, false, [], none, 0, 0, rfl⟩, belowX_drewN HBd.out _⟩
        simp [results, Try.results89, go_sem, *]
        rfl
def CeP (y : Ent) (a : Option Addr) (n c : Nat) (l : List UInt8) (e : Ending) : Prop :=
  (∃ (x : Ent) (r : List UInt8) (a2 : Option Addr) (n2 c2 : Nat), cutEn y l = some (x, r) ∧ e = .returned (.tuple #[.agg #[.string (bs x.1), .int .i64 x.2.1, .bool x.2.2.1, .string (bs x.2.2.2)], .slice a2 n2 c2, .bool true]) ∧ n2 = r.length ∧ ∀ wx, Rd wx (.slice a n c) l → Rd wx (.slice a2 n2 c2) r) ∨
  (cutEn y l = none ∧ ∃ (a2 : Option Addr) (n2 c2 : Nat), e = .returned (.tuple #[.agg #[.string (bs zE.1), .int .i64 zE.2.1, .bool zE.2.2.1, .string (bs zE.2.2.2)], .slice a2 n2 c2, .bool false]))
theorem cutEn_n1 {y : Ent} {l : List UInt8} (h : cutK y.1 l = none) : cutEn y l = none := by simp [cutEn, h]
theorem cutEn_n2 {y : Ent} {l q k : List UInt8} (h : cutK y.1 l = some (k, q)) (h2 : cutW 1099511627776 q = none) : cutEn y l = none := by simp [cutEn, h, h2]
theorem cutEn_n3 {y : Ent} {l q k z : List UInt8} {s : Nat} (h : cutK y.1 l = some (k, q)) (h2 : cutW 1099511627776 q = some (s, z)) (h3 : cutV z = none) : cutEn y l = none := by simp [cutEn, h, h2, h3]
theorem cutEn_s {y : Ent} {l q k z v r : List UInt8} {s : Nat} {d : Bool} (h : cutK y.1 l = some (k, q)) (h2 : cutW 1099511627776 q = some (s, z)) (h3 : cutV z = some ((d, v), r)) : cutEn y l = if (entOk (k, (s : Int), d, v) && ahdM y (k, (s : Int), d, v)) = true then some ((k, (s : Int), d, v), r) else none := by simp only [cutEn, h, h2, h3]
theorem cutK_len {A l k r : List UInt8} (h : cutK A l = some (k, r)) : r.length ≤ l.length := by
  have := congrArg List.length (cutK_can h)
  simp only [List.length_append] at this
  omega
set_option maxHeartbeats 2000000 in
set_option maxRecDepth 100000 in
theorem cutEntry_bk (y : Ent) (a : Option Addr) (n c : Nat) (l : List UInt8) (w : World) (hA : y.1.length ≤ 1000) (hl : l.length ≤ 1000000) (hrd : Rd w (.slice a n c) l) :
    Calls Try.prog 87 #[.slice a n c, .agg #[.string (bs y.1), .int .i64 y.2.1, .bool y.2.2.1, .string (bs y.2.2.2)]] w fun e w' => CeP y a n c l e ∧ Below w.heap.size w w' := by
  have HRD := hide hrd
  have HL := hide hl
  have HAL := hide hA
  clear hrd hl hA
  obtain ⟨w0, hw0⟩ : ∃ w0, w0 = w.alloc (.cells #[.string (bs y.1), .int .i64 y.2.1, .bool y.2.2.1, .string (bs y.2.2.2)] 31) := ⟨_, rfl⟩
  have hb0 : Below w.heap.size w w0 := by rw [hw0]; exact (Below.refl _ _).alloc (Nat.le_refl _) _
  have hy0 : EntAt w0 w.heap.size y := by rw [hw0]; exact EntAt.new w y
  have hs0 : w0.heap.size = w.heap.size + 1 := by rw [hw0]; simp
  obtain ⟨w1, hw1⟩ : ∃ w1, w1 = w0.alloc (.cells #[.string { data := #[] }, .int .i64 0, .bool false, .string { data := #[] }] 31) := ⟨_, rfl⟩
  have hb1 : Below w0.heap.size w0 w1 := by rw [hw1]; exact (Below.refl _ _).alloc (Nat.le_refl _) _
  have HR_w1 := hide (show EntAt w1 (w.heap.size + 1) zE by rw [hw1, ← hs0]; exact EntAt.new w0 zE)
  have HY_w1 := hide (hy0.carry hb1)
  have HB_w1 := hide (show Below w.heap.size w w1 from hb0.trans (hb1.mono hb0.size))
  obtain ⟨A, hA⟩ : ∃ A, A = w.heap.size := ⟨_, rfl⟩
  obtain ⟨R, hR⟩ : ∃ R, R = w.heap.size + 1 := ⟨_, rfl⟩
  rw [← hR] at HR_w1
  rw [← hA] at HY_w1
  have HR0 := hide (show w.heap.size ≤ R by rw [hR]; exact Nat.le_succ _)
  rw [hw0] at hw1
  have y0 := HY_w1.out.cells.1
  rw [hw1] at y0
  rw [hA] at y0
  clear hb0 hy0 hs0 hb1 hw0
  go_enter Try.func87, Try.ntmps87
  go_wp2_with fail
  rw [← hw1]
  try rw [← hR]
  try rw [← hA]
  clear hw1 hA hR y0
  refine (cutKey_bk y.1 a n c l w1 HAL.out HL.out (HRD.out.carry HB_w1.out)).mono ?_
  rintro e w2 ⟨hP, b2⟩
  have HR_w2 := hide (HR_w1.out.carry b2)
  have HY_w2 := hide (HY_w1.out.carry b2)
  have HB_w2 := hide (show Below w.heap.size w w2 from HB_w1.out.trans (b2.mono HB_w1.out.size))
  clear b2 HR_w1 HY_w1 HB_w1
  rcases hP with ⟨k, q, a2, n2, c2, h2, rfl, hn2, hs2⟩ | ⟨h2, k, a2, n2, c2, rfl⟩
  case inr =>
    have HE := hide (cutEn_n1 h2)
    clear h2
    obtain ⟨r0, r1, r2, r3⟩ := HR_w2.out.cells
    have f0 := HR_w2.out.fz 0
    have f1 := HR_w2.out.fz 1
    have f2 := HR_w2.out.fz 2
    have f3 := HR_w2.out.fz 3
    have hp9 : EntAt (set4 w2 R (.string { data := #[] }) (.int .i64 0) (.bool false) (.string { data := #[] })) R zE := HR_w2.out.put zE
    have HB9 := hide (show Below w.heap.size w (set4 w2 R (.string { data := #[] }) (.int .i64 0) (.bool false) (.string { data := #[] })) from below_set4 HB_w2.out HR0.out _ _ _ _)
    obtain ⟨w9, hw9⟩ : ∃ w9, w9 = set4 w2 R (.string { data := #[] }) (.int .i64 0) (.bool false) (.string { data := #[] }) := ⟨_, rfl⟩
    rw [← hw9] at hp9 HB9
    unfold set4 at hw9
    obtain ⟨z0, z1, z2, z3⟩ := hp9.cells
    clear hp9
    go_wp2
    rw [← hw9]
    clear r0 r1 r2 r3 f0 f1 f2 f3
    refine bodyPost_ret (v := .tuple #[.agg #[.string { data := #[] }, .int .i64 0, .bool false, .string { data := #[] }], .slice none 0 0, .bool false]) ?_ rfl ⟨.inr ⟨HE.out, none, 0, 0, rfl⟩, HB9.out⟩
    clear hw9
    try simp only [zE, show bs ([] : List UInt8) = { data := #[] } from rfl] at z0 z1 z2 z3
    simp [results, Try.results87, go_sem, *]
  have H2 := hide h2
  have HN2 := hide hn2
  have HS2 := hide hs2
  have HQL := hide (Nat.le_trans (cutK_len h2) HL.out)
  have HR2 := hide (hs2 w2 (HRD.out.carry HB_w2.out))
  clear h2 hn2 hs2
  cases h3 : cutW 1099511627776 q with
  | none =>
    have hc := cutNum_none 1099511627776 a2 n2 c2 q w2 HR2.out h3
    have HE := hide (cutEn_n2 H2.out h3)
    clear h3
    go_wp2_with fail
    refine hc.mono ?_
    rintro e w3 ⟨rfl, b3⟩
    clear hc
    have HR_w3 := hide (HR_w2.out.carry b3)
    have HY_w3 := hide (HY_w2.out.carry b3)
    have HB_w3 := hide (show Below w.heap.size w w3 from HB_w2.out.trans (b3.mono HB_w2.out.size))
    clear b3 HR_w2 HY_w2 HB_w2
    obtain ⟨r0, r1, r2, r3⟩ := HR_w3.out.cells
    have f0 := HR_w3.out.fz 0
    have f1 := HR_w3.out.fz 1
    have f2 := HR_w3.out.fz 2
    have f3 := HR_w3.out.fz 3
    have hp9 : EntAt (set4 w3 R (.string { data := #[] }) (.int .i64 0) (.bool false) (.string { data := #[] })) R zE := HR_w3.out.put zE
    have HB9 := hide (show Below w.heap.size w (set4 w3 R (.string { data := #[] }) (.int .i64 0) (.bool false) (.string { data := #[] })) from below_set4 HB_w3.out HR0.out _ _ _ _)
    obtain ⟨w9, hw9⟩ : ∃ w9, w9 = set4 w3 R (.string { data := #[] }) (.int .i64 0) (.bool false) (.string { data := #[] }) := ⟨_, rfl⟩
    rw [← hw9] at hp9 HB9
    unfold set4 at hw9
    obtain ⟨z0, z1, z2, z3⟩ := hp9.cells
    clear hp9
    go_wp2
    rw [← hw9]
    clear r0 r1 r2 r3 f0 f1 f2 f3
    refine bodyPost_ret (v := .tuple #[.agg #[.string { data := #[] }, .int .i64 0, .bool false, .string { data := #[] }], .slice none 0 0, .bool false]) ?_ rfl ⟨.inr ⟨HE.out, none, 0, 0, rfl⟩, HB9.out⟩
    clear hw9
    try simp only [zE, show bs ([] : List UInt8) = { data := #[] } from rfl] at z0 z1 z2 z3
    simp [results, Try.results87, go_sem, *]
  | some p =>
  obtain ⟨s, z⟩ := p
  have hc := cutNum_some 1099511627776 a2 n2 c2 q z s w2 (by decide) HR2.out h3
  have H3 := hide h3
  have HZL := hide (Nat.le_trans (cutW_len h3) HQL.out)
  clear h3
  go_wp2_with fail
  refine hc.mono ?_
  rintro e w3 ⟨a3, c3, rfl, hs3, b3⟩
  clear hc
  have HR3 := hide (hs3 w3 (HR2.out.carry b3))
  have HS3 := hide hs3
  obtain ⟨n3, hn3⟩ : ∃ n3, n3 = z.length := ⟨_, rfl⟩
  rw [← hn3] at HR3 HS3 ⊢
  clear hs3 hn3
  have HR_w3 := hide (HR_w2.out.carry b3)
  have HY_w3 := hide (HY_w2.out.carry b3)
  have HB_w3 := hide (show Below w.heap.size w w3 from HB_w2.out.trans (b3.mono HB_w2.out.size))
  clear b3 HR_w2 HY_w2 HB_w2
  go_wp2_with fail
  refine (cutEnd_bk a3 n3 c3 z w3 HZL.out HR3.out).mono ?_
  rintro e w4 ⟨hP, b4⟩
  have HR_w4 := hide (HR_w3.out.carry b4)
  have HY_w4 := hide (HY_w3.out.carry b4)
  have HB_w4 := hide (show Below w.heap.size w w4 from HB_w3.out.trans (b4.mono HB_w3.out.size))
  clear b4 HR_w3 HY_w3 HB_w3
  rcases hP with ⟨d, v, r, a4, n4, c4, h4, rfl, hn4, hs4⟩ | ⟨h4, d, v, a4, n4, c4, rfl⟩
  case inr =>
    have HE := hide (cutEn_n3 H2.out H3.out h4)
    clear h4
    obtain ⟨w5, hw5⟩ : ∃ w5, w5 = w4.alloc (.cells #[.string (bs k), .int .i64 s, .bool d, .string (bs v)] 31) := ⟨_, rfl⟩
    have b5 : Below w4.heap.size w4 w5 := by rw [hw5]; exact (Below.refl _ _).alloc (Nat.le_refl _) _
    have HR_w5 := hide (HR_w4.out.carry b5)
    have HY_w5 := hide (HY_w4.out.carry b5)
    have HB_w5 := hide (show Below w.heap.size w w5 from HB_w4.out.trans (b5.mono HB_w4.out.size))
    clear b5 HR_w4 HY_w4 HB_w4
    rw [hw5] at HR_w5 HB_w5
    clear hw5
    generalize hwq : w4.alloc (.cells #[.string (bs k), .int .i64 s, .bool d, .string (bs v)] 31) = w5 at HR_w5 HB_w5
    obtain ⟨r0, r1, r2, r3⟩ := HR_w5.out.cells
    have f0 := HR_w5.out.fz 0
    have f1 := HR_w5.out.fz 1
    have f2 := HR_w5.out.fz 2
    have f3 := HR_w5.out.fz 3
    have hp9 : EntAt (set4 w5 R (.string { data := #[] }) (.int .i64 0) (.bool false) (.string { data := #[] })) R zE := HR_w5.out.put zE
    have HB9 := hide (show Below w.heap.size w (set4 w5 R (.string { data := #[] }) (.int .i64 0) (.bool false) (.string { data := #[] })) from below_set4 HB_w5.out HR0.out _ _ _ _)
    obtain ⟨w9, hw9⟩ : ∃ w9, w9 = set4 w5 R (.string { data := #[] }) (.int .i64 0) (.bool false) (.string { data := #[] }) := ⟨_, rfl⟩
    rw [← hw9] at hp9 HB9
    unfold set4 at hw9
    obtain ⟨z0, z1, z2, z3⟩ := hp9.cells
    clear hp9
    subst hwq; go_wp2
    rw [← hw9]
    clear r0 r1 r2 r3 f0 f1 f2 f3
    refine bodyPost_ret (v := .tuple #[.agg #[.string { data := #[] }, .int .i64 0, .bool false, .string { data := #[] }], .slice none 0 0, .bool false]) ?_ rfl ⟨.inr ⟨HE.out, none, 0, 0, rfl⟩, HB9.out⟩
    clear hw9
    try simp only [zE, show bs ([] : List UInt8) = { data := #[] } from rfl] at z0 z1 z2 z3
    simp [results, Try.results87, go_sem, *]
  have HN4 := hide hn4
  have HS4 := hide hs4
  have HEQ := hide (cutEn_s H2.out H3.out h4)
  clear h4 hn4 hs4
  obtain ⟨x, hx⟩ : ∃ x : Ent, x = (k, (s : Int), d, v) := ⟨_, rfl⟩
  rw [← hx] at HEQ
  obtain ⟨w5, hw5⟩ : ∃ w5, w5 = w4.alloc (.cells #[.string (bs k), .int .i64 s, .bool d, .string (bs v)] 31) := ⟨_, rfl⟩
  have b5 : Below w4.heap.size w4 w5 := by rw [hw5]; exact (Below.refl _ _).alloc (Nat.le_refl _) _
  have HX_w5 := hide (show EntAt w5 w4.heap.size x by rw [hw5, hx]; exact EntAt.new w4 (k, (s : Int), d, v))
  have hmb := mayBe_bk x w5
  rw [hx] at hmb
  simp only at hmb
  rw [← hx] at hmb
  have HR_w5 := hide (HR_w4.out.carry b5)
  have HY_w5 := hide (HY_w4.out.carry b5)
  have HB_w5 := hide (show Below w.heap.size w w5 from HB_w4.out.trans (b5.mono HB_w4.out.size))
  clear b5 HR_w4 HY_w4 HB_w4
  obtain ⟨B, hB⟩ : ∃ B, B = w4.heap.size := ⟨_, rfl⟩
  rw [← hB] at HX_w5
  have HXX := hide hx
  clear hx
  go_wp2_with fail
  rw [← hw5]
  try rw [← hB]
  clear hw5 hB
  refine hmb.mono ?_
  rintro e w6 ⟨rfl, b6⟩
  clear hmb
  have HR_w6 := hide (HR_w5.out.carry b6)
  have HY_w6 := hide (HY_w5.out.carry b6)
  have HX_w6 := hide (HX_w5.out.carry b6)
  have HB_w6 := hide (show Below w.heap.size w w6 from HB_w5.out.trans (b6.mono HB_w5.out.size))
  clear b6 HR_w5 HY_w5 HX_w5 HB_w5
  cases hok : entOk x with
  | false =>
    have HE := hide (show cutEn y l = none by rw [HEQ.out, hok]; rfl)
    clear hok
    obtain ⟨r0, r1, r2, r3⟩ := HR_w6.out.cells
    have f0 := HR_w6.out.fz 0
    have f1 := HR_w6.out.fz 1
    have f2 := HR_w6.out.fz 2
    have f3 := HR_w6.out.fz 3
    have hp9 : EntAt (set4 w6 R (.string { data := #[] }) (.int .i64 0) (.bool false) (.string { data := #[] })) R zE := HR_w6.out.put zE
    have HB9 := hide (show Below w.heap.size w (set4 w6 R (.string { data := #[] }) (.int .i64 0) (.bool false) (.string { data := #[] })) from below_set4 HB_w6.out HR0.out _ _ _ _)
    obtain ⟨w9, hw9⟩ : ∃ w9, w9 = set4 w6 R (.string { data := #[] }) (.int .i64 0) (.bool false) (.string { data := #[] }) := ⟨_, rfl⟩
    rw [← hw9] at hp9 HB9
    unfold set4 at hw9
    obtain ⟨z0, z1, z2, z3⟩ := hp9.cells
    clear hp9
    go_wp2
    rw [← hw9]
    clear r0 r1 r2 r3 f0 f1 f2 f3
    refine bodyPost_ret (v := .tuple #[.agg #[.string { data := #[] }, .int .i64 0, .bool false, .string { data := #[] }], .slice none 0 0, .bool false]) ?_ rfl ⟨.inr ⟨HE.out, none, 0, 0, rfl⟩, HB9.out⟩
    clear hw9
    try simp only [zE, show bs ([] : List UInt8) = { data := #[] } from rfl] at z0 z1 z2 z3
    simp [results, Try.results87, go_sem, *]
  | true =>
  obtain ⟨x0, x1, x2, x3⟩ := HX_w6.out.cells
  obtain ⟨y0, y1, y2, y3⟩ := HY_w6.out.cells
  go_wp2_with fail
  clear x0 x1 x2 x3 y0 y1 y2 y3
  refine (stands_bk y x w6).mono ?_
  rintro e w7 ⟨rfl, b7⟩
  have HR_w7 := hide (HR_w6.out.carry b7)
  have HY_w7 := hide (HY_w6.out.carry b7)
  have HX_w7 := hide (HX_w6.out.carry b7)
  have HB_w7 := hide (show Below w.heap.size w w7 from HB_w6.out.trans (b7.mono HB_w6.out.size))
  clear b7 HR_w6 HY_w6 HX_w6 HB_w6
  cases hah : ahdM y x with
  | false =>
    have HE := hide (show cutEn y l = none by rw [HEQ.out, hok, hah]; rfl)
    clear hok hah
    obtain ⟨r0, r1, r2, r3⟩ := HR_w7.out.cells
    have f0 := HR_w7.out.fz 0
    have f1 := HR_w7.out.fz 1
    have f2 := HR_w7.out.fz 2
    have f3 := HR_w7.out.fz 3
    have hp9 : EntAt (set4 w7 R (.string { data := #[] }) (.int .i64 0) (.bool false) (.string { data := #[] })) R zE := HR_w7.out.put zE
    have HB9 := hide (show Below w.heap.size w (set4 w7 R (.string { data := #[] }) (.int .i64 0) (.bool false) (.string { data := #[] })) from below_set4 HB_w7.out HR0.out _ _ _ _)
    obtain ⟨w9, hw9⟩ : ∃ w9, w9 = set4 w7 R (.string { data := #[] }) (.int .i64 0) (.bool false) (.string { data := #[] }) := ⟨_, rfl⟩
    rw [← hw9] at hp9 HB9
    unfold set4 at hw9
    obtain ⟨z0, z1, z2, z3⟩ := hp9.cells
    clear hp9
    go_wp2
    rw [← hw9]
    clear r0 r1 r2 r3 f0 f1 f2 f3
    refine bodyPost_ret (v := .tuple #[.agg #[.string { data := #[] }, .int .i64 0, .bool false, .string { data := #[] }], .slice none 0 0, .bool false]) ?_ rfl ⟨.inr ⟨HE.out, none, 0, 0, rfl⟩, HB9.out⟩
    clear hw9
    try simp only [zE, show bs ([] : List UInt8) = { data := #[] } from rfl] at z0 z1 z2 z3
    simp [results, Try.results87, go_sem, *]
  | true =>
  have HE := hide (show cutEn y l = some (x, r) by rw [HEQ.out, hok, hah, HXX.out]; rfl)
  clear hok hah HEQ
  obtain ⟨x0, x1, x2, x3⟩ := HX_w7.out.cells
  obtain ⟨r0, r1, r2, r3⟩ := HR_w7.out.cells
  have f0 := HR_w7.out.fz 0
  have f1 := HR_w7.out.fz 1
  have f2 := HR_w7.out.fz 2
  have f3 := HR_w7.out.fz 3
  have hp9 : EntAt (set4 w7 R (.string (bs x.1)) (.int .i64 x.2.1) (.bool x.2.2.1) (.string (bs x.2.2.2))) R x := HR_w7.out.put x
  have HB9 := hide (show Below w.heap.size w (set4 w7 R (.string (bs x.1)) (.int .i64 x.2.1) (.bool x.2.2.1) (.string (bs x.2.2.2))) from below_set4 HB_w7.out HR0.out _ _ _ _)
  obtain ⟨w9, hw9⟩ : ∃ w9, w9 = set4 w7 R (.string (bs x.1)) (.int .i64 x.2.1) (.bool x.2.2.1) (.string (bs x.2.2.2)) := ⟨_, rfl⟩
  rw [← hw9] at hp9 HB9
  unfold set4 at hw9
  obtain ⟨z0, z1, z2, z3⟩ := hp9.cells
  clear hp9
  go_wp2
  rw [← hw9]
  clear x0 x1 x2 x3 r0 r1 r2 r3 f0 f1 f2 f3
  refine bodyPost_ret (v := .tuple #[.agg #[.string (bs x.1), .int .i64 x.2.1, .bool x.2.2.1, .string (bs x.2.2.2)], .slice a4 n4 c4, .bool true]) ?_ rfl ⟨.inl ⟨x, r, a4, n4, c4, HE.out, rfl, HN4.out, fun wx hx => HS4.out wx (HS3.out wx (HS2.out wx hx))⟩, HB9.out⟩
  clear hw9
  skip
  simp [results, Try.results87, go_sem, *]

end Go.Proofs.Ytjkoemdojdcmpaa

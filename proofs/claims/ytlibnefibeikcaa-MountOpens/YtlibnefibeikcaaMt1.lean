/-
  What mount.told and mount.Open do.
-/
import Derived.Test.YtlibnefibeikcaaMathFs
import Derived.Test.YtlibnefibeikcaaFsTop1
namespace Go.Proofs.Ytlibnefibeikcaa
open Go.RowKit
set_option linter.unusedVariables false
set_option linter.unusedSimpArgs false

theorem do1 {d : Dk} {a : Ac} (h : okD d = true) (ha : actE (mny d) a = 0) : doD d [a] 1 = match oneD d a with | none => (dz, 9) | some x => (x, 0) := by
  unfold doD
  rw [if_neg (by rw [chk_ok6 h]; decide), if_neg (by simp [firstE, ha]), if_neg (by simp)]
  rw [show Int.toNat 1 = 1 from rfl]
  simp only [List.take_succ_cons, List.take_zero, onesD]
  cases oneD d a <;> rfl
def wActs : Int → List (List UInt8) → List Ac
  | _, [] => []
  | n, b :: l => (false, n, b) :: wActs (n + 1) l
theorem onesD_append6 : ∀ (a b : List Ac) (d : Dk), onesD d (a ++ b) = (onesD d a).bind fun x => onesD x b
  | [], b, d => rfl
  | x :: a, b, d => by
    show (match oneD d x with | none => none | some y => onesD y (a ++ b)) = (match oneD d x with | none => none | some y => onesD y a).bind _
    cases oneD d x with
    | none => rfl
    | some y => exact onesD_append6 a b y
/-- On the way: the disk is so, or there was no room. -/
def RnW (y : Wy) (o : Option Dk) (g : Nat) (D K : List Fl) (l : List UInt8) : Prop := match o with | some x => y = ((x, g, D, K), 0, l) | none => y.2.1 = 9
theorem thenW_err {s : Stp} {y : Wy} (h : y.2.1 ≠ 0) : thenW s y = y := by unfold thenW; rw [if_neg h]
theorem RnW.act {y : Wy} {o : Option Dk} {g : Nat} {D K : List Fl} {l : List UInt8} (s : Stp) (a : Ac) (h : RnW y o g D K l) (hok : ∀ x, o = some x → okD x = true ∧ actE (mny x) a = 0)
    (hs : ∀ x, s ((x, g, D, K), 0, l) = (diskW ((x, g, D, K), 0, l) (doD x [a] 1).1, (doD x [a] 1).2)) : RnW (thenW s y) (o.bind fun x => oneD x a) g D K l := by
  cases o with
  | none =>
    have h : y.2.1 = 9 := h
    rw [thenW_err (by rw [h]; decide)]
    exact h
  | some x =>
    have h : y = ((x, g, D, K), 0, l) := h
    subst h
    obtain ⟨h1, h2⟩ := hok x rfl
    have e : thenW s ((x, g, D, K), 0, l) = (((doD x [a] 1).1, g, D, K), (doD x [a] 1).2, l) := by
      unfold thenW
      rw [if_pos rfl, hs]
      rfl
    rw [e, do1 h1 h2]
    show RnW _ (oneD x a) g D K l
    cases oneD x a <;> rfl
theorem writes_ok (g : Nat) (D K : List Fl) (e : Int) (l : List UInt8) : ∀ (bl : List (List UInt8)) (n : Int) (x : Dk), okD x = true → (∀ a ∈ wActs n bl, actE (mny x) a = 0) →
    match onesD x (wActs n bl) with | some x' => writesW n bl ((x, g, D, K), e, l) = (((x', g, D, K), e, l), 0) | none => (writesW n bl ((x, g, D, K), e, l)).2 = 9
  | [], n, x, h, ha => rfl
  | b :: bl, n, x, h, ha => by
    have h1 := ha (false, n, b) (List.mem_cons_self ..)
    have e1 : writeW n b ((x, g, D, K), e, l) = (diskW ((x, g, D, K), e, l) (doD x [(false, n, b)] 1).1, (doD x [(false, n, b)] 1).2) := rfl
    show (match (match oneD x (false, n, b) with | none => none | some y => onesD y (wActs (n + 1) bl)) with | some x' => writesW n (b :: bl) ((x, g, D, K), e, l) = (((x', g, D, K), e, l), 0) | none => (writesW n (b :: bl) ((x, g, D, K), e, l)).2 = 9)
    rw [writesW_cons, e1, do1 h h1]
    cases ho : oneD x (false, n, b) with
    | none => simp
    | some y =>
      obtain ⟨h2, h3, _⟩ := okD_one h h1 ho
      have ih := writes_ok g D K e l bl (n + 1) y h2 (fun a ha' => by rw [h3]; exact ha a (List.mem_cons_of_mem _ ha'))
      simp only [ne_eq, not_true_eq_false, if_false]
      exact ih
theorem RnW.writes {y : Wy} {o : Option Dk} {g : Nat} {D K : List Fl} {l : List UInt8} (h : RnW y o g D K l) (hok : ∀ x, o = some x → okD x = true ∧ ∀ a ∈ wActs ((2 + g % 2 * 16 : Nat) : Int) (wholeB l), actE (mny x) a = 0) : RnW (thenW wdirW y) (o.bind fun x => onesD x (wActs ((2 + g % 2 * 16 : Nat) : Int) (wholeB l))) g D K l := by
  cases o with
  | none =>
    have h : y.2.1 = 9 := h
    rw [thenW_err (by rw [h]; decide)]
    exact h
  | some x =>
    have h : y = ((x, g, D, K), 0, l) := h
    subst h
    obtain ⟨h1, h2⟩ := hok x rfl
    have hw := writes_ok g D K 0 l (wholeB l) ((2 + g % 2 * 16 : Nat) : Int) x h1 h2
    have e : wdirW ((x, g, D, K), 0, l) = writesW ((2 + g % 2 * 16 : Nat) : Int) (wholeB l) ((x, g, D, K), 0, l) := rfl
    show RnW _ (onesD x (wActs ((2 + g % 2 * 16 : Nat) : Int) (wholeB l))) g D K l
    unfold thenW
    rw [if_pos rfl, e]
    cases ho : onesD x (wActs ((2 + g % 2 * 16 : Nat) : Int) (wholeB l)) with
    | none => rw [ho] at hw; exact hw
    | some x' =>
      rw [ho] at hw
      show _ = _
      rw [hw]
end Go.Proofs.Ytlibnefibeikcaa
namespace Go.Proofs.Ytlibnefibeikcaa
open Go.RowKit
set_option linter.unusedVariables false
set_option linter.unusedSimpArgs false

/-- A row of texts of one's own. -/
def txv (l : List (List UInt8)) : List Value := l.map fun s => Value.string (bs s)
def OwT (w : World) (base : Nat) (v : Value) (l : List (List UInt8)) : Prop := w.ownsRow base 9 1 v l.length (txv l)
theorem OwT.nil (w : World) (base : Nat) : OwT w base (.slice none 0 0) [] := World.ownsRow_nil _ _ _ _
theorem OwT.form {w : World} {base : Nat} {v : Value} {l : List (List UInt8)} (h : OwT w base v l) : ∃ a c, v = .slice a l.length c := by
  rcases h.2 with ⟨rfl, hn⟩ | ⟨g, cap, cur, rfl, _⟩
  · rw [hn]; exact ⟨_, _, rfl⟩
  · exact ⟨_, _, rfl⟩
theorem OwT.carry {w w' : World} {base : Nat} {v : Value} {l : List (List UInt8)} (h : OwT w base v l) (hb : Below w.heap.size w w') : OwT w' base v l := own_carry h hb
theorem OwT.mono {w : World} {base base' : Nat} {v : Value} {l : List (List UInt8)} (h : OwT w base v l) (hb : base' ≤ base) : OwT w base' v l := own_mono h hb
theorem OwT.at {w : World} {base : Nat} {a : Option Addr} {n c : Nat} {l : List (List UInt8)} (h : OwT w base (.slice a n c) l) (j : Nat) (hj : j < l.length) : ∃ g, a = some ⟨g, 0, none⟩ ∧ w.cell? ⟨g, j, none⟩ = some (.string (bs l[j])) := by
  rcases h.2 with ⟨e, hn⟩ | ⟨g, cap, cur, e, _⟩
  · rw [hn] at hj; cases hj
  · cases e
    have c1 := h.cells (g := g) rfl j (.string (bs l[j])) (by simp [txv, List.getElem?_eq_getElem hj])
    exact ⟨g, rfl, by simpa [Addr.add_lit] using c1⟩
end Go.Proofs.Ytlibnefibeikcaa
namespace Go.Proofs.Ytlibnefibeikcaa
open Go.RowKit
set_option linter.unusedVariables false
set_option linter.unusedSimpArgs false

theorem okD_len {d : Dk} (h : okD d = true) : d.1.length = 128 * mny d := (Fine.of_ok h).1.1
end Go.Proofs.Ytlibnefibeikcaa
namespace Go.Proofs.Ytlibnefibeikcaa
open Go.RowKit
set_option linter.unusedVariables false
set_option linter.unusedSimpArgs false

theorem OwFs.bx {w : World} {base : Nat} {v : Value} {f : Fsd} (h : OwFs w base v f) : ∃ x : FsV, v = x.val ∧ RdX w x f ∧ OwFs w base x.val f := by
  obtain ⟨x, e, hx⟩ := h.form
  exact ⟨x, e, hx, e ▸ h⟩

theorem FsB.of {w : World} {q : Nat} {x : FsV} (h : FsAt w q x) : FsB w q := ⟨_, _, _, _, _, _, h⟩
end Go.Proofs.Ytlibnefibeikcaa
namespace Go.Proofs.Ytlibnefibeikcaa
open Go.RowKit
set_option linter.unusedVariables false
set_option linter.unusedSimpArgs false

def openFs (d : Dk) : Fsd × Int :=
  if (latestS d).2.2 ≠ 0 then (fz, (latestS d).2.2)
  else if d.2.1.any (fun p => decide (p.1 < 34)) = true then (fz, 70)
  else if readE (genB d (latestS d).1 (latestS d).2.1) (mny d) ≠ 0 then (fz, 70)
  else (((d.1, d.2.1, []), (latestS d).1, readL (genB d (latestS d).1 (latestS d).2.1) (mny d), readL (genB d (latestS d).1 (latestS d).2.1) (mny d)), 0)
abbrev downD (d : Dk) (K : List Bool) : Dk := (setBs d.1 (kept d.2.1 K), [], [])

/-! ### a commit, wherever power fails in it -/
def cntS (l : List Ac) : Nat := l.countP fun a => !a.1 && decide (a.2.1 < 2)
theorem cntS_append (a b : List Ac) : cntS (a ++ b) = cntS a + cntS b := List.countP_append
/-- What is opened, of files on which acts were done, behind a loss of power. -/
def TornAt (f : Fsd) (D : List Fl) (y : Dk) (c : Nat) (K : List Bool) : Prop :=
  c ≤ 1 ∧ (okFs (downD y K, f.2.1, f.2.2.2, f.2.2.2) ∧ openFs (downD y K) = ((downD y K, f.2.1, f.2.2.2, f.2.2.2), 0) ∨
  c = 1 ∧ f.2.1 + 1 < 4294967296 ∧ okFs (downD y K, f.2.1 + 1, D, D) ∧ openFs (downD y K) = ((downD y K, f.2.1 + 1, D, D), 0))
end Go.Proofs.Ytlibnefibeikcaa
namespace Go.Proofs.Ytlibnefibeikcaa
open Go.RowKit
set_option linter.unusedVariables false
set_option linter.unusedSimpArgs false

set_option maxHeartbeats 1000000 in
set_option maxRecDepth 100000 in
theorem mbelowFirst_any (N : Int) (u : Value) (w : World) (hu : u.oneCell' = true) :
    Calls Try.prog 16 #[.agg #[.int .i64 N, u]] w fun e w' => e = .returned (.bool (decide (N < 34))) ∧ Below w.heap.size w w' := by
  have hb0 : ∀ o, Below w.heap.size w (w.alloc o) := fun o => (Below.refl _ _).alloc (Nat.le_refl _) _
  go_enter Try.func16, Try.ntmps16
  go_wp2
  go_ret
  exact ⟨rfl, hb0 _⟩

set_option maxHeartbeats 1000000 in
set_option maxRecDepth 100000 in
theorem mindexPut_any (a : Option Addr) (n c : Nat) (l : List Pu) (w : World) (hrd : RdW w (.slice a n c) l) (hn : n = l.length) :
    Calls Try.prog 29 #[.slice a n c, .func (.func 16) #[] #[]] w fun e w' => ∃ i : Int, e = .returned (.int .i64 i) ∧ decide (0 ≤ i) = l.any (fun p => decide (p.1 < 34)) ∧ Below w.heap.size w w' := by
  have hm : n ≤ maxLen := hn ▸ hrd.len_le
  unfold maxLen at hm
  have HR := hide hrd
  have HN := hide hn
  clear hrd hn
  go_enter Try.func29, Try.ntmps29
  go_wp2
  go_loopw [8] (fun i wr => ∃ k : Nat, k ≤ n ∧ i = .int .i64 k ∧ Hid ((l.take k).any (fun p => decide (p.1 < 34)) = false) ∧ Below w.heap.size w wr) (fun i _ => n - (intOf i).toNat)
  case atStart => exact ⟨0, Nat.zero_le _, rfl, hide (by simp), Below.refl _ _⟩
  case round =>
    obtain ⟨k, hk, rfl, hall, hbel⟩ := hrel
    by_cases hlt : k < n
    · have hlt' : (k : Int) < n := by omega
      have hkl : k < l.length := by have := HN.out; omega
      obtain ⟨b, off, rfl, q0, x9, m9, d9, q1, q2, q3⟩ := (HR.out.carry hbel).at k hkl
      obtain ⟨N, hN⟩ : ∃ N, N = (l[k]).1 := ⟨_, rfl⟩
      rw [← hN] at q0
      have HN2 := hide hN
      clear q2 q3 hN
      go_wp2_with fail
      refine (mbelowFirst_any N _ _ rfl).mono ?_
      rintro e w1 ⟨rfl, hb1⟩
      have hb1' : Below w.heap.size w w1 := hbel.trans (hb1.mono hbel.size)
      clear hb1 q0 q1
      by_cases hq : N < 34
      · have HM := hide (show l.any (fun p => decide (p.1 < 34)) = true by
          rw [List.any_eq_true]
          exact ⟨l[k], List.getElem_mem hkl, by rw [← HN2.out]; simpa using hq⟩)
        have hq' : decide (N < 34) = true := by simpa using hq
        clear hq
        go_wp2
        go_ret
        exact ⟨_, rfl, by rw [HM.out]; simp, hb1'⟩
      · have HM := hide (show (l.take (k + 1)).any (fun p => decide (p.1 < 34)) = false by
          rw [any34 l k hkl, hall.out, ← HN2.out]; simpa using hq)
        have hq' : decide (N < 34) = false := by simpa using hq
        clear hq
        go_wp2
        go_roundw
        case rel => exact ⟨k + 1, by omega, rfl, HM, hb1'⟩
        case measure => simp only [intOf]; omega
    · have hd : decide ((k : Int) < n) = false := by simpa using (by omega : ¬ (k : Int) < n)
      have HM := hide (show l.any (fun p => decide (p.1 < 34)) = false by
        have := hall.out
        rwa [List.take_of_length_le (by have := HN.out; omega)] at this)
      go_wp2
      go_ret
      exact ⟨_, rfl, by rw [HM.out]; rfl, hbel⟩

set_option maxHeartbeats 1000000 in
set_option maxRecDepth 100000 in
theorem mcontainsPut_any (a : Option Addr) (n c : Nat) (l : List Pu) (w : World) (hrd : RdW w (.slice a n c) l) (hn : n = l.length) :
    Calls Try.prog 15 #[.slice a n c, .func (.func 16) #[] #[]] w fun e w' => e = .returned (.bool (l.any (fun p => decide (p.1 < 34)))) ∧ Below w.heap.size w w' := by
  have hix := mindexPut_any a n c l w hrd hn
  clear hrd hn
  go_enter Try.func15, Try.ntmps15
  go_wp2_with fail
  refine hix.mono ?_
  rintro e w1 ⟨i, rfl, hi, hb1⟩
  have HI := hide hi
  clear hi
  go_wp2
  go_ret
  exact ⟨by rw [← HI.out]; rfl, hb1⟩

theorem dk_cells {w : World} {p : Nat} {a b c : Value} (h : Bq w p 26 #[a, b, c]) : w.cell? ⟨p, 0, none⟩ = some a ∧ w.cell? ⟨p, 1, none⟩ = some b ∧ w.cell? ⟨p, 2, none⟩ = some c := ⟨h.cell 0, h.cell 1, h.cell 2⟩
theorem dir_cell {w : World} {p : Nat} {a : Value} (h : Bq w p 32 #[a]) : w.cell? ⟨p, 0, none⟩ = some a := h.cell 0

set_option maxHeartbeats 4000000 in
set_option maxRecDepth 100000 in
theorem told_any {d : Dk} {v : Value} (ge sz : Nat) (w : World) (hD : RdD w v d) (hL : latestS d = (ge, sz, 0)) :
    Calls Try.prog 17 #[v, .int .u32 ge, .int .i64 sz] w fun e w' => ∃ u, e = .returned (.tuple #[.agg #[u], .int .i64 (readE (genB d ge sz) (mny d))]) ∧ OwF w' w.heap.size u (readL (genB d ge sz) (mny d)) ∧ Below w.heap.size w w' := by
  obtain ⟨a1, c1, a2, c2, a3, c3, rfl, h1, h2, _⟩ := hD.form
  have HD := hide hD
  have H1 := hide h1
  have H2 := hide h2
  have HLT := hide (latest_lt hL)
  have HGL := hide (genB_len hL)
  have HMD := hide (show manyD d = ((mny d : Int), 0) by unfold manyD; rw [if_neg (by rw [chk_ok (latest_lt hL).2.2.2.2.2]; decide)])
  clear hD h1 h2 hL
  generalize e1 : d.1.length = n1 at *
  generalize e2 : d.2.1.length = n2 at *
  generalize e3 : d.2.2.length = n3 at *
  have E1 := hide e1
  have E2 := hide e2
  clear e1 e2 e3
  obtain ⟨w1, ew⟩ : ∃ w1, (w.alloc (.cells #[.slice a1 n1 c1, .slice a2 n2 c2, .slice a3 n3 c3] 26)).alloc (.cells #[.slice none 0 0] 32) = w1 := ⟨_, rfl⟩
  have q0 : Below w.heap.size w (w.alloc (.cells #[.slice a1 n1 c1, .slice a2 n2 c2, .slice a3 n3 c3] 26)) := (Below.refl _ _).alloc (Nat.le_refl _) _
  have q1 : Below (w.alloc (.cells #[.slice a1 n1 c1, .slice a2 n2 c2, .slice a3 n3 c3] 26)).heap.size (w.alloc (.cells #[.slice a1 n1 c1, .slice a2 n2 c2, .slice a3 n3 c3] 26)) w1 := by rw [← ew]; exact (Below.refl _ _).alloc (Nat.le_refl _) _
  have HQ_w1 := hide ((Bq.new w 26 #[.slice a1 n1 c1, .slice a2 n2 c2, .slice a3 n3 c3]).carry q1)
  have HR_w1 := hide (show BlkD w1 (w.heap.size + 1) by have := BlkD.new (w.alloc (.cells #[.slice a1 n1 c1, .slice a2 n2 c2, .slice a3 n3 c3] 26)) (.slice none 0 0); rw [← ew]; simpa using this)
  have HB_w1 := hide (q0.trans (q1.mono q0.size))
  clear q0 q1
  obtain ⟨k0, k1, k2⟩ := dk_cells HQ_w1.out
  go_enter Try.func17, Try.ntmps17
  go_wp2_with fail
  try rw [ew]
  have hmy := many_any (d := d) w1 (HD.out.carry HB_w1.out)
  rw [HMD.out] at hmy
  refine hmy.mono ?_
  rintro e w2 ⟨rfl, hb2⟩
  have HQ_w2 := hide (HQ_w1.out.carry hb2)
  have HR_w2 := hide (HR_w1.out.carry hb2)
  have HB_w2 := hide (show Below w.heap.size w w2 from HB_w1.out.trans (hb2.mono HB_w1.out.size))
  clear k0 k1 k2 ew hb2 hmy
  obtain ⟨ar, har⟩ : ∃ ar, ar = 2 + ge % 2 * 16 := ⟨_, rfl⟩
  have hsw := swhere_any ge w2 HLT.out.2.1
  rw [← har] at hsw
  have HAR := hide har
  clear har
  go_wp2_with fail
  refine hsw.mono ?_
  clear hsw
  rintro e w3' ⟨rfl, ew3⟩
  subst w3'
  obtain ⟨hsz, hge, hlen, hm, hm2, hok⟩ := HLT.out
  obtain ⟨b9, o9, ea, hnc⟩ := rd_some6 H1.out (by intro e; have := E1.out; rw [e] at this; simp at this; omega)
  obtain ⟨lo, hlo⟩ : ∃ lo, lo = ar * 128 := ⟨_, rfl⟩
  have hwr := lo_wrap HAR.out hlo
  obtain ⟨y1, y2, y3, y4, y5, y6, y7⟩ := lo_ok hlen hm hsz hnc HAR.out hlo
  have hrd := rd_at (by have := H1.out.carry HB_w2.out; rw [ea] at this; exact this) lo sz (by rw [E1.out]; exact y6) (by intro e; have := E1.out; rw [e] at this; simp at this; omega)
  have hgb : (d.1.drop lo).take sz = genB d ge sz := by unfold genB; rw [hlo, HAR.out, Nat.mul_comm]
  rw [hgb] at hrd
  have hR := read5_any _ _ _ (genB d ge sz) (mny d) w2 hrd HGL.out.symm (by rw [HGL.out]; omega)
  obtain ⟨RE, hRE⟩ : ∃ e, e = readE (genB d ge sz) (mny d) := ⟨_, rfl⟩
  obtain ⟨RL, hRL⟩ : ∃ e, e = readL (genB d ge sz) (mny d) := ⟨_, rfl⟩
  have HRE := hide hRE
  have HRL := hide hRL
  rw [← hRE, ← hRL] at hR
  obtain ⟨B, hB⟩ : ∃ B : Int, B = mny d := ⟨_, rfl⟩
  rw [← hB] at hR ⊢
  clear hrd hgb hsz hge hlen hm hm2 hlo hok y6 y7 hnc hRE hRL hB
  obtain ⟨k0, k1, k2⟩ := dk_cells HQ_w2.out
  rw [ea] at k0
  go_wp2_with fail
  refine hR.mono ?_
  rintro e w5 ⟨v5, rfl, ho5, hb5⟩
  have HR_w5 := hide (HR_w2.out.carry hb5)
  have HB_w5 := hide (show Below w.heap.size w w5 from HB_w2.out.trans (hb5.mono HB_w2.out.size))
  clear k0 k1 k2 hb5 hR hwr y1 y2 y3 y4 y5
  obtain ⟨m5, hm5⟩ : ∃ m5, m5 = RL.length := ⟨_, rfl⟩
  obtain ⟨u5, z5, e5⟩ : ∃ a c, v5 = .slice a m5 c := by rw [hm5]; exact ho5.form
  subst e5
  have hc := HR_w5.out.cell
  have hf := HR_w5.out.fz
  obtain ⟨z0, hg, -⟩ := HR_w5.out.put (.slice u5 m5 z5)
  obtain ⟨y, hy⟩ := HR_w5.out
  have HOR := hide ((ho5.keptS hg hy (by decide) (by decide)).mono HB_w2.out.size)
  have HBR := hide (HB_w5.out.grown hg HB_w5.out.size (by intro k hk; cases hk; exact Nat.le_succ _))
  clear hy hg ho5 hm5
  go_wp2
  obtain ⟨w9, hw9⟩ : ∃ w9, w9 = w5.setCell ⟨w.heap.size + 1, 0, none⟩ (.slice u5 m5 z5) := ⟨_, rfl⟩
  rw [← hw9] at z0 HOR HBR ⊢
  try simp only [Exit.inBlock, Exit.then]
  refine bodyPost_ret (v := .tuple #[.agg #[.slice u5 m5 z5], .int .i64 RE]) ?_ rfl ⟨_, by rw [← HRE.out], by rw [← HRL.out]; exact HOR.out, HBR.out⟩
  clear hw9 hc hf
  simp [results, Try.results17, go_sem, *]

end Go.Proofs.Ytlibnefibeikcaa

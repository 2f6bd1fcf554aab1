/-
  Are files great?
-/
import Derived.Test.YtnigdbhjaoeblaaGreatLm3
import Derived.Test.YtnigdbhjaoeblaaGreatMathFs8
import Derived.Test.YtnigdbhjaoeblaaGreatMathSl
import Derived.Test.YtnigdbhjaoeblaaGreatFiRef1
namespace Go.Proofs.YtnigdbhjaoeblaaGreat
open Go.RowKit
set_option linter.unusedVariables false
set_option linter.unusedSimpArgs false

set_option maxHeartbeats 2000000 in
set_option maxRecDepth 100000 in
theorem heavy7_any (a : Option Addr) (n c : Nat) (l : List St) (w : World) (hrd : RdS w (.slice a n c) l) (hn : n = l.length) :
    Calls Tryz.prog 61 #[.slice a n c] w fun e w' => ∃ r, e = .returned (.bool r) ∧ Hid (r = false → n ≤ 30) ∧ Below w.heap.size w w' := by
  have hm : n ≤ maxLen := hn ▸ hrd.len_le
  unfold maxLen at hm
  have HR := hide hrd
  have HN := hide hn
  clear hrd hn
  go_enter Tryz.func61, Tryz.ntmps61
  go_wp2
  go_loopw [3] (fun i wr => ∃ k : Nat, k ≤ n ∧ k ≤ 100 ∧ i = .int .i64 k ∧ wr = w) (fun i _ => n - (intOf i).toNat)
  case atStart => exact ⟨0, Nat.zero_le _, Nat.zero_le _, rfl, rfl⟩
  case round =>
    obtain ⟨k, hk, hk2, rfl, rfl⟩ := hrel
    by_cases hlt : k < n
    · have hlt' : (k : Int) < n := by omega
      by_cases hl2 : k < 100
      · have hl2' : (k : Int) < 100 := by omega
        have hkl : k < l.length := by have := HN.out; omega
        obtain ⟨b, off, rfl, -, -, q1, q2, -, a2, c2, q4, -⟩ := HR.out.at k hkl
        obtain ⟨s, hs⟩ : ∃ s, s = (l[k]).2.1 := ⟨_, rfl⟩
        obtain ⟨t, ht⟩ : ∃ t, t = (l[k]).2.2.1 := ⟨_, rfl⟩
        obtain ⟨m, hm4⟩ : ∃ m, m = (l[k]).2.2.2.2.length := ⟨_, rfl⟩
        rw [← hs] at q1
        rw [← ht] at q2
        rw [← hm4] at q4
        clear hs ht hm4
        by_cases c1 : 1000 < (bs s).size
        · have c1' : (1000 : Int) < (bs s).size := by omega
          go_wp2
          go_ret
          exact ⟨true, rfl, hide (fun h => by cases h), Below.refl _ _⟩
        · have c1' : decide ((1000 : Int) < (bs s).size) = false := decide_eq_false (by omega)
          by_cases c2 : 1000 < (bs t).size
          · have c2' : (1000 : Int) < (bs t).size := by omega
            go_wp2
            go_ret
            exact ⟨true, rfl, hide (fun h => by cases h), Below.refl _ _⟩
          · have c2' : decide ((1000 : Int) < (bs t).size) = false := decide_eq_false (by omega)
            by_cases c3 : 1000 < m
            · have c3' : (1000 : Int) < m := by omega
              go_wp2
              go_ret
              exact ⟨true, rfl, hide (fun h => by cases h), Below.refl _ _⟩
            · have c3' : decide ((1000 : Int) < m) = false := decide_eq_false (by omega)
              clear c1 c2 c3
              go_wp2
              go_roundw
              case rel => exact ⟨k + 1, by omega, by omega, rfl, by trivial⟩
              case measure => simp only [intOf]; omega
      · have hl2' : decide ((k : Int) < 100) = false := decide_eq_false (by omega)
        have g' : (30 : Int) < n := by omega
        go_wp2
        go_ret
        exact ⟨true, rfl, hide (fun h => by cases h), Below.refl _ _⟩
    · have hd : decide ((k : Int) < n) = false := decide_eq_false (by omega)
      by_cases g : 30 < n
      · have g' : (30 : Int) < n := by omega
        go_wp2
        go_ret
        exact ⟨true, rfl, hide (fun h => by cases h), Below.refl _ _⟩
      · have g' : decide ((30 : Int) < n) = false := decide_eq_false (by omega)
        go_wp2
        go_ret
        exact ⟨false, rfl, hide (fun _ => by omega), Below.refl _ _⟩

theorem cntS_take (l : List Ac) (k : Nat) (hk : k < l.length) : cntS (l.take (k + 1)) = cntS (l.take k) + if (l[k]).1 = false ∧ (l[k]).2.1 < 2 then 1 else 0 := by
  rw [List.take_succ_eq_append_getElem hk, cntS_append]
  congr 1
  unfold cntS
  rw [List.countP_singleton]
  by_cases h : (l[k]).1 = false ∧ (l[k]).2.1 < 2
  · rw [if_pos h, if_pos (by simp [h])]
  · rw [if_neg h, if_neg (by
      intro h2
      simp at h2
      exact h h2)]
set_option maxHeartbeats 2000000 in
set_option maxRecDepth 100000 in
theorem commits7_any (a : Option Addr) (n c : Nat) (l : List Ac) (w : World) (hrd : RdA w (.slice a n c) l) (hn : n = l.length) (hl : n ≤ 65536) :
    Calls Tryz.prog 63 #[.slice a n c] w fun e w' => e = .returned (.int .i64 (cntS l)) ∧ Below w.heap.size w w' := by
  have HR := hide hrd
  have HN := hide hn
  clear hrd hn
  go_enter Tryz.func63, Tryz.ntmps63
  go_wp2
  go_loopw [4, 3] (fun i v wr => ∃ k q : Nat, k ≤ n ∧ i = .int .i64 k ∧ v = .int .i64 q ∧ q ≤ k ∧ Hid (q = cntS (l.take k)) ∧ wr = w) (fun i _ _ => n - (intOf i).toNat)
  case atStart => exact ⟨0, 0, Nat.zero_le _, rfl, rfl, Nat.le_refl _, hide rfl, rfl⟩
  case round =>
    obtain ⟨k, q, hk, rfl, rfl, hq, HQ, rfl⟩ := hrel
    by_cases hlt : k < n
    · have hlt' : (k : Int) < n := by omega
      have hkl : k < l.length := by have := HN.out; omega
      obtain ⟨b, off, rfl, q0, q1, -⟩ := HR.out.at k hkl
      have HC := hide (cntS_take l k hkl)
      obtain ⟨s, hs⟩ : ∃ s, s = (l[k]).1 := ⟨_, rfl⟩
      obtain ⟨N, hN⟩ : ∃ N, N = (l[k]).2.1 := ⟨_, rfl⟩
      rw [← hs] at q0
      rw [← hN] at q1
      rw [← hs, ← hN, ← HQ.out] at HC
      clear hs hN
      cases s with
      | true =>
        have HC2 := hide (show q = cntS (l.take (k + 1)) by rw [HC.out, if_neg (by simp)]; rfl)
        go_wp2
        go_roundw
        case rel => exact ⟨k + 1, q, by omega, rfl, rfl, by omega, HC2, by trivial⟩
        case measure => simp only [intOf]; omega
      | false =>
        by_cases h2 : N < 2
        · have h2' : decide (N < 2) = true := decide_eq_true h2
          have HC2 := hide (show q + 1 = cntS (l.take (k + 1)) by rw [HC.out, if_pos ⟨rfl, h2⟩])
          go_wp2
          go_roundw
          case rel => exact ⟨k + 1, q + 1, by omega, rfl, rfl, by omega, HC2, by trivial⟩
          case measure => simp only [intOf]; omega
        · have h2' : decide (N < 2) = false := decide_eq_false h2
          have HC2 := hide (show q = cntS (l.take (k + 1)) by rw [HC.out, if_neg (fun h => h2 h.2)]; rfl)
          go_wp2
          go_roundw
          case rel => exact ⟨k + 1, q, by omega, rfl, rfl, by omega, HC2, by trivial⟩
          case measure => simp only [intOf]; omega
    · have hd : decide ((k : Int) < n) = false := decide_eq_false (by omega)
      have HE := hide (show q = cntS l by rw [HQ.out, List.take_of_length_le (by have := HN.out; omega)])
      go_wp2
      go_ret
      exact ⟨by rw [← HE.out]; rfl, Below.refl _ _⟩

end Go.Proofs.YtnigdbhjaoeblaaGreat
namespace Go.Proofs.YtnigdbhjaoeblaaGreat
open Go.RowKit
set_option linter.unusedVariables false
set_option linter.unusedSimpArgs false

structure Kt (w w' : World) : Prop where
  os : w'.os = w.os
  tape : w'.tape = w.tape
  output : w'.output = w.output
  size : w.heap.size ≤ w'.heap.size
  block : ∀ (k : Nat) (cs : Array Value) (t : TypeId) (fr : Nat × Nat), w.heap[k]? = some (.cells cs t fr) → t ≠ 33 → t ≠ 31 → w'.heap[k]? = some (.cells cs t fr)
theorem Kt.refl (w : World) : Kt w w := ⟨rfl, rfl, rfl, Nat.le_refl _, fun _ _ _ _ h _ _ => h⟩
theorem Kt.trans {a b c : World} (h : Kt a b) (k : Kt b c) : Kt a c := ⟨k.os.trans h.os, k.tape.trans h.tape, k.output.trans h.output, Nat.le_trans h.size k.size, fun i cs t fr hi h1 h2 => k.block i cs t fr (h.block i cs t fr hi h1 h2) h1 h2⟩
theorem Kt.below {w w' : World} (h : Below w.heap.size w w') : Kt w w' := ⟨h.os, h.tape, h.output, h.size, fun k cs t fr hk _ _ => by
  have : k < w.heap.size := by
    obtain ⟨hk, -⟩ := Array.getElem?_eq_some_iff.1 hk
    exact hk
  rw [h.block k this]; exact hk⟩
theorem Kt.grown {w w' : World} {q : Nat} {cs : Array Value} {t : TypeId} {fr : Nat × Nat} (h : w.grownBy w' (some q)) (hq : w.heap[q]? = some (.cells cs t fr)) (ht : t = 33 ∨ t = 31) : Kt w w' := ⟨h.os, h.tape, h.output, h.size, fun k cs2 t2 fr2 hk h1 h2 => by
  have hlt : k < w.heap.size := by
    obtain ⟨hk, -⟩ := Array.getElem?_eq_some_iff.1 hk
    exact hk
  have hne : some k ≠ some q := by
    intro e
    injection e with e
    subst e
    rw [hk] at hq
    injection hq with hq
    injection hq with _ e2 _
    subst e2
    rcases ht with e | e
    · exact h1 e
    · exact h2 e
  rw [h.block k hlt hne]; exact hk⟩
theorem own_kt {w w' : World} {base sz n : Nat} {e : TypeId} {v : Value} {xs : List Value} (h : w.ownsRow base e sz v n xs) (hk : Kt w w') (h1 : e ≠ 33) (h2 : e ≠ 31) : w'.ownsRow base e sz v n xs := by
  refine ⟨h.1, ?_⟩
  rcases h.2 with h3 | ⟨g, cap, cur, e0, e1, e2, e3⟩
  · exact .inl h3
  · exact .inr ⟨g, cap, cur, e0, e1, hk.block g _ _ _ e2 h1 h2, e3⟩
theorem OwB.kt {w w' : World} {base : Nat} {v : Value} {l : List UInt8} (h : OwB w base v l) (hk : Kt w w') : OwB w' base v l := own_kt h hk (by decide) (by decide)
theorem OwW.kt {w w' : World} {base : Nat} {v : Value} {l : List Pu} (h : OwW w base v l) (hk : Kt w w') : OwW w' base v l := by
  obtain ⟨z, h1, h2, h3⟩ := h
  exact ⟨z, h1, own_kt h2 hk (by decide) (by decide), fun p hp => (h3 p hp).kt hk⟩
theorem OwA.kt {w w' : World} {base : Nat} {v : Value} {l : List Ac} (h : OwA w base v l) (hk : Kt w w') : OwA w' base v l := by
  obtain ⟨z, h1, h2, h3⟩ := h
  exact ⟨z, h1, own_kt h2 hk (by decide) (by decide), fun p hp => (h3 p hp).kt hk⟩
theorem OwD.kt {w w' : World} {base : Nat} {v : Value} {d : Dk} (h : OwD w base v d) (hk : Kt w w') : OwD w' base v d := by
  obtain ⟨x, y, z, e, h1, h2, h3⟩ := h
  exact ⟨x, y, z, e, h1.kt hk, h2.kt hk, h3.kt hk⟩
theorem OwE.kt {w w' : World} {base : Nat} {v : Value} {l : List Ex} (h : OwE w base v l) (hk : Kt w w') : OwE w' base v l := own_kt h hk (by decide) (by decide)
theorem OwF.kt {w w' : World} {base : Nat} {v : Value} {fs : List Fl} (h : OwF w base v fs) (hk : Kt w w') : OwF w' base v fs := by
  obtain ⟨ps, e, h1, h2⟩ := h
  exact ⟨ps, e, own_kt h1 hk (by decide) (by decide), fun p hp => (h2 p hp).kt hk⟩
theorem OwFs.kt {w w' : World} {base : Nat} {v : Value} {f : Fsd} (h : OwFs w base v f) (hk : Kt w w') : OwFs w' base v f := by
  obtain ⟨d1, d2, d3, x, y, e, h1, h2, h3⟩ := h
  exact ⟨d1, d2, d3, x, y, e, h1.kt hk, h2.kt hk, h3.kt hk⟩
/-- Files that are read in such rows. -/
def RdT (w : World) (x : FsV) (f : Fsd) : Prop := ∀ w', Kt w w' → RdX w' x f
theorem RdT.rd {w : World} {x : FsV} {f : Fsd} (h : RdT w x f) : RdX w x f := h w (Kt.refl w)
theorem RdT.kt {w w' : World} {x : FsV} {f : Fsd} (h : RdT w x f) (hk : Kt w w') : RdT w' x f := fun w2 h2 => h w2 (hk.trans h2)
theorem RdT.carry {w w' : World} {x : FsV} {f : Fsd} (h : RdT w x f) (hb : Below w.heap.size w w') : RdT w' x f := h.kt (Kt.below hb)
theorem OwFs.rdx {w : World} {base : Nat} {x : FsV} {f : Fsd} (h : OwFs w base x.val f) : RdX w x f := by
  obtain ⟨x', ex', hx'⟩ := h.form
  have e : x' = x := FsV.ext_val ex'.symm
  subst e
  exact hx'
theorem OwFs.rdt {w : World} {base : Nat} {x : FsV} {f : Fsd} (h : OwFs w base x.val f) : RdT w x f := fun w' hk => (h.kt hk).rdx
/-- A directory that is read so. -/
def RdFT (w : World) (v : Value) (fs : List Fl) : Prop := ∀ w', Kt w w' → RdF w' v fs
theorem RdFT.kt {w w' : World} {v : Value} {fs : List Fl} (h : RdFT w v fs) (hk : Kt w w') : RdFT w' v fs := fun w2 h2 => h w2 (hk.trans h2)
theorem RdT.kl {w : World} {x : FsV} {f : Fsd} (h : RdT w x f) : RdFT w (.slice x.a5 x.n5 x.c5) f.2.2.2 := fun w' hk => (h w' hk).kl
/-- A row of directories. -/
def DirsT (w : World) (base : Nat) (v : Value) (L : List (List Fl)) : Prop := ∃ ps : List Value, ps.length = L.length ∧ w.ownsRow base 31 1 v L.length ps ∧ ∀ (j : Nat) (u : Value) (D : List Fl), ps[j]? = some u → L[j]? = some D → ∃ a c, u = .slice a D.length c ∧ RdFT w u D
theorem DirsT.form {w : World} {base : Nat} {v : Value} {L : List (List Fl)} (h : DirsT w base v L) : ∃ a c, v = .slice a L.length c := by
  obtain ⟨ps, h1, h2, h3⟩ := h
  rcases h2.2 with ⟨rfl, h4⟩ | ⟨g, cap, cur, rfl, _⟩
  · rw [h4]; exact ⟨_, _, rfl⟩
  · exact ⟨_, _, rfl⟩
theorem DirsT.carry {w w' : World} {base : Nat} {v : Value} {L : List (List Fl)} (h : DirsT w base v L) (hb : Below w.heap.size w w') : DirsT w' base v L := by
  obtain ⟨ps, h1, h2, h3⟩ := h
  refine ⟨ps, h1, own_carry h2 hb, fun j u D hu hD => ?_⟩
  obtain ⟨a, c, e, h4⟩ := h3 j u D hu hD
  exact ⟨a, c, e, h4.kt (Kt.below hb)⟩
theorem DirsT.box {w w' : World} {base q : Nat} {v : Value} {L : List (List Fl)} (h : DirsT w base v L) (hg : w.grownBy w' (some q)) (hq : FsB w q) : DirsT w' base v L := by
  obtain ⟨ps, h1, h2, h3⟩ := h
  obtain ⟨v0, v1, v2, v3, v4, v5, hq⟩ := hq
  have hk : Kt w w' := Kt.grown hg hq (.inl rfl)
  refine ⟨ps, h1, ⟨h2.1, ?_⟩, fun j u D hu hD => ?_⟩
  · rcases h2.2 with h3 | ⟨g, cap, cur, e0, e1, e2, e3⟩
    · exact .inl h3
    · refine .inr ⟨g, cap, cur, e0, e1, ?_, e3⟩
      have hlt : g < w.heap.size := by
        obtain ⟨hk, -⟩ := Array.getElem?_eq_some_iff.1 e2
        exact hk
      rw [hg.block g hlt (fun e => by
        injection e with e
        subst e
        have hq2 : w.heap[g]? = _ := hq
        rw [e2] at hq2
        injection hq2 with hq2
        injection hq2 with _ e2 _
        exact absurd e2 (by decide))]
      exact e2
  · obtain ⟨a, c, e, h4⟩ := h3 j u D hu hD
    exact ⟨a, c, e, h4.kt hk⟩
theorem DirsT.one (w : World) (x : FsV) (f : Fsd) (h : RdT w x f) : DirsT (w.alloc (.cells #[.slice x.a5 x.n5 x.c5] 31)) w.heap.size (.slice (some ⟨w.heap.size, 0, none⟩) 1 1) [f.2.2.2] := by
  have hb : Below w.heap.size w (w.alloc (.cells #[.slice x.a5 x.n5 x.c5] 31)) := (Below.refl _ _).alloc (Nat.le_refl _) _
  refine ⟨[.slice x.a5 x.n5 x.c5], rfl, ⟨rfl, .inr ⟨w.heap.size, 1, #[.slice x.a5 x.n5 x.c5], rfl, Nat.le_refl _, heap_alloc_new w _, Nat.le_refl _, by unfold maxLen; decide, rfl, rfl⟩⟩, fun j u D hu hD => ?_⟩
  match j, hu, hD with
  | 0, hu, hD =>
    simp at hu hD
    subst hu hD
    exact ⟨_, _, by rw [← h.rd.n5], h.kl.kt (Kt.below hb)⟩
theorem Tryz.infoDir : (Tryz.prog.info? 31).map (fun i => (i.zero, i.size, i.bytes)) = some (some (.agg #[.slice none 0 0]), 1, 24) := by kernel_rfl
/-- A directory more. -/
theorem app_dir {wr : World} {base m : Nat} {v : Value} {L : List (List Fl)} (hown : DirsT wr base v L) (hm : m = L.length) (hb : base ≤ wr.heap.size) (hL : m ≤ 1000) (x : FsV) (f : Fsd) (hx : RdT wr x f) :
    ∃ g c w', (Builtin.append_ #[106, 106] 106 #[v, .slice (some ⟨wr.heap.size, 0, none⟩) 1 1]).run Tryz.prog (wr.alloc (.cells #[.slice x.a5 x.n5 x.c5] 31)) = .ok (.slice (some ⟨g, 0, none⟩) (m + 1) c) w' ∧
      DirsT w' base (.slice (some ⟨g, 0, none⟩) (m + 1) c) (L ++ [f.2.2.2]) ∧ ∃ w1, Below wr.heap.size wr w1 ∧ (Kt w1 w' ∧ w1.grownBy w' v.ownBlock) ∧ ∀ q, v.ownBlock = some q → base ≤ q ∧ q < wr.heap.size ∧ ∃ cs fr, wr.heap[q]? = some (.cells cs 31 fr) := by
  subst hm
  obtain ⟨w8, ew8⟩ : ∃ w8, w8 = wr.alloc (.cells #[.slice x.a5 x.n5 x.c5] 31) := ⟨_, rfl⟩
  rw [← ew8]
  have hb1 : Below wr.heap.size wr w8 := by rw [ew8]; exact (Below.refl _ _).alloc (Nat.le_refl _) _
  have hn8 : ∀ j u, ([Value.slice x.a5 x.n5 x.c5] : List Value)[j]? = some u → w8.cell? ((⟨wr.heap.size, 0, none⟩ : Addr).add j) = some u := by
    intro j u hj
    rw [ew8]
    have := World.news_of_block (w := wr.alloc (.cells #[.slice x.a5 x.n5 x.c5] 31)) (heap_alloc_new wr _) j u (by simpa using hj)
    simpa using this
  obtain ⟨i0, hi, hz0, hz1, hz2⟩ := info_parts Tryz.infoDir
  obtain ⟨ps, h1, h2, h3⟩ := hown.carry hb1
  obtain ⟨v9, w', hrun9, hown', hg, _⟩ := run_append_own (P := Tryz.prog) w8 base 106 106 31 i0 _ 1 24 Tryz.underlying106 hi hz0 hz1 hz2 rfl (by decide) _ _ _ h2 ⟨wr.heap.size, 0, none⟩ 1 1 [.slice x.a5 x.n5 x.c5] rfl hn8 (by intro u hu; simp at hu; subst hu; rfl) (by unfold maxLen; omega) (by omega) (Nat.le_trans hb hb1.size)
  have htyp : ∀ q, v.ownBlock = some q → base ≤ q ∧ q < wr.heap.size ∧ ∃ cs fr, wr.heap[q]? = some (.cells cs 31 fr) := by
    intro q hq
    obtain ⟨ps0, g1, g2, g3⟩ := hown
    rcases g2.2 with ⟨rfl, _⟩ | ⟨g, cap, cur, rfl, e1, e2, e3⟩
    · cases hq
    · have : g = q := by simpa [Value.ownBlock] using hq
      subst this
      exact ⟨e1, by obtain ⟨hk, -⟩ := Array.getElem?_eq_some_iff.1 e2; exact hk, _, _, e2⟩
  have hkt : Kt w8 w' := by
    cases hq : v.ownBlock with
    | none => rw [hq] at hg; exact ⟨hg.os, hg.tape, hg.output, hg.size, fun k cs t fr hk _ _ => by
        rw [hg.block k (by obtain ⟨hk, -⟩ := Array.getElem?_eq_some_iff.1 hk; exact hk) (by simp)]; exact hk⟩
    | some q =>
      rw [hq] at hg
      obtain ⟨_, hlt, cs, fr, hq2⟩ := htyp q hq
      exact Kt.grown hg (by rw [hb1.block q hlt]; exact hq2) (.inr rfl)
  have hD : DirsT w' base v9 (L ++ [f.2.2.2]) := by
    refine ⟨ps ++ [.slice x.a5 x.n5 x.c5], by simp [h1], by rw [List.length_append]; exact hown', fun j u D hu hD => ?_⟩
    by_cases hj : j < L.length
    · rw [List.getElem?_append_left (by omega)] at hu
      rw [List.getElem?_append_left hj] at hD
      obtain ⟨a2, c2, e, h4⟩ := h3 j u D hu hD
      exact ⟨a2, c2, e, h4.kt hkt⟩
    · rw [List.getElem?_append_right (by omega)] at hu hD
      have hj2 : j - ps.length = 0 := by
        obtain ⟨hk, -⟩ := List.getElem?_eq_some_iff.1 hu
        simpa using hk
      rw [hj2] at hu
      rw [← h1, hj2] at hD
      simp at hu hD
      subst hu hD
      exact ⟨_, _, by rw [← hx.rd.n5], (hx.kl.kt (Kt.below hb1)).kt hkt⟩
  rcases hown'.2 with ⟨_, h0⟩ | ⟨g, cap, cur, h0, _⟩
  · exact absurd h0 (by omega)
  · subst h0
    exact ⟨g, cap, w', hrun9, hD, w8, hb1, ⟨hkt, hg⟩, htyp⟩

end Go.Proofs.YtnigdbhjaoeblaaGreat
namespace Go.Proofs.YtnigdbhjaoeblaaGreat
open Go.RowKit
set_option linter.unusedVariables false
set_option linter.unusedSimpArgs false

set_option maxHeartbeats 1000000 in
set_option maxRecDepth 100000 in
theorem great6_any (x : FsV) (f : Fsd) (w : World) (h : RdX w x f) (hs : (∀ g ∈ f.2.2.1, g.2.length ≤ 1000000000000000) ∧ ∀ g ∈ f.2.2.2, g.2.length ≤ 1000000000000000) :
    Calls Tryz.prog 27 #[x.val] w fun e w' => ∃ r, e = .returned (.bool r) ∧ (r = false → (f.1.1.length ≤ 100000 ∧ f.1.2.1.length ≤ 2000 ∧ f.1.2.2.length ≤ 2000) ∧ okG f.2.2.1 ∧ okG f.2.2.2) ∧ Below w.heap.size w w' := by
  have HSZ := hide hs
  clear hs
  obtain ⟨w1, ew⟩ : ∃ w1, w.alloc (.cells x.cs 33) = w1 := ⟨_, rfl⟩
  have hb1 : Below w.heap.size w w1 := by rw [← ew]; exact (Below.refl _ _).alloc (Nat.le_refl _) _
  have HF_w1 := hide (show FsAt w1 w.heap.size x by rw [← ew]; exact Bq.new _ _ _)
  obtain ⟨k0, k1, k2, k3, k4, k5⟩ := fs_cells HF_w1.out
  have HX := hide h
  have HB_w1 := hide hb1
  clear h hb1
  unfold FsV.val
  unfold FsV.cs at ew
  go_enter Tryz.func27, Tryz.ntmps27
  go_wp2_with fail
  refine (great_any (d := f.1) w1 (HX.out.d.carry HB_w1.out)).mono ?_
  rintro e w2 ⟨⟨r1, rfl, hr1⟩, hb2⟩
  have HF_w2 := hide (HF_w1.out.carry hb2)
  have HB_w2 := hide (show Below w.heap.size w w2 from HB_w1.out.trans (hb2.mono HB_w1.out.size))
  clear k0 k1 k2 k3 k4 k5 ew hb2
  have H1 := hide hr1
  clear hr1
  cases r1 with
  | true =>
    go_wp2
    go_ret
    exact ⟨_, rfl, (fun h => by cases h), HB_w2.out⟩
  | false =>
  obtain ⟨k0, k1, k2, k3, k4, k5⟩ := fs_cells HF_w2.out
  go_wp2_with fail
  refine (great5_any _ _ _ f.2.2.1 w2 (HX.out.fl.carry HB_w2.out) HX.out.n4 HSZ.out.1).mono ?_
  rintro e w3 ⟨r2, rfl, hr2, hb3⟩
  have HF_w3 := hide (HF_w2.out.carry hb3)
  have HB_w3 := hide (show Below w.heap.size w w3 from HB_w2.out.trans (hb3.mono HB_w2.out.size))
  clear k0 k1 k2 k3 k4 k5 hb3
  have H2 := hide hr2
  clear hr2
  cases r2 with
  | true =>
    go_wp2
    go_ret
    exact ⟨_, rfl, (fun h => by cases h), HB_w3.out⟩
  | false =>
  obtain ⟨k0, k1, k2, k3, k4, k5⟩ := fs_cells HF_w3.out
  go_wp2_with fail
  refine (great5_any _ _ _ f.2.2.2 w3 (HX.out.kl.carry HB_w3.out) HX.out.n5 HSZ.out.2).mono ?_
  rintro e w4 ⟨r3, rfl, hr3, hb4⟩
  have HB_w4 := hide (show Below w.heap.size w w4 from HB_w3.out.trans (hb4.mono HB_w3.out.size))
  clear k0 k1 k2 k3 k4 k5 hb4
  have H3 := hide hr3
  clear hr3
  go_wp2
  go_ret
  exact ⟨r3, rfl, fun h => ⟨H1.out (by trivial), H2.out (by trivial), H3.out h⟩, HB_w4.out⟩

end Go.Proofs.YtnigdbhjaoeblaaGreat

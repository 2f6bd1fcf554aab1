/-
  What the statement MountTorn answers.
-/
import Derived.Test.YtnigdbhjaoeblaaGreatLm3
import Derived.Test.YtnigdbhjaoeblaaGreatMathFs8
import Derived.Test.YtnigdbhjaoeblaaGreatMathSl
import Derived.Test.YtnigdbhjaoeblaaGreatFiCut
import Derived.Test.YtnigdbhjaoeblaaGreatFiTur
import Derived.Test.YtnigdbhjaoeblaaGreatRegP
namespace Go.Proofs.YtnigdbhjaoeblaaGreat
open Go.RowKit
set_option linter.unusedVariables false
set_option linter.unusedSimpArgs false

set_option maxHeartbeats 2000000 in
set_option maxRecDepth 100000 in
theorem heavy7_any (a : Option Addr) (n c : Nat) (l : List St) (w : World) (hrd : RdS w (.slice a n c) l) (hn : n = l.length) :
    Calls Tryz.prog 61 #[.slice a n c] w fun e w' => ∃ r, e = .returned (.bool r) ∧ Hid (r = false → n ≤ 30) ∧ Below w.heap.size w w' := by
  have hm : n ≤ maxLen := hn ▸ hrd.len_le
  unfold maxLen at hm
  have HR := hide hrd
  have HN := hide hn
  clear hrd hn
  go_enter Tryz.func61, Tryz.ntmps61
  go_wp2
  go_loopw [3] (fun i wr => ∃ k : Nat, k ≤ n ∧ k ≤ 100 ∧ i = .int .i64 k ∧ wr = w) (fun i _ => n - (intOf i).toNat)
  case atStart => exact ⟨0, Nat.zero_le _, Nat.zero_le _, rfl, rfl⟩
  case round =>
    obtain ⟨k, hk, hk2, rfl, rfl⟩ := hrel
    by_cases hlt : k < n
    · have hlt' : (k : Int) < n := by omega
      by_cases hl2 : k < 100
      · have hl2' : (k : Int) < 100 := by omega
        have hkl : k < l.length := by have := HN.out; omega
        obtain ⟨b, off, rfl, -, -, q1, q2, -, a2, c2, q4, -⟩ := HR.out.at k hkl
        obtain ⟨s, hs⟩ : ∃ s, s = (l[k]).2.1 := ⟨_, rfl⟩
        obtain ⟨t, ht⟩ : ∃ t, t = (l[k]).2.2.1 := ⟨_, rfl⟩
        obtain ⟨m, hm4⟩ : ∃ m, m = (l[k]).2.2.2.2.length := ⟨_, rfl⟩
        rw [← hs] at q1
        rw [← ht] at q2
        rw [← hm4] at q4
        clear hs ht hm4
        by_cases c1 : 1000 < (bs s).size
        · have c1' : (1000 : Int) < (bs s).size := by omega
          go_wp2
          go_ret
          exact ⟨true, rfl, hide (fun h => by cases h), Below.refl _ _⟩
        · have c1' : decide ((1000 : Int) < (bs s).size) = false := decide_eq_false (by omega)
          by_cases c2 : 1000 < (bs t).size
          · have c2' : (1000 : Int) < (bs t).size := by omega
            go_wp2
            go_ret
            exact ⟨true, rfl, hide (fun h => by cases h), Below.refl _ _⟩
          · have c2' : decide ((1000 : Int) < (bs t).size) = false := decide_eq_false (by omega)
            by_cases c3 : 1000 < m
            · have c3' : (1000 : Int) < m := by omega
              go_wp2
              go_ret
              exact ⟨true, rfl, hide (fun h => by cases h), Below.refl _ _⟩
            · have c3' : decide ((1000 : Int) < m) = false := decide_eq_false (by omega)
              clear c1 c2 c3
              go_wp2
              go_roundw
              case rel => exact ⟨k + 1, by omega, by omega, rfl, by trivial⟩
              case measure => simp only [intOf]; omega
      · have hl2' : decide ((k : Int) < 100) = false := decide_eq_false (by omega)
        have g' : (30 : Int) < n := by omega
        go_wp2
        go_ret
        exact ⟨true, rfl, hide (fun h => by cases h), Below.refl _ _⟩
    · have hd : decide ((k : Int) < n) = false := decide_eq_false (by omega)
      by_cases g : 30 < n
      · have g' : (30 : Int) < n := by omega
        go_wp2
        go_ret
        exact ⟨true, rfl, hide (fun h => by cases h), Below.refl _ _⟩
      · have g' : decide ((30 : Int) < n) = false := decide_eq_false (by omega)
        go_wp2
        go_ret
        exact ⟨false, rfl, hide (fun _ => by omega), Below.refl _ _⟩

end Go.Proofs.YtnigdbhjaoeblaaGreat
namespace Go.Proofs.YtnigdbhjaoeblaaGreat
open Go.RowKit
set_option linter.unusedVariables false
set_option linter.unusedSimpArgs false

structure Kt (w w' : World) : Prop where
  os : w'.os = w.os
  tape : w'.tape = w.tape
  output : w'.output = w.output
  size : w.heap.size ≤ w'.heap.size
  block : ∀ (k : Nat) (cs : Array Value) (t : TypeId) (fr : Nat × Nat), w.heap[k]? = some (.cells cs t fr) → t ≠ 33 → t ≠ 31 → w'.heap[k]? = some (.cells cs t fr)
theorem Kt.refl (w : World) : Kt w w := ⟨rfl, rfl, rfl, Nat.le_refl _, fun _ _ _ _ h _ _ => h⟩
theorem Kt.trans {a b c : World} (h : Kt a b) (k : Kt b c) : Kt a c := ⟨k.os.trans h.os, k.tape.trans h.tape, k.output.trans h.output, Nat.le_trans h.size k.size, fun i cs t fr hi h1 h2 => k.block i cs t fr (h.block i cs t fr hi h1 h2) h1 h2⟩
theorem Kt.below {w w' : World} (h : Below w.heap.size w w') : Kt w w' := ⟨h.os, h.tape, h.output, h.size, fun k cs t fr hk _ _ => by
  have : k < w.heap.size := by
    obtain ⟨hk, -⟩ := Array.getElem?_eq_some_iff.1 hk
    exact hk
  rw [h.block k this]; exact hk⟩
theorem Kt.grown {w w' : World} {q : Nat} {cs : Array Value} {t : TypeId} {fr : Nat × Nat} (h : w.grownBy w' (some q)) (hq : w.heap[q]? = some (.cells cs t fr)) (ht : t = 33 ∨ t = 31) : Kt w w' := ⟨h.os, h.tape, h.output, h.size, fun k cs2 t2 fr2 hk h1 h2 => by
  have hlt : k < w.heap.size := by
    obtain ⟨hk, -⟩ := Array.getElem?_eq_some_iff.1 hk
    exact hk
  have hne : some k ≠ some q := by
    intro e
    injection e with e
    subst e
    rw [hk] at hq
    injection hq with hq
    injection hq with _ e2 _
    subst e2
    rcases ht with e | e
    · exact h1 e
    · exact h2 e
  rw [h.block k hlt hne]; exact hk⟩
theorem own_kt {w w' : World} {base sz n : Nat} {e : TypeId} {v : Value} {xs : List Value} (h : w.ownsRow base e sz v n xs) (hk : Kt w w') (h1 : e ≠ 33) (h2 : e ≠ 31) : w'.ownsRow base e sz v n xs := by
  refine ⟨h.1, ?_⟩
  rcases h.2 with h3 | ⟨g, cap, cur, e0, e1, e2, e3⟩
  · exact .inl h3
  · exact .inr ⟨g, cap, cur, e0, e1, hk.block g _ _ _ e2 h1 h2, e3⟩
theorem OwB.kt {w w' : World} {base : Nat} {v : Value} {l : List UInt8} (h : OwB w base v l) (hk : Kt w w') : OwB w' base v l := own_kt h hk (by decide) (by decide)
theorem OwW.kt {w w' : World} {base : Nat} {v : Value} {l : List Pu} (h : OwW w base v l) (hk : Kt w w') : OwW w' base v l := by
  obtain ⟨z, h1, h2, h3⟩ := h
  exact ⟨z, h1, own_kt h2 hk (by decide) (by decide), fun p hp => (h3 p hp).kt hk⟩
theorem OwA.kt {w w' : World} {base : Nat} {v : Value} {l : List Ac} (h : OwA w base v l) (hk : Kt w w') : OwA w' base v l := by
  obtain ⟨z, h1, h2, h3⟩ := h
  exact ⟨z, h1, own_kt h2 hk (by decide) (by decide), fun p hp => (h3 p hp).kt hk⟩
theorem OwD.kt {w w' : World} {base : Nat} {v : Value} {d : Dk} (h : OwD w base v d) (hk : Kt w w') : OwD w' base v d := by
  obtain ⟨x, y, z, e, h1, h2, h3⟩ := h
  exact ⟨x, y, z, e, h1.kt hk, h2.kt hk, h3.kt hk⟩
theorem OwE.kt {w w' : World} {base : Nat} {v : Value} {l : List Ex} (h : OwE w base v l) (hk : Kt w w') : OwE w' base v l := own_kt h hk (by decide) (by decide)
theorem OwF.kt {w w' : World} {base : Nat} {v : Value} {fs : List Fl} (h : OwF w base v fs) (hk : Kt w w') : OwF w' base v fs := by
  obtain ⟨ps, e, h1, h2⟩ := h
  exact ⟨ps, e, own_kt h1 hk (by decide) (by decide), fun p hp => (h2 p hp).kt hk⟩
theorem OwFs.kt {w w' : World} {base : Nat} {v : Value} {f : Fsd} (h : OwFs w base v f) (hk : Kt w w') : OwFs w' base v f := by
  obtain ⟨d1, d2, d3, x, y, e, h1, h2, h3⟩ := h
  exact ⟨d1, d2, d3, x, y, e, h1.kt hk, h2.kt hk, h3.kt hk⟩
/-- Files that are read in such rows. -/
def RdT (w : World) (x : FsV) (f : Fsd) : Prop := ∀ w', Kt w w' → RdX w' x f
theorem RdT.rd {w : World} {x : FsV} {f : Fsd} (h : RdT w x f) : RdX w x f := h w (Kt.refl w)
theorem RdT.kt {w w' : World} {x : FsV} {f : Fsd} (h : RdT w x f) (hk : Kt w w') : RdT w' x f := fun w2 h2 => h w2 (hk.trans h2)
theorem RdT.carry {w w' : World} {x : FsV} {f : Fsd} (h : RdT w x f) (hb : Below w.heap.size w w') : RdT w' x f := h.kt (Kt.below hb)
theorem OwFs.rdx {w : World} {base : Nat} {x : FsV} {f : Fsd} (h : OwFs w base x.val f) : RdX w x f := by
  obtain ⟨x', ex', hx'⟩ := h.form
  have e : x' = x := FsV.ext_val ex'.symm
  subst e
  exact hx'
theorem OwFs.rdt {w : World} {base : Nat} {x : FsV} {f : Fsd} (h : OwFs w base x.val f) : RdT w x f := fun w' hk => (h.kt hk).rdx
/-- A directory that is read so. -/
def RdFT (w : World) (v : Value) (fs : List Fl) : Prop := ∀ w', Kt w w' → RdF w' v fs
theorem RdFT.kt {w w' : World} {v : Value} {fs : List Fl} (h : RdFT w v fs) (hk : Kt w w') : RdFT w' v fs := fun w2 h2 => h w2 (hk.trans h2)
theorem RdT.kl {w : World} {x : FsV} {f : Fsd} (h : RdT w x f) : RdFT w (.slice x.a5 x.n5 x.c5) f.2.2.2 := fun w' hk => (h w' hk).kl
/-- A row of directories. -/
def DirsT (w : World) (base : Nat) (v : Value) (L : List (List Fl)) : Prop := ∃ ps : List Value, ps.length = L.length ∧ w.ownsRow base 31 1 v L.length ps ∧ ∀ (j : Nat) (u : Value) (D : List Fl), ps[j]? = some u → L[j]? = some D → ∃ a c, u = .slice a D.length c ∧ RdFT w u D
theorem DirsT.form {w : World} {base : Nat} {v : Value} {L : List (List Fl)} (h : DirsT w base v L) : ∃ a c, v = .slice a L.length c := by
  obtain ⟨ps, h1, h2, h3⟩ := h
  rcases h2.2 with ⟨rfl, h4⟩ | ⟨g, cap, cur, rfl, _⟩
  · rw [h4]; exact ⟨_, _, rfl⟩
  · exact ⟨_, _, rfl⟩
theorem DirsT.carry {w w' : World} {base : Nat} {v : Value} {L : List (List Fl)} (h : DirsT w base v L) (hb : Below w.heap.size w w') : DirsT w' base v L := by
  obtain ⟨ps, h1, h2, h3⟩ := h
  refine ⟨ps, h1, own_carry h2 hb, fun j u D hu hD => ?_⟩
  obtain ⟨a, c, e, h4⟩ := h3 j u D hu hD
  exact ⟨a, c, e, h4.kt (Kt.below hb)⟩
theorem DirsT.one (w : World) (x : FsV) (f : Fsd) (h : RdT w x f) : DirsT (w.alloc (.cells #[.slice x.a5 x.n5 x.c5] 31)) w.heap.size (.slice (some ⟨w.heap.size, 0, none⟩) 1 1) [f.2.2.2] := by
  have hb : Below w.heap.size w (w.alloc (.cells #[.slice x.a5 x.n5 x.c5] 31)) := (Below.refl _ _).alloc (Nat.le_refl _) _
  refine ⟨[.slice x.a5 x.n5 x.c5], rfl, ⟨rfl, .inr ⟨w.heap.size, 1, #[.slice x.a5 x.n5 x.c5], rfl, Nat.le_refl _, heap_alloc_new w _, Nat.le_refl _, by unfold maxLen; decide, rfl, rfl⟩⟩, fun j u D hu hD => ?_⟩
  match j, hu, hD with
  | 0, hu, hD =>
    simp at hu hD
    subst hu hD
    exact ⟨_, _, by rw [← h.rd.n5], h.kl.kt (Kt.below hb)⟩
end Go.Proofs.YtnigdbhjaoeblaaGreat
namespace Go.Proofs.YtnigdbhjaoeblaaGreat
open Go.RowKit
set_option linter.unusedVariables false
set_option linter.unusedSimpArgs false

def Got (w : World) (z : FsV) (X : Fsd) (y : FsV) (F : Fsd) : Prop := (y = z ∧ F = X) ∨ RdT w y F
theorem Got.kt {w w' : World} {z : FsV} {X : Fsd} {y : FsV} {F : Fsd} (h : Got w z X y F) (hk : Kt w w') : Got w' z X y F := by
  rcases h with h | h
  · exact .inl h
  · exact .inr (h.kt hk)
theorem Got.carry {w w' : World} {z : FsV} {X : Fsd} {y : FsV} {F : Fsd} (h : Got w z X y F) (hb : Below w.heap.size w w') : Got w' z X y F := h.kt (Kt.below hb)
theorem Got.rd {w : World} {z : FsV} {X : Fsd} {y : FsV} {F : Fsd} (h : Got w z X y F) (hz : RdT w z X) : RdT w y F := by
  rcases h with ⟨rfl, rfl⟩ | h
  · exact hz
  · exact h
theorem FsB.kt {w : World} {q : Nat} (h : FsB w q) {w' : World} (hg : w.grownBy w' (some q)) : Kt w w' := by
  obtain ⟨v0, v1, v2, v3, v4, v5, hq⟩ := h
  exact Kt.grown hg hq (.inl rfl)
theorem does_got {x : FsV} {f : Fsd} {st : St} {ab : Option Addr} {nb cb : Nat} {w : World} (h : RdT w x f) (hw : WfX f) (hb : Rd w (.slice ab nb cb) st.2.2.2.2) (hk : st.1 < 256) :
    Calls Tryz.prog 62 #[x.val, .agg #[.int .u8 st.1, .string (bs st.2.1), .string (bs st.2.2.1), .int .i64 st.2.2.2.1, .slice ab nb cb]] w fun e w' => ∃ v, e = .returned v ∧ ∃ y : FsV, v = y.val ∧ Got w' x f y (stepS f st) ∧ Below w.heap.size w w' := by
  refine (does7_any x f st.1 st.2.1 st.2.2.1 st.2.2.2.1 ab nb cb st.2.2.2.2 w h.rd hw hb hk).mono ?_
  rintro e w' ⟨y, rfl, hg, hbb⟩
  refine ⟨_, rfl, y, rfl, ?_, hbb⟩
  rcases hg.out with hg | hg
  · exact .inl hg
  · exact .inr hg.rdt
theorem RdA.take {w : World} {a : Option Addr} {n c : Nat} {l : List Ac} (h : RdA w (.slice a n c) l) (j : Nat) (hj : j ≤ l.length) : RdA w (.slice a j c) (l.take j) := by
  rcases h with ⟨rfl, h⟩ | ⟨b, off, c', e, h1, h2, h3⟩
  · have hj : j = 0 := by simpa using hj
    subst hj
    rcases h with h | ⟨a', c2, h⟩
    · cases h; exact .inl ⟨by simp, .inl rfl⟩
    · cases h; exact .inl ⟨by simp, .inr ⟨_, _, rfl⟩⟩
  · cases e
    have e : (l.take j).length = j := by rw [List.length_take]; omega
    refine .inr ⟨b, off, c, by rw [e], by rw [e]; omega, h2, fun i hi => ?_⟩
    rw [e] at hi
    have := h3 i (by omega)
    rw [List.getElem_take]
    exact this
theorem RdA.cap {w : World} {a : Option Addr} {n c : Nat} {l : List Ac} (h : RdA w (.slice a n c) l) : n ≤ c := by
  rcases h with ⟨rfl, h⟩ | ⟨b, off, c', e, h1, h2, h3⟩
  · rcases h with h | ⟨a', c2, h⟩ <;> cases h <;> exact Nat.zero_le _
  · cases e; exact h1
theorem DirsT.at {w : World} {base : Nat} {a : Option Addr} {n c : Nat} {L : List (List Fl)} (h : DirsT w base (.slice a n c) L) (j : Nat) (D : List Fl) (hD : L[j]? = some D) : ∃ g, a = some ⟨g, 0, none⟩ ∧ j < n ∧ ∃ a2 c2, w.cell? ⟨g, j, none⟩ = some (.slice a2 D.length c2) ∧ RdF w (.slice a2 D.length c2) D := by
  obtain ⟨ps, h1, h2, h3⟩ := h
  obtain ⟨hj, -⟩ := List.getElem?_eq_some_iff.1 hD
  rcases h2.2 with ⟨e, h4⟩ | ⟨g, cap, cur, e, e1, e2, e3, e4, e5, e6⟩
  · omega
  · cases e
    obtain ⟨u, hu⟩ : ∃ u, ps[j]? = some u := ⟨_, List.getElem?_eq_getElem (by omega)⟩
    obtain ⟨a2, c2, e7, h5⟩ := h3 j u D hu hD
    refine ⟨g, rfl, hj, a2, c2, ?_, ?_⟩
    · have := h2.cells (g := g) rfl j u hu
      rw [← e7]
      simpa [Addr.add_lit] using this
    · rw [← e7]; exact h5 w (Kt.refl w)
theorem clear_ok {f : Fsd} (h : fsE f = 0) : (clearFs f).2 = 0 ∧ okFs (clearFs f).1 ∧ (clearFs f).1.1.2.2 = [] := by
  have hok := fsE_ok h
  have e := clear_is f
  rw [if_neg (by rw [h]; decide)] at e
  rw [e]
  refine ⟨rfl, ?_, rfl⟩
  obtain ⟨h1, h2, h3, h4⟩ := okFs_disk hok
  have hd : okD ((f.1.1, f.1.2.1, []) : Dk) = true := by
    obtain ⟨p1, p2, p3, p4, p5, p6, p7⟩ := (okD_iff f.1).1 h1
    exact (okD_iff _).2 ⟨p1, p2, p3, p4, by simp, p6, by simp⟩
  exact ok_same (f := f) (d := (f.1.1, f.1.2.1, [])) hok hd rfl (fun _ _ => rfl) hok.2.2.1 hok.2.2.2.2.2
theorem torn_next {fa X F : Fsd} {L : List (List Fl)} (h : TornInv fa X L) (st : St) (hF : F = stepS X st) : TornInv fa F (if F.2.1 = X.2.1 then L else L ++ [F.2.2.2]) := by
  subst hF
  exact h.step (step_ok h.ok _ _ _ _ _)

end Go.Proofs.YtnigdbhjaoeblaaGreat

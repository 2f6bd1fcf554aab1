/-
  What manifest's reader does: number, text.
-/
import Derived.Test.YtmeaiocohalphaaDoorNf0
import Derived.Test.YtmeaiocohalphaaDoorRowH
import Derived.Test.YtmeaiocohalphaaDoorVn8
namespace Go.Proofs.YtmeaiocohalphaaDoor
open Go.RowKit
set_option linter.unusedVariables false
set_option linter.unusedSimpArgs false

def RdK9 (w : World) (v : Value) (l : List UInt8) : Prop := ∀ w' : World, (∀ (k : Nat) (cs : Array Value) (fr : Nat × Nat), w.heap[k]? = some (.cells cs 5 fr) → w'.heap[k]? = some (.cells cs 5 fr)) → Rd w' v l
theorem OwY.rdk {w : World} {base : Nat} {v : Value} {l : List UInt8} (h : OwY w base v l) : RdK9 w v l := by
  intro w' hw
  have h2 : OwY w' base v l := by
    refine ⟨h.1, ?_⟩
    rcases h.2 with h | ⟨g, cap, cur, e, h1, h2, h3⟩
    · exact .inl h
    · exact .inr ⟨g, cap, cur, e, h1, hw g _ _ h2, h3⟩
  exact h2.rd
theorem RdK9.keep {w w' : World} {v : Value} {l : List UInt8} {t : TypeId} (h : RdK9 w v l) (hk : KeepG t w w') (ht : 5 ≠ t) : RdK9 w' v l := fun wx hx => h wx fun k cs fr hh => hx k cs fr (hk k cs _ fr ht hh)
theorem RdK9.carry {w w' : World} {v : Value} {l : List UInt8} (h : RdK9 w v l) (hb : Below w.heap.size w w') : RdK9 w' v l := fun wx hx => h wx fun k cs fr hh => hx k cs fr ((hb.block k (Array.getElem?_eq_some_iff.1 hh).1).trans hh)
def RdZ (w0 w : World) (v : Value) (l : List UInt8) : Prop := Rd w0 v l ∨ RdK9 w v l
theorem RdZ.rd {w0 w : World} {v : Value} {l : List UInt8} (h : RdZ w0 w v l) (hb : Below w0.heap.size w0 w) : Rd w v l := by
  rcases h with h | h
  · exact h.carry hb
  · exact h w fun _ _ _ hh => hh
theorem RdZ.keep {w0 w w' : World} {v : Value} {l : List UInt8} {t : TypeId} (h : RdZ w0 w v l) (hk : KeepG t w w') (ht : 5 ≠ t) : RdZ w0 w' v l := by
  rcases h with h | h
  · exact .inl h
  · exact .inr (h.keep hk ht)
theorem RdZ.carry {w0 w w' : World} {v : Value} {l : List UInt8} (h : RdZ w0 w v l) (hb : Below w.heap.size w w') : RdZ w0 w' v l := by
  rcases h with h | h
  · exact .inl h
  · exact .inr (h.carry hb)
def MrAt (w : World) (q : Nat) (v : Value) (bad : Bool) : Prop := Bx w q 49 #[v, .bool bad]
theorem MrAt.cells {w : World} {q : Nat} {v : Value} {bad : Bool} (h : MrAt w q v bad) : w.cell? ⟨q, 0, none⟩ = some v ∧ w.cell? ⟨q, 1, none⟩ = some (.bool bad) := ⟨Bx.at h 0 rfl, Bx.at h 1 rfl⟩
structure MrS (w0 w : World) (q : Nat) (s : Mst) : Prop where
  st : ∃ a n c l, MrAt w q (.slice a n c) s.isNone ∧ n = l.length ∧ RdZ w0 w (.slice a n c) l ∧ l.length ≤ 1000000 ∧ ∀ l', s = some l' → l' = l
  ge : w0.heap.size ≤ q
  bel : Below w0.heap.size w0 w
theorem MrS.carry {w0 w w' : World} {q : Nat} {s : Mst} (h : MrS w0 w q s) (hb : Below w.heap.size w w') : MrS w0 w' q s := by
  obtain ⟨a, n, c, l, h1, h2, h3, h4⟩ := h.st
  exact ⟨⟨a, n, c, l, Bx.carry h1 hb, h2, h3.carry hb, h4⟩, h.ge, h.bel.trans (hb.mono h.bel.size)⟩
theorem MrS.keep {w0 w w' : World} {q : Nat} {s : Mst} {t : TypeId} (h : MrS w0 w q s) (hk : KeepG t w w') (h1 : 49 ≠ t) (h2 : 5 ≠ t) (hb : Below w0.heap.size w0 w') : MrS w0 w' q s := by
  obtain ⟨a, n, c, l, k1, k2, k3, k4⟩ := h.st
  exact ⟨⟨a, n, c, l, Bx.keep k1 hk h1, k2, k3.keep hk h2, k4⟩, h.ge, hb⟩
def MrK (w w' : World) : Prop := KeepG 49 w w' ∧ w.heap.size ≤ w'.heap.size
theorem MrK.refl (w : World) : MrK w w := ⟨fun _ _ _ _ _ h => h, Nat.le_refl _⟩
theorem MrK.trans {a b c : World} (h : MrK a b) (k : MrK b c) : MrK a c := ⟨KeepG.trans h.1 k.1, Nat.le_trans h.2 k.2⟩
theorem MrK.below {a b : World} (h : Below a.heap.size a b) : MrK a b := ⟨KeepG.below h, h.size⟩
theorem mr_bad {w0 wa w : World} {q : Nat} {s : Mst} {a : Option Addr} {n c : Nat} {l : List UInt8} {b : Bool} (hq : MrAt w q (.slice a n c) b) (hn : n = l.length) (hy : RdZ w0 w (.slice a n c) l) (hl : l.length ≤ 1000000) (hge : w0.heap.size ≤ q) (hb : Below w0.heap.size w0 w) (hk : MrK wa w) :
    MrS w0 (w.setCell ⟨q, 1, none⟩ (.bool true)) q none ∧ MrK wa (w.setCell ⟨q, 1, none⟩ (.bool true)) := by
  have h1 := Bx.put hq 1 (.bool true)
  have hk2 : KeepG 49 w (w.setCell ⟨q, 1, none⟩ (.bool true)) := keepX_set hq 1 _
  refine ⟨⟨⟨a, n, c, l, h1, hn, hy.keep hk2 (by decide), hl, fun l' h => by cases h⟩, hge, belowX_set hb hge _ _⟩, KeepG.trans hk.1 hk2, by simpa using hk.2⟩
theorem mr_rest {w0 wa w : World} {q : Nat} {a a' : Option Addr} {n c n' c' : Nat} {l : List UInt8} {b : Bool} (hq : MrAt w q (.slice a n c) b) (hb0 : b = false) (hn : n' = l.length) (hy : RdZ w0 w (.slice a' n' c') l) (hl : l.length ≤ 1000000) (hge : w0.heap.size ≤ q) (hb : Below w0.heap.size w0 w) (hk : MrK wa w) :
    MrS w0 (w.setCell ⟨q, 0, none⟩ (.slice a' n' c')) q (some l) ∧ MrK wa (w.setCell ⟨q, 0, none⟩ (.slice a' n' c')) := by
  subst hb0
  have h1 := Bx.put hq 0 (.slice a' n' c')
  have hk2 : KeepG 49 w (w.setCell ⟨q, 0, none⟩ (.slice a' n' c')) := keepX_set hq 0 _
  refine ⟨⟨⟨a', n', c', l, h1, hn, hy.keep hk2 (by decide), hl, fun l' h => by cases h; rfl⟩, hge, belowX_set hb hge _ _⟩, KeepG.trans hk.1 hk2, by simpa using hk.2⟩

set_option maxHeartbeats 1000000 in
set_option maxRecDepth 100000 in
theorem number_mr (w0 : World) (q most : Nat) (s : Mst) (w : World) (h : MrS w0 w q s) (hm : most < 9223372036854775808) :
    Calls Tryd.prog 32 #[.pointer (some ⟨q, 0, none⟩), .int .u64 most] w fun e w' => e = .returned (.int .i64 ((numM most s).1 : Nat)) ∧ MrS w0 w' q (numM most s).2 ∧ MrK w w' := by
  obtain ⟨a, n, c, l, hq, hn, hy, hl, hs⟩ := h.st
  have hrd := hy.rd h.bel
  have hread := read1_any w hrd
  have HQ := hide hq
  have HN := hide hn
  have HY := hide hy
  have HL := hide hl
  have HGE := hide h.ge
  have HBE := hide h.bel
  have HK := hide (MrK.refl w)
  obtain ⟨q0, q1⟩ := hq.cells
  cases s with
  | none =>
    have e0 : numM most none = (0, none) := rfl
    rw [e0]
    clear hs hq hy hl hn h e0 hrd
    have q1 : w.cell? ⟨q, 1, none⟩ = some (.bool true) := q1
    cases e : rd l with
    | none =>
      rw [e] at hread
      unfold rdV at hread
      clear e
      go_enter Tryd.func32, Tryd.ntmps32
      go_wp2_with fail
      refine hread.mono ?_
      rintro e w1 ⟨rfl, rfl⟩
      clear hread
      have f1 := Bx.fz HQ.out 1
      have HX := hide (mr_bad (s := none) HQ.out HN.out HY.out HL.out HGE.out HBE.out HK.out)
      obtain ⟨w9, hw9⟩ : ∃ w9, w9 = w1.setCell ⟨q, 1, none⟩ (.bool true) := ⟨_, rfl⟩
      rw [← hw9] at HX
      go_wp2
      rw [← hw9]
      clear hw9 q0 q1 f1
      go_ret
      exact ⟨rfl, HX.out⟩
    | some p =>
      obtain ⟨m, k⟩ := p
      rw [e] at hread
      unfold rdV at hread
      clear e
      go_enter Tryd.func32, Tryd.ntmps32
      go_wp2_with fail
      refine hread.mono ?_
      rintro e w1 ⟨rfl, rfl⟩
      clear hread
      have f1 := Bx.fz HQ.out 1
      have HX := hide (mr_bad (s := none) HQ.out HN.out HY.out HL.out HGE.out HBE.out HK.out)
      obtain ⟨w9, hw9⟩ : ∃ w9, w9 = w1.setCell ⟨q, 1, none⟩ (.bool true) := ⟨_, rfl⟩
      rw [← hw9] at HX
      go_wp2
      rw [← hw9]
      clear hw9 q0 q1 f1
      go_ret
      exact ⟨rfl, HX.out⟩
  | some l1 =>
    obtain rfl := hs l1 rfl
    have q1 : w.cell? ⟨q, 1, none⟩ = some (.bool false) := q1
    clear hs hq hy hl hn h
    cases e : rd l1 with
    | none =>
      have e0 : numM most (some l1) = (0, none) := numM_bad (by
        cases e9 : cutW most l1 with
        | none => rfl
        | some p => obtain ⟨m, r⟩ := p; obtain ⟨k, e8, _⟩ := cutW_rd e9; rw [e] at e8; cases e8)
      rw [e0]
      rw [e] at hread
      unfold rdV at hread
      clear e e0 hrd
      go_enter Tryd.func32, Tryd.ntmps32
      go_wp2_with fail
      refine hread.mono ?_
      rintro e w1 ⟨rfl, rfl⟩
      clear hread
      have f1 := Bx.fz HQ.out 1
      have HX := hide (mr_bad (s := none) HQ.out HN.out HY.out HL.out HGE.out HBE.out HK.out)
      obtain ⟨w9, hw9⟩ : ∃ w9, w9 = w1.setCell ⟨q, 1, none⟩ (.bool true) := ⟨_, rfl⟩
      rw [← hw9] at HX
      go_wp2
      rw [← hw9]
      clear hw9 q0 q1 f1
      go_ret
      exact ⟨rfl, HX.out⟩
    | some p =>
      obtain ⟨m, k⟩ := p
      rw [e] at hread
      unfold rdV at hread
      by_cases hmm : m ≤ most
      · have e0 : numM most (some l1) = (m, some (l1.drop k)) := numM_of (by
          cases e9 : cutW most l1 with
          | none =>
            rcases cutW_cases e9 with e8 | ⟨x, y, e8, e7⟩
            · rw [e] at e8; cases e8
            · rw [e] at e8; cases e8; omega
          | some p =>
            obtain ⟨x, r⟩ := p
            obtain ⟨y, e8, _, e7⟩ := cutW_rd e9
            rw [e] at e8; cases e8; rw [e7])
        rw [e0]
        obtain ⟨hk0, hkl, hk10, hn64⟩ := rd_fits e
        have g1 : decide ((most : Int) < m) = false := by simpa using (by omega : ¬ (most : Int) < m)
        have g3 : decide (most < m) = false := decide_eq_false (by omega)
        have g2 : IntKind.i64.wrap (m : Int) = m := by rw [IntKind.wrap_i64]; omega
        obtain ⟨a2, c2, hsl, hsr⟩ := sliceY hrd k hkl
        have HR := hide (show RdZ w0 w (.slice a2 (n - k) c2) (l1.drop k) by
          rcases HY.out with h9 | h9
          · exact .inl (hsr w0 h9)
          · exact .inr fun wx hx => hsr wx (h9 wx hx))
        have HN2 := hide (show n - k = (l1.drop k).length by rw [List.length_drop, HN.out])
        have HL2 := hide (show (l1.drop k).length ≤ 1000000 by rw [List.length_drop]; have := HL.out; omega)
        clear e e0 hrd hsr hk0 hk10 hn64 hmm hm
        go_enter Tryd.func32, Tryd.ntmps32
        go_wp2_with fail
        refine hread.mono ?_
        rintro e w1 ⟨rfl, rfl⟩
        clear hread
        have f0 := Bx.fz HQ.out 0
        have HX := hide (mr_rest HQ.out rfl HN2.out HR.out HL2.out HGE.out HBE.out HK.out)
        obtain ⟨w9, hw9⟩ : ∃ w9, w9 = w1.setCell ⟨q, 0, none⟩ (.slice a2 (n - k) c2) := ⟨_, rfl⟩
        rw [← hw9] at HX
        go_wp2
        rw [← hw9]
        clear hw9 q0 q1 f0
        go_ret
        exact ⟨rfl, HX.out⟩
      · have e0 : numM most (some l1) = (0, none) := numM_bad (by
          cases e9 : cutW most l1 with
          | none => rfl
          | some p => obtain ⟨x, r⟩ := p; obtain ⟨y, e8, e7, _⟩ := cutW_rd e9; rw [e] at e8; cases e8; exact absurd e7 hmm)
        rw [e0]
        have g1 : (most : Int) < m := by omega
        have g3 : most < m := by omega
        clear e e0 hrd hmm hm
        go_enter Tryd.func32, Tryd.ntmps32
        go_wp2_with fail
        refine hread.mono ?_
        rintro e w1 ⟨rfl, rfl⟩
        clear hread
        have f1 := Bx.fz HQ.out 1
        have HX := hide (mr_bad (s := none) HQ.out HN.out HY.out HL.out HGE.out HBE.out HK.out)
        obtain ⟨w9, hw9⟩ : ∃ w9, w9 = w1.setCell ⟨q, 1, none⟩ (.bool true) := ⟨_, rfl⟩
        rw [← hw9] at HX
        go_wp2
        rw [← hw9]
        clear hw9 q0 q1 f1
        go_ret
        exact ⟨rfl, HX.out⟩

set_option maxHeartbeats 1000000 in
set_option maxRecDepth 100000 in
theorem text_mr (w0 : World) (q : Nat) (s : Mst) (w : World) (h : MrS w0 w q s) :
    Calls Tryd.prog 34 #[.pointer (some ⟨q, 0, none⟩)] w fun e w' => e = .returned (.string (bs (texM s).1)) ∧ MrS w0 w' q (texM s).2 ∧ MrK w w' := by
  obtain ⟨a, n, c, l, hq, hn, hy, hl, hs⟩ := h.st
  have hrd := hy.rd h.bel
  have HQ := hide hq
  have HN := hide hn
  have HY := hide hy
  have HL := hide hl
  have HGE := hide h.ge
  have HBE := hide h.bel
  obtain ⟨q0, q1⟩ := hq.cells
  cases s with
  | none =>
    have e0 : texM none = ([], none) := rfl
    rw [e0]
    have q1 : w.cell? ⟨q, 1, none⟩ = some (.bool true) := q1
    cases e : ct l with
    | none =>
      have hcut := cutY_none a n c l w hl hrd e
      clear hs hq hy hl hn h e0 hrd e
      go_enter Tryd.func34, Tryd.ntmps34
      go_wp2_with fail
      refine hcut.mono ?_
      rintro e w1 ⟨a2, n2, c2, rfl, b1⟩
      clear hcut q0 q1
      have HQ1 := hide (show MrAt w1 q (.slice a n c) true from Bx.carry HQ.out b1)
      obtain ⟨q0, q1⟩ := HQ1.out.cells
      have f1 := Bx.fz HQ1.out 1
      have HX := hide (mr_bad (s := none) HQ1.out HN.out (HY.out.carry b1) HL.out HGE.out (HBE.out.trans (b1.mono HBE.out.size)) (MrK.below b1))
      obtain ⟨w9, hw9⟩ : ∃ w9, w9 = w1.setCell ⟨q, 1, none⟩ (.bool true) := ⟨_, rfl⟩
      rw [← hw9] at HX
      clear b1 HQ
      go_wp2
      rw [← hw9]
      clear hw9 q0 q1 f1
      go_ret
      exact ⟨rfl, HX.out⟩
    | some p =>
      obtain ⟨t, r⟩ := p
      have hcut := cutY_some a n c l t r w hl hrd e
      clear hs hq hy hl hn h e0 hrd e
      go_enter Tryd.func34, Tryd.ntmps34
      go_wp2_with fail
      refine hcut.mono ?_
      rintro e w1 ⟨a2, c2, rfl, -, b1⟩
      clear hcut q0 q1
      have HQ1 := hide (show MrAt w1 q (.slice a n c) true from Bx.carry HQ.out b1)
      obtain ⟨q0, q1⟩ := HQ1.out.cells
      have f1 := Bx.fz HQ1.out 1
      have HX := hide (mr_bad (s := none) HQ1.out HN.out (HY.out.carry b1) HL.out HGE.out (HBE.out.trans (b1.mono HBE.out.size)) (MrK.below b1))
      obtain ⟨w9, hw9⟩ : ∃ w9, w9 = w1.setCell ⟨q, 1, none⟩ (.bool true) := ⟨_, rfl⟩
      rw [← hw9] at HX
      clear b1 HQ
      go_wp2
      rw [← hw9]
      clear hw9 q0 q1 f1
      go_ret
      exact ⟨rfl, HX.out⟩
  | some l1 =>
    obtain rfl := hs l1 rfl
    have q1 : w.cell? ⟨q, 1, none⟩ = some (.bool false) := q1
    cases e : ct l1 with
    | none =>
      rw [texM_bad e]
      have hcut := cutY_none a n c l1 w hl hrd e
      clear hs hq hy hl hn h hrd e
      go_enter Tryd.func34, Tryd.ntmps34
      go_wp2_with fail
      refine hcut.mono ?_
      rintro e w1 ⟨a2, n2, c2, rfl, b1⟩
      clear hcut q0 q1
      have HQ1 := hide (show MrAt w1 q (.slice a n c) false from Bx.carry HQ.out b1)
      obtain ⟨q0, q1⟩ := HQ1.out.cells
      have f1 := Bx.fz HQ1.out 1
      have HX := hide (mr_bad (s := none) HQ1.out HN.out (HY.out.carry b1) HL.out HGE.out (HBE.out.trans (b1.mono HBE.out.size)) (MrK.below b1))
      obtain ⟨w9, hw9⟩ : ∃ w9, w9 = w1.setCell ⟨q, 1, none⟩ (.bool true) := ⟨_, rfl⟩
      rw [← hw9] at HX
      clear b1 HQ
      go_wp2
      rw [← hw9]
      clear hw9 q0 q1 f1
      go_ret
      exact ⟨rfl, HX.out⟩
    | some p =>
      obtain ⟨t, r⟩ := p
      rw [texM_of e]
      have hcut := cutY_some a n c l1 t r w hl hrd e
      have HL2 := hide (show r.length ≤ 1000000 by have := (ct_len e).1; omega)
      clear hs hq hy hl hn h hrd e
      go_enter Tryd.func34, Tryd.ntmps34
      go_wp2_with fail
      refine hcut.mono ?_
      rintro e w1 ⟨a2, c2, rfl, o1, b1⟩
      clear hcut q0 q1
      have HQ1 := hide (show MrAt w1 q (.slice a n c) false from Bx.carry HQ.out b1)
      obtain ⟨q0, q1⟩ := HQ1.out.cells
      have f0 := Bx.fz HQ1.out 0
      have HX := hide (mr_rest HQ1.out rfl rfl (.inr o1.rdk) HL2.out HGE.out (HBE.out.trans (b1.mono HBE.out.size)) (MrK.below b1))
      obtain ⟨nr, hnr⟩ : ∃ nr, nr = r.length := ⟨_, rfl⟩
      rw [← hnr] at HX ⊢
      clear hnr o1
      obtain ⟨w9, hw9⟩ : ∃ w9, w9 = w1.setCell ⟨q, 0, none⟩ (.slice a2 nr c2) := ⟨_, rfl⟩
      rw [← hw9] at HX
      clear b1 HQ
      go_wp2
      rw [← hw9]
      clear hw9 q0 q1 f0
      go_ret
      exact ⟨rfl, HX.out⟩
end Go.Proofs.YtmeaiocohalphaaDoor

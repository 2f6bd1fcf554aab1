/-
  What manifest's reader does: number, text.
-/
import Derived.Test.YtmeaiocohalphaaGreatDoorVn6
import Derived.Test.YtmeaiocohalphaaGreatDoorVn1
import Derived.Test.YtmeaiocohalphaaGreatDoorDMay
import Derived.Test.YtmeaiocohalphaaGreatDoorVn4
set_option maxHeartbeats 4000000
set_option maxRecDepth 100000
namespace Go.Proofs.YtmeaiocohalphaaGreatDoor
open Go.RowKit
set_option linter.unusedVariables false
set_option linter.unusedSimpArgs false
def zVw : Value × List Mta := (.slice none 0 0, [])
theorem make_w (w : World) (N : Nat) (hN : N ≤ 1000) : ∃ w2, (Instr.makeSlice 34 (.int .i64 N) (.int .i64 N)).run Tryz.prog w = .ok (.slice (some ⟨w.heap.size, 0, none⟩) N N) w2 ∧ OwG 1 ecW 105 w2 w.heap.size (.slice (some ⟨w.heap.size, 0, none⟩) N N) (List.replicate N zVw) ∧ Below w.heap.size w w2 :=
 makeG ecW_len (by decide) Tryz.underlying34 Tryz.infoW (x := zVw) rfl w N (by omega) (by unfold maxLen; omega)
theorem flatW (R : Lvs) : R.flatMap ecW = R.map (·.1) := by
 induction R with
 | nil => rfl
 | cons x R ih => rw [List.flatMap_cons, ih]; rfl
theorem OwG.setW1 {w : World} {base g n c : Nat} {R : Lvs} (h : OwG 1 ecW 105 w base (.slice (some ⟨g, 0, none⟩) n c) R) (k : Nat) (p : Value × List Mta) (hb : base ≤ w.heap.size) :
  OwG 1 ecW 105 (w.setCell ⟨g, k, none⟩ p.1) base (.slice (some ⟨g, 0, none⟩) n c) (R.set k p) ∧ Below base w (w.setCell ⟨g, k, none⟩ p.1) ∧ KeepG 105 w (w.setCell ⟨g, k, none⟩ p.1) := by
 have hn : n = R.length := by obtain ⟨_, _, e⟩ := h.form; cases e; rfl
 subst hn
 obtain ⟨s1, s2⟩ := World.ownsRow.stored h k p.1
 have hgb : base ≤ g := (World.ownsRow.lt h g rfl).1
 refine ⟨?_, (Below.refl _ _).grown s2 hb fun j hj => by cases hj; exact hgb, keepG_of h s2⟩
 unfold OwG
 have e : (R.flatMap ecW).set k p.1 = (R.set k p).flatMap ecW := by rw [flatW, flatW, List.map_set]
 rw [List.length_set, ← e]
 exact s1
theorem OwG.ltV {α : Type} {sz : Nat} {ec : α → List Value} {t : TypeId} {w : World} {base : Nat} {v : Value} {l : List α} (h : OwG sz ec t w base v l) {g : Nat} (hg : v.ownBlock = some g) : base ≤ g ∧ g < w.heap.size := World.ownsRow.lt h g hg
theorem OwG.fzV {α : Type} {sz : Nat} {ec : α → List Value} {t : TypeId} {w : World} {base g n c : Nat} {l : List α} (h : OwG sz ec t w base (.slice (some ⟨g, 0, none⟩) n c) l) (j : Nat) : w.frozen? ⟨g, j, none⟩ = false := by
 rcases h.2 with ⟨e, _⟩ | ⟨g', cap, cur, e, hb, hg, _⟩
 ·cases e
 ·cases e
  exact frozen_of_row w g j _ _ hg
def AnsV (base : Nat) (V : Vrs) (k : Int) (e : Ending) (w' : World) : Prop :=
 ∃ v S, e = .returned (.tuple #[.agg #[v, .int .i64 V.2.1, .int .i64 V.2.2.1, .string (bs V.2.2.2)], .int .i64 k]) ∧ OwVw w' base v S ∧ lvs S = V.1
theorem new_vn (lg : List UInt8) (w : World) :
  Calls Tryz.prog 34 #[.string (bs lg)] w fun e w' => AnsV w.heap.size (newV lg) (newE lg) e w' ∧ Below w.heap.size w w' := by
 obtain ⟨w2, hw2⟩ : ∃ w2, w2 = w.alloc (.cells #[.slice none 0 0, .int .i64 0, .int .i64 0, .string { data := #[] }] 36) := ⟨_, rfl⟩
 have hb2 : Below w.heap.size w w2 := by rw [hw2]; exact (Below.refl _ _).alloc (Nat.le_refl _) _
 have HZ2 := hide (show VvAt w2 w.heap.size (.slice none 0 0) 0 0 [] by rw [hw2]; exact VvAt.new w _ 0 0 [])
 have HB2 := hide hb2
 obtain ⟨w3, hmk, o3, b3⟩ := make_w w2 4 (by omega)
 have hmk2 : (Instr.makeSlice 34 (.int .i64 4) (.int .i64 4)).run Tryz.prog w2 = .ok (.slice (some ⟨w2.heap.size, 0, none⟩) 4 4) w3 := hmk
 have hs2 : w2.heap.size = w.heap.size + 1 := by rw [hw2]; simp
 obtain ⟨g, hg⟩ : ∃ g, g = w2.heap.size := ⟨_, rfl⟩
 rw [← hg] at hmk2 hs2
 rw [show (Value.slice (some ⟨w2.heap.size, 0, none⟩) 4 4) = .slice (some ⟨g, 0, none⟩) 4 4 by rw [hg]] at o3
 have HO3 := hide (show OwG 1 ecW 105 w3 (w.heap.size + 1) (.slice (some ⟨g, 0, none⟩) 4 4) (List.replicate 4 zVw) from o3.mono (by omega))
 have HB3 := hide (show Below w.heap.size w w3 from HB2.out.trans (b3.mono HB2.out.size))
 have HZ3 := hide (HZ2.out.carry b3)
 clear hmk hs2 hg o3 b3 hb2
 cases ht : txO lg 16 with
 | false =>
  have HE := hide (show newV lg = zerV ∧ newE lg = 50 by unfold newV newE; rw [ht]; exact ⟨rfl, rfl⟩)
  go_enter Tryz.func34, Tryz.ntmps34
  go_wp2_with fail
  rw [← hw2]
  clear hw2
  go_wp2_with fail
  refine (name_vn _ _).mono ?_
  rintro e w2 ⟨rfl, rfl⟩
  clear hmk2
  obtain ⟨r0, r1, r2, r3⟩ := HZ2.out.cells
  have f0 := HZ2.out.fz 0
  have f1 := HZ2.out.fz 1
  have f2 := HZ2.out.fz 2
  have f3 := HZ2.out.fz 3
  have hp9 : VvAt (set4v w2 (w.heap.size) (.slice none 0 0) (.int .i64 0) (.int .i64 0) (.string { data := #[] })) (w.heap.size) (.slice none 0 0) 0 0 [] := VvAt.put (v' := .slice none 0 0) (nx' := 0) (sq' := 0) (lg' := []) HZ2.out
  have HB9 := hide (show Below w.heap.size w (set4v w2 (w.heap.size) (.slice none 0 0) (.int .i64 0) (.int .i64 0) (.string { data := #[] })) from below_set4v HB2.out (Nat.le_refl _) _ _ _ _)
  obtain ⟨w9, hw9⟩ : ∃ w9, w9 = set4v w2 (w.heap.size) (.slice none 0 0) (.int .i64 0) (.int .i64 0) (.string { data := #[] }) := ⟨_, rfl⟩
  rw [← hw9] at hp9 HB9
  unfold set4v at hw9
  obtain ⟨z0, z1, z2, z3⟩ := hp9.cells
  clear hp9
  go_wp2
  rw [← hw9]
  clear r0 r1 r2 r3 f0 f1 f2 f3
  refine bodyPost_ret (v := .tuple #[.agg #[.slice none 0 0, .int .i64 0, .int .i64 0, .string { data := #[] }], .int .i64 50]) ?_ rfl ⟨by rw [HE.out.1, HE.out.2]; exact ⟨_, [], rfl, OwVw.nil _ _, rfl⟩, HB9.out⟩
  clear hw9
  try simp only [show bs ([] : List UInt8) = { data := #[] } from rfl, Int.natCast_zero, Int.ofNat_zero, Int.cast_ofNat_Int] at z0 z1 z2 z3
  simp [results, Tryz.results34, go_sem, *]
 | true =>
  have HE := hide (show newV lg = ([[], [], [], []], 1, 0, lg) ∧ newE lg = 0 by unfold newV newE; rw [ht]; exact ⟨rfl, rfl⟩)
  go_enter Tryz.func34, Tryz.ntmps34
  go_wp2_with fail
  rw [← hw2]
  clear hw2
  go_wp2_with fail
  refine (name_vn _ _).mono ?_
  rintro e w2 ⟨rfl, rfl⟩
  obtain ⟨r0, r1, r2, r3⟩ := HZ3.out.cells
  have f0 := HZ3.out.fz 0
  have f1 := HZ3.out.fz 1
  have f2 := HZ3.out.fz 2
  have f3 := HZ3.out.fz 3
  have hp9 : VvAt (set4v w3 (w.heap.size) (.slice (some ⟨g, 0, none⟩) 4 4) (.int .i64 1) (.int .i64 0) (.string (bs lg))) (w.heap.size) (.slice (some ⟨g, 0, none⟩) 4 4) 1 0 lg := VvAt.put (v' := .slice (some ⟨g, 0, none⟩) 4 4) (nx' := 1) (sq' := 0) (lg' := lg) HZ3.out
  have HB9 := hide (show Below w.heap.size w (set4v w3 (w.heap.size) (.slice (some ⟨g, 0, none⟩) 4 4) (.int .i64 1) (.int .i64 0) (.string (bs lg))) from below_set4v HB3.out (Nat.le_refl _) _ _ _ _)
  have HO9 := hide (show OwVw (set4v w3 w.heap.size (.slice (some ⟨g, 0, none⟩) 4 4) (.int .i64 1) (.int .i64 0) (.string (bs lg))) w.heap.size (.slice (some ⟨g, 0, none⟩) 4 4) (List.replicate 4 zVw) from
   OwVw.mono (base := w.heap.size + 1) (OwVw.set4v ⟨HO3.out, fun p hp => by obtain rfl := List.eq_of_mem_replicate hp; exact OwG.nil _ _⟩ (by omega) _ _ _ _) (by omega))
  obtain ⟨w9, hw9⟩ : ∃ w9, w9 = set4v w3 (w.heap.size) (.slice (some ⟨g, 0, none⟩) 4 4) (.int .i64 1) (.int .i64 0) (.string (bs lg)) := ⟨_, rfl⟩
  rw [← hw9] at hp9 HB9 HO9
  unfold set4v at hw9
  obtain ⟨z0, z1, z2, z3⟩ := hp9.cells
  clear hp9
  go_wp2_with (refine wpList_mkY rfl (.const (.int .i64 4)) (.const (.int .i64 4)) 34 rfl rfl rfl hmk2 ?_)
  rw [← hw9]
  clear r0 r1 r2 r3 f0 f1 f2 f3
  refine bodyPost_ret (v := .tuple #[.agg #[.slice (some ⟨g, 0, none⟩) 4 4, .int .i64 1, .int .i64 0, .string (bs lg)], .int .i64 0]) ?_ rfl ⟨by rw [HE.out.1, HE.out.2]; exact ⟨_, List.replicate 4 zVw, rfl, HO9.out, rfl⟩, HB9.out⟩
  clear hw9
  try simp only [show bs ([] : List UInt8) = { data := #[] } from rfl, Int.natCast_zero, Int.ofNat_zero, Int.cast_ofNat_Int] at z0 z1 z2 z3
  simp [results, Tryz.results34, go_sem, *]
def OnlyM (v : Value) (w w' : World) : Prop := ∀ k, k < w.heap.size → v.ownBlock ≠ some k → w'.heap[k]? = w.heap[k]?
theorem OwG.only {α : Type} {sz : Nat} {ec : α → List Value} {t : TypeId} {w w' : World} {base : Nat} {v u : Value} {l : List α} (h : OwG sz ec t w base v l) (ho : OnlyM u w w') (hne : ∀ g, v.ownBlock = some g → u.ownBlock ≠ some g) : OwG sz ec t w' base v l := by
 rcases h.2 with ⟨rfl, hn⟩ | ⟨g, cap, cur, rfl, hb, hg, hr⟩
 ·exact ⟨h.1, .inl ⟨rfl, hn⟩⟩
 ·exact ⟨h.1, .inr ⟨g, cap, cur, rfl, hb, by rw [ho g (Array.getElem?_eq_some_iff.1 hg).1 (hne g rfl)]; exact hg, hr⟩⟩
theorem app_metaO {w : World} {base : Nat} {v : Value} {l : List Mta} (h : OwM w base v l) (hb : base ≤ w.heap.size) (hl : l.length ≤ 1000000) (m : Mta) :
  ∃ g n' c w', Hid (n' = l.length + 1) ∧ (Builtin.append_ #[105, 105] 105 #[v, .slice (some ⟨w.heap.size, 0, none⟩) 1 1]).run Tryz.prog (w.alloc (.cells #[.string (bs m.1), .int .i64 m.2.1, .int .i64 m.2.2.1, .string (bs (Mlo m)), .string (bs (Mhi m))] 124)) = .ok (.slice (some ⟨g, 0, none⟩) n' c) w' ∧
   OwM w' base (.slice (some ⟨g, 0, none⟩) n' c) (l ++ [m]) ∧ Below base w w' ∧ KeepG 124 w w' ∧ OnlyM v w w' := by
 obtain ⟨w8, ew8⟩ : ∃ w8, w8 = w.alloc (.cells #[.string (bs m.1), .int .i64 m.2.1, .int .i64 m.2.2.1, .string (bs (Mlo m)), .string (bs (Mhi m))] 124) := ⟨_, rfl⟩
 have hn8 : ∀ j u, (ecM m)[j]? = some u → w8.cell? ((⟨w.heap.size, 0, none⟩ : Addr).add j) = some u := by
  intro j u hj
  have := World.news_of_block (w := w.alloc (.cells #[.string (bs m.1), .int .i64 m.2.1, .int .i64 m.2.2.1, .string (bs (Mlo m)), .string (bs (Mhi m))] 124)) (heap_alloc_new w _) j u (by simpa [ecM] using hj)
  rw [ew8]; simpa using this
 rw [← ew8]
 have hb8 : Below w.heap.size w w8 := by rw [ew8]; exact (Below.refl _ _).alloc (Nat.le_refl _) _
 obtain ⟨i0, hi, hz0, hz1, hz2⟩ := info_parts Tryz.infoMt
 have q2 : w8.ownsRow base 124 5 v l.length (l.flatMap ecM) := own_carry h hb8
 obtain ⟨v9, w9, hrun9, hown9, hg9, _⟩ := run_append_own (P := Tryz.prog) w8 base 105 105 124 i0 _ 5 64 Tryz.underlying105 hi hz0 hz1 hz2 rfl (by decide) _ _ _ q2 ⟨w.heap.size, 0, none⟩ 1 1 (ecM m) rfl hn8 (ecM_one m) (by unfold maxLen; omega) (by omega) (Nat.le_trans hb hb8.size)
 have hb9 : Below base w w9 := (hb8.mono hb).grown hg9 (Nat.le_trans hb hb8.size) fun k hk => (q2.lt k hk).1
 rcases hown9.2 with ⟨_, h1⟩ | ⟨g, cap, cur, h1, _⟩
 ·exact absurd h1 (by omega)
 ·subst h1
  refine ⟨g, _, cap, w9, hide rfl, hrun9, ?_, hb9, (KeepG.below hb8).trans (keepG_of (l := l) (ec := ecM) q2 hg9), fun k hk hne => (hg9.block k (Nat.lt_of_lt_of_le hk hb8.size) (fun e => hne e.symm)).trans (hb8.block k hk)⟩
  have e : (l ++ [m]).flatMap ecM = l.flatMap ecM ++ ecM m := by simp
  unfold OwM OwG
  rw [e, List.length_append]
  exact hown9
def RdK9 (w : World) (v : Value) (l : List UInt8) : Prop := ∀ w' : World, (∀ (k : Nat) (cs : Array Value) (fr : Nat × Nat), w.heap[k]? = some (.cells cs 5 fr) → w'.heap[k]? = some (.cells cs 5 fr)) → Rd w' v l
theorem OwY.rdk {w : World} {base : Nat} {v : Value} {l : List UInt8} (h : OwY w base v l) : RdK9 w v l := by
 intro w' hw
 have h2 : OwY w' base v l := by
  refine ⟨h.1, ?_⟩
  rcases h.2 with h | ⟨g, cap, cur, e, h1, h2, h3⟩
  ·exact .inl h
  ·exact .inr ⟨g, cap, cur, e, h1, hw g _ _ h2, h3⟩
 exact h2.rd
theorem RdK9.keep {w w' : World} {v : Value} {l : List UInt8} {t : TypeId} (h : RdK9 w v l) (hk : KeepG t w w') (ht : 5 ≠ t) : RdK9 w' v l := fun wx hx => h wx fun k cs fr hh => hx k cs fr (hk k cs _ fr ht hh)
theorem RdK9.carry {w w' : World} {v : Value} {l : List UInt8} (h : RdK9 w v l) (hb : Below w.heap.size w w') : RdK9 w' v l := fun wx hx => h wx fun k cs fr hh => hx k cs fr ((hb.block k (Array.getElem?_eq_some_iff.1 hh).1).trans hh)
def RdZ (w0 w : World) (v : Value) (l : List UInt8) : Prop := Rd w0 v l ∨ RdK9 w v l
theorem RdZ.rd {w0 w : World} {v : Value} {l : List UInt8} (h : RdZ w0 w v l) (hb : Below w0.heap.size w0 w) : Rd w v l := by
 rcases h with h | h
 ·exact h.carry hb
 ·exact h w fun _ _ _ hh => hh
theorem RdZ.keep {w0 w w' : World} {v : Value} {l : List UInt8} {t : TypeId} (h : RdZ w0 w v l) (hk : KeepG t w w') (ht : 5 ≠ t) : RdZ w0 w' v l := by
 rcases h with h | h
 ·exact .inl h
 ·exact .inr (h.keep hk ht)
theorem RdZ.carry {w0 w w' : World} {v : Value} {l : List UInt8} (h : RdZ w0 w v l) (hb : Below w.heap.size w w') : RdZ w0 w' v l := by
 rcases h with h | h
 ·exact .inl h
 ·exact .inr (h.carry hb)
def MrAt (w : World) (q : Nat) (v : Value) (bad : Bool) : Prop := Bx w q 100 #[v, .bool bad]
theorem MrAt.cells {w : World} {q : Nat} {v : Value} {bad : Bool} (h : MrAt w q v bad) : w.cell? ⟨q, 0, none⟩ = some v ∧ w.cell? ⟨q, 1, none⟩ = some (.bool bad) := ⟨Bx.at h 0 rfl, Bx.at h 1 rfl⟩
structure MrS (w0 w : World) (q : Nat) (s : Mst) : Prop where
 st : ∃ a n c l, MrAt w q (.slice a n c) s.isNone ∧ n = l.length ∧ RdZ w0 w (.slice a n c) l ∧ l.length ≤ 1000000 ∧ ∀ l', s = some l' → l' = l
 ge : w0.heap.size ≤ q
 bel : Below w0.heap.size w0 w
theorem MrS.carry {w0 w w' : World} {q : Nat} {s : Mst} (h : MrS w0 w q s) (hb : Below w.heap.size w w') : MrS w0 w' q s := by
 obtain ⟨a, n, c, l, h1, h2, h3, h4⟩ := h.st
 exact ⟨⟨a, n, c, l, Bx.carry h1 hb, h2, h3.carry hb, h4⟩, h.ge, h.bel.trans (hb.mono h.bel.size)⟩
theorem MrS.keep {w0 w w' : World} {q : Nat} {s : Mst} {t : TypeId} (h : MrS w0 w q s) (hk : KeepG t w w') (h1 : 100 ≠ t) (h2 : 5 ≠ t) (hb : Below w0.heap.size w0 w') : MrS w0 w' q s := by
 obtain ⟨a, n, c, l, k1, k2, k3, k4⟩ := h.st
 exact ⟨⟨a, n, c, l, Bx.keep k1 hk h1, k2, k3.keep hk h2, k4⟩, h.ge, hb⟩
def MrK (w w' : World) : Prop := KeepG 100 w w' ∧ w.heap.size ≤ w'.heap.size
theorem MrK.refl (w : World) : MrK w w := ⟨fun _ _ _ _ _ h => h, Nat.le_refl _⟩
theorem MrK.trans {a b c : World} (h : MrK a b) (k : MrK b c) : MrK a c := ⟨KeepG.trans h.1 k.1, Nat.le_trans h.2 k.2⟩
theorem MrK.below {a b : World} (h : Below a.heap.size a b) : MrK a b := ⟨KeepG.below h, h.size⟩
theorem mr_bad {w0 wa w : World} {q : Nat} {s : Mst} {a : Option Addr} {n c : Nat} {l : List UInt8} {b : Bool} (hq : MrAt w q (.slice a n c) b) (hn : n = l.length) (hy : RdZ w0 w (.slice a n c) l) (hl : l.length ≤ 1000000) (hge : w0.heap.size ≤ q) (hb : Below w0.heap.size w0 w) (hk : MrK wa w) :
  MrS w0 (w.setCell ⟨q, 1, none⟩ (.bool true)) q none ∧ MrK wa (w.setCell ⟨q, 1, none⟩ (.bool true)) := by
 have h1 := Bx.put hq 1 (.bool true)
 have hk2 : KeepG 100 w (w.setCell ⟨q, 1, none⟩ (.bool true)) := keepX_set hq 1 _
 refine ⟨⟨⟨a, n, c, l, h1, hn, hy.keep hk2 (by decide), hl, fun l' h => by cases h⟩, hge, belowX_set hb hge _ _⟩, KeepG.trans hk.1 hk2, by simpa using hk.2⟩
theorem mr_rest {w0 wa w : World} {q : Nat} {a a' : Option Addr} {n c n' c' : Nat} {l : List UInt8} {b : Bool} (hq : MrAt w q (.slice a n c) b) (hb0 : b = false) (hn : n' = l.length) (hy : RdZ w0 w (.slice a' n' c') l) (hl : l.length ≤ 1000000) (hge : w0.heap.size ≤ q) (hb : Below w0.heap.size w0 w) (hk : MrK wa w) :
  MrS w0 (w.setCell ⟨q, 0, none⟩ (.slice a' n' c')) q (some l) ∧ MrK wa (w.setCell ⟨q, 0, none⟩ (.slice a' n' c')) := by
 subst hb0
 have h1 := Bx.put hq 0 (.slice a' n' c')
 have hk2 : KeepG 100 w (w.setCell ⟨q, 0, none⟩ (.slice a' n' c')) := keepX_set hq 0 _
 refine ⟨⟨⟨a', n', c', l, h1, hn, hy.keep hk2 (by decide), hl, fun l' h => by cases h; rfl⟩, hge, belowX_set hb hge _ _⟩, KeepG.trans hk.1 hk2, by simpa using hk.2⟩
theorem number_mr (w0 : World) (q most : Nat) (s : Mst) (w : World) (h : MrS w0 w q s) (hm : most < 9223372036854775808) :
  Calls Tryz.prog 108 #[.pointer (some ⟨q, 0, none⟩), .int .u64 most] w fun e w' => e = .returned (.int .i64 ((numM most s).1 : Nat)) ∧ MrS w0 w' q (numM most s).2 ∧ MrK w w' := by
 obtain ⟨a, n, c, l, hq, hn, hy, hl, hs⟩ := h.st
 have hrd := hy.rd h.bel
 have hread := read1_any w hrd
 have HQ := hide hq
 have HN := hide hn
 have HY := hide hy
 have HL := hide hl
 have HGE := hide h.ge
 have HBE := hide h.bel
 have HK := hide (MrK.refl w)
 obtain ⟨q0, q1⟩ := hq.cells
 cases s with
 | none =>
  have e0 : numM most none = (0, none) := rfl
  rw [e0]
  clear hs hq hy hl hn h e0 hrd
  have q1 : w.cell? ⟨q, 1, none⟩ = some (.bool true) := q1
  cases e : rd l with
  | none =>
   rw [e] at hread
   unfold rdV at hread
   clear e
   go_enter Tryz.func108, Tryz.ntmps108
   go_wp2_with fail
   refine hread.mono ?_
   rintro e w1 ⟨rfl, rfl⟩
   clear hread
   have f1 := Bx.fz HQ.out 1
   have HX := hide (mr_bad (s := none) HQ.out HN.out HY.out HL.out HGE.out HBE.out HK.out)
   obtain ⟨w9, hw9⟩ : ∃ w9, w9 = w1.setCell ⟨q, 1, none⟩ (.bool true) := ⟨_, rfl⟩
   rw [← hw9] at HX
   go_wp2
   rw [← hw9]
   clear hw9 q0 q1 f1
   go_ret
   exact ⟨rfl, HX.out⟩
  | some p =>
   obtain ⟨m, k⟩ := p
   rw [e] at hread
   unfold rdV at hread
   clear e
   go_enter Tryz.func108, Tryz.ntmps108
   go_wp2_with fail
   refine hread.mono ?_
   rintro e w1 ⟨rfl, rfl⟩
   clear hread
   have f1 := Bx.fz HQ.out 1
   have HX := hide (mr_bad (s := none) HQ.out HN.out HY.out HL.out HGE.out HBE.out HK.out)
   obtain ⟨w9, hw9⟩ : ∃ w9, w9 = w1.setCell ⟨q, 1, none⟩ (.bool true) := ⟨_, rfl⟩
   rw [← hw9] at HX
   go_wp2
   rw [← hw9]
   clear hw9 q0 q1 f1
   go_ret
   exact ⟨rfl, HX.out⟩
 | some l1 =>
  obtain rfl := hs l1 rfl
  have q1 : w.cell? ⟨q, 1, none⟩ = some (.bool false) := q1
  clear hs hq hy hl hn h
  cases e : rd l1 with
  | none =>
   have e0 : numM most (some l1) = (0, none) := numM_bad (by
    cases e9 : cutW most l1 with
    | none => rfl
    | some p => obtain ⟨m, r⟩ := p; obtain ⟨k, e8, _⟩ := cutW_rd e9; rw [e] at e8; cases e8)
   rw [e0]
   rw [e] at hread
   unfold rdV at hread
   clear e e0 hrd
   go_enter Tryz.func108, Tryz.ntmps108
   go_wp2_with fail
   refine hread.mono ?_
   rintro e w1 ⟨rfl, rfl⟩
   clear hread
   have f1 := Bx.fz HQ.out 1
   have HX := hide (mr_bad (s := none) HQ.out HN.out HY.out HL.out HGE.out HBE.out HK.out)
   obtain ⟨w9, hw9⟩ : ∃ w9, w9 = w1.setCell ⟨q, 1, none⟩ (.bool true) := ⟨_, rfl⟩
   rw [← hw9] at HX
   go_wp2
   rw [← hw9]
   clear hw9 q0 q1 f1
   go_ret
   exact ⟨rfl, HX.out⟩
  | some p =>
   obtain ⟨m, k⟩ := p
   rw [e] at hread
   unfold rdV at hread
   by_cases hmm : m ≤ most
   ·have e0 : numM most (some l1) = (m, some (l1.drop k)) := numM_of (by
     cases e9 : cutW most l1 with
     | none =>
      rcases cutW_cases e9 with e8 | ⟨x, y, e8, e7⟩
      ·rw [e] at e8; cases e8
      ·rw [e] at e8; cases e8; omega
     | some p =>
      obtain ⟨x, r⟩ := p
      obtain ⟨y, e8, _, e7⟩ := cutW_rd e9
      rw [e] at e8; cases e8; rw [e7])
    rw [e0]
    obtain ⟨hk0, hkl, hk10, hn64⟩ := rd_fits e
    have g1 : decide ((most : Int) < m) = false := by simpa using (by omega : ¬ (most : Int) < m)
    have g3 : decide (most < m) = false := decide_eq_false (by omega)
    have g2 : IntKind.i64.wrap (m : Int) = m := by rw [IntKind.wrap_i64]; omega
    obtain ⟨a2, c2, hsl, hsr⟩ := sliceY hrd k hkl
    have HR := hide (show RdZ w0 w (.slice a2 (n - k) c2) (l1.drop k) by
     rcases HY.out with h9 | h9
     ·exact .inl (hsr w0 h9)
     ·exact .inr fun wx hx => hsr wx (h9 wx hx))
    have HN2 := hide (show n - k = (l1.drop k).length by rw [List.length_drop, HN.out])
    have HL2 := hide (show (l1.drop k).length ≤ 1000000 by rw [List.length_drop]; have := HL.out; omega)
    clear e e0 hrd hsr hk0 hk10 hn64 hmm hm
    go_enter Tryz.func108, Tryz.ntmps108
    go_wp2_with fail
    refine hread.mono ?_
    rintro e w1 ⟨rfl, rfl⟩
    clear hread
    have f0 := Bx.fz HQ.out 0
    have HX := hide (mr_rest HQ.out rfl HN2.out HR.out HL2.out HGE.out HBE.out HK.out)
    obtain ⟨w9, hw9⟩ : ∃ w9, w9 = w1.setCell ⟨q, 0, none⟩ (.slice a2 (n - k) c2) := ⟨_, rfl⟩
    rw [← hw9] at HX
    go_wp2
    rw [← hw9]
    clear hw9 q0 q1 f0
    go_ret
    exact ⟨rfl, HX.out⟩
   ·have e0 : numM most (some l1) = (0, none) := numM_bad (by
     cases e9 : cutW most l1 with
     | none => rfl
     | some p => obtain ⟨x, r⟩ := p; obtain ⟨y, e8, e7, _⟩ := cutW_rd e9; rw [e] at e8; cases e8; exact absurd e7 hmm)
    rw [e0]
    have g1 : (most : Int) < m := by omega
    have g3 : most < m := by omega
    clear e e0 hrd hmm hm
    go_enter Tryz.func108, Tryz.ntmps108
    go_wp2_with fail
    refine hread.mono ?_
    rintro e w1 ⟨rfl, rfl⟩
    clear hread
    have f1 := Bx.fz HQ.out 1
    have HX := hide (mr_bad (s := none) HQ.out HN.out HY.out HL.out HGE.out HBE.out HK.out)
    obtain ⟨w9, hw9⟩ : ∃ w9, w9 = w1.setCell ⟨q, 1, none⟩ (.bool true) := ⟨_, rfl⟩
    rw [← hw9] at HX
    go_wp2
    rw [← hw9]
    clear hw9 q0 q1 f1
    go_ret
    exact ⟨rfl, HX.out⟩
theorem text_mr (w0 : World) (q : Nat) (s : Mst) (w : World) (h : MrS w0 w q s) :
  Calls Tryz.prog 110 #[.pointer (some ⟨q, 0, none⟩)] w fun e w' => e = .returned (.string (bs (texM s).1)) ∧ MrS w0 w' q (texM s).2 ∧ MrK w w' := by
 obtain ⟨a, n, c, l, hq, hn, hy, hl, hs⟩ := h.st
 have hrd := hy.rd h.bel
 have HQ := hide hq
 have HN := hide hn
 have HY := hide hy
 have HL := hide hl
 have HGE := hide h.ge
 have HBE := hide h.bel
 obtain ⟨q0, q1⟩ := hq.cells
 cases s with
 | none =>
  have e0 : texM none = ([], none) := rfl
  rw [e0]
  have q1 : w.cell? ⟨q, 1, none⟩ = some (.bool true) := q1
  cases e : ct l with
  | none =>
   have hcut := cutY_none a n c l w hl hrd e
   clear hs hq hy hl hn h e0 hrd e
   go_enter Tryz.func110, Tryz.ntmps110
   go_wp2_with fail
   refine hcut.mono ?_
   rintro e w1 ⟨a2, n2, c2, rfl, b1⟩
   clear hcut q0 q1
   have HQ1 := hide (show MrAt w1 q (.slice a n c) true from Bx.carry HQ.out b1)
   obtain ⟨q0, q1⟩ := HQ1.out.cells
   have f1 := Bx.fz HQ1.out 1
   have HX := hide (mr_bad (s := none) HQ1.out HN.out (HY.out.carry b1) HL.out HGE.out (HBE.out.trans (b1.mono HBE.out.size)) (MrK.below b1))
   obtain ⟨w9, hw9⟩ : ∃ w9, w9 = w1.setCell ⟨q, 1, none⟩ (.bool true) := ⟨_, rfl⟩
   rw [← hw9] at HX
   clear b1 HQ
   go_wp2
   rw [← hw9]
   clear hw9 q0 q1 f1
   go_ret
   exact ⟨rfl, HX.out⟩
  | some p =>
   obtain ⟨t, r⟩ := p
   have hcut := cutY_some a n c l t r w hl hrd e
   clear hs hq hy hl hn h e0 hrd e
   go_enter Tryz.func110, Tryz.ntmps110
   go_wp2_with fail
   refine hcut.mono ?_
   rintro e w1 ⟨a2, c2, rfl, -, b1⟩
   clear hcut q0 q1
   have HQ1 := hide (show MrAt w1 q (.slice a n c) true from Bx.carry HQ.out b1)
   obtain ⟨q0, q1⟩ := HQ1.out.cells
   have f1 := Bx.fz HQ1.out 1
   have HX := hide (mr_bad (s := none) HQ1.out HN.out (HY.out.carry b1) HL.out HGE.out (HBE.out.trans (b1.mono HBE.out.size)) (MrK.below b1))
   obtain ⟨w9, hw9⟩ : ∃ w9, w9 = w1.setCell ⟨q, 1, none⟩ (.bool true) := ⟨_, rfl⟩
   rw [← hw9] at HX
   clear b1 HQ
   go_wp2
   rw [← hw9]
   clear hw9 q0 q1 f1
   go_ret
   exact ⟨rfl, HX.out⟩
 | some l1 =>
  obtain rfl := hs l1 rfl
  have q1 : w.cell? ⟨q, 1, none⟩ = some (.bool false) := q1
  cases e : ct l1 with
  | none =>
   rw [texM_bad e]
   have hcut := cutY_none a n c l1 w hl hrd e
   clear hs hq hy hl hn h hrd e
   go_enter Tryz.func110, Tryz.ntmps110
   go_wp2_with fail
   refine hcut.mono ?_
   rintro e w1 ⟨a2, n2, c2, rfl, b1⟩
   clear hcut q0 q1
   have HQ1 := hide (show MrAt w1 q (.slice a n c) false from Bx.carry HQ.out b1)
   obtain ⟨q0, q1⟩ := HQ1.out.cells
   have f1 := Bx.fz HQ1.out 1
   have HX := hide (mr_bad (s := none) HQ1.out HN.out (HY.out.carry b1) HL.out HGE.out (HBE.out.trans (b1.mono HBE.out.size)) (MrK.below b1))
   obtain ⟨w9, hw9⟩ : ∃ w9, w9 = w1.setCell ⟨q, 1, none⟩ (.bool true) := ⟨_, rfl⟩
   rw [← hw9] at HX
   clear b1 HQ
   go_wp2
   rw [← hw9]
   clear hw9 q0 q1 f1
   go_ret
   exact ⟨rfl, HX.out⟩
  | some p =>
   obtain ⟨t, r⟩ := p
   rw [texM_of e]
   have hcut := cutY_some a n c l1 t r w hl hrd e
   have HL2 := hide (show r.length ≤ 1000000 by have := (ct_len e).1; omega)
   clear hs hq hy hl hn h hrd e
   go_enter Tryz.func110, Tryz.ntmps110
   go_wp2_with fail
   refine hcut.mono ?_
   rintro e w1 ⟨a2, c2, rfl, o1, b1⟩
   clear hcut q0 q1
   have HQ1 := hide (show MrAt w1 q (.slice a n c) false from Bx.carry HQ.out b1)
   obtain ⟨q0, q1⟩ := HQ1.out.cells
   have f0 := Bx.fz HQ1.out 0
   have HX := hide (mr_rest HQ1.out rfl rfl (.inr o1.rdk) HL2.out HGE.out (HBE.out.trans (b1.mono HBE.out.size)) (MrK.below b1))
   obtain ⟨nr, hnr⟩ : ∃ nr, nr = r.length := ⟨_, rfl⟩
   rw [← hnr] at HX ⊢
   clear hnr o1
   obtain ⟨w9, hw9⟩ : ∃ w9, w9 = w1.setCell ⟨q, 0, none⟩ (.slice a2 nr c2) := ⟨_, rfl⟩
   rw [← hw9] at HX
   clear b1 HQ
   go_wp2
   rw [← hw9]
   clear hw9 q0 q1 f0
   go_ret
   exact ⟨rfl, HX.out⟩
end Go.Proofs.YtmeaiocohalphaaGreatDoor

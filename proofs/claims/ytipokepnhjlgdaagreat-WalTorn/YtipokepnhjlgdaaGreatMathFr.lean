/-
  Plain mathematics of frames: a record's blocks, the record that blocks begin with, the log of blocks.
-/
import Derived.Test.YtipokepnhjlgdaaGreatMathFs7
import Derived.Test.YtipokepnhjlgdaaGreatMathSl
namespace Go.Proofs.YtipokepnhjlgdaaGreat
open Go.RowKit
set_option linter.unusedVariables false
set_option linter.unusedSimpArgs false
theorem qaec {f g : Fsd} {but : List UInt8} (hf : okFs f) (hg : okFs g) (hd : g.1 = f.1) (hs : ∀ x ∈ f.2.2.1, x ∈ g.2.2.1) : Like f g but := by
 intro x hx _
 have h1 := qdc hf hx
 have h2 := qdc hg (hs x hx)
 refine ⟨h1.2.2.2.2, h2.2.2.2.2, qlo h1.2.2.2.2 h2.2.2.2.2 (by rw [h1.2.2.2.1, h2.2.2.2.1]) ?_⟩
 intro n _
 rw [hd]
theorem qaed {a b : Int} {l : List Ex} {n : Int} (ha : 0 ≤ a) (h : qd5 a b l n = 0) : qjs a b (qck a b l n) ∧ qbj (qck a b l n) = n ∧ qck a b l n ≠ [] ∧ ∀ k, inL (qck a b l n) k = true → inL l k = false := by
 obtain ⟨f1, f2, r, f3, f4⟩ := qj2 h
 obtain ⟨r1, r2, r3⟩ := qff f1
 rcases qkt (qdg a b l) n f2 (fun x hx => (r1.1 x hx).2.1) with ⟨k1, _⟩ | ⟨p, x, q, c, k1, k2, k3, k4, k5⟩
 ·rw [k1] at f3; cases f3
 rw [k2] at f3
 cases f3
 rw [f4]
 refine ⟨qmk (q := q) (x := x) (y := (x.1, c)) (k1 ▸ r1) rfl k3 k4, ?_, by simp, ?_⟩
 ·unfold qbj at *
  rw [List.map_append, List.sum_append]
  simpa using k5
 ·intro k hk
  have hin : inL (qdg a b l) k = true := by
   rw [qnr] at hk ⊢
   obtain ⟨y, hy, h1, h2⟩ := hk
   rw [k1]
   rcases List.mem_append.1 hy with hy | hy
   ·exact ⟨y, List.mem_append_left _ hy, h1, h2⟩
   ·obtain rfl : y = (x.1, c) := by simpa using hy
    exact ⟨x, by simp, h1, by simp only at h2; omega⟩
  rw [r2] at hin
  simp only [Bool.and_eq_true, Bool.not_eq_true'] at hin
  exact hin.2
theorem qjb {f : Fsd} {s : List UInt8} {n : Int} (h : (qa4 f s n).2 = 0) : okFs f ∧ qa4 f s n = ((f.1, f.2.1, mkL f s n, f.2.2.2), 0) ∧ okFs (f.1, f.2.1, mkL f s n, f.2.2.2) ∧ qa0 (f.1, f.2.1, mkL f s n, f.2.2.2) s = 0 ∧ qjt (f.1, f.2.1, mkL f s n, f.2.2.2) s = n ∧ Like f (f.1, f.2.1, mkL f s n, f.2.2.2) [] ∧ qaha (f.1, f.2.1, mkL f s n, f.2.2.2) = 0 ∧ qrw (f.1, f.2.1, mkL f s n, f.2.2.2) = qrw f - n ∧ 1 ≤ n ∧ n ≤ 4096 ∧ 0 ≤ qrw f ∧ qrw f ≤ 4096 := by
 obtain ⟨h0, h1, h2⟩ := qah2 h
 have hok := qky h0
 obtain ⟨m1, m2, m3, m4⟩ := mk_ok h1
 have hd := (qao hok).1
 have hmm := qha hd
 have h34 := (qao hok).2.1
 have hm4 := ((qb4 f.1).1 hd).2.2.1
 obtain ⟨T, hT⟩ : ∃ T, T = qck 34 (qa7 f) (qa3 f) n := ⟨_, rfl⟩
 rw [← hT] at m3 m4
 have ht := qaed (by decide) m2
 rw [← hT, hmm] at ht
 rw [hmm] at m3
 have ha := qrv m3
 have hA : okFs (f.1, f.2.1, insF f.2.2.1 (s, T), f.2.2.2) := qzs hok ha.2.1
 have hin : (s, T) ∈ insF f.2.2.1 (s, T) := ins_mem.2 (.inl rfl)
 have hfi := qdc hA hin
 have hpos : ∀ x ∈ T, 0 ≤ x.2 := fun x hx => by have := ht.1.1 x hx; omega
 have hlen := qlq hpos
 rw [ht.2.1] at hlen
 rw [m4]
 refine ⟨hok, by unfold qa4; rw [h2, m4], hA, hfi.2.2.2.2, ?_, qaec hok hA rfl (fun x hx => ins_mem.2 (.inr hx)), ?_⟩
 ·have hs : qa0 (f.1, f.2.1, insF f.2.2.1 (s, T), f.2.2.2) s = 0 := hfi.2.2.2.2
  rw [(qln hs).2.2]
  have hb : bloL (f.1, f.2.1, insF f.2.2.1 (s, T), f.2.2.2) s = qay T := hfi.2.2.2.1
  rw [hb]; exact hlen
 ·obtain ⟨c1, c2⟩ := qt3 hA
  obtain ⟨d1, d2⟩ := qt3 hok
  have u1 := (qok hA).2.1
  have u2 := (qok hok).2.1
  have hap : apX T = true := by
   have hx := (qg9 m3).2.2.2.2.1
   exact (qnq (qzt hx (List.sublist_append_right _ _))).2
  have hcT := qh7 (a := 34) (k := mny f.1 - 34) T (fun x hx => by have := ht.1.1 x hx; omega) hap
  rw [ht.2.1] at hcT
  have hor : ∀ k, inL (qa3 (f.1, f.2.1, insF f.2.2.1 (s, T), f.2.2.2)) k = (inL (qa3 f) k || inL T k) := by
   intro k
   rw [u1, u2]
   show inL (qaz (insF f.2.2.1 (s, T)) ++ qaz f.2.2.2) k = _
   rw [Bool.eq_iff_iff]
   simp only [Bool.or_eq_true, qnr, List.mem_append]
   have hp := qs7 f.2.2.1 (s, T)
   constructor
   ·rintro ⟨x, hx | hx, h1, h2⟩
    ·rcases List.mem_append.1 (hp.mem_iff.1 hx) with hx | hx
     ·exact .inl ⟨x, .inl hx, h1, h2⟩
     ·exact .inr ⟨x, hx, h1, h2⟩
    ·exact .inl ⟨x, .inr hx, h1, h2⟩
   ·rintro (⟨x, hx | hx, h1, h2⟩ | ⟨x, hx, h1, h2⟩)
    ·exact ⟨x, .inl (hp.mem_iff.2 (List.mem_append_left _ hx)), h1, h2⟩
    ·exact ⟨x, .inr hx, h1, h2⟩
    ·exact ⟨x, .inl (hp.mem_iff.2 (List.mem_append_right _ hx)), h1, h2⟩
  have e1 := qnw (p := inL (qa3 f)) (q := inL T) 34 (mny f.1 - 34) (fun i _ hp => by
   cases e : inL T (34 + (i : Int)) with
   | false => rfl
   | true => rw [ht.2.2.2 _ e] at hp; cases hp)
  have e2 := qzx (p := inL (qa3 f)) (a := 34) (mny f.1 - 34)
  have e3 := qzx (p := fun k => inL (qa3 f) k || inL T k) (a := 34) (mny f.1 - 34)
  have e4 : qrw (f.1, f.2.1, insF f.2.2.1 (s, T), f.2.2.2) = cntB (fun k => !(inL (qa3 f) k || inL T k)) 34 (mny f.1 - 34) := by
   rw [c2]
   exact qlp _ (fun i _ => by rw [hor])
  have hw := (qj2 m2).2.1
  have hn : n ≤ 4096 := by
   by_cases hx : n < 1 ∨ 4096 < n
   ·rw [(qh4 (qj2 m2).1 hx).1] at m2; cases m2
   ·omega
  have b1 := qnv (fun k => !inL (qa3 f) k) 34 (mny f.1 - 34)
  have b2 := qnv (inL (qa3 f)) 34 (mny f.1 - 34)
  refine ⟨c1, ?_, hw, hn, ?_, ?_⟩
  ·rw [e4, d2]; omega
  ·rw [d2]; omega
  ·rw [d2]; omega
def qd4 (d : Dk) : Fsd × Int :=
 if (qaj d).2.2 ≠ 0 then (fz, (qaj d).2.2)
 else if d.2.1.any (fun p => decide (p.1 < 34)) = true then (fz, 70)
 else if qda (genB d (qaj d).1 (qaj d).2.1) (mny d) ≠ 0 then (fz, 70)
 else (((d.1, d.2.1, []), (qaj d).1, qe6 (genB d (qaj d).1 (qaj d).2.1) (mny d), qe6 (genB d (qaj d).1 (qaj d).2.1) (mny d)), 0)
def qd6 (f g : Fsd) (many : Int) (K : List Bool) : Dk × Int :=
 if fsE f ≠ 0 ∨ fsE g ≠ 0 ∨ f.1.2.2 ≠ [] then (dz, 8)
 else if (doD f.1 g.1.2.2 (g.1.2.2.length : Nat)).2 ≠ 0 ∨ ¬ ((doD f.1 g.1.2.2 (g.1.2.2.length : Nat)).1.1 = g.1.1 ∧ (doD f.1 g.1.2.2 (g.1.2.2.length : Nat)).1.2.1 = g.1.2.1) then (dz, 8)
 else if many < 0 ∨ (g.1.2.2.length : Int) < many then (dz, 2)
 else qdy (doD f.1 g.1.2.2 many).1 K
abbrev qlr (d : Dk) (K : List Bool) : Dk := (qcb d.1 (kept d.2.1 K), [], [])
theorem qaee : ∀ p ∈ ([] : List Pu), 34 ≤ p.1 := by intro p hp; cases hp
theorem qah7 {f : Fsd} (h : okFs f) : qd4 f.1 = (((f.1.1, f.1.2.1, []), f.2.1, f.2.2.2, f.2.2.2), 0) := by
 have h3 := (qao h).2.2.2
 obtain ⟨c1, c2, c3, c4, c5, c6⟩ := h
 unfold qd4
 have hn : ¬ f.1.2.1.any (fun p => decide (p.1 < 34)) = true := by
  rw [List.any_eq_true]
  rintro ⟨p, hp, h4⟩
  have := c3 p hp
  simp at h4
  omega
 rw [if_neg (by rw [c1]; decide), if_neg hn, c2, if_neg (by rw [c4]; decide), c5]
theorem qaef {s : List UInt8} {g : Nat} {D K : List Fl} (h : okFs ((s, [], []), g, D, K)) : qd4 (s, [], []) = (((s, [], []), g, K, K), 0) := by
 have h2 := qah7 h
 dsimp only at h2
 exact h2
theorem qt4 {l : List Pu} {k : Int} (h : ∀ p ∈ l, p.1 ≠ k) : qbt k l = none := by
 induction l with
 | nil => rfl
 | cons p l ih =>
  unfold qbt
  rw [ih (fun q hq => h q (List.mem_cons_of_mem _ hq))]
  simp only
  rw [if_neg (h p (List.mem_cons_self ..))]
theorem put_in {d : Dk} (h : okD d = true) : ∀ p ∈ d.2.1, 0 ≤ p.1 ∧ 128 * p.1.toNat + 128 ≤ d.1.length ∧ p.2.length = 128 := fun p hp => by
 obtain ⟨hf, _, _⟩ := Fine.of_ok h
 have := qc9 (hf.2.2.2 p hp)
 have := hf.1
 omega
theorem qzy {d : Dk} (K : List Bool) (h : okD d = true) (n : Nat) : blk (qcb d.1 (kept d.2.1 K)) n = (qbt n (kept d.2.1 K)).getD (blk d.1 n) :=
 qfb d.1 n _ d.1 rfl (fun p hp => put_in h p (qey _ _ _ hp))
theorem qzz {S : Int → Prop} {d : Dk} (K : List Bool) (h : okD d = true) (hw : ∀ p ∈ d.2.1, ¬ S p.1) {k : Nat} (hk : S k) : blk (qcb d.1 (kept d.2.1 K)) k = blk d.1 k := by
 rw [qzy K h, qt4 (fun p hp e => hw p (qey _ _ _ hp) (e ▸ hk))]
 rfl
def qls (g : Nat) (n : Int) : Prop := (0 ≤ n ∧ n < 2) ∨ (((2 + g % 2 * 16 : Nat) : Int) ≤ n ∧ n < ((2 + g % 2 * 16 + 16 : Nat) : Int))
theorem qz0 {x d : Dk} {g sz : Nat} (hx : x.1.length = d.1.length) (hlen : d.1.length = 128 * mny d) (hm : 34 < mny d) (hs : sz ≤ 2048) (h : ∀ k : Nat, qls g k → blk x.1 k = blk d.1 k) : genB x g sz = genB d g sz := by
 unfold genB
 apply List.ext_getElem?
 intro i
 rw [List.getElem?_take, List.getElem?_take]
 by_cases hi : i < sz
 ·rw [if_pos hi, if_pos hi, List.getElem?_drop, List.getElem?_drop]
  have e1 : 128 * (2 + g % 2 * 16) + i = 128 * (2 + g % 2 * 16 + i / 128) + i % 128 := by omega
  rw [e1, ← qlk (by omega) (by omega), ← qlk (by omega) (by omega), h _ (by unfold qls; omega)]
 ·rw [if_neg hi, if_neg hi]
theorem qah8 {f : Fsd} {d : Dk} (h : okFs f) (hok : okD d = true) (hlen : d.1.length = f.1.1.length) (hb : ∀ k : Nat, qls f.2.1 k → blk d.1 k = blk f.1.1 k) (hw : ∀ p ∈ d.2.1, 34 ≤ p.1) : okFs (d, f.2.1, f.2.2.2, f.2.2.2) := by
 obtain ⟨h1, h2, h3, h4⟩ := qao h
 obtain ⟨s1, s2⟩ := qib h
 have hm : mny d = mny f.1 := by unfold mny; rw [hlen]
 have hL : qaj d = qaj f.1 := by
  have e1 : qhu d = qhu f.1 := by unfold qhu; rw [qfl (hb 0 (by unfold qls; omega)), qfl (hb 1 (by unfold qls; omega))]
  unfold qaj
  rw [e1, hm, qez hok, qez h1]
 have hG : genB d f.2.1 (qaj f.1).2.1 = genB f.1 f.2.1 (qaj f.1).2.1 := qz0 hlen (qfx h1) h2 s1 hb
 have hK := qog h
 obtain ⟨c1, c2, c3, c4, c5, c6⟩ := h
 refine ⟨by show (qaj d).2.2 = 0; rw [hL]; exact c1, by show (qaj d).1 = _; rw [hL]; exact c2, hw, ?_, ?_, ?_⟩
 ·show qda (genB d f.2.1 (qaj d).2.1) (mny d) = 0
  rw [hL, hG, hm]; exact c4
 ·show qe6 (genB d f.2.1 (qaj d).2.1) (mny d) = f.2.2.2
  rw [hL, hG, hm]; exact c5
 ·show chkF f.2.2.2 (mny d) = 0
  rw [hm]; exact hK
theorem qql {f : Fsd} {y : Dk} (K : List Bool) (h : okFs f) (hok : okD y = true) (hm : mny y = mny f.1) (hb : ∀ k : Nat, qls f.2.1 k → blk y.1 k = blk f.1.1 k) (hw : ∀ p ∈ y.2.1, ¬ qls f.2.1 p.1) :
  okFs (qlr y K, f.2.1, f.2.2.2, f.2.2.2) ∧ qd4 (qlr y K) = ((qlr y K, f.2.1, f.2.2.2, f.2.2.2), 0) := by
 obtain ⟨c1, c2⟩ := qack K hok
 have h1 : okFs (qlr y K, f.2.1, f.2.2.2, f.2.2.2) := qah8 h c1 (by rw [c2, qfx hok, hm, qfx (qao h).1]) (fun k hk => (qzz (S := qls f.2.1) K hok hw hk).trans (hb k hk)) qaee
 exact ⟨h1, qaef h1⟩
theorem qaeg {f : Fsd} (h : okFs f) : ∀ p ∈ f.1.2.1, ¬ qls f.2.1 p.1 := fun p hp hs => by
 have := h.2.2.1 p hp
 unfold qls at hs
 omega
theorem qz1 {f : Fsd} (K : List Bool) (h : okFs f) : okFs (qlr f.1 K, f.2.1, f.2.2.2, f.2.2.2) ∧ qd4 (qlr f.1 K) = ((qlr f.1 K, f.2.1, f.2.2.2, f.2.2.2), 0) :=
 qql K h (qao h).1 rfl (fun _ _ => rfl) (qaeg h)
/-! ### a commit, wherever power fails in it -/
theorem qz2 {d x : Dk} {l : List Ac} (h : qa5 d l = some x) (j : Nat) : ∃ y, qa5 d (l.take j) = some y ∧ qa5 y (l.drop j) = some x := by
 rw [← List.take_append_drop j l, qbz] at h
 obtain ⟨y, h1, h2⟩ := Option.bind_eq_some_iff.1 h
 exact ⟨y, h1, h2⟩
abbrev Hd := Nat × Nat × Nat × Nat
def okH (h : Hd) : Prop := h.1 < 4294967296 ∧ h.2.1 < 4294967296 ∧ h.2.2.1 < 4294967296 ∧ h.2.2.2 < 4294967296
def le2 (n : Nat) : List UInt8 := [UInt8.ofNat (n % 256), UInt8.ofNat (n / 256 % 256)]
theorem qsj (n : Nat) : (le2 n).length = 2 := rfl
theorem qah9 (n : Nat) (h : n < 65536) : un4 (le2 n) = n := by
 simp only [un4, le2, UInt8.toNat_ofNat']
 omega
def hdB (h : Hd) : List UInt8 := le4 h.1 ++ (le4 h.2.1 ++ (le4 h.2.2.1 ++ le4 h.2.2.2))
theorem qdv (h : Hd) : (hdB h).length = 16 := rfl
def padP (rest : List UInt8) : List UInt8 := rest.take 107 ++ List.replicate (107 - rest.length) 0
theorem qaeh (rest : List UInt8) : (padP rest).length = 107 := by unfold padP; rw [List.length_append, List.length_take, List.length_replicate]; omega
def qdl (h : Hd) (i m : Nat) (rest : List UInt8) : List UInt8 := hdB h ++ (le2 i ++ (le2 m ++ (UInt8.ofNat (min rest.length 107) :: padP rest)))
theorem qz3 (h : Hd) (i m : Nat) (rest : List UInt8) : (qdl h i m rest).length = 128 := by
 unfold qdl; simp only [List.length_append, List.length_cons, qdv, qsj, qaeh]
def qer (n : Nat) : Nat := max 1 ((n + 106) / 107)
def rowB (h : Hd) (r : List UInt8) : List (List UInt8) := (List.range (qer r.length)).map fun i => qdl h i (qer r.length) (r.drop (107 * i))
theorem qdm (h : Hd) (r : List UInt8) : (rowB h r).length = qer r.length := by simp [rowB]
theorem qe3 (h : Hd) (r : List UInt8) (i : Nat) (hi : i < (rowB h r).length) : (rowB h r)[i] = qdl h i (qer r.length) (r.drop (107 * i)) := by simp [rowB]
theorem qgt (n : Nat) : 1 ≤ qer n := by unfold qer; omega
theorem qil (n : Nat) (h : n ≤ 16384) : qer n ≤ 154 := by unfold qer; omega
def frmE (h : Hd) (r : List UInt8) : Int := if h.1 = 0 ∨ h.2.1 = 0 then 2 else if 16384 < r.length then 3 else 0
def frmL (h : Hd) (r : List UInt8) : List (List UInt8) := if frmE h r = 0 then rowB h r else []
theorem qz4 {h : Hd} {r : List UInt8} (he : frmE h r = 0) : h.1 ≠ 0 ∧ h.2.1 ≠ 0 ∧ r.length ≤ 16384 := by
 unfold frmE at he
 split at he
 ·cases he
 ·split at he
  ·cases he
  ·rename_i a b; exact ⟨fun e => a (.inl e), fun e => a (.inr e), by omega⟩
theorem qz5 {h : Hd} {r : List UInt8} (h1 : h.1 ≠ 0) (h2 : h.2.1 ≠ 0) (h3 : r.length ≤ 16384) : frmE h r = 0 := by
 unfold frmE; rw [if_neg (by rintro (e | e); exact h1 e; exact h2 e), if_neg (by omega)]
def genF (b : List UInt8) : Nat := un4 (b.take 4)
def numB (b : List UInt8) : Nat := un4 ((b.drop 4).take 4)
def qbv (b : List UInt8) : Nat := un4 ((b.drop 8).take 4)
def qec (b : List UInt8) : Nat := un4 ((b.drop 12).take 4)
def cntF (b : List UInt8) : Nat := un4 ((b.drop 18).take 2)
def sizB (b : List UInt8) : Nat := (b.getD 20 0).toNat
def qjv (b : List UInt8) : List UInt8 := (b.drop 21).take (min (sizB b) 107)
theorem qsk (l : List UInt8) : un4 (l.take 4) < 4294967296 := by
 have := qjl (l.take 4)
 have hle : 256 ^ (l.take 4).length ≤ 256 ^ 4 := Nat.pow_le_pow_right (by decide) (by rw [List.length_take]; omega)
 exact Nat.lt_of_lt_of_le this hle
theorem qlt (b : List UInt8) : genF b < 4294967296 := qsk _
theorem qol (b : List UInt8) : qbv b < 4294967296 := qsk _
theorem qaei (b : List UInt8) : qec b < 4294967296 := qsk _
theorem qaia (b : List UInt8) : cntF b < 65536 := by
 have := qjl ((b.drop 18).take 2)
 have hle : 256 ^ ((b.drop 18).take 2).length ≤ 256 ^ 2 := Nat.pow_le_pow_right (by decide) (by rw [List.length_take]; omega)
 exact Nat.lt_of_lt_of_le this hle
theorem qz6 (h : Hd) (i m : Nat) (r : List UInt8) (hh : h.1 < 4294967296) : genF (qdl h i m r) = h.1 := by
 have e : (qdl h i m r).take 4 = le4 h.1 := by simp [qdl, hdB, le4]
 unfold genF; rw [e, qiz _ hh]
theorem qfm (h : Hd) (i m : Nat) (r : List UInt8) (hh : h.2.2.1 < 4294967296) : qbv (qdl h i m r) = h.2.2.1 := by
 have e : ((qdl h i m r).drop 8).take 4 = le4 h.2.2.1 := by simp [qdl, hdB, le4]
 unfold qbv; rw [e, qiz _ hh]
theorem qm5 (h : Hd) (i m : Nat) (r : List UInt8) (hh : h.2.2.2 < 4294967296) : qec (qdl h i m r) = h.2.2.2 := by
 have e : ((qdl h i m r).drop 12).take 4 = le4 h.2.2.2 := by simp [qdl, hdB, le4]
 unfold qec; rw [e, qiz _ hh]
theorem qqm (h : Hd) (i m : Nat) (r : List UInt8) (hm : m < 65536) : cntF (qdl h i m r) = m := by
 have e : ((qdl h i m r).drop 18).take 2 = le2 m := by simp [qdl, hdB, le4, le2]
 unfold cntF; rw [e, qah9 _ hm]
theorem qz7 (h : Hd) (i m : Nat) (r : List UInt8) : sizB (qdl h i m r) = min r.length 107 := by
 have e : (qdl h i m r).getD 20 0 = UInt8.ofNat (min r.length 107) := by simp [qdl, hdB, le4, le2]
 unfold sizB; rw [e, UInt8.toNat_ofNat']; omega
theorem qv7 (h : Hd) (i m : Nat) (r : List UInt8) : qjv (qdl h i m r) = r.take 107 := by
 have e : (qdl h i m r).drop 21 = padP r := by simp [qdl, hdB, le4, le2]
 unfold qjv; rw [e, qz7]
 unfold padP
 rw [Nat.min_eq_left (by omega : min r.length 107 ≤ 107), List.take_append_of_le_length (by rw [List.length_take]; omega), List.take_take]
 by_cases hl : r.length ≤ 107
 ·rw [List.take_of_length_le (by omega), List.take_of_length_le hl]
 ·congr 1; omega
def qfz (l : List (List UInt8)) : List UInt8 := (l.map qjv).flatten
theorem qv8 (l : List (List UInt8)) (b : List UInt8) : qfz (l ++ [b]) = qfz l ++ qjv b := by simp [qfz]
theorem qm6 (l : List (List UInt8)) (k : Nat) (h : k < l.length) : qfz (l.take (k + 1)) = qfz (l.take k) ++ qjv l[k] := by
 rw [List.take_succ_eq_append_getElem h, qv8]
theorem qqn (b : List UInt8) : (qjv b).length ≤ 107 := by unfold qjv; rw [List.length_take]; omega
theorem qqo : ∀ l : List (List UInt8), (qfz l).length ≤ 107 * l.length
 | [] => by simp [qfz]
 | b :: l => by
  have := qqo l
  have hb := qqn b
  have e : qfz (b :: l) = qjv b ++ qfz l := rfl
  rw [e, List.length_append, List.length_cons]; omega
theorem qhm (h : Hd) (r : List UInt8) : ∀ k, k ≤ (rowB h r).length → qfz ((rowB h r).take k) = r.take (107 * k)
 | 0, _ => by simp [qfz]
 | k + 1, hk => by
  rw [qm6 _ k (by omega), qhm h r k (by omega), qe3, qv7]
  rw [show 107 * (k + 1) = 107 * k + 107 by omega, List.take_add]
theorem qz8 (h : Hd) (r : List UInt8) : qfz (rowB h r) = r := by
 have := qhm h r (rowB h r).length (Nat.le_refl _)
 rw [List.take_length] at this
 rw [this, List.take_of_length_le]
 rw [qdm]; unfold qer; omega
abbrev Op := List UInt8 × Nat × Nat
def recO (l : List (List UInt8)) : List UInt8 := qfz (l.take (cntF (l.headD [])))
def hitO (g n p : Nat) (l : List (List UInt8)) : Bool :=
 decide (l ≠ [] ∧ cntF (l.headD []) ≤ l.length ∧ frmE (g, n, qbv (l.headD []), p) (recO l) = 0 ∧ rowB (g, n, qbv (l.headD []), p) (recO l) = l.take (cntF (l.headD [])))
def opn (g n p : Nat) (l : List (List UInt8)) : Op := if hitO g n p l then (recO l, qbv (l.headD []), cntF (l.headD [])) else ([], 0, 0)
theorem qf0 (g n p : Nat) (l : List (List UInt8)) : hitO g n p l = true ↔ l ≠ [] ∧ cntF (l.headD []) ≤ l.length ∧ frmE (g, n, qbv (l.headD []), p) (recO l) = 0 ∧ rowB (g, n, qbv (l.headD []), p) (recO l) = l.take (cntF (l.headD [])) := by
 simp [hitO]
theorem qhz {g n p : Nat} {l : List (List UInt8)} (h : hitO g n p l = true) : opn g n p l = (recO l, qbv (l.headD []), cntF (l.headD [])) := by unfold opn; rw [if_pos h]
theorem qlu {g n p : Nat} {l : List (List UInt8)} (h : hitO g n p l = false) : opn g n p l = ([], 0, 0) := by unfold opn; rw [h]; rfl
theorem qz9 {g n p : Nat} {l : List (List UInt8)} (h : hitO g n p l = true) : cntF (l.headD []) = qer (recO l).length ∧ 1 ≤ cntF (l.headD []) ∧ cntF (l.headD []) ≤ l.length := by
 obtain ⟨h1, h2, h3, h4⟩ := (qf0 g n p l).1 h
 have := congrArg List.length h4
 rw [qdm, List.length_take, Nat.min_eq_left h2] at this
 exact ⟨this.symm, by rw [← this]; exact qgt _, h2⟩
theorem qt5 (g n p : Nat) (l : List (List UInt8)) : (opn g n p l).2.2 = 0 ↔ hitO g n p l = false := by
 cases h : hitO g n p l
 ·rw [qlu h]; simp
 ·rw [qhz h]; have := (qz9 h).2.1
  constructor
  ·intro e; have e' : cntF (l.headD []) = 0 := e; omega
  ·intro e; cases e
theorem qhn (g n p : Nat) (l : List (List UInt8)) : (opn g n p l).2.2 ≤ l.length := by
 cases h : hitO g n p l
 ·rw [qlu h]; exact Nat.zero_le _
 ·rw [qhz h]; exact (qz9 h).2.2
theorem qim (g n p : Nat) (l : List (List UInt8)) : (opn g n p l).2.1 < 4294967296 := by
 cases h : hitO g n p l
 ·rw [qlu h]; show (0 : Nat) < _; omega
 ·rw [qhz h]; exact qol _
theorem qaaa (a l : List (List UInt8)) (h : 0 < a.length) : (a ++ l).headD [] = a[0] := by
 cases a with
 | nil => simp at h
 | cons x t => rfl
theorem qaib {g n p s : Nat} {r : List UInt8} (l : List (List UInt8)) (hs : s < 4294967296) (he : frmE (g, n, s, p) r = 0) : hitO g n p (rowB (g, n, s, p) r ++ l) = true ∧ recO (rowB (g, n, s, p) r ++ l) = r ∧ qbv ((rowB (g, n, s, p) r ++ l).headD []) = s ∧ cntF ((rowB (g, n, s, p) r ++ l).headD []) = qer r.length := by
 have hl := qdm (g, n, s, p) r
 have hp := qgt r.length
 have hle := qil r.length (qz4 he).2.2
 have h0 : 0 < (rowB (g, n, s, p) r).length := by omega
 have hd : (rowB (g, n, s, p) r ++ l).headD [] = (rowB (g, n, s, p) r)[0] := qaaa _ _ h0
 have e1 : qbv ((rowB (g, n, s, p) r ++ l).headD []) = s := by rw [hd, qe3]; exact qfm _ _ _ _ hs
 have e2 : cntF ((rowB (g, n, s, p) r ++ l).headD []) = qer r.length := by rw [hd, qe3]; exact qqm _ _ _ _ (by omega)
 have e3 : (rowB (g, n, s, p) r ++ l).take (qer r.length) = rowB (g, n, s, p) r := by rw [← hl, List.take_left]
 have e4 : recO (rowB (g, n, s, p) r ++ l) = r := by unfold recO; rw [e2, e3, qz8]
 refine ⟨?_, e4, e1, e2⟩
 rw [qf0, e1, e2, e4, e3]
 refine ⟨?_, ?_, he, rfl⟩
 ·intro e; have := congrArg List.length e; rw [List.length_append, List.length_nil] at this; omega
 ·rw [List.length_append]; omega
theorem qaab {g n p s : Nat} {r : List UInt8} (l : List (List UInt8)) (hs : s < 4294967296) (he : frmE (g, n, s, p) r = 0) : opn g n p (rowB (g, n, s, p) r ++ l) = (r, s, (rowB (g, n, s, p) r).length) := by
 obtain ⟨h1, h2, h3, h4⟩ := qaib l hs he
 rw [qhz h1, h2, h3, h4, qdm]
theorem qt6 {g n p : Nat} {l : List (List UInt8)} (h : (opn g n p l).2.2 ≠ 0) : frmE (g, n, (opn g n p l).2.1, p) (opn g n p l).1 = 0 ∧ rowB (g, n, (opn g n p l).2.1, p) (opn g n p l).1 = l.take (opn g n p l).2.2 := by
 cases hh : hitO g n p l
 ·exact absurd ((qt5 g n p l).2 hh) h
 ·obtain ⟨h1, h2, h3, h4⟩ := (qf0 g n p l).1 hh
  rw [qhz hh]
  exact ⟨h3, h4⟩
theorem qjc {g n p : Nat} {l : List (List UInt8)} (hg : g < 4294967296) (hp : p < 4294967296) (h : (opn g n p l).2.2 ≠ 0) (j : Nat) (hj : j < (opn g n p l).2.2) (hjl : j < l.length) : genF l[j] = g ∧ qbv l[j] = (opn g n p l).2.1 ∧ qec l[j] = p := by
 obtain ⟨h1, h2⟩ := qt6 h
 have hlen := congrArg List.length h2
 rw [List.length_take, Nat.min_eq_left (qhn g n p l)] at hlen
 have hj' : j < (rowB (g, n, (opn g n p l).2.1, p) (opn g n p l).1).length := by omega
 have e : l[j] = (rowB (g, n, (opn g n p l).2.1, p) (opn g n p l).1)[j] := by
  simp only [h2, List.getElem_take]
 rw [e, qe3]
 exact ⟨qz6 _ _ _ _ hg, qfm _ _ _ _ (qim g n p l), qm5 _ _ _ _ hp⟩
theorem qt7 {g n p : Nat} {l m : List (List UInt8)} (h : (opn g n p l).2.2 ≠ 0) (hm : (opn g n p l).2.2 ≤ m.length) (he : m.take (opn g n p l).2.2 = l.take (opn g n p l).2.2) : opn g n p m = opn g n p l := by
 obtain ⟨h1, h2⟩ := qt6 h
 have e : m = rowB (g, n, (opn g n p l).2.1, p) (opn g n p l).1 ++ m.drop (opn g n p l).2.2 := by rw [h2, ← he, List.take_append_drop]
 have hlen : (rowB (g, n, (opn g n p l).2.1, p) (opn g n p l).1).length = (opn g n p l).2.2 := by rw [h2, List.length_take, Nat.min_eq_left (qhn g n p l)]
 rw [e, qaab _ (qim g n p l) h1, hlen]
end Go.Proofs.YtipokepnhjlgdaaGreat

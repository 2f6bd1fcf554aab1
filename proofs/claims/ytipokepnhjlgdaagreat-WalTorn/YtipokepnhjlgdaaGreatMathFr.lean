/-
  Plain mathematics of frames: a record's blocks, the record that blocks begin with, the log of blocks.
-/
import Derived.Test.YtipokepnhjlgdaaGreatMathFs7
import Derived.Test.YtipokepnhjlgdaaGreatMathSl
namespace Go.Proofs.YtipokepnhjlgdaaGreat
open Go.RowKit
set_option linter.unusedVariables false
set_option linter.unusedSimpArgs false
theorem qae8 {f g : Fsd} {but : List UInt8} (hf : okFs f) (hg : okFs g) (hd : g.1 = f.1) (hs : ∀ x ∈ f.2.2.1, x ∈ g.2.2.1) : Like f g but := by
 intro x hx _
 have h1 := qdd hf hx
 have h2 := qdd hg (hs x hx)
 refine ⟨h1.2.2.2.2, h2.2.2.2.2, qlr h1.2.2.2.2 h2.2.2.2.2 (by rw [h1.2.2.2.1, h2.2.2.2.1]) ?_⟩
 intro n _
 rw [hd]
theorem qae9 {a b : Int} {l : List Ex} {n : Int} (ha : 0 ≤ a) (h : qd7 a b l n = 0) : qju a b (qcl a b l n) ∧ qbj (qcl a b l n) = n ∧ qcl a b l n ≠ [] ∧ ∀ k, inL (qcl a b l n) k = true → inL l k = false := by
 obtain ⟨f1, f2, r, f3, f4⟩ := qj4 h
 obtain ⟨r1, r2, r3⟩ := qfg f1
 rcases qkv (qdh a b l) n f2 (fun x hx => (r1.1 x hx).2.1) with ⟨k1, _⟩ | ⟨p, x, q, c, k1, k2, k3, k4, k5⟩
 ·rw [k1] at f3; cases f3
 rw [k2] at f3
 cases f3
 rw [f4]
 refine ⟨qmo (q := q) (x := x) (y := (x.1, c)) (k1 ▸ r1) rfl k3 k4, ?_, by simp, ?_⟩
 ·unfold qbj at *
  rw [List.map_append, List.sum_append]
  simpa using k5
 ·intro k hk
  have hin : inL (qdh a b l) k = true := by
   rw [qnx] at hk ⊢
   obtain ⟨y, hy, h1, h2⟩ := hk
   rw [k1]
   rcases List.mem_append.1 hy with hy | hy
   ·exact ⟨y, List.mem_append_left _ hy, h1, h2⟩
   ·obtain rfl : y = (x.1, c) := by simpa using hy
    exact ⟨x, by simp, h1, by simp only at h2; omega⟩
  rw [r2] at hin
  simp only [Bool.and_eq_true, Bool.not_eq_true'] at hin
  exact hin.2
theorem qjd {f : Fsd} {s : List UInt8} {n : Int} (h : (qa5 f s n).2 = 0) : okFs f ∧ qa5 f s n = ((f.1, f.2.1, mkL f s n, f.2.2.2), 0) ∧ okFs (f.1, f.2.1, mkL f s n, f.2.2.2) ∧ qa3 (f.1, f.2.1, mkL f s n, f.2.2.2) s = 0 ∧ qjv (f.1, f.2.1, mkL f s n, f.2.2.2) s = n ∧ Like f (f.1, f.2.1, mkL f s n, f.2.2.2) [] ∧ qah4 (f.1, f.2.1, mkL f s n, f.2.2.2) = 0 ∧ qr0 (f.1, f.2.1, mkL f s n, f.2.2.2) = qr0 f - n ∧ 1 ≤ n ∧ n ≤ 4096 ∧ 0 ≤ qr0 f ∧ qr0 f ≤ 4096 := by
 obtain ⟨h0, h1, h2⟩ := qaiw h
 have hok := qk0 h0
 obtain ⟨m1, m2, m3, m4⟩ := mk_ok h1
 have hd := (qaq hok).1
 have hmm := qha hd
 have h34 := (qaq hok).2.1
 have hm4 := ((qb5 f.1).1 hd).2.2.1
 obtain ⟨T, hT⟩ : ∃ T, T = qcl 34 (qa8 f) (qa4 f) n := ⟨_, rfl⟩
 rw [← hT] at m3 m4
 have ht := qae9 (by decide) m2
 rw [← hT, hmm] at ht
 rw [hmm] at m3
 have ha := qrz m3
 have hA : okFs (f.1, f.2.1, insF f.2.2.1 (s, T), f.2.2.2) := qzu hok ha.2.1
 have hin : (s, T) ∈ insF f.2.2.1 (s, T) := ins_mem.2 (.inl rfl)
 have hfi := qdd hA hin
 have hpos : ∀ x ∈ T, 0 ≤ x.2 := fun x hx => by have := ht.1.1 x hx; omega
 have hlen := qlt hpos
 rw [ht.2.1] at hlen
 rw [m4]
 refine ⟨hok, by unfold qa5; rw [h2, m4], hA, hfi.2.2.2.2, ?_, qae8 hok hA rfl (fun x hx => ins_mem.2 (.inr hx)), ?_⟩
 ·have hs : qa3 (f.1, f.2.1, insF f.2.2.1 (s, T), f.2.2.2) s = 0 := hfi.2.2.2.2
  rw [(qlq hs).2.2]
  have hb : bloL (f.1, f.2.1, insF f.2.2.1 (s, T), f.2.2.2) s = qay T := hfi.2.2.2.1
  rw [hb]; exact hlen
 ·obtain ⟨c1, c2⟩ := qt6 hA
  obtain ⟨d1, d2⟩ := qt6 hok
  have u1 := (qoq hA).2.1
  have u2 := (qoq hok).2.1
  have hap : apX T = true := by
   have hx := (qg9 m3).2.2.2.2.1
   exact (qnw (qzv hx (List.sublist_append_right _ _))).2
  have hcT := qh8 (a := 34) (k := mny f.1 - 34) T (fun x hx => by have := ht.1.1 x hx; omega) hap
  rw [ht.2.1] at hcT
  have hor : ∀ k, inL (qa4 (f.1, f.2.1, insF f.2.2.1 (s, T), f.2.2.2)) k = (inL (qa4 f) k || inL T k) := by
   intro k
   rw [u1, u2]
   show inL (qaz (insF f.2.2.1 (s, T)) ++ qaz f.2.2.2) k = _
   rw [Bool.eq_iff_iff]
   simp only [Bool.or_eq_true, qnx, List.mem_append]
   have hp := qtb f.2.2.1 (s, T)
   constructor
   ·rintro ⟨x, hx | hx, h1, h2⟩
    ·rcases List.mem_append.1 (hp.mem_iff.1 hx) with hx | hx
     ·exact .inl ⟨x, .inl hx, h1, h2⟩
     ·exact .inr ⟨x, hx, h1, h2⟩
    ·exact .inl ⟨x, .inr hx, h1, h2⟩
   ·rintro (⟨x, hx | hx, h1, h2⟩ | ⟨x, hx, h1, h2⟩)
    ·exact ⟨x, .inl (hp.mem_iff.2 (List.mem_append_left _ hx)), h1, h2⟩
    ·exact ⟨x, .inr hx, h1, h2⟩
    ·exact ⟨x, .inl (hp.mem_iff.2 (List.mem_append_right _ hx)), h1, h2⟩
  have e1 := qn4 (p := inL (qa4 f)) (q := inL T) 34 (mny f.1 - 34) (fun i _ hp => by
   cases e : inL T (34 + (i : Int)) with
   | false => rfl
   | true => rw [ht.2.2.2 _ e] at hp; cases hp)
  have e2 := qzz (p := inL (qa4 f)) (a := 34) (mny f.1 - 34)
  have e3 := qzz (p := fun k => inL (qa4 f) k || inL T k) (a := 34) (mny f.1 - 34)
  have e4 : qr0 (f.1, f.2.1, insF f.2.2.1 (s, T), f.2.2.2) = cntB (fun k => !(inL (qa4 f) k || inL T k)) 34 (mny f.1 - 34) := by
   rw [c2]
   exact qls _ (fun i _ => by rw [hor])
  have hw := (qj4 m2).2.1
  have hn : n ≤ 4096 := by
   by_cases hx : n < 1 ∨ 4096 < n
   ·rw [(qh5 (qj4 m2).1 hx).1] at m2; cases m2
   ·omega
  have b1 := qn3 (fun k => !inL (qa4 f) k) 34 (mny f.1 - 34)
  have b2 := qn3 (inL (qa4 f)) 34 (mny f.1 - 34)
  refine ⟨c1, ?_, hw, hn, ?_, ?_⟩
  ·rw [e4, d2]; omega
  ·rw [d2]; omega
  ·rw [d2]; omega
def qd6 (d : Dk) : Fsd × Int :=
 if (qal d).2.2 ≠ 0 then (fz, (qal d).2.2)
 else if d.2.1.any (fun p => decide (p.1 < 34)) = true then (fz, 70)
 else if qdc (genB d (qal d).1 (qal d).2.1) (mny d) ≠ 0 then (fz, 70)
 else (((d.1, d.2.1, []), (qal d).1, qe7 (genB d (qal d).1 (qal d).2.1) (mny d), qe7 (genB d (qal d).1 (qal d).2.1) (mny d)), 0)
def qd8 (f g : Fsd) (many : Int) (K : List Bool) : Dk × Int :=
 if fsE f ≠ 0 ∨ fsE g ≠ 0 ∨ f.1.2.2 ≠ [] then (dz, 8)
 else if (doD f.1 g.1.2.2 (g.1.2.2.length : Nat)).2 ≠ 0 ∨ ¬ ((doD f.1 g.1.2.2 (g.1.2.2.length : Nat)).1.1 = g.1.1 ∧ (doD f.1 g.1.2.2 (g.1.2.2.length : Nat)).1.2.1 = g.1.2.1) then (dz, 8)
 else if many < 0 ∨ (g.1.2.2.length : Int) < many then (dz, 2)
 else qdz (doD f.1 g.1.2.2 many).1 K
abbrev qlu (d : Dk) (K : List Bool) : Dk := (qcc d.1 (kept d.2.1 K), [], [])
theorem qafa : ∀ p ∈ ([] : List Pu), 34 ≤ p.1 := by intro p hp; cases hp
theorem qai1 {f : Fsd} (h : okFs f) : qd6 f.1 = (((f.1.1, f.1.2.1, []), f.2.1, f.2.2.2, f.2.2.2), 0) := by
 have h3 := (qaq h).2.2.2
 obtain ⟨c1, c2, c3, c4, c5, c6⟩ := h
 unfold qd6
 have hn : ¬ f.1.2.1.any (fun p => decide (p.1 < 34)) = true := by
  rw [List.any_eq_true]
  rintro ⟨p, hp, h4⟩
  have := c3 p hp
  simp at h4
  omega
 rw [if_neg (by rw [c1]; decide), if_neg hn, c2, if_neg (by rw [c4]; decide), c5]
theorem qafb {s : List UInt8} {g : Nat} {D K : List Fl} (h : okFs ((s, [], []), g, D, K)) : qd6 (s, [], []) = (((s, [], []), g, K, K), 0) := by
 have h2 := qai1 h
 dsimp only at h2
 exact h2
theorem qt7 {l : List Pu} {k : Int} (h : ∀ p ∈ l, p.1 ≠ k) : qbv k l = none := by
 induction l with
 | nil => rfl
 | cons p l ih =>
  unfold qbv
  rw [ih (fun q hq => h q (List.mem_cons_of_mem _ hq))]
  simp only
  rw [if_neg (h p (List.mem_cons_self ..))]
theorem put_in {d : Dk} (h : okD d = true) : ∀ p ∈ d.2.1, 0 ≤ p.1 ∧ 128 * p.1.toNat + 128 ≤ d.1.length ∧ p.2.length = 128 := fun p hp => by
 obtain ⟨hf, _, _⟩ := Fine.of_ok h
 have := qdb (hf.2.2.2 p hp)
 have := hf.1
 omega
theorem qz0 {d : Dk} (K : List Bool) (h : okD d = true) (n : Nat) : blk (qcc d.1 (kept d.2.1 K)) n = (qbv n (kept d.2.1 K)).getD (blk d.1 n) :=
 qfc d.1 n _ d.1 rfl (fun p hp => put_in h p (qez _ _ _ hp))
theorem qz1 {S : Int → Prop} {d : Dk} (K : List Bool) (h : okD d = true) (hw : ∀ p ∈ d.2.1, ¬ S p.1) {k : Nat} (hk : S k) : blk (qcc d.1 (kept d.2.1 K)) k = blk d.1 k := by
 rw [qz0 K h, qt7 (fun p hp e => hw p (qez _ _ _ hp) (e ▸ hk))]
 rfl
def qlv (g : Nat) (n : Int) : Prop := (0 ≤ n ∧ n < 2) ∨ (((2 + g % 2 * 16 : Nat) : Int) ≤ n ∧ n < ((2 + g % 2 * 16 + 16 : Nat) : Int))
theorem qz2 {x d : Dk} {g sz : Nat} (hx : x.1.length = d.1.length) (hlen : d.1.length = 128 * mny d) (hm : 34 < mny d) (hs : sz ≤ 2048) (h : ∀ k : Nat, qlv g k → blk x.1 k = blk d.1 k) : genB x g sz = genB d g sz := by
 unfold genB
 apply List.ext_getElem?
 intro i
 rw [List.getElem?_take, List.getElem?_take]
 by_cases hi : i < sz
 ·rw [if_pos hi, if_pos hi, List.getElem?_drop, List.getElem?_drop]
  have e1 : 128 * (2 + g % 2 * 16) + i = 128 * (2 + g % 2 * 16 + i / 128) + i % 128 := by omega
  rw [e1, ← qln (by omega) (by omega), ← qln (by omega) (by omega), h _ (by unfold qlv; omega)]
 ·rw [if_neg hi, if_neg hi]
theorem qai2 {f : Fsd} {d : Dk} (h : okFs f) (hok : okD d = true) (hlen : d.1.length = f.1.1.length) (hb : ∀ k : Nat, qlv f.2.1 k → blk d.1 k = blk f.1.1 k) (hw : ∀ p ∈ d.2.1, 34 ≤ p.1) : okFs (d, f.2.1, f.2.2.2, f.2.2.2) := by
 obtain ⟨h1, h2, h3, h4⟩ := qaq h
 obtain ⟨s1, s2⟩ := qic h
 have hm : mny d = mny f.1 := by unfold mny; rw [hlen]
 have hL : qal d = qal f.1 := by
  have e1 : qhu d = qhu f.1 := by unfold qhu; rw [qfm (hb 0 (by unfold qlv; omega)), qfm (hb 1 (by unfold qlv; omega))]
  unfold qal
  rw [e1, hm, qe0 hok, qe0 h1]
 have hG : genB d f.2.1 (qal f.1).2.1 = genB f.1 f.2.1 (qal f.1).2.1 := qz2 hlen (qfy h1) h2 s1 hb
 have hK := qom h
 obtain ⟨c1, c2, c3, c4, c5, c6⟩ := h
 refine ⟨by show (qal d).2.2 = 0; rw [hL]; exact c1, by show (qal d).1 = _; rw [hL]; exact c2, hw, ?_, ?_, ?_⟩
 ·show qdc (genB d f.2.1 (qal d).2.1) (mny d) = 0
  rw [hL, hG, hm]; exact c4
 ·show qe7 (genB d f.2.1 (qal d).2.1) (mny d) = f.2.2.2
  rw [hL, hG, hm]; exact c5
 ·show chkF f.2.2.2 (mny d) = 0
  rw [hm]; exact hK
theorem qqp {f : Fsd} {y : Dk} (K : List Bool) (h : okFs f) (hok : okD y = true) (hm : mny y = mny f.1) (hb : ∀ k : Nat, qlv f.2.1 k → blk y.1 k = blk f.1.1 k) (hw : ∀ p ∈ y.2.1, ¬ qlv f.2.1 p.1) :
  okFs (qlu y K, f.2.1, f.2.2.2, f.2.2.2) ∧ qd6 (qlu y K) = ((qlu y K, f.2.1, f.2.2.2, f.2.2.2), 0) := by
 obtain ⟨c1, c2⟩ := qadg K hok
 have h1 : okFs (qlu y K, f.2.1, f.2.2.2, f.2.2.2) := qai2 h c1 (by rw [c2, qfy hok, hm, qfy (qaq h).1]) (fun k hk => (qz1 (S := qlv f.2.1) K hok hw hk).trans (hb k hk)) qafa
 exact ⟨h1, qafb h1⟩
theorem qafc {f : Fsd} (h : okFs f) : ∀ p ∈ f.1.2.1, ¬ qlv f.2.1 p.1 := fun p hp hs => by
 have := h.2.2.1 p hp
 unfold qlv at hs
 omega
theorem qz3 {f : Fsd} (K : List Bool) (h : okFs f) : okFs (qlu f.1 K, f.2.1, f.2.2.2, f.2.2.2) ∧ qd6 (qlu f.1 K) = ((qlu f.1 K, f.2.1, f.2.2.2, f.2.2.2), 0) :=
 qqp K h (qaq h).1 rfl (fun _ _ => rfl) (qafc h)
/-! ### a commit, wherever power fails in it -/
theorem qz4 {d x : Dk} {l : List Ac} (h : qa6 d l = some x) (j : Nat) : ∃ y, qa6 d (l.take j) = some y ∧ qa6 y (l.drop j) = some x := by
 rw [← List.take_append_drop j l, qb0] at h
 obtain ⟨y, h1, h2⟩ := Option.bind_eq_some_iff.1 h
 exact ⟨y, h1, h2⟩
abbrev Hd := Nat × Nat × Nat × Nat
def okH (h : Hd) : Prop := h.1 < 4294967296 ∧ h.2.1 < 4294967296 ∧ h.2.2.1 < 4294967296 ∧ h.2.2.2 < 4294967296
def le2 (n : Nat) : List UInt8 := [UInt8.ofNat (n % 256), UInt8.ofNat (n / 256 % 256)]
theorem qsn (n : Nat) : (le2 n).length = 2 := rfl
theorem qai3 (n : Nat) (h : n < 65536) : un4 (le2 n) = n := by
 simp only [un4, le2, UInt8.toNat_ofNat']
 omega
def hdB (h : Hd) : List UInt8 := le4 h.1 ++ (le4 h.2.1 ++ (le4 h.2.2.1 ++ le4 h.2.2.2))
theorem qdw (h : Hd) : (hdB h).length = 16 := rfl
def padP (rest : List UInt8) : List UInt8 := rest.take 107 ++ List.replicate (107 - rest.length) 0
theorem qafd (rest : List UInt8) : (padP rest).length = 107 := by unfold padP; rw [List.length_append, List.length_take, List.length_replicate]; omega
def qdm (h : Hd) (i m : Nat) (rest : List UInt8) : List UInt8 := hdB h ++ (le2 i ++ (le2 m ++ (UInt8.ofNat (min rest.length 107) :: padP rest)))
theorem qz5 (h : Hd) (i m : Nat) (rest : List UInt8) : (qdm h i m rest).length = 128 := by
 unfold qdm; simp only [List.length_append, List.length_cons, qdw, qsn, qafd]
def qet (n : Nat) : Nat := max 1 ((n + 106) / 107)
def rowB (h : Hd) (r : List UInt8) : List (List UInt8) := (List.range (qet r.length)).map fun i => qdm h i (qet r.length) (r.drop (107 * i))
theorem qdn (h : Hd) (r : List UInt8) : (rowB h r).length = qet r.length := by simp [rowB]
theorem qe4 (h : Hd) (r : List UInt8) (i : Nat) (hi : i < (rowB h r).length) : (rowB h r)[i] = qdm h i (qet r.length) (r.drop (107 * i)) := by simp [rowB]
theorem qgu (n : Nat) : 1 ≤ qet n := by unfold qet; omega
theorem qim (n : Nat) (h : n ≤ 16384) : qet n ≤ 154 := by unfold qet; omega
def frmE (h : Hd) (r : List UInt8) : Int := if h.1 = 0 ∨ h.2.1 = 0 then 2 else if 16384 < r.length then 3 else 0
def frmL (h : Hd) (r : List UInt8) : List (List UInt8) := if frmE h r = 0 then rowB h r else []
theorem qz6 {h : Hd} {r : List UInt8} (he : frmE h r = 0) : h.1 ≠ 0 ∧ h.2.1 ≠ 0 ∧ r.length ≤ 16384 := by
 unfold frmE at he
 split at he
 ·cases he
 ·split at he
  ·cases he
  ·rename_i a b; exact ⟨fun e => a (.inl e), fun e => a (.inr e), by omega⟩
theorem qz7 {h : Hd} {r : List UInt8} (h1 : h.1 ≠ 0) (h2 : h.2.1 ≠ 0) (h3 : r.length ≤ 16384) : frmE h r = 0 := by
 unfold frmE; rw [if_neg (by rintro (e | e); exact h1 e; exact h2 e), if_neg (by omega)]
def genF (b : List UInt8) : Nat := un4 (b.take 4)
def numB (b : List UInt8) : Nat := un4 ((b.drop 4).take 4)
def qbx (b : List UInt8) : Nat := un4 ((b.drop 8).take 4)
def qef (b : List UInt8) : Nat := un4 ((b.drop 12).take 4)
def cntF (b : List UInt8) : Nat := un4 ((b.drop 18).take 2)
def sizB (b : List UInt8) : Nat := (b.getD 20 0).toNat
def qjx (b : List UInt8) : List UInt8 := (b.drop 21).take (min (sizB b) 107)
theorem qso (l : List UInt8) : un4 (l.take 4) < 4294967296 := by
 have := qjn (l.take 4)
 have hle : 256 ^ (l.take 4).length ≤ 256 ^ 4 := Nat.pow_le_pow_right (by decide) (by rw [List.length_take]; omega)
 exact Nat.lt_of_lt_of_le this hle
theorem qlw (b : List UInt8) : genF b < 4294967296 := qso _
theorem qor (b : List UInt8) : qbx b < 4294967296 := qso _
theorem qafe (b : List UInt8) : qef b < 4294967296 := qso _
theorem qai4 (b : List UInt8) : cntF b < 65536 := by
 have := qjn ((b.drop 18).take 2)
 have hle : 256 ^ ((b.drop 18).take 2).length ≤ 256 ^ 2 := Nat.pow_le_pow_right (by decide) (by rw [List.length_take]; omega)
 exact Nat.lt_of_lt_of_le this hle
theorem qz8 (h : Hd) (i m : Nat) (r : List UInt8) (hh : h.1 < 4294967296) : genF (qdm h i m r) = h.1 := by
 have e : (qdm h i m r).take 4 = le4 h.1 := by simp [qdm, hdB, le4]
 unfold genF; rw [e, qi1 _ hh]
theorem qfn (h : Hd) (i m : Nat) (r : List UInt8) (hh : h.2.2.1 < 4294967296) : qbx (qdm h i m r) = h.2.2.1 := by
 have e : ((qdm h i m r).drop 8).take 4 = le4 h.2.2.1 := by simp [qdm, hdB, le4]
 unfold qbx; rw [e, qi1 _ hh]
theorem qna (h : Hd) (i m : Nat) (r : List UInt8) (hh : h.2.2.2 < 4294967296) : qef (qdm h i m r) = h.2.2.2 := by
 have e : ((qdm h i m r).drop 12).take 4 = le4 h.2.2.2 := by simp [qdm, hdB, le4]
 unfold qef; rw [e, qi1 _ hh]
theorem qqq (h : Hd) (i m : Nat) (r : List UInt8) (hm : m < 65536) : cntF (qdm h i m r) = m := by
 have e : ((qdm h i m r).drop 18).take 2 = le2 m := by simp [qdm, hdB, le4, le2]
 unfold cntF; rw [e, qai3 _ hm]
theorem qz9 (h : Hd) (i m : Nat) (r : List UInt8) : sizB (qdm h i m r) = min r.length 107 := by
 have e : (qdm h i m r).getD 20 0 = UInt8.ofNat (min r.length 107) := by simp [qdm, hdB, le4, le2]
 unfold sizB; rw [e, UInt8.toNat_ofNat']; omega
theorem qv9 (h : Hd) (i m : Nat) (r : List UInt8) : qjx (qdm h i m r) = r.take 107 := by
 have e : (qdm h i m r).drop 21 = padP r := by simp [qdm, hdB, le4, le2]
 unfold qjx; rw [e, qz9]
 unfold padP
 rw [Nat.min_eq_left (by omega : min r.length 107 ≤ 107), List.take_append_of_le_length (by rw [List.length_take]; omega), List.take_take]
 by_cases hl : r.length ≤ 107
 ·rw [List.take_of_length_le (by omega), List.take_of_length_le hl]
 ·congr 1; omega
def qf0 (l : List (List UInt8)) : List UInt8 := (l.map qjx).flatten
theorem qwa (l : List (List UInt8)) (b : List UInt8) : qf0 (l ++ [b]) = qf0 l ++ qjx b := by simp [qf0]
theorem qnb (l : List (List UInt8)) (k : Nat) (h : k < l.length) : qf0 (l.take (k + 1)) = qf0 (l.take k) ++ qjx l[k] := by
 rw [List.take_succ_eq_append_getElem h, qwa]
theorem qqr (b : List UInt8) : (qjx b).length ≤ 107 := by unfold qjx; rw [List.length_take]; omega
theorem qqs : ∀ l : List (List UInt8), (qf0 l).length ≤ 107 * l.length
 | [] => by simp [qf0]
 | b :: l => by
  have := qqs l
  have hb := qqr b
  have e : qf0 (b :: l) = qjx b ++ qf0 l := rfl
  rw [e, List.length_append, List.length_cons]; omega
theorem qhm (h : Hd) (r : List UInt8) : ∀ k, k ≤ (rowB h r).length → qf0 ((rowB h r).take k) = r.take (107 * k)
 | 0, _ => by simp [qf0]
 | k + 1, hk => by
  rw [qnb _ k (by omega), qhm h r k (by omega), qe4, qv9]
  rw [show 107 * (k + 1) = 107 * k + 107 by omega, List.take_add]
theorem qaaa (h : Hd) (r : List UInt8) : qf0 (rowB h r) = r := by
 have := qhm h r (rowB h r).length (Nat.le_refl _)
 rw [List.take_length] at this
 rw [this, List.take_of_length_le]
 rw [qdn]; unfold qet; omega
abbrev Op := List UInt8 × Nat × Nat
def recO (l : List (List UInt8)) : List UInt8 := qf0 (l.take (cntF (l.headD [])))
def hitO (g n p : Nat) (l : List (List UInt8)) : Bool :=
 decide (l ≠ [] ∧ cntF (l.headD []) ≤ l.length ∧ frmE (g, n, qbx (l.headD []), p) (recO l) = 0 ∧ rowB (g, n, qbx (l.headD []), p) (recO l) = l.take (cntF (l.headD [])))
def opn (g n p : Nat) (l : List (List UInt8)) : Op := if hitO g n p l then (recO l, qbx (l.headD []), cntF (l.headD [])) else ([], 0, 0)
theorem qf1 (g n p : Nat) (l : List (List UInt8)) : hitO g n p l = true ↔ l ≠ [] ∧ cntF (l.headD []) ≤ l.length ∧ frmE (g, n, qbx (l.headD []), p) (recO l) = 0 ∧ rowB (g, n, qbx (l.headD []), p) (recO l) = l.take (cntF (l.headD [])) := by
 simp [hitO]
theorem qhz {g n p : Nat} {l : List (List UInt8)} (h : hitO g n p l = true) : opn g n p l = (recO l, qbx (l.headD []), cntF (l.headD [])) := by unfold opn; rw [if_pos h]
theorem qlx {g n p : Nat} {l : List (List UInt8)} (h : hitO g n p l = false) : opn g n p l = ([], 0, 0) := by unfold opn; rw [h]; rfl
theorem qaab {g n p : Nat} {l : List (List UInt8)} (h : hitO g n p l = true) : cntF (l.headD []) = qet (recO l).length ∧ 1 ≤ cntF (l.headD []) ∧ cntF (l.headD []) ≤ l.length := by
 obtain ⟨h1, h2, h3, h4⟩ := (qf1 g n p l).1 h
 have := congrArg List.length h4
 rw [qdn, List.length_take, Nat.min_eq_left h2] at this
 exact ⟨this.symm, by rw [← this]; exact qgu _, h2⟩
theorem qt8 (g n p : Nat) (l : List (List UInt8)) : (opn g n p l).2.2 = 0 ↔ hitO g n p l = false := by
 cases h : hitO g n p l
 ·rw [qlx h]; simp
 ·rw [qhz h]; have := (qaab h).2.1
  constructor
  ·intro e; have e' : cntF (l.headD []) = 0 := e; omega
  ·intro e; cases e
theorem qhn (g n p : Nat) (l : List (List UInt8)) : (opn g n p l).2.2 ≤ l.length := by
 cases h : hitO g n p l
 ·rw [qlx h]; exact Nat.zero_le _
 ·rw [qhz h]; exact (qaab h).2.2
theorem qin (g n p : Nat) (l : List (List UInt8)) : (opn g n p l).2.1 < 4294967296 := by
 cases h : hitO g n p l
 ·rw [qlx h]; show (0 : Nat) < _; omega
 ·rw [qhz h]; exact qor _
theorem qaac (a l : List (List UInt8)) (h : 0 < a.length) : (a ++ l).headD [] = a[0] := by
 cases a with
 | nil => simp at h
 | cons x t => rfl
theorem qai5 {g n p s : Nat} {r : List UInt8} (l : List (List UInt8)) (hs : s < 4294967296) (he : frmE (g, n, s, p) r = 0) : hitO g n p (rowB (g, n, s, p) r ++ l) = true ∧ recO (rowB (g, n, s, p) r ++ l) = r ∧ qbx ((rowB (g, n, s, p) r ++ l).headD []) = s ∧ cntF ((rowB (g, n, s, p) r ++ l).headD []) = qet r.length := by
 have hl := qdn (g, n, s, p) r
 have hp := qgu r.length
 have hle := qim r.length (qz6 he).2.2
 have h0 : 0 < (rowB (g, n, s, p) r).length := by omega
 have hd : (rowB (g, n, s, p) r ++ l).headD [] = (rowB (g, n, s, p) r)[0] := qaac _ _ h0
 have e1 : qbx ((rowB (g, n, s, p) r ++ l).headD []) = s := by rw [hd, qe4]; exact qfn _ _ _ _ hs
 have e2 : cntF ((rowB (g, n, s, p) r ++ l).headD []) = qet r.length := by rw [hd, qe4]; exact qqq _ _ _ _ (by omega)
 have e3 : (rowB (g, n, s, p) r ++ l).take (qet r.length) = rowB (g, n, s, p) r := by rw [← hl, List.take_left]
 have e4 : recO (rowB (g, n, s, p) r ++ l) = r := by unfold recO; rw [e2, e3, qaaa]
 refine ⟨?_, e4, e1, e2⟩
 rw [qf1, e1, e2, e4, e3]
 refine ⟨?_, ?_, he, rfl⟩
 ·intro e; have := congrArg List.length e; rw [List.length_append, List.length_nil] at this; omega
 ·rw [List.length_append]; omega
theorem qaad {g n p s : Nat} {r : List UInt8} (l : List (List UInt8)) (hs : s < 4294967296) (he : frmE (g, n, s, p) r = 0) : opn g n p (rowB (g, n, s, p) r ++ l) = (r, s, (rowB (g, n, s, p) r).length) := by
 obtain ⟨h1, h2, h3, h4⟩ := qai5 l hs he
 rw [qhz h1, h2, h3, h4, qdn]
theorem qt9 {g n p : Nat} {l : List (List UInt8)} (h : (opn g n p l).2.2 ≠ 0) : frmE (g, n, (opn g n p l).2.1, p) (opn g n p l).1 = 0 ∧ rowB (g, n, (opn g n p l).2.1, p) (opn g n p l).1 = l.take (opn g n p l).2.2 := by
 cases hh : hitO g n p l
 ·exact absurd ((qt8 g n p l).2 hh) h
 ·obtain ⟨h1, h2, h3, h4⟩ := (qf1 g n p l).1 hh
  rw [qhz hh]
  exact ⟨h3, h4⟩
theorem qje {g n p : Nat} {l : List (List UInt8)} (hg : g < 4294967296) (hp : p < 4294967296) (h : (opn g n p l).2.2 ≠ 0) (j : Nat) (hj : j < (opn g n p l).2.2) (hjl : j < l.length) : genF l[j] = g ∧ qbx l[j] = (opn g n p l).2.1 ∧ qef l[j] = p := by
 obtain ⟨h1, h2⟩ := qt9 h
 have hlen := congrArg List.length h2
 rw [List.length_take, Nat.min_eq_left (qhn g n p l)] at hlen
 have hj' : j < (rowB (g, n, (opn g n p l).2.1, p) (opn g n p l).1).length := by omega
 have e : l[j] = (rowB (g, n, (opn g n p l).2.1, p) (opn g n p l).1)[j] := by
  simp only [h2, List.getElem_take]
 rw [e, qe4]
 exact ⟨qz8 _ _ _ _ hg, qfn _ _ _ _ (qin g n p l), qna _ _ _ _ hp⟩
theorem qua {g n p : Nat} {l m : List (List UInt8)} (h : (opn g n p l).2.2 ≠ 0) (hm : (opn g n p l).2.2 ≤ m.length) (he : m.take (opn g n p l).2.2 = l.take (opn g n p l).2.2) : opn g n p m = opn g n p l := by
 obtain ⟨h1, h2⟩ := qt9 h
 have e : m = rowB (g, n, (opn g n p l).2.1, p) (opn g n p l).1 ++ m.drop (opn g n p l).2.2 := by rw [h2, ← he, List.take_append_drop]
 have hlen : (rowB (g, n, (opn g n p l).2.1, p) (opn g n p l).1).length = (opn g n p l).2.2 := by rw [h2, List.length_take, Nat.min_eq_left (qhn g n p l)]
 rw [e, qaad _ (qin g n p l) h1, hlen]
end Go.Proofs.YtipokepnhjlgdaaGreat

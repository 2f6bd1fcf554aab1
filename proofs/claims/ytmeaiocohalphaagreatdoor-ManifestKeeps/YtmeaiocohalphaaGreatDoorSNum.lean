/-
  What super's number and its closure do: four bytes of a row are put, or read.
-/
import Derived.Test.YtmeaiocohalphaaGreatDoorDAll3
import Derived.Test.YtmeaiocohalphaaGreatDoorMathSl
import Derived.Test.YtmeaiocohalphaaGreatDoorRmChk
import Derived.Test.YtmeaiocohalphaaGreatDoorMathFi3
import Derived.Test.YtmeaiocohalphaaGreatDoorDMay
set_option maxHeartbeats 1000000
set_option maxRecDepth 100000
namespace Go.Proofs.YtmeaiocohalphaaGreatDoor
open Go.RowKit
set_option linter.unusedVariables false
set_option linter.unusedSimpArgs false
abbrev Fsd := Dk × Nat × List Fl × List Fl
def fz : Fsd := (dz, 0, [], [])
def genB (d : Dk) (gen size : Nat) : List UInt8 := (d.1.drop (128 * (2 + gen % 2 * 16))).take size
def okFs (f : Fsd) : Prop := (qat f.1).2.2 = 0 ∧ (qat f.1).1 = f.2.1 ∧ (∀ p ∈ f.1.2.1, 34 ≤ p.1) ∧ qdh (genB f.1 f.2.1 (qat f.1).2.1) (mny f.1) = 0 ∧ qg3 (genB f.1 f.2.1 (qat f.1).2.1) (mny f.1) = f.2.2.2 ∧ chkF f.2.2.1 (mny f.1) = 0
instance (f : Fsd) : Decidable (okFs f) := inferInstanceAs (Decidable (_ ∧ _ ∧ _ ∧ _ ∧ _ ∧ _))
def fsE (f : Fsd) : Int := if okFs f then 0 else 8
def qau (f : Fsd) : List Ex := qew f.2.2.1 ++ qew f.2.2.2
def qa3 (f : Fsd) : Int := (qjw f.1).1
def mkE (f : Fsd) (s : List UInt8) (n : Int) : Int :=
 if qa0 f.2.2.1 s = 0 then 51 else if qa0 f.2.2.1 s ≠ 6 then qa0 f.2.2.1 s
 else if qdm 34 (qa3 f) (qau f) n ≠ 0 then qdm 34 (qa3 f) (qau f) n
 else qaz f.2.2.1 s (qb1 34 (qa3 f) (qau f) n) (qa3 f)
def mkL (f : Fsd) (s : List UInt8) (n : Int) : List Fl := if mkE f s n = 0 then qcv f.2.2.1 s (qb1 34 (qa3 f) (qau f) n) (qa3 f) else []
def qdk (f : Fsd) (l : List Fl) (e : Int) : Fsd × Int := if fsE f ≠ 0 then (fz, fsE f) else if e ≠ 0 then (fz, e) else ((f.1, f.2.1, l, f.2.2.2), 0)
def qav (f : Fsd) (s : List UInt8) (n : Int) : Fsd × Int := qdk f (mkL f s n) (mkE f s n)
def qck (f : Fsd) (s t : List UInt8) : Fsd × Int := qdk f (qcd f.2.2.1 s t) (qbe f.2.2.1 s t)
def bloE (f : Fsd) (s : List UInt8) : Int := if qa0 f.2.2.1 s ≠ 0 then qa0 f.2.2.1 s else chkX (getF f.2.2.1 s)
def bloL (f : Fsd) (s : List UInt8) : List Int := if qa0 f.2.2.1 s ≠ 0 then [] else qe3 (getF f.2.2.1 s)
def atE (f : Fsd) (s : List UInt8) (i : Int) : Int := if bloE f s ≠ 0 then bloE f s else if i < 0 ∨ ((bloL f s).length : Int) ≤ i then 2 else 0
def atN (f : Fsd) (s : List UInt8) (i : Int) : Int := if atE f s i ≠ 0 then 0 else (bloL f s).getD i.toNat 0
def qar (f : Fsd) (s : List UInt8) : Int := if fsE f ≠ 0 then fsE f else bloE f s
def qh0 (f : Fsd) (s : List UInt8) : Int := if fsE f ≠ 0 then 0 else (bloL f s).length
def getE (f : Fsd) (s : List UInt8) (i : Int) : Int := if fsE f ≠ 0 then fsE f else if atE f s i ≠ 0 then atE f s i else (qfe f.1 (atN f s i)).2
def getL (f : Fsd) (s : List UInt8) (i : Int) : List UInt8 := if fsE f ≠ 0 then [] else if atE f s i ≠ 0 then [] else (qfe f.1 (atN f s i)).1
def qaj2 (f : Fsd) : Int := if fsE f ≠ 0 then fsE f else if qcc 34 (qa3 f) (qau f) ≠ 0 then qcc 34 (qa3 f) (qau f) else chkX (qcu 34 (qa3 f) (qau f))
def qts (f : Fsd) : Int := if fsE f ≠ 0 then 0 else if qcc 34 (qa3 f) (qau f) ≠ 0 then 0 else manyR (qcu 34 (qa3 f) (qau f))
/-! ### on the way -/
abbrev Wy := Fsd × Int × List UInt8
abbrev Stp := Wy → Wy × Int
def qag (s : Stp) (x : Wy) : Wy := if x.2.1 = 0 then ((s x).1.1, (s x).2, (s x).1.2.2) else x
def qax (f : Fsd) : Wy := (f, fsE f, [])
def endW (x : Wy) : Fsd × Int := if x.2.1 ≠ 0 then (fz, x.2.1) else (x.1, 0)
def qnf (x : Wy) (d : Dk) : Wy := ((d, x.1.2), x.2)
def qbl : Stp := fun x => if x.1.2.1 = 4294967295 then (x, 9) else (((x.1.1, x.1.2.1 + 1, x.1.2.2), x.2.1, qd1 x.1.2.2.1 (qa3 x.1)), chkF x.1.2.2.1 (qa3 x.1))
def qb5 : Stp := fun x => (qnf x (doD x.1.1 [(true, 0, [])] 1).1, (doD x.1.1 [(true, 0, [])] 1).2)
def qh1 : Stp := fun x => (qnf x (qfm x.1.1).1, (qfm x.1.1).2)
def qtt : Stp := fun x => (qnf x (doD x.1.1 [] 0).1, (doD x.1.1 [] 0).2)
def qc0 (n : Int) (b : List UInt8) : Stp := fun x => (qnf x (doD x.1.1 [(false, n, b)] 1).1, (doD x.1.1 [(false, n, b)] 1).2)
def putW (s : List UInt8) (i : Int) (b : List UInt8) : Stp := fun x => if atE x.1 s i ≠ 0 then (x, atE x.1 s i) else qc0 (atN x.1 s i) b x
def dirW (l : List Fl) (e : Int) : Stp := fun x => (((x.1.1, x.1.2.1, l, x.1.2.2.2), x.2), e)
def keepW : Stp := fun x => (((x.1.1, x.1.2.1, x.1.2.2.1, x.1.2.2.1), x.2), 0)
def padB (l : List UInt8) : List UInt8 := l.take 128 ++ List.replicate (128 - l.length) 0
def qa5 (l : List UInt8) : List (List UInt8) := (List.range ((l.length + 127) / 128)).map fun k => padB (l.drop (128 * k))
def qce : Int → List (List UInt8) → Stp
 | _, [], x => (x, 0)
 | n, b :: l, x => if (qc0 n b x).2 ≠ 0 then qc0 n b x else qce (n + 1) l (qc0 n b x).1
def qfo : Stp := fun x => qce ((2 + x.1.2.1 % 2 * 16 : Nat) : Int) (qa5 x.2.2) x
def qh2 : Stp := fun x => if (qam x.1.2.1 (x.2.2.length : Nat)).2 ≠ 0 then (x, (qam x.1.2.1 (x.2.2.length : Nat)).2) else qc0 ((x.1.2.1 % 2 : Nat) : Int) (qam x.1.2.1 (x.2.2.length : Nat)).1 x
def qbm (x : Wy) : Wy := qag keepW (qag qb5 (qag qh2 (qag qb5 (qag qfo (qag qb5 (qag qbl x))))))
def qcz (f : Fsd) (s : List UInt8) (i : Int) (b : List UInt8) : Fsd × Int := endW (qag (putW s i b) (qax f))
def qa7 (f : Fsd) : Fsd × Int := endW (qbm (qax f))
def qb9 (n : Int) : Fsd × Int := if (newD n).2 ≠ 0 then (fz, (newD n).2) else if n ≤ 34 then (fz, 2) else endW (qag qh1 (qbm (((newD n).1, 0, [], []), 0, [])))
def qob (f : Fsd) (l : List Fl) (e : Int) : Fsd × Int := endW (qag qtt (qag (dirW l e) (qax f)))
theorem qer (f : Fsd) : (okFs f ∧ fsE f = 0) ∨ (¬ okFs f ∧ fsE f = 8) := by
 unfold fsE; by_cases h : okFs f
 ·exact .inl ⟨h, if_pos h⟩
 ·exact .inr ⟨h, if_neg h⟩
theorem qlc {f : Fsd} (h : fsE f = 0) : okFs f := by rcases qer f with h1 | h1; exact h1.1; rw [h1.2] at h; cases h
theorem qdn {f : Fsd} (h : okFs f) : fsE f = 0 := by unfold fsE; exact if_pos h
theorem qay {f : Fsd} (h : okFs f) : okD f.1 = true ∧ 34 < mny f.1 ∧ f.2.1 ≠ 0 ∧ qat f.1 = (f.2.1, (qat f.1).2.1, 0) := by
 obtain ⟨h1, h2, _⟩ := h
 have e : qat f.1 = (f.2.1, (qat f.1).2.1, 0) := by rw [← h2, ← h1]
 obtain ⟨a, b, c, _⟩ := qgi e
 exact ⟨a, b, c, e⟩
theorem qtu {d : Dk} (h : okD d = true) : chk d = 0 := by unfold chk; rw [if_pos h]
theorem qgk {f : Fsd} (h : okD f.1 = true) : qa3 f = mny f.1 := by unfold qa3 qjw; rw [qtu h]; rfl
theorem qld {f : Fsd} (h : okFs f) : (qat f.1).2.1 ≤ 2048 ∧ f.2.1 < 4294967296 := by
 obtain ⟨h1, h2, h3, h4⟩ := qay h
 obtain ⟨_, _, hg, hb⟩ := qgi h4
 have := qit hb hg
 unfold qbv at this
 split at this
 ·have e1 := congrArg Prod.fst this
  have e2 := congrArg Prod.snd this
  simp only at e1 e2
  have := qabp (blk f.1.1 (f.2.1 % 2))
  omega
 ·have e1 := congrArg Prod.fst this
  simp only at e1
  omega
theorem qabu (f : Fsd) (l : List Fl) (e : Int) : qob f l e = qdk f l e := by
 unfold qob qdk qax
 rcases qer f with ⟨h, h0⟩ | ⟨h, h0⟩
 ·have hd := qtu (qay h).1
  rw [h0]
  unfold qag dirW qtt endW qnf doD
  by_cases he : e = 0
  ·subst he
   simp [hd, qd8, qa8]
  ·simp [he]
 ·rw [h0]
  simp [qag, endW]
theorem OwB.at {w : World} {base g n c : Nat} {l : List UInt8} (h : OwB w base (.slice (some ⟨g, 0, none⟩) n c) l) (j : Nat) (hj : j < l.length) : w.cell? ⟨g, j, none⟩ = some (.int .u8 (l[j]).toNat) := by
 have hx : (u8v l)[j]? = some (.int .u8 (l[j]).toNat) := by simp [u8v, List.getElem?_eq_getElem hj]
 have := World.ownsRow.cells h (g := g) rfl _ _ hx
 rw [Addr.add_lit] at this
 simpa using this
theorem OwB.len {w : World} {base g n c : Nat} {l : List UInt8} (h : OwB w base (.slice (some ⟨g, 0, none⟩) n c) l) : n = l.length := by
 obtain ⟨a, c', e⟩ := h.form
 cases e; rfl
theorem OwB.fz {w : World} {base g n c : Nat} {l : List UInt8} (h : OwB w base (.slice (some ⟨g, 0, none⟩) n c) l) (j : Nat) : w.frozen? ⟨g, j, none⟩ = false := by
 obtain rfl := h.len
 exact World.ownsRow.frozenAt h j
theorem OwB.stored {w : World} {base g n c : Nat} {l : List UInt8} (h : OwB w base (.slice (some ⟨g, 0, none⟩) n c) l) (j : Nat) (b : UInt8) :
  OwB (w.setCell ⟨g, j, none⟩ (.int .u8 b.toNat)) base (.slice (some ⟨g, 0, none⟩) n c) (l.set j b) ∧ w.grownBy (w.setCell ⟨g, j, none⟩ (.int .u8 b.toNat)) (some g) := by
 obtain rfl := h.len
 obtain ⟨h1, h2⟩ := World.ownsRow.stored h j (.int .u8 b.toNat)
 refine ⟨?_, h2⟩
 unfold OwB
 rw [List.length_set]
 have : u8v (l.set j b) = (u8v l).set j (.int .u8 b.toNat) := by simp [u8v, List.map_set]
 rw [this]; exact h1
theorem qtv (data l : List UInt8) (o k : Nat) (hk : k < l.length) (hf : o + l.length ≤ data.length) : (splice data o (l.take k)).set (o + k) l[k] = splice data o (l.take (k + 1)) := by
 unfold splice
 have e1 : (data.take o).length = o := by simp; omega
 have e2 : (l.take k).length = k := by simp; omega
 have e3 : (l.take (k + 1)).length = k + 1 := by simp; omega
 rw [List.set_append_right _ _ (by omega), e1, show o + k - o = k by omega, List.set_append_right _ _ (by omega), e2, Nat.sub_self, e3]
 have hd : o + k < data.length := by omega
 rw [List.drop_eq_getElem_cons hd, List.set_cons_zero, List.take_succ_eq_append_getElem hk, List.append_assoc]
 rfl
theorem qgl (g off n c k : Nat) (w : World) (hk : k + 4 ≤ n) (hc : n ≤ c) (hm : c ≤ maxLen) :
  Calls Tryz.prog 229 #[.slice (some ⟨g, off, none⟩) n c, .int .i64 k] w fun e w' => e = .returned (.func (.func 264) #[] #[.pointer (some ⟨w.heap.size, 0, none⟩)]) ∧ Below w.heap.size w w' ∧ w'.cell? ⟨w.heap.size, 0, none⟩ = some (.slice (some ⟨g, off + k, none⟩) 4 (c - k)) ∧ w'.heap.size = w.heap.size + 1 := by
 have hw : wrap64 ((k : Int) + 4) = ((k + 4 : Nat) : Int) := by unfold wrap64; unfold maxLen at hm; omega
 have h1 : ((k + 4 : Nat) : Int) ≤ c := by omega
 have h2 : ¬ k = c := by omega
 have h3 : k + 4 ≤ c := by omega
 have h4 : k + 4 - k = 4 := by omega
 go_enter Tryz.func229, Tryz.ntmps229
 go_wp2
 go_ret
 rw [h4]
 exact ⟨rfl, (Below.refl _ _).alloc (Nat.le_refl _) _, by simp, by simp⟩
theorem qrw {j : Nat} (h : j < 4) : ∃ m : Nat, m = 8 * j ∧ wrap64 (8 * (j : Int)) = (m : Int) ∧ IntKind.i64.wrap (8 * (j : Int)) = (m : Int) ∧ (m : Int) ≤ 32 := by
 refine ⟨8 * j, rfl, ?_, ?_, by omega⟩
 ·unfold wrap64; omega
 ·rw [IntKind.wrap_i64]; omega
theorem qaf1 (x j m : Nat) (hm : m = 8 * j) (h : j < 4) : IntKind.u8.wrap ((x : Int) / 2 ^ m) = (((le4 x)[j]'(by rw [qb4]; exact h)).toNat : Int) := by
 rw [qaju x j h, hm, IntKind.wrap_u8', UInt8.toNat_ofNat']
 have e : ((2 : Int) ^ (8 * j)) = ((2 ^ (8 * j) : Nat) : Int) := by rw [Int.natCast_pow]; rfl
 rw [e, ← Int.natCast_ediv]
 generalize x / 2 ^ (8 * j) = y
 omega
theorem qoc {w w' : World} {k g : Nat} {v : Value} {o : Nat} (hg : w.grownBy w' (some g)) (hc : w.cell? ⟨k, o, none⟩ = some v) (hne : k ≠ g) : w'.cell? ⟨k, o, none⟩ = some v := by
 rw [← hc]; unfold World.cell?; rw [show w'.heap[k]? = w.heap[k]? from hg.block _ (World.block_lt_of_cell? w _ hc) (by simpa using hne)]
theorem qabv (base g n c k kp cp : Nat) (l : List UInt8) (x : Nat) (w : World) (hown : OwB w base (.slice (some ⟨g, 0, none⟩) n c) l) (hcell : w.cell? ⟨kp, 0, none⟩ = some (.slice (some ⟨g, k, none⟩) 4 cp)) (hne : kp ≠ g) (hk : k + 4 ≤ l.length) (hx : x < 4294967296) :
  Calls Tryz.prog 264 #[.bool true, .int .u32 x, .pointer (some ⟨kp, 0, none⟩)] w fun e w' => (∃ v, e = .returned v) ∧ w.grownBy w' (some g) ∧ OwB w' base (.slice (some ⟨g, 0, none⟩) n c) (splice l k (le4 x)) := by
 have HOWN := hide hown
 have HKL := hide hk
 have HX := hide hx
 have hkb : kp < w.heap.size := World.block_lt_of_cell? w _ hcell
 clear hown hk hx
 go_enter Tryz.func264, Tryz.ntmps264
 go_wp2
 go_loopw [6, 10] (fun t i wr => ∃ (j : Nat) (z : Int), j ≤ 4 ∧ i = .int .i64 j ∧ t = .int .u32 z ∧ Hid (OwB wr base (.slice (some ⟨g, 0, none⟩) n c) (splice l k ((le4 x).take j))) ∧ w.grownBy wr (some g)) (fun _ i _ => 4 - (intOf i).toNat)
 case atStart =>
  refine ⟨0, 0, Nat.zero_le _, rfl, rfl, ?_, World.grownBy.refl _ _⟩
  show OwB _ _ _ _
  have e : splice l k ((le4 x).take 0) = l := by simp [splice]
  rw [e]; exact HOWN.out
 case round =>
  obtain ⟨j, z, hj, rfl, rfl, ho, hgr⟩ := hrel
  by_cases hlt : j < 4
  ·have hlt' : (j : Int) < 4 := by omega
   obtain ⟨m, em, a1, a2, a3⟩ := qrw hlt
   have EM := hide em
   clear em
   have hc : wr.cell? ⟨kp, 0, none⟩ = some (.slice (some ⟨g, k, none⟩) 4 cp) := qoc hgr hcell hne
   have hfz := ho.out.fz (k + j)
   have hcl := ho.out.at (k + j) (by rw [length_splice]; have := HKL.out; omega; have := HKL.out; simp [qb4]; omega)
   obtain ⟨bk, hbk, ebk⟩ : ∃ bk : UInt8, IntKind.u8.wrap ((x : Int) / 2 ^ m) = (bk.toNat : Int) ∧ bk = (le4 x)[j]'(by rw [qb4]; exact hlt) := ⟨_, qaf1 x j m EM.out hlt, rfl⟩
   have EB := hide ebk
   clear ebk
   have hK : Keeps (fun wx => wx.cell? ⟨kp, 0, none⟩ = some (.slice (some ⟨g, k, none⟩) 4 cp)) := qaa _ _
   go_wp2
   refine qdb hK 8 (by kernel_rfl) hc ?_
   intro hS
   refine qhu [0, 1, 2, 3, 4, 5, 6, 7] (fuel := 1) (a' := ?zp1a) (by kernel_rfl) (by kernel_rfl) (by kernel_rfl) ?zp1p hS ?zp1n
   case zp1p =>
    iterate 8 (apply Yl.cons rfl (by kernel_rfl); focus (rintro wx x1; go_simp; all_goals (with_reducible rfl)); try simp only [Act.put, List.setIfInBounds_toArray, List.set_cons_zero, List.set_cons_succ])
    exact Yl.nil
   refine qd2 (i := 8) (w' := wr.drew.setCell ⟨g, k + j, none⟩ (.int .u8 bk.toNat)) rfl (by kernel_rfl) (by kernel_rfl) (by rfl) (by go_simp) ?_
   try simp only [Act.put, List.setIfInBounds_toArray, List.set_cons_zero, List.set_cons_succ]
   refine qcm (by kernel_rfl) ?_ _
   refine NoPanic.normal ?_
   clear hS hK hbk hcl
   obtain ⟨o1, o2⟩ := ho.out.stored (k + j) bk
   rw [EB.out, qtv _ _ _ _ (by rw [qb4]; exact hlt) (by rw [qb4]; exact HKL.out), ← EB.out] at o1
   have o1' : OwB (wr.drew.setCell ⟨g, k + j, none⟩ (.int .u8 bk.toNat)) base (.slice (some ⟨g, 0, none⟩) n c) (splice l k ((le4 x).take (j + 1))) := o1.carry (Below.refl _ _).drew
   have hG : w.grownBy (wr.drew.setCell ⟨g, k + j, none⟩ (.int .u8 bk.toNat)) (some g) := qbu (qbu hgr o2) (qn4 (qby (Below.refl _ _).drew) _)
   have hcs := qoc hG hcell hne
   have hcb := o1'.at (k + j) (by rw [length_splice]; have := HKL.out; omega; have := HKL.out; simp [qb4]; omega)
   obtain ⟨bz, hbz⟩ : ∃ bz : Int, bz = (((splice l k ((le4 x).take (j + 1)))[k + j]'(by rw [length_splice]; have := HKL.out; omega; have := HKL.out; simp [qb4]; omega)).toNat : Int) := ⟨_, rfl⟩
   rw [← hbz] at hcb
   clear hbz
   have HO1 := hide o1'
   clear o1 o1' o2 hfz hc ho
   generalize wr.drew.setCell ⟨g, k + j, none⟩ (.int .u8 bk.toNat) = ws at *
   go_wp2
   go_roundw
   case rel => exact ⟨j + 1, _, by omega, by go_num, rfl, HO1, hG⟩
   case measure => simp [intOf] <;> omega
  ·have hlt' : decide ((j : Int) < 4) = false := by simpa using (by omega : ¬ (j : Int) < 4)
   obtain rfl : j = 4 := by omega
   go_wp2
   go_ret
   refine ⟨⟨_, rfl⟩, hgr, ?_⟩
   have := ho.out
   rwa [List.take_of_length_le (by rw [qb4]; omega)] at this
theorem get_or (j m u : Nat) (b : UInt8) (hm : m = 8 * j) (hj : j < 4) (hu : u < 256 ^ j) : bits .or .u32 (u : Int) ((b.toNat : Int) % 4294967296 * 2 ^ m % 4294967296) = ((u + b.toNat * 256 ^ j : Nat) : Int) := by
 have hb := b.toNat_lt
 have hp : (256 : Nat) ^ j = 2 ^ m := by rw [hm, Nat.pow_mul]
 rw [hp] at hu ⊢
 have hle : (2 : Nat) ^ m ≤ 2 ^ 24 := Nat.pow_le_pow_right (by decide) (by omega)
 have hlt : b.toNat * 2 ^ m < 4294967296 := by
  have : b.toNat * 2 ^ m ≤ 255 * 2 ^ m := Nat.mul_le_mul_right _ (by omega)
  omega
 have e : ((b.toNat : Int) * 2 ^ m) = ((b.toNat * 2 ^ m : Nat) : Int) := by rw [Int.natCast_mul, Int.natCast_pow]; rfl
 rw [show (b.toNat : Int) % 4294967296 = b.toNat by omega, e]
 have e2 : ((b.toNat * 2 ^ m : Nat) : Int) % 4294967296 = ((b.toNat * 2 ^ m : Nat) : Int) := by omega
 rw [e2, u32_or_nat _ _ (by omega) hlt, Nat.or_comm, nat_join m _ _ (by simp) hu, Nat.add_comm]
theorem qabw (g off kp cp : Nat) (b : List UInt8) (w : World) (hb : b.length = 4) (hrd : Rd w (.slice (some ⟨g, off, none⟩) 4 cp) b) (hcell : w.cell? ⟨kp, 0, none⟩ = some (.slice (some ⟨g, off, none⟩) 4 cp)) :
  Calls Tryz.prog 264 #[.bool false, .int .u32 0, .pointer (some ⟨kp, 0, none⟩)] w fun e w' => e = .returned (.int .u32 (un4 b)) ∧ w' = w := by
 have HB := hide hb
 have hcs : ∀ j, (h : j < b.length) → w.cell? ⟨g, off + j, none⟩ = some (.int .u8 (b[j]).toNat) := by
  rcases hrd with ⟨rfl, _⟩ | ⟨b', off', c', e, _, _, hc⟩
  ·exact absurd hb (by decide)
  ·simp only [Value.slice.injEq, Option.some.injEq, Addr.mk.injEq] at e
   obtain ⟨⟨rfl, rfl, _⟩, _, rfl⟩ := e
   exact hc
 have HC := hide hcs
 clear hb hrd hcs
 go_enter Tryz.func264, Tryz.ntmps264
 go_wp2
 go_loop [6, 10] (fun t i => ∃ j : Nat, j ≤ 4 ∧ i = .int .i64 j ∧ t = .int .u32 (un4 (b.take j))) (fun _ i => 4 - (intOf i).toNat)
 case atStart => exact ⟨0, Nat.zero_le _, rfl, rfl⟩
 case round =>
  obtain ⟨j, hj, rfl, rfl⟩ := hrel
  by_cases hlt : j < 4
  ·have hlt' : (j : Int) < 4 := by omega
   obtain ⟨m, em, a1, a2, a3⟩ := qrw hlt
   have EM := hide em
   clear em
   have hjb : j < b.length := by rw [HB.out]; exact hlt
   have hc := HC.out j hjb
   obtain ⟨u, hu⟩ : ∃ u : Nat, u = un4 (b.take j) := ⟨_, rfl⟩
   have HU := hide (show un4 (b.take (j + 1)) = u + (b[j]).toNat * 256 ^ j by rw [hu]; exact qafr b j hjb)
   have HL := hide (show u < 256 ^ j by
    rw [hu]; have := qrq (b.take j); rwa [List.length_take, Nat.min_eq_left (by omega)] at this)
   rw [← hu]
   obtain ⟨y, hy⟩ : ∃ y : UInt8, y = b[j] := ⟨_, rfl⟩
   rw [← hy] at hc
   have HY := hide hy
   clear hu hy
   go_wp2
   go_round
   case rel => exact ⟨j + 1, by omega, by go_num, by rw [HU.out, ← get_or j m u _ EM.out hlt HL.out, ← HY.out]⟩
   case measure => simp [intOf] <;> omega
  ·obtain rfl : j = 4 := by omega
   go_wp2
   go_ret
   refine ⟨?_, rfl⟩
   rw [List.take_of_length_le (by rw [HB.out]; omega)]
   rfl
end Go.Proofs.YtmeaiocohalphaaGreatDoor

/-
  Rows of blocks that are read elsewhere; what lay, abc and alive do.
-/
import Derived.Test.YtkhkdagdgbmdkaaFr8
import Derived.Lib.SlBytesConst
namespace Go.Proofs.Ytkhkdagdgbmdkaa
open Go.RowKit
set_option linter.unusedVariables false
set_option linter.unusedSimpArgs false

/-- A row of one's own, of slices that are read in memory that was there (world W). -/
def RowR (W w : World) (v : Value) (ls : List (List UInt8)) : Prop :=
  ∃ ps : List (List UInt8 × Value), ps.map (·.1) = ls ∧ w.ownsRow W.heap.size 25 1 v ls.length (ps.map (·.2)) ∧ ∀ p ∈ ps, (∃ y z, p.2 = .slice y p.1.length z) ∧ Rd W p.2 p.1
theorem RowR.nil (W w : World) : RowR W w (.slice none 0 0) [] := ⟨[], rfl, World.ownsRow_nil _ _ _ _, by simp⟩
theorem RowR.form {W w : World} {v : Value} {ls : List (List UInt8)} (h : RowR W w v ls) : ∃ a c, v = .slice a ls.length c := by
  obtain ⟨ps, e, h1, h2⟩ := h
  rcases h1.2 with ⟨rfl, hn⟩ | ⟨g, cap, cur, rfl, _⟩
  · rw [hn]; exact ⟨_, _, rfl⟩
  · exact ⟨_, _, rfl⟩
theorem RowR.carry {W w w' : World} {v : Value} {ls : List (List UInt8)} (h : RowR W w v ls) (hb : Below w.heap.size w w') : RowR W w' v ls := by
  obtain ⟨ps, e, h1, h2⟩ := h
  exact ⟨ps, e, own_carry h1 hb, h2⟩
theorem RowR.rdL {W w : World} {v : Value} {ls : List (List UInt8)} (h : RowR W w v ls) (hb : Below W.heap.size W w) : RdL w v ls := by
  obtain ⟨ps, rfl, h1, h2⟩ := h
  rcases h1.2 with ⟨rfl, hn⟩ | ⟨g, cap, cur, rfl, _, hg, hn, hm, hsz, htake⟩
  · exact .inl ⟨List.length_eq_zero_iff.1 hn, .inl rfl⟩
  · refine .inr ⟨g, 0, cap, rfl, hn, hm, fun j hj => ?_⟩
    have hjp : j < ps.length := by simpa using hj
    have c1 := h1.cells (g := g) rfl j ((ps[j]).2) (by simp [List.getElem?_eq_getElem hjp])
    obtain ⟨⟨y, z, e⟩, hr⟩ := h2 ps[j] (List.getElem_mem hjp)
    rw [e] at c1 hr
    simp only [List.getElem_map]
    exact ⟨y, z, by simpa [Addr.add_lit] using c1, hr.carry hb⟩
theorem RowR.set {W w : World} {a : Option Addr} {n c : Nat} {ls : List (List UInt8)} (h : RowR W w (.slice a n c) ls) (hb : Below W.heap.size W w) (j : Nat) (hj : j < ls.length) (y : Option Addr) (z : Nat) (b : List UInt8) (hv : Rd W (.slice y b.length z) b) :
    ∃ g, a = some ⟨g, 0, none⟩ ∧ (∃ u, w.cell? ⟨g, j, none⟩ = some u) ∧ w.frozen? ⟨g, j, none⟩ = false ∧ RowR W (w.setCell ⟨g, j, none⟩ (.slice y b.length z)) (.slice a n c) (ls.set j b) ∧ Below W.heap.size W (w.setCell ⟨g, j, none⟩ (.slice y b.length z)) := by
  obtain ⟨ps, rfl, h1, h2⟩ := h
  have hjp : j < ps.length := by simpa using hj
  rcases h1.2 with ⟨e, hn⟩ | ⟨g, cap, cur, e, hbg, hgg, hrest⟩
  · cases e; simp at hn; subst hn; simp at hj
  · cases e
    obtain ⟨s1, s2⟩ := World.ownsRow.stored h1 j (.slice y b.length z)
    have hcell := h1.cells (g := g) rfl j ((ps[j]).2) (by simp [List.getElem?_eq_getElem hjp])
    rw [Addr.add_lit] at hcell
    refine ⟨g, rfl, ⟨_, by simpa using hcell⟩, frozen_of_row w _ j _ _ hgg, ⟨ps.set j (b, .slice y b.length z), ?_, ?_, ?_⟩, ?_⟩
    · rw [List.map_set]
    · rw [List.length_set, List.map_set]; exact s1
    · intro p hp
      rcases List.mem_or_eq_of_mem_set hp with hp | rfl
      · exact h2 p hp
      · exact ⟨⟨y, z, rfl⟩, hv⟩
    · exact hb.grown s2 hb.size (fun k hk => by cases hk; exact hbg)
theorem rd_lit8 (w : World) (l : List UInt8) (h : l.length ≤ maxLen) (cs : Array Value) (hc : cs.toList = u8v l) (e : TypeId) (fz : Nat × Nat) : Rd (w.alloc (.cells cs e fz)) (.slice (some ⟨w.heap.size, 0, none⟩) l.length l.length) l := by
  refine .inr ⟨w.heap.size, 0, l.length, rfl, Nat.le_refl _, h, fun j hj => ?_⟩
  have hcs : cs = (u8v l).toArray := by rw [← hc]
  subst hcs
  unfold World.cell?
  rw [show (w.alloc (.cells (u8v l).toArray e fz)).heap[(⟨w.heap.size, 0 + j, none⟩ : Addr).block]? = _ from heap_alloc_new w _]
  simp [u8v, hj]
section
variable {P : Program}
end

/-- The example's record and blocks. -/
def abcR : List UInt8 := [97, 98, 99]
theorem abc_frm : frmE (1, 1, 7, 0) abcR = 0 := by decide
theorem abc_opn : opn 1 1 0 (rowB (1, 1, 7, 0) abcR) = (abcR, 7, 1) := by
  have := opn_row (l := []) (g := 1) (n := 1) (p := 0) (s := 7) (r := abcR) (by decide) abc_frm
  rw [List.append_nil] at this
  rw [this]; rfl
theorem abc_chk : chkL (rowB (1, 1, 7, 0) abcR) = 0 := by
  refine chkL_of (by rw [rowB_len]; decide) fun b hb => ?_
  obtain ⟨j, hj, rfl⟩ := List.mem_iff_getElem.1 hb
  rw [rowB_get, fillB_len]
theorem okH_of {a b c d : Nat} (h1 : a < 4294967296) (h2 : b < 4294967296) (h3 : c < 4294967296) (h4 : d < 4294967296) : okH (a, b, c, d) := ⟨h1, h2, h3, h4⟩

set_option maxHeartbeats 1000000 in
set_option maxRecDepth 100000 in
theorem abc8_any (w : World) :
    Calls Try.prog 8 #[] w fun e w' => ∃ v, e = .returned v ∧ OwBB w' w.heap.size v (rowB (1, 1, 7, 0) abcR) ∧ Below w.heap.size w w' := by
  have HO := hide (rd_lit8 w abcR (by decide) #[.int .u8 97, .int .u8 98, .int .u8 99] rfl 5 (3, 4))
  have hb0 : ∀ o, Below w.heap.size w (w.alloc o) := fun o => (Below.refl _ _).alloc (Nat.le_refl _) o
  have kc := fun (w : World) (C : Array Value) (n c : Nat) => Lib.run_convert_bytes_const (P := Try.prog) w 25 5 C n c Try.underlying25 Try.underlying5
  go_enter Try.func8, Try.ntmps8
  go_wp2_with fail
  refine (frame_any (1, 1, 7, 0) _ 3 3 abcR _ (okH_of (by decide) (by decide) (by decide) (by decide)) rfl HO.out).mono ?_
  rintro e w1 ⟨v, rfl, hO1, hb1⟩
  rw [frmL_0 abc_frm] at hO1
  rw [abc_frm]
  have HO1 := hide hO1
  have hB1 : Below w.heap.size w w1 := (hb0 _).trans (hb1.mono (by simp))
  clear hO1 hb1
  go_wp2
  go_ret
  exact ⟨_, rfl, HO1.out.mono (by simp), hB1⟩

set_option maxHeartbeats 1000000 in
set_option maxRecDepth 100000 in
theorem alive8_any (w : World) :
    Calls Try.prog 9 #[] w fun e w' => e = .returned (.bool true) ∧ Below w.heap.size w w' := by
  go_enter Try.func9, Try.ntmps9
  go_wp2_with fail
  refine (abc8_any _).mono ?_
  rintro e w1 ⟨v, rfl, hO1, hb1⟩
  obtain ⟨a1, c1, rfl⟩ := hO1.form
  rw [show (rowB (1, 1, 7, 0) abcR).length = 1 from rfl]
  rw [show (rowB (1, 1, 7, 0) abcR).length = 1 from rfl] at hO1
  have HO1 := hide hO1
  clear hO1
  go_wp2_with fail
  refine (open_fr 1 1 0 a1 1 c1 _ _ (by decide) (by decide) (by decide) HO1.out.rdL).mono ?_
  rintro e w2 ⟨v2, rfl, hO2, hb2⟩
  have hB2 : Below w.heap.size w w2 := hb1.trans (hb2.mono hb1.size)
  have hR : opnR 1 1 0 (rowB (1, 1, 7, 0) abcR) = (abcR, 7, 1) := by unfold opnR; rw [if_neg (fun h => h abc_chk), abc_opn]
  have hE : opnE 1 1 0 (rowB (1, 1, 7, 0) abcR) = 0 := by unfold opnE; rw [if_neg (fun h => h abc_chk), abc_opn]; rfl
  rw [hR, hE]
  rw [hR] at hO2
  have hcv := conv_rd (P := Try.prog) 25 5 9 Try.underlying25 Try.underlying5 Try.underlying9 hO2.rd
  have e3 : bs abcR = ⟨#[97, 98, 99]⟩ := rfl
  rw [e3] at hcv
  clear hO2 hb2 hR hE e3 hb1 HO1
  go_wp2
  go_ret
  exact ⟨rfl, hB2⟩

end Go.Proofs.Ytkhkdagdgbmdkaa

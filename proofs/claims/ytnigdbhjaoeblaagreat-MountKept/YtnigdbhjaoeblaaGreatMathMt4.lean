/-
  Plain mathematics of a disk that is opened again: what the blocks of files have then.
-/
import Derived.Test.YtnigdbhjaoeblaaGreatLm1
import Derived.Test.YtnigdbhjaoeblaaGreatMathFs7
import Derived.Test.YtnigdbhjaoeblaaGreatMathSl
import Derived.Test.YtnigdbhjaoeblaaGreatFiRef1
import Derived.Test.YtnigdbhjaoeblaaGreatMathMt2
namespace Go.Proofs.YtnigdbhjaoeblaaGreat
open Go.RowKit
set_option linter.unusedVariables false
set_option linter.unusedSimpArgs false

def CellAt (w : World) (b o : Nat) (v : Value) : Prop := w.cell? ⟨b, o, none⟩ = some v
theorem CellAt.carry {w w' : World} {b o : Nat} {v : Value} (h : CellAt w b o v) (hb : Below w.heap.size w w') : CellAt w' b o v := keeps_cell _ _ _ _ h hb
end Go.Proofs.YtnigdbhjaoeblaaGreat
namespace Go.Proofs.YtnigdbhjaoeblaaGreat
open Go.RowKit
set_option linter.unusedVariables false
set_option linter.unusedSimpArgs false

abbrev St := Nat × List UInt8 × List UInt8 × Int × List UInt8
def RdS (w : World) (v : Value) (l : List St) : Prop :=
  (l = [] ∧ (v = .slice none 0 0 ∨ ∃ a c, v = .slice (some a) 0 c)) ∨
  ∃ b off c, v = .slice (some ⟨b, off, none⟩) l.length c ∧ l.length ≤ c ∧ c ≤ maxLen ∧ ∀ j, (h : j < l.length) →
    (l[j]).1 < 256 ∧ w.cell? ⟨b, off + j * 5, none⟩ = some (.int .u8 (l[j]).1) ∧ w.cell? ⟨b, off + j * 5 + 1, none⟩ = some (.string (bs (l[j]).2.1)) ∧ w.cell? ⟨b, off + j * 5 + 2, none⟩ = some (.string (bs (l[j]).2.2.1)) ∧ w.cell? ⟨b, off + j * 5 + 3, none⟩ = some (.int .i64 (l[j]).2.2.2.1) ∧ ∃ a c2, w.cell? ⟨b, off + j * 5 + 4, none⟩ = some (.slice a (l[j]).2.2.2.2.length c2) ∧ Rd w (.slice a (l[j]).2.2.2.2.length c2) (l[j]).2.2.2.2
theorem RdS.carry {w w' : World} {v : Value} {l : List St} (h : RdS w v l) (hb : Below w.heap.size w w') : RdS w' v l := by
  rcases h with h | ⟨b, off, c, rfl, h1, h2, h3⟩
  · exact .inl h
  · refine .inr ⟨b, off, c, rfl, h1, h2, fun j hj => ?_⟩
    obtain ⟨k0, k1, k2, k3, k4, a, c2, k5, k6⟩ := h3 j hj
    exact ⟨k0, keeps_cell _ _ _ _ k1 hb, keeps_cell _ _ _ _ k2 hb, keeps_cell _ _ _ _ k3 hb, keeps_cell _ _ _ _ k4 hb, a, c2, keeps_cell _ _ _ _ k5 hb, k6.carry hb⟩
theorem RdS.form {w : World} {v : Value} {l : List St} (h : RdS w v l) : ∃ a c, v = .slice a l.length c := by
  rcases h with ⟨rfl, rfl | ⟨a, c, rfl⟩⟩ | ⟨b, off, c, rfl, _⟩
  · exact ⟨_, _, rfl⟩
  · exact ⟨_, _, rfl⟩
  · exact ⟨_, _, rfl⟩
theorem RdS.len_le {w : World} {v : Value} {l : List St} (h : RdS w v l) : l.length ≤ maxLen := by
  rcases h with ⟨rfl, _⟩ | ⟨b, off, c, rfl, h1, h2, _⟩
  · exact Nat.zero_le _
  · omega
theorem RdS.at {w : World} {a : Option Addr} {n c : Nat} {l : List St} (h : RdS w (.slice a n c) l) (j : Nat) (hj : j < l.length) :
    ∃ b off, a = some ⟨b, off, none⟩ ∧ (l[j]).1 < 256 ∧ w.cell? ⟨b, off + j * 5, none⟩ = some (.int .u8 (l[j]).1) ∧ w.cell? ⟨b, off + j * 5 + 1, none⟩ = some (.string (bs (l[j]).2.1)) ∧ w.cell? ⟨b, off + j * 5 + 2, none⟩ = some (.string (bs (l[j]).2.2.1)) ∧ w.cell? ⟨b, off + j * 5 + 3, none⟩ = some (.int .i64 (l[j]).2.2.2.1) ∧ ∃ a2 c2, w.cell? ⟨b, off + j * 5 + 4, none⟩ = some (.slice a2 (l[j]).2.2.2.2.length c2) ∧ Rd w (.slice a2 (l[j]).2.2.2.2.length c2) (l[j]).2.2.2.2 := by
  rcases h with ⟨rfl, _⟩ | ⟨b, off, c', e, _, _, hc⟩
  · exact absurd hj (by simp)
  · cases e; exact ⟨b, off, rfl, hc j hj⟩
theorem wf_ok {f : Fsd} (h : okFs f) : WfX f := by
  have h4 := ((okD_iff f.1).1 (okFs_disk h).1).2.2.1
  have hk := (chkF_may (kept_chk h)).2
  refine ⟨(okFs_size h).2, ?_, ?_⟩
  · intro g hg x hx
    have := extP_all (okFs_may h).2.2.1 x ((mem_sub hg).subset hx)
    unfold wfX
    omega
  · intro g hg x hx
    have := extP_all hk.2.2.1 x ((mem_sub hg).subset hx)
    unfold wfX
    omega

end Go.Proofs.YtnigdbhjaoeblaaGreat
namespace Go.Proofs.YtnigdbhjaoeblaaGreat
open Go.RowKit
set_option linter.unusedVariables false
set_option linter.unusedSimpArgs false

set_option maxHeartbeats 1000000 in
set_option maxRecDepth 100000 in
theorem great6_any (x : FsV) (f : Fsd) (w : World) (h : RdX w x f) (hs : (∀ g ∈ f.2.2.1, g.2.length ≤ 1000000000000000) ∧ ∀ g ∈ f.2.2.2, g.2.length ≤ 1000000000000000) :
    Calls Tryz.prog 27 #[x.val] w fun e w' => ∃ r, e = .returned (.bool r) ∧ (r = false → (f.1.1.length ≤ 100000 ∧ f.1.2.1.length ≤ 2000 ∧ f.1.2.2.length ≤ 2000) ∧ okG f.2.2.1 ∧ okG f.2.2.2) ∧ Below w.heap.size w w' := by
  have HSZ := hide hs
  clear hs
  obtain ⟨w1, ew⟩ : ∃ w1, w.alloc (.cells x.cs 33) = w1 := ⟨_, rfl⟩
  have hb1 : Below w.heap.size w w1 := by rw [← ew]; exact (Below.refl _ _).alloc (Nat.le_refl _) _
  have HF_w1 := hide (show FsAt w1 w.heap.size x by rw [← ew]; exact Bq.new _ _ _)
  obtain ⟨k0, k1, k2, k3, k4, k5⟩ := fs_cells HF_w1.out
  have HX := hide h
  have HB_w1 := hide hb1
  clear h hb1
  unfold FsV.val
  unfold FsV.cs at ew
  go_enter Tryz.func27, Tryz.ntmps27
  go_wp2_with fail
  refine (great_any (d := f.1) w1 (HX.out.d.carry HB_w1.out)).mono ?_
  rintro e w2 ⟨⟨r1, rfl, hr1⟩, hb2⟩
  have HF_w2 := hide (HF_w1.out.carry hb2)
  have HB_w2 := hide (show Below w.heap.size w w2 from HB_w1.out.trans (hb2.mono HB_w1.out.size))
  clear k0 k1 k2 k3 k4 k5 ew hb2
  have H1 := hide hr1
  clear hr1
  cases r1 with
  | true =>
    go_wp2
    go_ret
    exact ⟨_, rfl, (fun h => by cases h), HB_w2.out⟩
  | false =>
  obtain ⟨k0, k1, k2, k3, k4, k5⟩ := fs_cells HF_w2.out
  go_wp2_with fail
  refine (great5_any _ _ _ f.2.2.1 w2 (HX.out.fl.carry HB_w2.out) HX.out.n4 HSZ.out.1).mono ?_
  rintro e w3 ⟨r2, rfl, hr2, hb3⟩
  have HF_w3 := hide (HF_w2.out.carry hb3)
  have HB_w3 := hide (show Below w.heap.size w w3 from HB_w2.out.trans (hb3.mono HB_w2.out.size))
  clear k0 k1 k2 k3 k4 k5 hb3
  have H2 := hide hr2
  clear hr2
  cases r2 with
  | true =>
    go_wp2
    go_ret
    exact ⟨_, rfl, (fun h => by cases h), HB_w3.out⟩
  | false =>
  obtain ⟨k0, k1, k2, k3, k4, k5⟩ := fs_cells HF_w3.out
  go_wp2_with fail
  refine (great5_any _ _ _ f.2.2.2 w3 (HX.out.kl.carry HB_w3.out) HX.out.n5 HSZ.out.2).mono ?_
  rintro e w4 ⟨r3, rfl, hr3, hb4⟩
  have HB_w4 := hide (show Below w.heap.size w w4 from HB_w3.out.trans (hb4.mono HB_w3.out.size))
  clear k0 k1 k2 k3 k4 k5 hb4
  have H3 := hide hr3
  clear hr3
  go_wp2
  go_ret
  exact ⟨r3, rfl, fun h => ⟨H1.out (by trivial), H2.out (by trivial), H3.out h⟩, HB_w4.out⟩

end Go.Proofs.YtnigdbhjaoeblaaGreat
namespace Go.Proofs.YtnigdbhjaoeblaaGreat
open Go.RowKit
set_option linter.unusedVariables false
set_option linter.unusedSimpArgs false

theorem lastP_some {l : List Pu} {n : Int} {b : List UInt8} (h : lastP n l = some b) : ∃ p ∈ l, p.1 = n ∧ p.2 = b := by
  induction l with
  | nil => cases h
  | cons p l ih =>
    unfold lastP at h
    cases e : lastP n l with
    | some c =>
      rw [e] at h
      obtain ⟨q, hq, h1⟩ := ih (by rw [e]; exact h)
      exact ⟨q, List.mem_cons_of_mem _ hq, h1⟩
    | none =>
      rw [e] at h
      simp only at h
      split at h
      · rename_i h1
        exact ⟨p, List.mem_cons_self .., h1, by injection h⟩
      · cases h
/-- Each block has what lasted, or what some write wrote that waited. -/
theorem down_block {f : Fsd} (K : List Bool) (h : okFs f) (n : Nat) : nowD (downD f.1 K) n = blk f.1.1 n ∨ ∃ p ∈ f.1.2.1, p.1 = n ∧ p.2 = nowD (downD f.1 K) n := by
  have e : nowD (downD f.1 K) n = blk (setBs f.1.1 (kept f.1.2.1 K)) n := rfl
  rw [e, blk_crash K (okFs_disk h).1]
  cases e2 : lastP n (kept f.1.2.1 K) with
  | none => exact .inl rfl
  | some b =>
    obtain ⟨p, hp, h1, h2⟩ := lastP_some e2
    exact .inr ⟨p, kept_mem _ _ _ hp, h1, h2⟩
/-- How far it is known that a block is one of these, some way through what waits. -/
def isB (f : Fsd) (n : Int) (b : List UInt8) (z : Nat) : Bool := decide (b = blk f.1.1 n.toNat) || (f.1.2.1.take z).any fun p => decide (p.1 = n) && decide (p.2 = b)
theorem isB_zero (f : Fsd) (n : Int) (b : List UInt8) : isB f n b 0 = decide (b = blk f.1.1 n.toNat) := by unfold isB; simp
theorem isB_succ (f : Fsd) (n : Int) (b : List UInt8) (z : Nat) (hz : z < f.1.2.1.length) : isB f n b (z + 1) = (isB f n b z || (decide ((f.1.2.1[z]).1 = n) && decide ((f.1.2.1[z]).2 = b))) := by
  unfold isB
  rw [List.take_succ_eq_append_getElem hz, List.any_append]
  simp [Bool.or_assoc]
theorem isB_all {f : Fsd} (K : List Bool) (h : okFs f) {n : Int} (hn : 0 ≤ n) : isB f n (nowD (downD f.1 K) n.toNat) f.1.2.1.length = true := by
  unfold isB
  rw [List.take_length]
  rcases down_block K h n.toNat with e | ⟨p, hp, h1, h2⟩
  · rw [decide_eq_true e]; rfl
  · rw [Bool.or_eq_true]
    right
    rw [List.any_eq_true]
    exact ⟨p, hp, by simp [h2]; omega⟩

end Go.Proofs.YtnigdbhjaoeblaaGreat

/-
  One call of files, as the statements of layer 7 make it; heavy calls; commits among acts.
-/
import Derived.Test.YtlibnefibeikcaaGreatFsTop2
namespace Go.Proofs.YtlibnefibeikcaaGreat
open Go.RowKit
set_option linter.unusedVariables false
set_option linter.unusedSimpArgs false

theorem thenW_val {s : Stp} {y : Wy} (h : y.2.1 = 0) : thenW s y = ((s y).1.1, (s y).2, (s y).1.2.2) := by unfold thenW; rw [if_pos h]

end Go.Proofs.YtlibnefibeikcaaGreat
namespace Go.Proofs.YtlibnefibeikcaaGreat
open Go.RowKit
set_option linter.unusedVariables false
set_option linter.unusedSimpArgs false

theorem Tryz.infoStr6 : (Tryz.prog.info? 9).map (fun i => (i.zero, i.size, i.bytes)) = some (some (.string ByteArray.empty), 1, 16) := by kernel_rfl
/-- A row of texts of one's own. -/
def txv (l : List (List UInt8)) : List Value := l.map fun s => Value.string (bs s)
def OwT (w : World) (base : Nat) (v : Value) (l : List (List UInt8)) : Prop := w.ownsRow base 9 1 v l.length (txv l)
theorem OwT.nil (w : World) (base : Nat) : OwT w base (.slice none 0 0) [] := World.ownsRow_nil _ _ _ _
theorem OwT.form {w : World} {base : Nat} {v : Value} {l : List (List UInt8)} (h : OwT w base v l) : ∃ a c, v = .slice a l.length c := by
  rcases h.2 with ⟨rfl, hn⟩ | ⟨g, cap, cur, rfl, _⟩
  · rw [hn]; exact ⟨_, _, rfl⟩
  · exact ⟨_, _, rfl⟩
theorem OwT.carry {w w' : World} {base : Nat} {v : Value} {l : List (List UInt8)} (h : OwT w base v l) (hb : Below w.heap.size w w') : OwT w' base v l := own_carry h hb
theorem OwT.mono {w : World} {base base' : Nat} {v : Value} {l : List (List UInt8)} (h : OwT w base v l) (hb : base' ≤ base) : OwT w base' v l := own_mono h hb
theorem OwT.at {w : World} {base : Nat} {a : Option Addr} {n c : Nat} {l : List (List UInt8)} (h : OwT w base (.slice a n c) l) (j : Nat) (hj : j < l.length) : ∃ g, a = some ⟨g, 0, none⟩ ∧ w.cell? ⟨g, j, none⟩ = some (.string (bs l[j])) := by
  rcases h.2 with ⟨e, hn⟩ | ⟨g, cap, cur, e, _⟩
  · rw [hn] at hj; cases hj
  · cases e
    have c1 := h.cells (g := g) rfl j (.string (bs l[j])) (by simp [txv, List.getElem?_eq_getElem hj])
    exact ⟨g, rfl, by simpa [Addr.add_lit] using c1⟩
theorem app_txt {w : World} {base : Nat} {v : Value} {l : List (List UInt8)} (h : OwT w base v l) (hb : base ≤ w.heap.size) (hl : l.length ≤ 1000000) (s : List UInt8) :
    ∃ g c w', (Builtin.append_ #[63, 63] 63 #[v, .slice (some ⟨w.heap.size, 0, none⟩) 1 1]).run Tryz.prog (w.alloc (.cells #[.string (bs s)] 9)) = .ok (.slice (some ⟨g, 0, none⟩) (l.length + 1) c) w' ∧
      OwT w' base (.slice (some ⟨g, 0, none⟩) (l.length + 1) c) (l ++ [s]) ∧ Below base w w' := by
  obtain ⟨w8, ew8⟩ : ∃ w8, w8 = w.alloc (.cells #[.string (bs s)] 9) := ⟨_, rfl⟩
  have hn8 := alloc_news w #[.string (bs s)] 9
  rw [← ew8] at hn8 ⊢
  have hb8 : Below w.heap.size w w8 := by rw [ew8]; exact (Below.refl _ _).alloc (Nat.le_refl _) _
  obtain ⟨i0, hi, hz0, hz1, hz2⟩ := info_parts Tryz.infoStr6
  have q2 : w8.ownsRow base 9 1 v l.length (txv l) := own_carry h hb8
  obtain ⟨v9, w9, hrun9, hown9, hg9, _⟩ := run_append_own (P := Tryz.prog) w8 base 63 63 9 i0 _ 1 16 Tryz.underlying63 hi hz0 hz1 hz2 rfl (by decide) _ _ _ q2 ⟨w.heap.size, 0, none⟩ 1 1 [.string (bs s)] rfl hn8 (by
    intro u hu
    simp at hu
    subst hu
    rfl) (by unfold maxLen; omega) (by omega) (Nat.le_trans hb hb8.size)
  have hb9 : Below base w w9 := (hb8.mono hb).grown hg9 (Nat.le_trans hb hb8.size) fun k hk => (q2.lt k hk).1
  rcases hown9.2 with ⟨_, h0⟩ | ⟨g, cap, cur, h0, _⟩
  · exact absurd h0 (by omega)
  · subst h0
    refine ⟨g, cap, w9, hrun9, ?_, hb9⟩
    have e : txv (l ++ [s]) = txv l ++ [.string (bs s)] := by simp [txv]
    unfold OwT
    rw [e, List.length_append]
    exact hown9
theorem fs_names_take (fs : List Fl) (k : Nat) (h : k < fs.length) : (fs.take (k + 1)).map (·.1) = (fs.take k).map (·.1) ++ [(fs[k]).1] := by
  rw [List.take_succ_eq_append_getElem h, List.map_append]; rfl

set_option maxHeartbeats 2000000 in
set_option maxRecDepth 100000 in
theorem names_fs (x : FsV) (f : Fsd) (w : World) (h : RdX w x f) (hw : WfX f) :
    Calls Tryz.prog 32 #[x.val] w fun e w' => ∃ v, e = .returned (.tuple #[v, .int .i64 (fsE f)]) ∧ OwT w' w.heap.size v (namesL f) ∧ Below w.heap.size w w' := by
  have HW := hide hw
  clear hw
  obtain ⟨w1, ew⟩ : ∃ w1, w.alloc (.cells x.cs 32) = w1 := ⟨_, rfl⟩
  have hb1 : Below w.heap.size w w1 := by rw [← ew]; exact (Below.refl _ _).alloc (Nat.le_refl _) _
  have HF_w1 := hide (show FsAt w1 w.heap.size x by rw [← ew]; exact Bq.new _ _ _)
  obtain ⟨k0, k1, k2, k3, k4, k5⟩ := fs_cells HF_w1.out
  have HX := hide h
  have HB_w1 := hide hb1
  clear h hb1
  unfold FsV.val
  unfold FsV.cs at ew
  go_enter Tryz.func32, Tryz.ntmps32
  go_wp2_with fail
  refine (check_fs x f w1 (HX.out.carry HB_w1.out) HW.out).mono ?_
  rintro e w2 ⟨rfl, hb2⟩
  have HF_w2 := hide (HF_w1.out.carry hb2)
  have HB_w2 := hide (show Below w.heap.size w w2 from HB_w1.out.trans (hb2.mono HB_w1.out.size))
  clear k0 k1 k2 k3 k4 k5 ew hb2
  obtain ⟨k0, k1, k2, k3, k4, k5⟩ := fs_cells HF_w2.out
  rcases (fsE_cases f).symm with ⟨_, g1⟩ | ⟨_, g1⟩
  · have HG := hide g1
    have HE := hide (show namesL f = [] by unfold namesL; rw [if_pos (by rw [g1]; decide)])
    rw [g1]
    clear g1
    go_wp2
    go_ret2
    rw [HE.out, HG.out]
    exact ⟨_, rfl, OwT.nil _ _, HB_w2.out⟩
  have HG := hide g1
  have HE := hide (show namesL f = f.2.2.1.map (·.1) by unfold namesL; rw [if_neg (by rw [g1]; decide)])
  have hm : x.n4 ≤ 1000 := by rw [HX.out.n4]; exact (small_ok g1).1.1
  rw [g1]
  clear g1
  obtain ⟨n, hn⟩ : ∃ n, n = x.n4 := ⟨_, rfl⟩
  obtain ⟨a, ha⟩ : ∃ a, a = x.a4 := ⟨_, rfl⟩
  obtain ⟨c, hc⟩ : ∃ c, c = x.c4 := ⟨_, rfl⟩
  have HR := hide (show RdF w (.slice a n c) f.2.2.1 by rw [hn, ha, hc]; exact HX.out.fl)
  have HN := hide (show n = f.2.2.1.length by rw [hn]; exact HX.out.n4)
  rw [← hn] at hm k4
  rw [← ha, ← hc] at k4
  clear hn ha hc
  go_wp2
  go_loopw [17, 5] (fun i v wr => ∃ k : Nat, k ≤ n ∧ i = .int .i64 k ∧ Hid (OwT wr w.heap.size v ((f.2.2.1.take k).map (·.1))) ∧ Below w.heap.size w wr) (fun i _ _ => n - (intOf i).toNat)
  case atStart => exact ⟨0, Nat.zero_le _, rfl, hide (by simpa using OwT.nil _ _), HB_w2.out⟩
  case round =>
    obtain ⟨k, hk, rfl, hown, hbel⟩ := hrel
    by_cases hlt : k < n
    · have hlt' : (k : Int) < n := by omega
      have hkl : k < f.2.2.1.length := by have := HN.out; omega
      have HT := hide (fs_names_take f.2.2.1 k hkl)
      have HTL := hide (show ((f.2.2.1.take k).map (·.1)).length = k by rw [List.length_map, List.length_take]; omega)
      obtain ⟨b, off, a2, c2, rfl, q0, q1, q2⟩ := HR.out.atB hbel k hkl
      clear q2
      obtain ⟨g, hf⟩ : ∃ g, g = (f.2.2.1)[k] := ⟨_, rfl⟩
      rw [← hf] at q0 q1 HT
      clear hf
      obtain ⟨s, l⟩ := g
      simp only at q0 q1
      obtain ⟨m, hm2⟩ : ∃ m, m = l.length := ⟨_, rfl⟩
      rw [← hm2] at q1
      clear hm2
      obtain ⟨av, cv, e9⟩ := hown.out.form
      rw [HTL.out] at e9
      subst e9
      obtain ⟨wq, ewq⟩ : ∃ wq, wr.alloc (.cells #[.string (bs s), .slice a2 m c2] 94) = wq := ⟨_, rfl⟩
      have hbq : Below wr.heap.size wr wq := by rw [← ewq]; exact (Below.refl _ _).alloc (Nat.le_refl _) _
      have hbq' : Below w.heap.size w wq := hbel.trans (hbq.mono hbel.size)
      have c0 : wq.cell? ⟨wr.heap.size, 0, none⟩ = some (.string (bs s)) := by rw [← ewq]; simp
      obtain ⟨g9, c9, w9, hrun, ho9, hb9⟩ := app_txt (hown.out.carry hbq) hbq'.size (by rw [HTL.out]; omega) s
      rw [HTL.out] at hrun ho9
      have HO9 := hide ho9
      have HB9 := hide (hbq'.trans hb9)
      clear ho9 hb9 hown hbq hbq'
      go_wp2_with (at_builtin; refine wpList_runappE rfl (.tmp 21) (.tmp 24) 63 rfl rfl rfl rfl hrun ?_)
      go_roundw
      case rel => exact ⟨k + 1, by omega, rfl, hide (by rw [HT.out]; exact HO9.out), HB9.out⟩
      case measure => simp only [intOf]; omega
    · have hd : decide ((k : Int) < n) = false := by simpa using (by omega : ¬ (k : Int) < n)
      have HO := hide (show OwT wr w.heap.size _ (namesL f) by
        have := hown.out
        rw [List.take_of_length_le (by have := HN.out; omega)] at this
        rw [HE.out]; exact this)
      clear hown
      go_wp2
      go_ret2
      rw [HG.out]
      exact ⟨_, rfl, HO.out, hbel⟩

end Go.Proofs.YtlibnefibeikcaaGreat
namespace Go.Proofs.YtlibnefibeikcaaGreat
open Go.RowKit
set_option linter.unusedVariables false
set_option linter.unusedSimpArgs false

theorem okD_len {d : Dk} (h : okD d = true) : d.1.length = 128 * mny d := (Fine.of_ok h).1.1
theorem kept_chk {f : Fsd} (h : okFs f) : chkF f.2.2.2 (mny f.1) = 0 := by
  rw [← h.2.2.2.2.1]
  exact (read_only h.2.2.2.1).1
end Go.Proofs.YtlibnefibeikcaaGreat
namespace Go.Proofs.YtlibnefibeikcaaGreat
open Go.RowKit
set_option linter.unusedVariables false
set_option linter.unusedSimpArgs false

theorem then_begin {s : Stp} {f : Fsd} : endW (thenW s (beginW f)) = if fsE f ≠ 0 then (fz, fsE f) else if (s (beginW f)).2 ≠ 0 then (fz, (s (beginW f)).2) else ((s (beginW f)).1.1, 0) := by
  by_cases h : fsE f = 0
  · rw [thenW_val (show (beginW f).2.1 = 0 from h), if_neg (by rw [h]; decide)]
    rfl
  · rw [thenW_err (show (beginW f).2.1 ≠ 0 from h), if_pos h]
    unfold endW
    rw [if_pos (show (beginW f).2.1 ≠ 0 from h)]
    rfl
theorem put_is (f : Fsd) (s : List UInt8) (i : Int) (b : List UInt8) : putFs f s i b = if fsE f ≠ 0 then (fz, fsE f) else if atE f s i ≠ 0 then (fz, atE f s i) else if (doD f.1 [(false, atN f s i, b)] 1).2 ≠ 0 then (fz, (doD f.1 [(false, atN f s i, b)] 1).2) else (((doD f.1 [(false, atN f s i, b)] 1).1, f.2), 0) := by
  unfold putFs
  rw [then_begin]
  by_cases h : fsE f ≠ 0
  · rw [if_pos h, if_pos h]
  · rw [if_neg h, if_neg h]
    by_cases h1 : atE f s i ≠ 0
    · have e : putW s i b (beginW f) = (beginW f, atE f s i) := by unfold putW; rw [if_pos (show atE (beginW f).1 s i ≠ 0 from h1)]; rfl
      rw [e, if_pos h1, if_pos h1]
    · have e : putW s i b (beginW f) = writeW (atN f s i) b (beginW f) := by unfold putW; rw [if_neg (show ¬ atE (beginW f).1 s i ≠ 0 from h1)]; rfl
      rw [e, if_neg h1]
      rfl
/-! ### the example -/
section
variable {x : List UInt8}
end

end Go.Proofs.YtlibnefibeikcaaGreat
namespace Go.Proofs.YtlibnefibeikcaaGreat
open Go.RowKit
set_option linter.unusedVariables false
set_option linter.unusedSimpArgs false

theorem okFs_may {f : Fsd} (h : okFs f) : mayF f.2.2.1 (mny f.1) := (chkF_may h.2.2.2.2.2).2
theorem ext_chk {l m : List Ex} {b : Int} (h : extP m b) (hs : l.Sublist m) : chkX l = 0 := (extP_sub hs h).1
theorem mem_sub {fs : List Fl} {g : Fl} (h : g ∈ fs) : g.2.Sublist (usedF fs) := by
  have h1 : [g].Sublist fs := List.singleton_sublist.2 h
  have := used_sub h1
  simpa [usedF] using this
/-- A file of a directory that may be. -/
theorem file_in {f : Fsd} (h : okFs f) {g : Fl} (hg : g ∈ f.2.2.1) : thereE f.2.2.1 g.1 = 0 ∧ getF f.2.2.1 g.1 = g.2 ∧ bloE f g.1 = 0 ∧ bloL f g.1 = blocksX g.2 ∧ sizeE f g.1 = 0 := by
  have hm := okFs_may h
  have h1 : isF f.2.2.1 g.1 = true := (isF_iff _ _).2 ⟨g.2, hg⟩
  have h2 : nameF g.1 = true := by
    have := hm.2.1.1 g hg
    unfold oneF at this
    simp only [Bool.and_eq_true] at this
    exact this.1.1
  have h3 := (thereE_in h.2.2.2.2.2 h2 h1).1
  have h4 : getF f.2.2.1 g.1 = g.2 := getF_mem hm.2.1.2 hg
  have h5 : chkX g.2 = 0 := ext_chk hm.2.2.1 (mem_sub hg)
  have h6 : bloE f g.1 = 0 := by unfold bloE; rw [if_neg (by rw [h3]; decide), h4, h5]
  have h7 : bloL f g.1 = blocksX g.2 := by unfold bloL blocksR; rw [if_neg (by rw [h3]; decide), h4, if_pos h5]
  refine ⟨h3, h4, h6, h7, ?_⟩
  unfold sizeE
  rw [if_neg (by rw [fsE_of h]; decide), h6]
theorem size_there {f : Fsd} {s : List UInt8} (h : sizeE f s = 0) : okFs f ∧ ∃ l, (s, l) ∈ f.2.2.1 := by
  unfold sizeE at h
  by_cases h0 : fsE f = 0
  · rw [if_neg (by rw [h0]; decide)] at h
    have hok := fsE_ok h0
    unfold bloE at h
    by_cases h1 : thereE f.2.2.1 s = 0
    · exact ⟨hok, (isF_iff _ _).1 (thereE_okF h1).2.2⟩
    · rw [if_pos h1] at h; exact absurd h h1
  · rw [if_pos h0] at h; exact absurd h h0
theorem blocksX_mem {l : List Ex} {n : Int} (h : n ∈ blocksX l) : ∃ x ∈ l, x.1 ≤ n ∧ n < x.1 + x.2 := by
  obtain ⟨x, hx, hn⟩ := List.mem_flatMap.1 h
  refine ⟨x, hx, ?_⟩
  unfold blkX at hn
  obtain ⟨i, hi, rfl⟩ := List.mem_map.1 hn
  have := List.mem_range.1 hi
  omega
/-- Blocks of files are on the disk, from the first one on. -/
theorem blo_rng {f : Fsd} (h : okFs f) {g : Fl} (hg : g ∈ f.2.2.1) : ∀ n ∈ blocksX g.2, 34 ≤ n ∧ n < mny f.1 := by
  intro n hn
  obtain ⟨x, hx, h1, h2⟩ := blocksX_mem hn
  have := extP_all (okFs_may h).2.2.1 x ((mem_sub hg).subset hx)
  omega
theorem blo_rng2 {f : Fsd} {s : List UInt8} (h : sizeE f s = 0) : ∀ n ∈ bloL f s, 34 ≤ n ∧ n < mny f.1 := by
  obtain ⟨h0, l, hl⟩ := size_there h
  rw [(file_in h0 hl).2.2.2.1]
  exact blo_rng h0 hl
theorem size_ok {f : Fsd} {s : List UInt8} (h : sizeE f s = 0) : okFs f ∧ bloE f s = 0 ∧ sizeN f s = (bloL f s).length := by
  obtain ⟨h0, l, hl⟩ := size_there h
  refine ⟨h0, (file_in h0 hl).2.2.1, ?_⟩
  unfold sizeN
  rw [if_neg (by rw [fsE_of h0]; decide)]
theorem get_ok {f : Fsd} {s : List UInt8} (h : sizeE f s = 0) {i : Nat} (hi : i < (bloL f s).length) : atE f s i = 0 ∧ atN f s i = (bloL f s)[i] ∧ getE f s i = 0 ∧ getL f s i = nowD f.1 ((bloL f s)[i]).toNat := by
  obtain ⟨h0, h1, _⟩ := size_ok h
  have hr := blo_rng2 h _ (List.getElem_mem hi)
  have a1 : atE f s i = 0 := by unfold atE; rw [if_neg (by rw [h1]; decide), if_neg (by omega)]
  have a2 : atN f s i = (bloL f s)[i] := by unfold atN; rw [if_neg (by rw [a1]; decide)]; simp [List.getD, List.getElem?_eq_getElem hi]
  have a3 : readD f.1 ((bloL f s)[i]) = (nowD f.1 ((bloL f s)[i]).toNat, 0) := by
    unfold readD
    rw [if_neg (by rw [chk_ok (okFs_disk h0).1]; decide), if_neg (by omega)]
  refine ⟨a1, a2, ?_, ?_⟩
  · unfold getE; rw [if_neg (by rw [fsE_of h0]; decide), if_neg (by rw [a1]; decide), a2, a3]
  · unfold getL; rw [if_neg (by rw [fsE_of h0]; decide), if_neg (by rw [a1]; decide), a2, a3]
end Go.Proofs.YtlibnefibeikcaaGreat
namespace Go.Proofs.YtlibnefibeikcaaGreat
open Go.RowKit
set_option linter.unusedVariables false
set_option linter.unusedSimpArgs false

theorem OwFs.bx {w : World} {base : Nat} {v : Value} {f : Fsd} (h : OwFs w base v f) : ∃ x : FsV, v = x.val ∧ RdX w x f ∧ OwFs w base x.val f := by
  obtain ⟨x, e, hx⟩ := h.form
  exact ⟨x, e, hx, e ▸ h⟩

theorem FsV.ext_val {x y : FsV} (h : x.val = y.val) : x = y := by
  obtain ⟨a1, n1, c1, a2, n2, c2, a3, n3, c3, g, a4, n4, c4, a5, n5, c5⟩ := x
  obtain ⟨b1, m1, d1, b2, m2, d2, b3, m3, d3, g', b4, m4, d4, b5, m5, d5⟩ := y
  injection h with h
  have e0 := congrArg (fun z : Array Value => z[0]!) h
  have e1 := congrArg (fun z : Array Value => z[1]!) h
  have e2 := congrArg (fun z : Array Value => z[2]!) h
  have e3 := congrArg (fun z : Array Value => z[3]!) h
  have e4 := congrArg (fun z : Array Value => z[4]!) h
  have e5 := congrArg (fun z : Array Value => z[5]!) h
  simp at e0 e1 e2 e3 e4 e5
  obtain ⟨rfl, rfl, rfl⟩ := e0
  obtain ⟨rfl, rfl, rfl⟩ := e1
  obtain ⟨rfl, rfl, rfl⟩ := e2
  have e3 : g = g' := by omega
  subst e3
  obtain ⟨rfl, rfl, rfl⟩ := e4
  obtain ⟨rfl, rfl, rfl⟩ := e5
  rfl

theorem FsB.of {w : World} {q : Nat} {x : FsV} (h : FsAt w q x) : FsB w q := ⟨_, _, _, _, _, _, h⟩
/-- A variable is written over. -/
theorem OwFs.assign {w w0 : World} {base q : Nat} {y : FsV} {f : Fsd} (h : OwFs w base y.val f) (hq : FsB w q) (hb : Below w0.heap.size w0 w) (hq0 : w0.heap.size ≤ q) :
    OwFs (set6 w q y) base y.val f ∧ Below w0.heap.size w0 (set6 w q y) ∧ FsAt (set6 w q y) q y ∧ RdX (set6 w q y) y f ∧ w.grownBy (set6 w q y) (some q) := by
  obtain ⟨h1, h2, h3⟩ := h.stored hq hb hq0
  refine ⟨h1, h2, h3, ?_, (hq.put y).2⟩
  obtain ⟨x', ex', hx'⟩ := h1.form
  have e : x' = y := FsV.ext_val ex'.symm
  subst e
  exact hx'

end Go.Proofs.YtlibnefibeikcaaGreat
namespace Go.Proofs.YtlibnefibeikcaaGreat
open Go.RowKit
set_option linter.unusedVariables false
set_option linter.unusedSimpArgs false

/-! ### how many blocks can be given -/
theorem cnt_congr {p q : Int → Bool} {a : Int} : ∀ k : Nat, (∀ i : Nat, i < k → p (a + i) = q (a + i)) → cntB p a k = cntB q a k
  | 0, _ => rfl
  | k + 1, h => by
    simp only [cntB]
    rw [cnt_congr k (fun i hi => h i (by omega)), h k (by omega)]
theorem used_all {f : Fsd} (h : okFs f) : allX (usedFs f) = 0 ∧ usedFs f = usedF f.2.2.1 ++ usedF f.2.2.2 ∧ (∀ x ∈ usedFs f, 34 ≤ x.1 ∧ 1 ≤ x.2 ∧ x.1 + x.2 ≤ mny f.1) := by
  have hc := h.2.2.2.2.2
  have hk := kept_chk h
  have e1 : usedL f.2.2.1 = usedF f.2.2.1 := by unfold usedL; rw [if_pos (chkF_top hc)]
  have e2 : usedL f.2.2.2 = usedF f.2.2.2 := by unfold usedL; rw [if_pos (chkF_top hk)]
  have m1 := (chkF_may hc).2
  have m2 := (chkF_may hk).2
  have hx : ∀ x ∈ usedFs f, 34 ≤ x.1 ∧ 1 ≤ x.2 ∧ x.1 + x.2 ≤ mny f.1 := by
    intro x hx
    unfold usedFs at hx
    rw [e1, e2] at hx
    rcases List.mem_append.1 hx with hx | hx
    · exact extP_all m1.2.2.1 x hx
    · exact extP_all m2.2.2.1 x hx
  have hmm := ((okD_iff f.1).1 (okFs_disk h).1).2.2.1
  have l1 : ∀ {fs : List Fl} {B : Int}, mayF fs B → (usedF fs).length ≤ 2048 := by
    intro fs B hm
    have := usedF_len fs 64 (fun g hg => by have := may_one hm g hg; omega)
    have := hm.1
    have hb := hm.2.2.2
    -- the bytes bound the extents
    have hle : (usedF fs).length ≤ (bytF fs).length := by
      have : ∀ fs : List Fl, (usedF fs).length ≤ (fs.flatMap bytFl).length := by
        intro fs
        induction fs with
        | nil => simp [usedF]
        | cons g fs ih =>
          have e : usedF (g :: fs) = g.2 ++ usedF fs := rfl
          rw [e, List.length_append, List.flatMap_cons, List.length_append]
          have h2 : g.2.length ≤ (bytFl g).length := by
            unfold bytFl
            rw [List.length_append, List.length_append]
            have : ∀ l : List Ex, l.length ≤ (bytE l).length := by
              intro l
              induction l with
              | nil => simp [bytE]
              | cons x l ih =>
                have e : bytE (x :: l) = bytX x ++ bytE l := rfl
                rw [e, List.length_append, List.length_cons]
                have : 1 ≤ (bytX x).length := by
                  unfold bytX
                  rw [List.length_append]
                  have := sm_pos x.1.toNat
                  omega
                omega
            have := this g.2
            omega
          omega
      have := this fs
      unfold bytF
      rw [List.length_append]
      omega
    omega
  refine ⟨?_, ?_, hx⟩
  · refine allX_mk ?_ (fun x hx' => by have := hx x hx'; omega)
    unfold usedFs
    rw [e1, e2, List.length_append]
    have := l1 m1
    have := l1 m2
    omega
  · unfold usedFs; rw [e1, e2]
theorem free_ok {f : Fsd} (h : okFs f) : freeE 34 (mnyFs f) (usedFs f) = 0 := by
  have h1 := (okFs_disk h).1
  rw [mnyFs_ok h1]
  unfold freeE
  have hmm := ((okD_iff f.1).1 h1).2.2.1
  have := (okFs_disk h).2.1
  rw [if_neg (by omega), (used_all h).1]
theorem room_cnt {f : Fsd} (h : okFs f) : roomE f = 0 ∧ roomN f = cntB (fun n => !inL (usedFs f) n) 34 (mny f.1 - 34) := by
  have h1 := (okFs_disk h).1
  have h2 := (okFs_disk h).2.1
  have hmm := ((okD_iff f.1).1 h1).2.2.1
  have hf := free_ok h
  obtain ⟨r1, r2, r3⟩ := freeL_rise hf
  have hm := mnyFs_ok h1
  have hch : chkX (freeL 34 (mnyFs f) (usedFs f)) = 0 := riseX_chk r1 (by decide) (by rw [hm]; omega) r3
  have he := fsE_of h
  refine ⟨?_, ?_⟩
  · unfold roomE; rw [if_neg (by rw [he]; decide), if_neg (by rw [hf]; decide), hch]
  · unfold roomN
    rw [if_neg (by rw [he]; decide), if_neg (by rw [hf]; decide)]
    unfold manyR
    rw [if_pos hch]
    rw [manyX_cnt (a := 34) (k := mny f.1 - 34) _ (fun x hx => by have := r1.1 x hx; rw [hm] at this; omega) (chkX_ok hch).2]
    apply cnt_congr
    intro i hi
    rw [r2, hm]
    rw [decide_eq_true (by omega), decide_eq_true (by omega)]
    simp
end Go.Proofs.YtlibnefibeikcaaGreat
namespace Go.Proofs.YtlibnefibeikcaaGreat
open Go.RowKit
set_option linter.unusedVariables false
set_option linter.unusedSimpArgs false

theorem RdD.mk33 {w : World} {x1 : Option Addr} {m1 d1 : Nat} {x2 : Option Addr} {m2 d2 : Nat} {x3 : Option Addr} {m3 d3 : Nat} {d : Dk} (h : RdD w (.agg #[.slice x1 m1 d1, .slice x2 m2 d2, .slice x3 m3 d3]) d) : m3 = d.2.2.length := by
  obtain ⟨a1, c1, a2, c2, a3, c3, e, _⟩ := h.form
  have e1 := congrArg (fun v : Value => match v with | .agg z => z[2]! | _ => undef) e
  simp at e1
  exact e1.2.1
theorem RdX.n3 {w : World} {x : FsV} {f : Fsd} (h : RdX w x f) : x.n3 = f.1.2.2.length := h.d.mk33
theorem RdD.d3 {w : World} {v1 v2 v3 : Value} {d : Dk} (h : RdD w (.agg #[v1, v2, v3]) d) : RdA w v3 d.2.2 := by
  obtain ⟨x, y, z, e, h1, h2, h3⟩ := h
  have e1 : _ = z := congrArg (fun v : Value => match v with | .agg z => z[2]! | _ => undef) e
  simp at e1
  rw [e1]; exact h3
def DkB (w : World) (q : Nat) : Prop := ∃ y0 y1 y2, Bq w q 26 #[y0, y1, y2]
theorem DkB.carry {w w' : World} {r : Nat} (h : DkB w r) (hb : Below w.heap.size w w') : DkB w' r := by
  obtain ⟨v0, v1, v2, h⟩ := h
  exact ⟨v0, v1, v2, h.carry hb⟩
theorem DkB.new (w : World) : DkB (w.alloc (.cells #[.slice none 0 0, .slice none 0 0, .slice none 0 0] 26)) w.heap.size := ⟨_, _, _, Bq.new _ _ _⟩
end Go.Proofs.YtlibnefibeikcaaGreat
set_option linter.unusedVariables false
namespace Go.Proofs.YtlibnefibeikcaaGreat

def ab7 : List Fl := [([97], [(34, 1)])]
def ma (x : List UInt8) : Fsd := ((x, [], []), 1, ab7, [])
section
variable {x : List UInt8}
end
end Go.Proofs.YtlibnefibeikcaaGreat
namespace Go.Proofs.YtlibnefibeikcaaGreat
open Go.RowKit
set_option linter.unusedVariables false
set_option linter.unusedSimpArgs false

def CellAt (w : World) (b o : Nat) (v : Value) : Prop := w.cell? ⟨b, o, none⟩ = some v
theorem CellAt.carry {w w' : World} {b o : Nat} {v : Value} (h : CellAt w b o v) (hb : Below w.heap.size w w') : CellAt w' b o v := keeps_cell _ _ _ _ h hb
end Go.Proofs.YtlibnefibeikcaaGreat
namespace Go.Proofs.YtlibnefibeikcaaGreat
open Go.RowKit
set_option linter.unusedVariables false
set_option linter.unusedSimpArgs false

abbrev St := Nat × List UInt8 × List UInt8 × Int × List UInt8
def RdS (w : World) (v : Value) (l : List St) : Prop :=
  (l = [] ∧ (v = .slice none 0 0 ∨ ∃ a c, v = .slice (some a) 0 c)) ∨
  ∃ b off c, v = .slice (some ⟨b, off, none⟩) l.length c ∧ l.length ≤ c ∧ c ≤ maxLen ∧ ∀ j, (h : j < l.length) →
    (l[j]).1 < 256 ∧ w.cell? ⟨b, off + j * 5, none⟩ = some (.int .u8 (l[j]).1) ∧ w.cell? ⟨b, off + j * 5 + 1, none⟩ = some (.string (bs (l[j]).2.1)) ∧ w.cell? ⟨b, off + j * 5 + 2, none⟩ = some (.string (bs (l[j]).2.2.1)) ∧ w.cell? ⟨b, off + j * 5 + 3, none⟩ = some (.int .i64 (l[j]).2.2.2.1) ∧ ∃ a c2, w.cell? ⟨b, off + j * 5 + 4, none⟩ = some (.slice a (l[j]).2.2.2.2.length c2) ∧ Rd w (.slice a (l[j]).2.2.2.2.length c2) (l[j]).2.2.2.2
theorem RdS.carry {w w' : World} {v : Value} {l : List St} (h : RdS w v l) (hb : Below w.heap.size w w') : RdS w' v l := by
  rcases h with h | ⟨b, off, c, rfl, h1, h2, h3⟩
  · exact .inl h
  · refine .inr ⟨b, off, c, rfl, h1, h2, fun j hj => ?_⟩
    obtain ⟨k0, k1, k2, k3, k4, a, c2, k5, k6⟩ := h3 j hj
    exact ⟨k0, keeps_cell _ _ _ _ k1 hb, keeps_cell _ _ _ _ k2 hb, keeps_cell _ _ _ _ k3 hb, keeps_cell _ _ _ _ k4 hb, a, c2, keeps_cell _ _ _ _ k5 hb, k6.carry hb⟩
theorem RdS.form {w : World} {v : Value} {l : List St} (h : RdS w v l) : ∃ a c, v = .slice a l.length c := by
  rcases h with ⟨rfl, rfl | ⟨a, c, rfl⟩⟩ | ⟨b, off, c, rfl, _⟩
  · exact ⟨_, _, rfl⟩
  · exact ⟨_, _, rfl⟩
  · exact ⟨_, _, rfl⟩
theorem RdS.len_le {w : World} {v : Value} {l : List St} (h : RdS w v l) : l.length ≤ maxLen := by
  rcases h with ⟨rfl, _⟩ | ⟨b, off, c, rfl, h1, h2, _⟩
  · exact Nat.zero_le _
  · omega
theorem RdS.at {w : World} {a : Option Addr} {n c : Nat} {l : List St} (h : RdS w (.slice a n c) l) (j : Nat) (hj : j < l.length) :
    ∃ b off, a = some ⟨b, off, none⟩ ∧ (l[j]).1 < 256 ∧ w.cell? ⟨b, off + j * 5, none⟩ = some (.int .u8 (l[j]).1) ∧ w.cell? ⟨b, off + j * 5 + 1, none⟩ = some (.string (bs (l[j]).2.1)) ∧ w.cell? ⟨b, off + j * 5 + 2, none⟩ = some (.string (bs (l[j]).2.2.1)) ∧ w.cell? ⟨b, off + j * 5 + 3, none⟩ = some (.int .i64 (l[j]).2.2.2.1) ∧ ∃ a2 c2, w.cell? ⟨b, off + j * 5 + 4, none⟩ = some (.slice a2 (l[j]).2.2.2.2.length c2) ∧ Rd w (.slice a2 (l[j]).2.2.2.2.length c2) (l[j]).2.2.2.2 := by
  rcases h with ⟨rfl, _⟩ | ⟨b, off, c', e, _, _, hc⟩
  · exact absurd hj (by simp)
  · cases e; exact ⟨b, off, rfl, hc j hj⟩
end Go.Proofs.YtlibnefibeikcaaGreat

/-
  What stays of a directory but for two names, as the statements hold it against another (law05.others).
-/
import Derived.Test.YtjjhaahlinbpdaaFiNames
import Derived.Test.YtjjhaahlinbpdaaFiRef1
import Derived.Test.YtjjhaahlinbpdaaMathFi2
namespace Go.Proofs.Ytjjhaahlinbpdaa
open Go.RowKit
set_option linter.unusedVariables false
set_option linter.unusedSimpArgs false

/-- A row of files of one's own, whose extents only are read. -/
def OwR (w0 w : World) (base : Nat) (v : Value) (fs : List Fl) : Prop := ∃ ps : List (Fl × Value), ps.map Prod.fst = fs ∧ w.ownsRow base 39 2 v ps.length (cellsP ps) ∧ ∀ p ∈ ps, RdE w0 p.2 p.1.2
theorem OwR.nil (w0 w : World) (base : Nat) : OwR w0 w base (.slice none 0 0) [] := ⟨[], rfl, World.ownsRow_nil w base _ _, by simp⟩
theorem OwR.rd {w0 w : World} {base : Nat} {v : Value} {fs : List Fl} (h : OwR w0 w base v fs) (hb : Below w0.heap.size w0 w) : RdF w v fs := by
  obtain ⟨ps, rfl, h, hi⟩ := h
  rcases h.2 with ⟨rfl, hn⟩ | ⟨g, cap, cur, rfl, _, hg, hn, hm, hsz, htake⟩
  · obtain rfl := List.length_eq_zero_iff.1 hn
    exact .inl ⟨rfl, .inl rfl⟩
  · refine .inr ⟨g, 0, cap, by simp, by simpa using hn, hm, fun j hj => ?_⟩
    have hj' : j < ps.length := by simpa using hj
    obtain ⟨e1, e2⟩ := cellsP_get ps j hj'
    have c1 := h.cells (g := g) rfl _ _ e1
    have c2 := h.cells (g := g) rfl _ _ e2
    rw [Addr.add_lit] at c1 c2
    have hI := (hi ps[j] (List.getElem_mem hj')).carry hb
    obtain ⟨a, c, hv⟩ := hI.form
    simp only [List.getElem_map]
    refine ⟨by simpa using c1, a, c, ?_, ?_⟩
    · rw [hv] at c2; simpa [Nat.add_assoc] using c2
    · rw [← hv]; exact hI
theorem OwR.form {w0 w : World} {base : Nat} {v : Value} {fs : List Fl} (h : OwR w0 w base v fs) : ∃ a c, v = .slice a fs.length c := by
  obtain ⟨ps, rfl, h, hi⟩ := h
  rcases h.2 with ⟨rfl, hn⟩ | ⟨g, cap, cur, rfl, _⟩
  · exact ⟨none, 0, by rw [List.length_map, hn]⟩
  · exact ⟨_, _, by rw [List.length_map]⟩
theorem app_fileR {w0 w : World} {base : Nat} {v : Value} {fs : List Fl} (h : OwR w0 w base v fs) (hb : base ≤ w.heap.size) (hl : fs.length ≤ 1000000) (s : List UInt8) (x : Value) (l : List Ex) (hx : RdE w0 x l) :
    ∃ g c w', (Builtin.append_ #[23, 23] 23 #[v, .slice (some ⟨w.heap.size, 0, none⟩) 1 1]).run Try.prog (w.alloc (.cells #[.string (bs s), x] 39)) = .ok (.slice (some ⟨g, 0, none⟩) (fs.length + 1) c) w' ∧
      OwR w0 w' base (.slice (some ⟨g, 0, none⟩) (fs.length + 1) c) (fs ++ [(s, l)]) ∧ Below base w w' := by
  obtain ⟨ps, rfl, h, hi⟩ := h
  rw [List.length_map] at hl
  obtain ⟨w8, ew8⟩ : ∃ w8, w8 = w.alloc (.cells #[.string (bs s), x] 39) := ⟨_, rfl⟩
  have hn8 := alloc_news w #[.string (bs s), x] 39
  rw [← ew8] at hn8 ⊢
  have hb8 : Below w.heap.size w w8 := by rw [ew8]; exact (Below.refl _ _).alloc (Nat.le_refl _) _
  obtain ⟨i0, hi0, hz0, hz1, hz2⟩ := info_parts Try.infoFl
  have q2 : w8.ownsRow base 39 2 v ps.length (cellsP ps) := own_carry h hb8
  obtain ⟨v9, w9, hrun9, hown9, hg9, _⟩ := run_append_own (P := Try.prog) w8 base 23 23 39 i0 _ 2 40 Try.underlying23 hi0 hz0 hz1 hz2 rfl (by decide) _ _ _ q2 ⟨w.heap.size, 0, none⟩ 1 1 [.string (bs s), x] rfl hn8 (by
    intro u hu
    simp at hu
    rcases hu with rfl | rfl
    · rfl
    · obtain ⟨a, c, rfl⟩ := hx.form
      rfl) (by unfold maxLen; omega) (by omega) (Nat.le_trans hb hb8.size)
  have hb9 : Below base w w9 := (hb8.mono hb).grown hg9 (Nat.le_trans hb hb8.size) fun k hk => (q2.lt k hk).1
  have e : cellsP (ps ++ [((s, l), x)]) = cellsP ps ++ [.string (bs s), x] := by rw [cellsP_append]; rfl
  have hle : (ps ++ [((s, l), x)]).length = ps.length + 1 := by simp
  have hin : ∀ p ∈ ps ++ [((s, l), x)], RdE w0 p.2 p.1.2 := by
    intro p hp
    rcases List.mem_append.1 hp with hp | hp
    · exact hi p hp
    · obtain rfl : p = ((s, l), x) := by simpa using hp
      exact hx
  rcases hown9.2 with ⟨_, h0⟩ | ⟨g, cap, cur, h0, _⟩
  · exact absurd h0 (by omega)
  · subst h0
    rw [List.length_map]
    exact ⟨g, cap, w9, hrun9, ⟨ps ++ [((s, l), x)], by simp, by rw [hle, e]; exact hown9, hin⟩, hb9⟩

theorem rest_snoc (fs : List Fl) (f : Fl) (x y : List UInt8) : restF (fs ++ [f]) x y = if f.1 = x ∨ f.1 = y then restF fs x y else restF fs x y ++ [f] := by
  unfold restF
  rw [List.filter_append]
  by_cases h : f.1 = x ∨ f.1 = y
  · rw [if_pos h, List.filter_cons_of_neg (by rcases h with h | h <;> simp [h])]; simp
  · rw [if_neg h, List.filter_cons_of_pos (by simp at h ⊢; exact h)]; simp
theorem rest_len (fs : List Fl) (x y : List UInt8) : (restF fs x y).length ≤ fs.length := List.length_filter_le _ _

set_option maxHeartbeats 1000000 in
set_option maxRecDepth 100000 in
theorem others_any (a : Option Addr) (n c : Nat) (fs : List Fl) (a' : Option Addr) (m c' : Nat) (gs : List Fl) (x y : List UInt8) (w : World) (h1 : RdF w (.slice a n c) fs) (hn : n = fs.length) (h2 : RdF w (.slice a' m c') gs) (hm : m = gs.length) (hnl : n ≤ 1000) (hml : m ≤ 1000) :
    Calls Try.prog 37 #[.agg #[.slice a n c], .agg #[.slice a' m c'], .string (bs x), .string (bs y)] w fun e w' => e = .returned (.bool (decide (restF fs x y = restF gs x y))) ∧ Below w.heap.size w w' := by
  obtain ⟨W0, hW0⟩ : ∃ W0, W0 = (w.alloc (.cells #[.slice a n c] 25)).alloc (.cells #[.slice a' m c'] 25) := ⟨_, rfl⟩
  have hb1 : Below w.heap.size w (w.alloc (.cells #[.slice a n c] 25)) := (Below.refl _ _).alloc (Nat.le_refl _) _
  have hb0 : Below w.heap.size w W0 := by rw [hW0]; exact hb1.alloc (by simp) _
  have HDA := hide (show DirAt W0 w.heap.size (.slice a n c) by rw [hW0]; exact (DirAt.new w _).carry ((Below.refl _ _).alloc (Nat.le_refl _) _))
  have HDB := hide (show DirAt W0 (w.heap.size + 1) (.slice a' m c') by
    rw [hW0]
    have := DirAt.new (w.alloc (.cells #[.slice a n c] 25)) (.slice a' m c')
    simpa using this)
  have HR := hide (h1.carry hb0)
  have HQ := hide (h2.carry hb0)
  have HN := hide hn
  have HM := hide hm
  have HB0 := hide hb0
  clear h1 h2 hn hm hb1 hb0
  go_enter Try.func37, Try.ntmps37
  go_wp2
  rw [← hW0]
  clear hW0
  go_loopw [9, 11] (fun v i wr => ∃ k : Nat, k ≤ n ∧ i = .int .i64 k ∧ Hid (OwR W0 wr W0.heap.size v (restF (fs.take k) x y)) ∧ Below W0.heap.size W0 wr) (fun _ i _ => n - (intOf i).toNat)
  case atStart => exact ⟨0, Nat.zero_le _, rfl, hide (by simpa [restF] using OwR.nil _ _ _), Below.refl _ _⟩
  case round =>
    obtain ⟨k, hk, rfl, hown, hbel⟩ := hrel
    have hda := (HDA.out.carry hbel).cell
    by_cases hlt : k < n
    · have hlt' : (k : Int) < n := by omega
      have hkl : k < fs.length := by have := HN.out; omega
      have HT := hide (take_snocF fs k hkl)
      have HTL := hide (show (restF (fs.take k) x y).length ≤ 1000 by have := rest_len (fs.take k) x y; rw [List.length_take] at this; omega)
      have hw1 : wrap64 ((k : Int) + 1) = (k : Int) + 1 := wrapS (by omega)
      obtain ⟨b, off, a2, c2, rfl, q0, q1, q2⟩ := HR.out.atB hbel k hkl
      have HQ2 := hide q2
      clear q2
      obtain ⟨f, hf⟩ : ∃ f, f = fs[k] := ⟨_, rfl⟩
      rw [← hf] at q0 q1 HQ2 HT
      clear hf
      obtain ⟨s, l⟩ := f
      simp only at q0 q1 HQ2
      obtain ⟨p, hp⟩ : ∃ p, p = l.length := ⟨_, rfl⟩
      rw [← hp] at q1 HQ2
      clear hp
      by_cases g1 : s = x
      · have g1' : ((bs s).toList == (bs x).toList) = true := by rw [eq_ofN, g1]; simp
        have HE := hide (show restF (fs.take (k + 1)) x y = restF (fs.take k) x y by rw [HT.out, rest_snoc, if_pos (.inl g1)])
        clear g1
        go_wp2
        go_roundw
        case rel => exact ⟨k + 1, by omega, rfl, hide (by rw [HE.out]; exact hown.out), hbel⟩
        case measure => simp only [intOf]; omega
      have g1' : ((bs s).toList == (bs x).toList) = false := by rw [eq_ofN]; simpa using g1
      by_cases g2 : s = y
      · have g2' : ((bs s).toList == (bs y).toList) = true := by rw [eq_ofN, g2]; simp
        have HE := hide (show restF (fs.take (k + 1)) x y = restF (fs.take k) x y by rw [HT.out, rest_snoc, if_pos (.inr g2)])
        clear g1 g2
        go_wp2
        go_roundw
        case rel => exact ⟨k + 1, by omega, rfl, hide (by rw [HE.out]; exact hown.out), hbel⟩
        case measure => simp only [intOf]; omega
      have g2' : ((bs s).toList == (bs y).toList) = false := by rw [eq_ofN]; simpa using g2
      have HE := hide (show restF (fs.take (k + 1)) x y = restF (fs.take k) x y ++ [(s, l)] by rw [HT.out, rest_snoc, if_neg (by simp [g1, g2])])
      clear g1 g2 HT
      obtain ⟨g, cc, w9, hrun, ho9, hb9⟩ := app_fileR hown.out hbel.size (by have := HTL.out; omega) s (.slice a2 p c2) l HQ2.out
      have HO9 := hide ho9
      have HB9 := hide (hbel.trans hb9)
      obtain ⟨av, cv, rfl⟩ := hown.out.form
      clear ho9 hb9 hown HTL
      generalize restF (fs.take k) x y = F at *
      generalize F.length = fl at *
      go_wp2_with (at_builtin; refine wpList_runappE rfl (.tmp 38) (.tmp 44) 23 rfl rfl rfl rfl hrun ?_)
      go_roundw
      case rel => exact ⟨k + 1, by omega, rfl, hide (by rw [HE.out]; exact HO9.out), HB9.out⟩
      case measure => simp only [intOf]; omega
    · have hd : decide ((k : Int) < n) = false := by simpa using (by omega : ¬ (k : Int) < n)
      have e : k = fs.length := by have := HN.out; omega
      rw [e, List.take_length] at hown
      clear e
      have HL1 := hide (hown.out.rd hbel)
      obtain ⟨av, cv, rfl⟩ := hown.out.form
      obtain ⟨W1, hW1⟩ : ∃ W1, W1 = wr := ⟨_, rfl⟩
      rw [← hW1] at hda hbel HL1 ⊢
      have HB1 := hide hbel
      have HRL := hide (rest_len fs x y)
      clear hown hbel hW1
      generalize hF : restF fs x y = F at *
      generalize hfl : F.length = fl at *
      have HFL := hide hfl
      have HFF := hide hF
      clear hfl hF
      go_wp2
      clear hda
      go_loopw [10, 12] (fun v i wr => ∃ k : Nat, k ≤ m ∧ i = .int .i64 k ∧ Hid (OwR W1 wr W1.heap.size v (restF (gs.take k) x y)) ∧ Below W1.heap.size W1 wr) (fun _ i _ => m - (intOf i).toNat)
      case atStart => exact ⟨0, Nat.zero_le _, rfl, hide (by simpa [restF] using OwR.nil _ _ _), Below.refl _ _⟩
      case round =>
        obtain ⟨k, hk, rfl, hown, hbel⟩ := hrel
        have hbw : Below W0.heap.size W0 wr := HB1.out.trans (hbel.mono HB1.out.size)
        have hda := (HDB.out.carry hbw).cell
        by_cases hlt : k < m
        · have hlt' : (k : Int) < m := by omega
          have hkl : k < gs.length := by have := HM.out; omega
          have HT := hide (take_snocF gs k hkl)
          have HTL := hide (show (restF (gs.take k) x y).length ≤ 1000 by have := rest_len (gs.take k) x y; rw [List.length_take] at this; omega)
          have hw1 : wrap64 ((k : Int) + 1) = (k : Int) + 1 := wrapS (by omega)
          obtain ⟨b, off, a2, c2, rfl, q0, q1, q2⟩ := (HQ.out.carry HB1.out).atB hbel k hkl
          have HQ2 := hide q2
          clear q2
          obtain ⟨f, hf⟩ : ∃ f, f = gs[k] := ⟨_, rfl⟩
          rw [← hf] at q0 q1 HQ2 HT
          clear hf
          obtain ⟨s, l⟩ := f
          simp only at q0 q1 HQ2
          obtain ⟨p, hp⟩ : ∃ p, p = l.length := ⟨_, rfl⟩
          rw [← hp] at q1 HQ2
          clear hp
          by_cases g1 : s = x
          · have g1' : ((bs s).toList == (bs x).toList) = true := by rw [eq_ofN, g1]; simp
            have HE := hide (show restF (gs.take (k + 1)) x y = restF (gs.take k) x y by rw [HT.out, rest_snoc, if_pos (.inl g1)])
            clear g1
            go_wp2
            go_roundw
            case rel => exact ⟨k + 1, by omega, rfl, hide (by rw [HE.out]; exact hown.out), hbel⟩
            case measure => simp only [intOf]; omega
          have g1' : ((bs s).toList == (bs x).toList) = false := by rw [eq_ofN]; simpa using g1
          by_cases g2 : s = y
          · have g2' : ((bs s).toList == (bs y).toList) = true := by rw [eq_ofN, g2]; simp
            have HE := hide (show restF (gs.take (k + 1)) x y = restF (gs.take k) x y by rw [HT.out, rest_snoc, if_pos (.inr g2)])
            clear g1 g2
            go_wp2
            go_roundw
            case rel => exact ⟨k + 1, by omega, rfl, hide (by rw [HE.out]; exact hown.out), hbel⟩
            case measure => simp only [intOf]; omega
          have g2' : ((bs s).toList == (bs y).toList) = false := by rw [eq_ofN]; simpa using g2
          have HE := hide (show restF (gs.take (k + 1)) x y = restF (gs.take k) x y ++ [(s, l)] by rw [HT.out, rest_snoc, if_neg (by simp [g1, g2])])
          clear g1 g2 HT
          obtain ⟨g, cc, w9, hrun, ho9, hb9⟩ := app_fileR hown.out hbel.size (by have := HTL.out; omega) s (.slice a2 p c2) l HQ2.out
          have HO9 := hide ho9
          have HB9 := hide (hbel.trans hb9)
          obtain ⟨av, cv, rfl⟩ := hown.out.form
          clear ho9 hb9 hown HTL
          generalize restF (gs.take k) x y = G at *
          generalize G.length = gl at *
          go_wp2_with (at_builtin; refine wpList_runappE rfl (.tmp 71) (.tmp 77) 23 rfl rfl rfl rfl hrun ?_)
          go_roundw
          case rel => exact ⟨k + 1, by omega, rfl, hide (by rw [HE.out]; exact HO9.out), HB9.out⟩
          case measure => simp only [intOf]; omega
        · have hd : decide ((k : Int) < m) = false := by simpa using (by omega : ¬ (k : Int) < m)
          have e : k = gs.length := by have := HM.out; omega
          rw [e, List.take_length] at hown
          clear e
          have HL2 := hide (hown.out.rd hbel)
          have HL1' := hide (HL1.out.carry hbel)
          obtain ⟨aw, cw, rfl⟩ := hown.out.form
          have HBW := hide (HB0.out.trans (hbw.mono HB0.out.size))
          clear hown hbel hbw
          generalize hG : restF gs x y = G at *
          generalize hgl : G.length = gl at *
          have HGL := hide hgl
          have HGG := hide hG
          clear hgl hG
          go_wp2_with fail
          refine (same_ref av fl cv F aw gl cw G wr HL1'.out HFL.out.symm HL2.out HGL.out.symm).mono ?_
          rintro e w9 ⟨rfl, b9⟩
          obtain ⟨r, hr⟩ : ∃ r, r = decide (F = G) := ⟨_, rfl⟩
          rw [← hr]
          have HRR := hide hr
          clear hr
          go_wp2
          go_ret
          exact ⟨by rw [HRR.out, ← HFF.out, ← HGG.out]; rfl, HBW.out.trans (b9.mono HBW.out.size)⟩

end Go.Proofs.Ytjjhaahlinbpdaa

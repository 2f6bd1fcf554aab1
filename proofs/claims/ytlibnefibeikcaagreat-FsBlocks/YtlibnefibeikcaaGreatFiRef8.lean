/-
  Of the document's side of layer 5: Rename.
-/
import Derived.Test.YtlibnefibeikcaaGreatFiRef4
import Derived.Test.YtlibnefibeikcaaGreatGro
namespace Go.Proofs.YtlibnefibeikcaaGreat
open Go.RowKit
set_option linter.unusedVariables false
set_option linter.unusedSimpArgs false

theorem drop_cons {α : Type} (l : List α) (k : Nat) (h : k < l.length) : l.drop k = l[k] :: l.drop (k + 1) := List.drop_eq_getElem_cons h

def Twf (B q b r x : Nat) (dv : Value) (s : ByteArray) (y v : Value) (w : World) : Prop := Twn B q r x dv v w ∧ (b < B ∧ b ≠ x) ∧ FileAt w b s y
theorem Twf.low {B q b r x : Nat} {dv y v : Value} {s : ByteArray} {w w' : World} (h : Twf B q b r x dv s y v w) (hb : Below B w w') : Twf B q b r x dv s y v w' := ⟨h.1.low hb, h.2.1, (hb.block b h.2.1.1).trans h.2.2⟩
theorem Twf.carry {B q b r x : Nat} {dv y v : Value} {s : ByteArray} {w w' : World} (h : Twf B q b r x dv s y v w) (hb : Below w.heap.size w w') : Twf B q b r x dv s y v w' := ⟨Twn.keeps _ _ _ _ _ _ _ _ h.1 hb, h.2.1, h.2.2.carry hb⟩
theorem Twf.keeps (B q b r x : Nat) (dv : Value) (s : ByteArray) (y v : Value) : Keeps (Twf B q b r x dv s y v) := fun _ _ h hb => h.carry hb
theorem Twf.put {B q b r x : Nat} {dv y v : Value} {s : ByteArray} {w : World} (h : Twf B q b r x dv s y v w) (u : Value) : Twf B q b r x dv s y u (w.setCell ⟨x, 0, none⟩ u) := ⟨h.1.put u, h.2.1, (heap_setCell_other w ⟨x, 0, none⟩ b u h.2.1.2).trans h.2.2⟩
end Go.Proofs.YtlibnefibeikcaaGreat
namespace Go.Proofs.YtlibnefibeikcaaGreat
open Go.RowKit
set_option linter.unusedVariables false
set_option linter.unusedSimpArgs false

theorem by_form {w : World} {base : Nat} {v : Value} {l : List UInt8} (h : OwBy w base v l) : ∃ a c, v = .slice a l.length c := by
  rcases h.2 with ⟨rfl, hn⟩ | ⟨g, cap, cur, rfl, _⟩
  · exact ⟨none, 0, by rw [hn]⟩
  · exact ⟨_, _, rfl⟩
theorem chkF_bad {fs : List Fl} {B : Int} (hb : blkP B) (h : ¬ mayF fs B) : chkF fs B = 8 := by unfold chkF; rw [if_neg (by simpa using hb), if_neg h]

set_option maxHeartbeats 4000000 in
set_option maxRecDepth 100000 in
theorem rcheck5_any (a : Option Addr) (n c : Nat) (fs : List Fl) (B : Int) (w : World) (hrd : RdF w (.slice a n c) fs) (hn : n = fs.length) (hwf : wfFs fs) :
    Calls Tryz.prog 77 #[.agg #[.slice a n c], .int .i64 B] w fun e w' => e = .returned (.int .i64 (chkF fs B)) ∧ Below w.heap.size w w' := by
  have hm : n ≤ maxLen := hn ▸ hrd.len_le
  unfold maxLen at hm
  have HR := hide hrd
  have HN := hide hn
  have HW := hide hwf
  obtain ⟨W0, hW0⟩ : ∃ W0, W0 = w.alloc (.cells #[.slice a n c] 30) := ⟨_, rfl⟩
  have hb0 : Below w.heap.size w W0 := by rw [hW0]; exact (Below.refl _ _).alloc (Nat.le_refl _) _
  have HD0 := hide (show DirAt W0 w.heap.size (.slice a n c) by rw [hW0]; exact DirAt.new w _)
  have HB0 := hide hb0
  have hbl := rblocked_any B W0
  clear hrd hn hwf hb0
  by_cases g1 : blkP B
  case neg =>
    have HE := hide (show chkF fs B = 2 by unfold chkF; rw [if_pos g1])
    rw [decide_eq_false g1] at hbl
    clear g1
    go_enter Tryz.func77, Tryz.ntmps77
    go_wp2_with fail
    rw [← hW0]
    clear hW0
    refine hbl.mono ?_
    rintro e w1 ⟨rfl, b1⟩
    clear hbl
    go_wp2
    go_ret
    exact ⟨by rw [HE.out]; rfl, HB0.out.trans (b1.mono HB0.out.size)⟩
  rw [decide_eq_true g1] at hbl
  have HBK := hide g1
  clear g1
  go_enter Tryz.func77, Tryz.ntmps77
  go_wp2_with fail
  rw [← hW0]
  clear hW0
  refine hbl.mono ?_
  rintro e w1 ⟨rfl, b1⟩
  clear hbl
  have HB1 := hide (show Below w.heap.size w w1 from HB0.out.trans (b1.mono HB0.out.size))
  have HD1 := hide (HD0.out.carry b1)
  have d1 := HD1.out.cell
  clear b1 HB0 HD0
  by_cases g2 : 40 < n
  · have g2' : (40 : Int) < n := by omega
    have HE := hide (show chkF fs B = 8 from chkF_bad HBK.out (fun h => by have := h.1; have := HN.out; omega))
    go_wp2
    go_ret
    exact ⟨by rw [HE.out]; rfl, HB1.out⟩
  have g2' : decide ((40 : Int) < n) = false := by simpa using (by omega : ¬ (40 : Int) < n)
  go_wp2
  go_loopw [5] (fun i wr => ∃ k : Nat, k ≤ n ∧ i = .int .i64 k ∧ Hid (eachP (fs.take k)) ∧ Below w1.heap.size w1 wr) (fun i _ => n - (intOf i).toNat)
  case atStart => exact ⟨0, Nat.zero_le _, rfl, hide (by simpa using eachP_nil), Below.refl _ _⟩
  case round =>
    obtain ⟨k, hk, rfl, heach, hbel⟩ := hrel
    have hbw : Below w.heap.size w wr := HB1.out.trans (hbel.mono HB1.out.size)
    have hda := (HD1.out.carry hbel).cell
    clear d1
    by_cases hlt : k < n
    · have hlt' : (k : Int) < n := by omega
      have hkl : k < fs.length := by have := HN.out; omega
      have hw1 : wrap64 ((k : Int) + 1) = (k : Int) + 1 := wrapS (by omega)
      have HNX := hide (fun h1 h2 => eachP_next hkl heach.out h1 h2)
      have HB8 := hide (fun (h : oneF fs[k] = false) => chkF_bad HBK.out (fun h' : mayF fs B => eachP_bad1 hkl h h'.2.1))
      obtain ⟨b, off, a2, c2, rfl, q0, q1, q2⟩ := HR.out.atB hbw k hkl
      clear q2
      obtain ⟨w2, hw2⟩ : ∃ w2, w2 = wr.alloc (.cells #[.string (bs (fs[k]).1), .slice a2 (fs[k]).2.length c2] 94) := ⟨_, rfl⟩
      have hb2 : Below wr.heap.size wr w2 := by rw [hw2]; exact (Below.refl _ _).alloc (Nat.le_refl _) _
      have hblk : FileAt w2 wr.heap.size (bs (fs[k]).1) (.slice a2 (fs[k]).2.length c2) := by rw [hw2]; exact FileAt.new wr _ _
      have hbel2 : Below w1.heap.size w1 w2 := hbel.trans (hb2.mono hbel.size)
      have hbw2 : Below w.heap.size w w2 := hbw.trans (hb2.mono hbw.size)
      have hda2 := (HD1.out.carry hbel2).cell
      have r0 := hblk.cell0
      have r1 := hblk.cell1
      have HPV := hide (show ∀ j, (hj : j + 1 = k) → ∃ s, w2.cell? ⟨b, off + j * 2, none⟩ = some (.string (bs s)) ∧ s = (fs[j]).1 from fun j hj => by
        obtain ⟨b', off', a', c', e', z0, -⟩ := HR.out.atB hbw2 j (by omega)
        cases e'
        exact ⟨_, z0, rfl⟩)
      have HBP := hide (show ∀ j, (hj : j + 1 = k) → ltN (fs[j]).1 (fs[k]).1 = false → chkF fs B = 8 from fun j hj h => by
        subst hj
        exact chkF_bad HBK.out (fun h' : mayF fs B => eachP_bad2 hkl h h'.2.1))
      obtain ⟨F, hF⟩ : ∃ F, F = wr.heap.size := ⟨_, rfl⟩
      rw [← hF] at r0 r1
      obtain ⟨f, hf⟩ : ∃ f, f = fs[k] := ⟨_, rfl⟩
      rw [← hf] at q0 q1 r0 r1 HNX HB8 HBP hw2
      clear hf hblk
      obtain ⟨s, l⟩ := f
      simp only at q0 q1 r0 r1 HNX HBP hw2
      obtain ⟨p, hp⟩ : ∃ p, p = l.length := ⟨_, rfl⟩
      rw [← hp] at q1 r1 hw2
      have HO := hide (show oneF (s, l) = (nameF s && decide (1 ≤ p) && decide (p ≤ 64)) by unfold oneF; rw [hp])
      clear hp
      cases hnm : nameF s with
      | false =>
        have HE := hide (HB8.out (by rw [HO.out, hnm]; simp))
        have hcn : ∀ wx, Calls Tryz.prog 125 #[.string (bs s)] wx fun e w' => e = .returned (.bool false) ∧ w' = wx := fun wx => by have := rname_same s wx; rw [hnm] at this; exact this
        clear hnm HNX HB8 HPV HBP
        go_wp2
        rw [← hw2]
        try rw [← hF]
        clear hw2 hF
        go_quiet (exact Calls.quiet_of_same (hcn _))
        go_wp2
        go_ret
        exact ⟨by rw [HE.out]; rfl, below_drewN hbw2 _⟩
      | true =>
        have hcn : ∀ wx, Calls Tryz.prog 125 #[.string (bs s)] wx fun e w' => e = .returned (.bool true) ∧ w' = wx := fun wx => by have := rname_same s wx; rw [hnm] at this; exact this
        by_cases g3 : p < 1 ∨ 64 < p
        · have hone : oneF (s, l) = false := by
            rw [HO.out]
            have : ¬ (1 ≤ p ∧ p ≤ 64) := by omega
            simp
            intro _ h
            omega
          have HE := hide (HB8.out hone)
          clear hone
          clear hnm HNX HB8
          by_cases hk0 : k = 0
          · subst hk0
            simp only [Nat.zero_mul, Nat.add_zero] at q0 q1
            clear HPV HBP
            rcases g3 with g3 | g3
            · have g3' : (p : Int) < 1 := by omega
              go_wp2
              rw [← hw2]
              rw [← hF]
              clear hw2 hF
              go_quiet (exact Calls.quiet_of_same (hcn _))
              go_wp2
              go_ret
              exact ⟨by rw [HE.out]; rfl, below_drewN hbw2 _⟩
            · have g3' : decide ((p : Int) < 1) = false := by simpa using (by omega : ¬ (p : Int) < 1)
              have g4' : (64 : Int) < p := by omega
              go_wp2
              rw [← hw2]
              rw [← hF]
              clear hw2 hF
              go_quiet (exact Calls.quiet_of_same (hcn _))
              go_wp2
              go_ret
              exact ⟨by rw [HE.out]; rfl, below_drewN hbw2 _⟩
          · obtain ⟨j, rfl⟩ : ∃ j, k = j + 1 := ⟨k - 1, by omega⟩
            obtain ⟨sp, hsp, -⟩ := HPV.out j rfl
            clear HPV HBP
            have hk1 : (0 : Int) < ((j + 1 : Nat) : Int) := by omega
            have hwi : IntKind.i64.wrap (((j + 1 : Nat) : Int) - 1) = (j : Int) := by rw [IntKind.wrap_i64]; omega
            have hj1 : ((j : Int) + 1 - 1) = j := by omega
            have hji : (j : Int) < n := by omega
            have hbo := bl_of sp s
            obtain ⟨lt, hlt2⟩ : ∃ lt, lt = ltN sp s := ⟨_, rfl⟩
            rw [← hlt2] at hbo
            clear hlt2
            cases lt with
            | false =>
              go_wp2
              rw [← hw2]
              rw [← hF]
              clear hw2 hF
              go_quiet (exact Calls.quiet_of_same (hcn _))
              go_wp2
              go_ret
              exact ⟨by rw [HE.out]; rfl, below_drewN hbw2 _⟩
            | true =>
              rcases g3 with g3 | g3
              · have g3' : (p : Int) < 1 := by omega
                go_wp2
                rw [← hw2]
                rw [← hF]
                clear hw2 hF
                go_quiet (exact Calls.quiet_of_same (hcn _))
                go_wp2
                go_ret
                exact ⟨by rw [HE.out]; rfl, below_drewN hbw2 _⟩
              · have g3' : decide ((p : Int) < 1) = false := by simpa using (by omega : ¬ (p : Int) < 1)
                have g4' : (64 : Int) < p := by omega
                go_wp2
                rw [← hw2]
                rw [← hF]
                clear hw2 hF
                go_quiet (exact Calls.quiet_of_same (hcn _))
                go_wp2
                go_ret
                exact ⟨by rw [HE.out]; rfl, below_drewN hbw2 _⟩
        · have HON := hide (show oneF (s, l) = true by rw [HO.out, hnm]; simp; omega)
          have g3' : decide ((p : Int) < 1) = false := by simpa using (by omega : ¬ (p : Int) < 1)
          have g4' : decide ((64 : Int) < p) = false := by simpa using (by omega : ¬ (64 : Int) < p)
          clear hnm HB8 g3
          by_cases hk0 : k = 0
          · subst hk0
            simp only [Nat.zero_mul, Nat.add_zero] at q0 q1
            have HE := hide (HNX.out HON.out (fun j hj => by omega))
            clear HPV HBP HNX
            go_wp2
            rw [← hw2]
            rw [← hF]
            clear hw2 hF
            go_quiet (exact Calls.quiet_of_same (hcn _))
            go_wp2
            go_roundw
            case rel => exact ⟨0 + 1, by omega, rfl, HE, below_drewN hbel2 _⟩
            case measure => simp only [intOf]; omega
          · obtain ⟨j, rfl⟩ : ∃ j, k = j + 1 := ⟨k - 1, by omega⟩
            obtain ⟨sp, hsp, hspe⟩ := HPV.out j rfl
            have HSP := hide hspe
            clear HPV hspe
            have hk1 : (0 : Int) < ((j + 1 : Nat) : Int) := by omega
            have hwi : IntKind.i64.wrap (((j + 1 : Nat) : Int) - 1) = (j : Int) := by rw [IntKind.wrap_i64]; omega
            have hj1 : ((j : Int) + 1 - 1) = j := by omega
            have hji : (j : Int) < n := by omega
            have hbo := bl_of sp s
            cases hlq : ltN sp s with
            | false =>
              rw [hlq] at hbo
              have HE := hide (HBP.out j rfl (by rw [← HSP.out]; exact hlq))
              clear HBP HNX HSP hlq
              go_wp2
              rw [← hw2]
              rw [← hF]
              clear hw2 hF
              go_quiet (exact Calls.quiet_of_same (hcn _))
              go_wp2
              go_ret
              exact ⟨by rw [HE.out]; rfl, below_drewN hbw2 _⟩
            | true =>
              rw [hlq] at hbo
              have HE := hide (HNX.out HON.out (fun i hi => by
                obtain rfl : i = j := by omega
                rw [← HSP.out]; exact hlq))
              clear HBP HNX HSP hlq
              go_wp2
              rw [← hw2]
              rw [← hF]
              clear hw2 hF
              go_quiet (exact Calls.quiet_of_same (hcn _))
              go_wp2
              go_roundw
              case rel => exact ⟨j + 1 + 1, by omega, rfl, HE, below_drewN hbel2 _⟩
              case measure => simp only [intOf]; omega
    · have hd : decide ((k : Int) < n) = false := by simpa using (by omega : ¬ (k : Int) < n)
      have e : k = fs.length := by have := HN.out; omega
      rw [e, List.take_length] at heach
      clear e
      have HLN := hide (show fs.length ≤ 40 by have := HN.out; omega)
      have HUL := hide (each_used heach.out HLN.out)
      have HDr := hide (HD1.out.carry hbel)
      have HBr := hide hbw
      clear hbel hbw
      go_wp2_with fail
      refine (rused_any a n c fs wr (HR.out.carry HBr.out) HN.out (by omega) (by have := HUL.out; omega)).mono ?_
      rintro e w3 ⟨v3, rfl, o3, b3⟩
      have HB3 := hide (show Below w.heap.size w w3 from HBr.out.trans (b3.mono HBr.out.size))
      have HD3 := hide (HDr.out.carry b3)
      have d3 := HD3.out.cell
      clear b3 hda
      obtain ⟨m, hm3⟩ : ∃ m, m = (usedF fs).length := ⟨_, rfl⟩
      obtain ⟨a3, c3, hf3⟩ : ∃ a c, v3 = .slice a m c := by rw [hm3]; exact o3.form
      subst hf3
      have hwi := rwithin_any a3 m c3 (usedF fs) B w3 o3.rd hm3 (wfFs_used HW.out)
      clear hm3 o3
      by_cases g3 : extP (usedF fs) B
      · rw [decide_eq_true g3] at hwi
        have HX := hide g3
        clear g3
        go_wp2_with fail
        refine hwi.mono ?_
        rintro e w4 ⟨rfl, b4⟩
        have HB4 := hide (show Below w.heap.size w w4 from HB3.out.trans (b4.mono HB3.out.size))
        have d4 := (HD3.out.carry b4).cell
        clear b4 d3 hwi
        go_wp2_with fail
        refine (rbytes_any a n c fs w4 (HR.out.carry HB4.out) HN.out (okB_may HLN.out heach.out HX.out)).mono ?_
        rintro e w5 ⟨v5, rfl, o5, b5⟩
        have HB5 := hide (show Below w.heap.size w w5 from HB4.out.trans (b5.mono HB4.out.size))
        clear b5 d4
        obtain ⟨m5, hm5⟩ : ∃ m, m = (bytF fs).length := ⟨_, rfl⟩
        obtain ⟨a5, c5, hf5⟩ : ∃ a c, v5 = .slice a m5 c := by rw [hm5]; exact by_form o5
        subst hf5
        clear o5
        by_cases g4 : 2048 < m5
        · have HE := hide (show chkF fs B = 8 from chkF_bad HBK.out (fun h => by have := h.2.2.2; omega))
          have g4' : (2048 : Int) < m5 := by omega
          clear hm5
          go_wp2
          go_ret
          exact ⟨by rw [HE.out]; rfl, HB5.out⟩
        · have HE := hide (show chkF fs B = 0 from chkF_mk HBK.out ⟨HLN.out, heach.out, HX.out, by omega⟩)
          have g4' : decide ((2048 : Int) < m5) = false := by simpa using (by omega : ¬ (2048 : Int) < m5)
          clear hm5
          go_wp2
          go_ret
          exact ⟨by rw [HE.out]; rfl, HB5.out⟩
      · rw [decide_eq_false g3] at hwi
        have HE := hide (show chkF fs B = 8 from chkF_bad HBK.out (fun h => g3 h.2.2.1))
        clear g3
        go_wp2_with fail
        refine hwi.mono ?_
        rintro e w4 ⟨rfl, b4⟩
        have HB4 := hide (show Below w.heap.size w w4 from HB3.out.trans (b4.mono HB3.out.size))
        clear b4 d3 hwi
        go_wp2
        go_ret
        exact ⟨by rw [HE.out]; rfl, HB4.out⟩

def askE (fs : List Fl) (s : List UInt8) (B : Int) : Int := if chkF fs B ≠ 0 then chkF fs B else if nameF s = false then 50 else 0

set_option maxHeartbeats 1000000 in
set_option maxRecDepth 100000 in
theorem rasked_any (a : Option Addr) (n c : Nat) (fs : List Fl) (s : List UInt8) (B : Int) (w : World) (hrd : RdF w (.slice a n c) fs) (hn : n = fs.length) (hwf : wfFs fs) :
    Calls Tryz.prog 111 #[.agg #[.slice a n c], .string (bs s), .int .i64 B] w fun e w' => e = .returned (.int .i64 (askE fs s B)) ∧ Below w.heap.size w w' := by
  obtain ⟨W0, hW0⟩ : ∃ W0, W0 = w.alloc (.cells #[.slice a n c] 30) := ⟨_, rfl⟩
  have hb0 : Below w.heap.size w W0 := by rw [hW0]; exact (Below.refl _ _).alloc (Nat.le_refl _) _
  have HB0 := hide hb0
  have hck := rcheck5_any a n c fs B W0 (hrd.carry hb0) hn hwf
  clear hrd hn hwf hb0
  by_cases g1 : chkF fs B = 0
  case neg =>
    have HE := hide (show askE fs s B = chkF fs B by unfold askE; rw [if_pos g1])
    obtain ⟨z, hz⟩ : ∃ z, z = chkF fs B := ⟨_, rfl⟩
    rw [← hz] at hck g1 HE
    have g1' : (z == 0) = false := by simpa using g1
    clear hz
    go_enter Tryz.func111, Tryz.ntmps111
    go_wp2_with fail
    rw [← hW0]
    clear hW0
    refine hck.mono ?_
    rintro e w1 ⟨rfl, b1⟩
    clear hck
    go_wp2
    go_ret
    exact ⟨by rw [HE.out]; rfl, HB0.out.trans (b1.mono HB0.out.size)⟩
  rw [g1] at hck
  have HC := hide g1
  clear g1
  go_enter Tryz.func111, Tryz.ntmps111
  go_wp2_with fail
  rw [← hW0]
  clear hW0
  refine hck.mono ?_
  rintro e w1 ⟨rfl, b1⟩
  have HB1 := hide (show Below w.heap.size w w1 from HB0.out.trans (b1.mono HB0.out.size))
  clear hck b1
  have hnm := rname_any s w1
  cases hq : nameF s with
  | false =>
    have HE := hide (show askE fs s B = 50 by unfold askE; rw [if_neg (by simp [HC.out]), if_pos hq])
    rw [hq] at hnm
    clear hq
    go_wp2_with fail
    refine hnm.mono ?_
    rintro e w2 ⟨rfl, b2⟩
    clear hnm
    go_wp2
    go_ret
    exact ⟨by rw [HE.out]; rfl, HB1.out.trans (b2.mono HB1.out.size)⟩
  | true =>
    have HE := hide (show askE fs s B = 0 by unfold askE; rw [if_neg (by simp [HC.out]), if_neg (by simp [hq])])
    rw [hq] at hnm
    clear hq
    go_wp2_with fail
    refine hnm.mono ?_
    rintro e w2 ⟨rfl, b2⟩
    clear hnm
    go_wp2
    go_ret
    exact ⟨by rw [HE.out]; rfl, HB1.out.trans (b2.mono HB1.out.size)⟩

end Go.Proofs.YtlibnefibeikcaaGreat
namespace Go.Proofs.YtlibnefibeikcaaGreat
open Go.RowKit
set_option linter.unusedVariables false
set_option linter.unusedSimpArgs false

theorem askE_ok {fs : List Fl} {s : List UInt8} {B : Int} (h : askE fs s B = 0) : chkF fs B = 0 ∧ nameF s = true := by
  unfold askE at h
  by_cases h1 : chkF fs B = 0
  · rw [if_neg (by simpa using h1)] at h
    cases h2 : nameF s with
    | false => rw [if_pos h2] at h; omega
    | true => exact ⟨h1, rfl⟩
  · rw [if_pos h1] at h; exact absurd h h1
theorem there_ask {fs : List Fl} {s : List UInt8} (h : askE fs s 4096 ≠ 0) : thereE fs s = askE fs s 4096 := by
  unfold thereE askE at *
  by_cases h1 : chkF fs 4096 = 0
  · by_cases h2 : nameF s = false
    · simp [h1, h2]
    · simp [h1, h2] at h
  · simp [h1]
theorem there_in {fs : List Fl} {s : List UInt8} (h : askE fs s 4096 = 0) (h2 : isF fs s = true) : thereE fs s = 0 := (thereE_in (askE_ok h).1 (askE_ok h).2 h2).1
theorem there_out {fs : List Fl} {s : List UInt8} (h : askE fs s 4096 = 0) (h2 : isF fs s = false) : thereE fs s = 6 := thereE_out (askE_ok h).1 (askE_ok h).2 h2
theorem may_lenF {fs : List Fl} {B : Int} (h : mayF fs B) : ∀ f ∈ fs, f.2.length ≤ 1000000 := fun f hf => by have := oneF_parts (h.2.1.1 f hf); omega

set_option maxHeartbeats 4000000 in
set_option maxRecDepth 100000 in
theorem rFind_any (a : Option Addr) (n c : Nat) (fs : List Fl) (s : List UInt8) (w : World) (hrd : RdF w (.slice a n c) fs) (hn : n = fs.length) (hwf : wfFs fs) :
    Calls Tryz.prog 48 #[.agg #[.slice a n c], .string (bs s)] w fun e w' => ∃ v, e = .returned (.tuple #[.agg #[.string (bs (findV fs s).1), v], .int .i64 (thereE fs s)]) ∧ OwE w' w.heap.size v (findV fs s).2 ∧ Below w.heap.size w w' := by
  obtain ⟨W0, hW0⟩ : ∃ W0, W0 = (w.alloc (.cells #[.slice a n c] 30)).alloc (.cells #[.string { data := #[] }, .slice none 0 0] 94) := ⟨_, rfl⟩
  have hb0 : Below w.heap.size w W0 := by rw [hW0]; exact ((Below.refl _ _).alloc (Nat.le_refl _) _).alloc (by simp) _
  have HD_W0 := hide (show DirAt W0 w.heap.size (.slice a n c) by rw [hW0]; exact (DirAt.new w _).carry ((Below.refl _ _).alloc (Nat.le_refl _) _))
  have HA_W0 := hide (show FileAt W0 (w.heap.size + 1) { data := #[] } (.slice none 0 0) by rw [hW0]; have := FileAt.new (w.alloc (.cells #[.slice a n c] 30)) { data := #[] } (.slice none 0 0); simpa using this)
  have HB_W0 := hide hb0
  have HR := hide hrd
  have HN := hide hn
  have HW := hide hwf
  have hask := rasked_any a n c fs s 4096 W0 (hrd.carry hb0) hn hwf
  clear hrd hn hwf hb0
  by_cases g1 : askE fs s 4096 = 0
  case neg =>
    have HV := hide (show findV fs s = ([], []) by unfold findV; rw [if_neg (by rw [there_ask g1]; exact g1)])
    have HE := hide (there_ask g1)
    obtain ⟨z, hz⟩ : ∃ z, z = askE fs s 4096 := ⟨_, rfl⟩
    rw [← hz] at hask g1 HE
    have g1' : (z == 0) = false := by simpa using g1
    clear hz
    go_enter Tryz.func48, Tryz.ntmps48
    go_wp2_with fail
    rw [← hW0]
    clear hW0
    refine (hask).mono ?_
    rintro e w1 ⟨rfl, hb1⟩
    have HD_w1 := hide (HD_W0.out.carry hb1)
    have HA_w1 := hide (HA_W0.out.carry hb1)
    have HB_w1 := hide (show Below w.heap.size w w1 from HB_W0.out.trans (hb1.mono HB_W0.out.size))
    clear HD_W0 HA_W0 HB_W0 hb1
    clear hask
    have e0 := HA_w1.out.cell0
    have e1 := HA_w1.out.cell1
    have f0 := frozen_of_row w1 (w.heap.size + 1) 0 _ _ HA_w1.out
    have f1 := frozen_of_row w1 (w.heap.size + 1) 1 _ _ HA_w1.out
    have hg := grown_two (w := w1) (q := w.heap.size + 1) (.string { data := #[] }) (.slice none 0 0)
    have hh : FileAt ((w1.setCell ⟨w.heap.size + 1, 0, none⟩ (.string { data := #[] })).setCell ⟨w.heap.size + 1, 1, none⟩ (.slice none 0 0)) (w.heap.size + 1) { data := #[] } (.slice none 0 0) := by
      have a1 := heap_setCell_same w1 (w.heap.size + 1) 0 _ 94 (.string { data := #[] }) HA_w1.out
      have a2 := heap_setCell_same (w1.setCell ⟨w.heap.size + 1, 0, none⟩ (.string { data := #[] })) (w.heap.size + 1) 1 _ 94 (.slice none 0 0) a1
      unfold FileAt
      rw [a2]; rfl
    have HOR := hide (show OwE ((w1.setCell ⟨w.heap.size + 1, 0, none⟩ (.string { data := #[] })).setCell ⟨w.heap.size + 1, 1, none⟩ (.slice none 0 0)) w.heap.size (.slice none 0 0) _ from OwE.nil _ _)
    have HBR := hide (HB_w1.out.grown hg HB_w1.out.size (by intro k hk; cases hk; omega))
    have z0 := hh.cell0
    have z1 := hh.cell1
    clear hg hh
    go_wp2
    obtain ⟨w9, hw9⟩ : ∃ w9, w9 = (w1.setCell ⟨w.heap.size + 1, 0, none⟩ (.string { data := #[] })).setCell ⟨w.heap.size + 1, 1, none⟩ (.slice none 0 0) := ⟨_, rfl⟩
    rw [← hw9] at z0 z1 HOR HBR ⊢
    try simp only [Exit.inBlock, Exit.then]
    refine bodyPost_ret (v := .tuple #[.agg #[.string { data := #[] }, .slice none 0 0], .int .i64 z]) ?_ rfl ⟨.slice none 0 0, by rw [HE.out, HV.out]; rfl, by rw [HV.out]; exact HOR.out, HBR.out⟩
    clear hw9 e0 e1 f0 f1
    simp [results, Tryz.results48, go_sem, *]
  rw [g1] at hask
  have HK := hide (chkF_ok (askE_ok g1).1).2
  have HG := hide g1
  clear g1
  go_enter Tryz.func48, Tryz.ntmps48
  go_wp2_with fail
  rw [← hW0]
  clear hW0
  refine (hask).mono ?_
  rintro e w1 ⟨rfl, hb1⟩
  have HD_w1 := hide (HD_W0.out.carry hb1)
  have HA_w1 := hide (HA_W0.out.carry hb1)
  have HB_w1 := hide (show Below w.heap.size w w1 from HB_W0.out.trans (hb1.mono HB_W0.out.size))
  clear HD_W0 HA_W0 HB_W0 hb1
  clear hask
  have r0 := HD_w1.out.cell
  have hfd := rfind_any a n c fs s w1 (HR.out.carry HB_w1.out) HN.out (by have := HK.out.1; have := HN.out; omega)
  go_wp2_with fail
  refine (hfd).mono ?_
  rintro e w2 ⟨hor, hb2⟩
  clear r0
  have HD_w2 := hide (HD_w1.out.carry hb2)
  have HA_w2 := hide (HA_w1.out.carry hb2)
  have HB_w2 := hide (show Below w.heap.size w w2 from HB_w1.out.trans (hb2.mono HB_w1.out.size))
  clear HD_w1 HA_w1 HB_w1 hb2
  clear hfd
  rcases hor with ⟨rfl, hno⟩ | ⟨t, ht, rfl, hts, hyes⟩
  · have HE := hide (there_out HG.out hno)
    have HV := hide (show findV fs s = ([], []) by unfold findV; rw [if_neg (by rw [HE.out]; omega)])
    clear hno
    have e0 := HA_w2.out.cell0
    have e1 := HA_w2.out.cell1
    have f0 := frozen_of_row w2 (w.heap.size + 1) 0 _ _ HA_w2.out
    have f1 := frozen_of_row w2 (w.heap.size + 1) 1 _ _ HA_w2.out
    have hg := grown_two (w := w2) (q := w.heap.size + 1) (.string { data := #[] }) (.slice none 0 0)
    have hh : FileAt ((w2.setCell ⟨w.heap.size + 1, 0, none⟩ (.string { data := #[] })).setCell ⟨w.heap.size + 1, 1, none⟩ (.slice none 0 0)) (w.heap.size + 1) { data := #[] } (.slice none 0 0) := by
      have a1 := heap_setCell_same w2 (w.heap.size + 1) 0 _ 94 (.string { data := #[] }) HA_w2.out
      have a2 := heap_setCell_same (w2.setCell ⟨w.heap.size + 1, 0, none⟩ (.string { data := #[] })) (w.heap.size + 1) 1 _ 94 (.slice none 0 0) a1
      unfold FileAt
      rw [a2]; rfl
    have HOR := hide (show OwE ((w2.setCell ⟨w.heap.size + 1, 0, none⟩ (.string { data := #[] })).setCell ⟨w.heap.size + 1, 1, none⟩ (.slice none 0 0)) w.heap.size (.slice none 0 0) _ from OwE.nil _ _)
    have HBR := hide (HB_w2.out.grown hg HB_w2.out.size (by intro k hk; cases hk; omega))
    have z0 := hh.cell0
    have z1 := hh.cell1
    clear hg hh
    go_wp2
    obtain ⟨w9, hw9⟩ : ∃ w9, w9 = (w2.setCell ⟨w.heap.size + 1, 0, none⟩ (.string { data := #[] })).setCell ⟨w.heap.size + 1, 1, none⟩ (.slice none 0 0) := ⟨_, rfl⟩
    rw [← hw9] at z0 z1 HOR HBR ⊢
    try simp only [Exit.inBlock, Exit.then]
    refine bodyPost_ret (v := .tuple #[.agg #[.string { data := #[] }, .slice none 0 0], .int .i64 6]) ?_ rfl ⟨.slice none 0 0, by rw [HE.out, HV.out]; rfl, by rw [HV.out]; exact HOR.out, HBR.out⟩
    clear hw9 e0 e1 f0 f1
    simp [results, Tryz.results48, go_sem, *]
  · have HE := hide (there_in HG.out hyes)
    have HV := hide (show findV fs s = (s, (fs[t]).2) by unfold findV; rw [if_pos HE.out, getF_at HK.out.2.1.2 ht hts])
    have HLt := hide (may_lenF HK.out _ (List.getElem_mem ht))
    have htn : (t : Int) < n := by have := HN.out; omega
    have ht0 : decide ((t : Int) < 0) = false := decide_eq_false (by omega)
    have htn2 : t < n := by omega
    obtain ⟨b, off, a2, c2, rfl, q0, q1, q2⟩ := HR.out.atB HB_w2.out t ht
    rw [hts] at q0
    have HQ := hide q2
    obtain ⟨l, hl⟩ : ∃ l, l = (fs[t]).2 := ⟨_, rfl⟩
    rw [← hl] at q1 HQ HV HLt
    obtain ⟨m, hm⟩ : ∃ m, m = l.length := ⟨_, rfl⟩
    rw [← hm] at q1 HQ
    have HM := hide hm
    clear hm hl q2 hts hyes
    have r0 := HD_w2.out.cell
    have HSZ := hide HB_w2.out.size
    go_wp2_with fail
    refine (twinFile_any s a2 m c2 l w2 (HQ.out.carry HB_w2.out) HM.out HLt.out).mono ?_
    rintro e w3 ⟨a3, c3, rfl, ho3, hb3⟩
    clear r0
    have HD_w3 := hide (HD_w2.out.carry hb3)
    have HA_w3 := hide (HA_w2.out.carry hb3)
    have HB_w3 := hide (show Below w.heap.size w w3 from HB_w2.out.trans (hb3.mono HB_w2.out.size))
    clear HD_w2 HA_w2 HB_w2 hb3
    have HOx := hide (show OwE w3 w.heap.size (.slice a3 m c3) l from ho3.mono HSZ.out)
    clear ho3 q0 q1
    have e0 := HA_w3.out.cell0
    have e1 := HA_w3.out.cell1
    have f0 := frozen_of_row w3 (w.heap.size + 1) 0 _ _ HA_w3.out
    have f1 := frozen_of_row w3 (w.heap.size + 1) 1 _ _ HA_w3.out
    have hg := grown_two (w := w3) (q := w.heap.size + 1) (.string (bs s)) (.slice a3 m c3)
    have hh : FileAt ((w3.setCell ⟨w.heap.size + 1, 0, none⟩ (.string (bs s))).setCell ⟨w.heap.size + 1, 1, none⟩ (.slice a3 m c3)) (w.heap.size + 1) (bs s) (.slice a3 m c3) := by
      have a1 := heap_setCell_same w3 (w.heap.size + 1) 0 _ 94 (.string (bs s)) HA_w3.out
      have a2 := heap_setCell_same (w3.setCell ⟨w.heap.size + 1, 0, none⟩ (.string (bs s))) (w.heap.size + 1) 1 _ 94 (.slice a3 m c3) a1
      unfold FileAt
      rw [a2]; rfl
    have HOR := hide (show OwE ((w3.setCell ⟨w.heap.size + 1, 0, none⟩ (.string (bs s))).setCell ⟨w.heap.size + 1, 1, none⟩ (.slice a3 m c3)) w.heap.size (.slice a3 m c3) _ from World.ownsRow.kept HOx.out hg (.inr (OwE.apartF HOx.out HA_w3.out)))
    have HBR := hide (HB_w3.out.grown hg HB_w3.out.size (by intro k hk; cases hk; omega))
    have z0 := hh.cell0
    have z1 := hh.cell1
    clear hg hh
    go_wp2
    obtain ⟨w9, hw9⟩ : ∃ w9, w9 = (w3.setCell ⟨w.heap.size + 1, 0, none⟩ (.string (bs s))).setCell ⟨w.heap.size + 1, 1, none⟩ (.slice a3 m c3) := ⟨_, rfl⟩
    rw [← hw9] at z0 z1 HOR HBR ⊢
    try simp only [Exit.inBlock, Exit.then]
    refine bodyPost_ret (v := .tuple #[.agg #[.string (bs s), .slice a3 m c3], .int .i64 0]) ?_ rfl ⟨.slice a3 m c3, by rw [HE.out, HV.out], by rw [HV.out]; exact HOR.out, HBR.out⟩
    clear hw9 e0 e1 f0 f1
    simp [results, Tryz.results48, go_sem, *]

set_option maxHeartbeats 4000000 in
set_option maxRecDepth 100000 in
theorem rUsed_any (a : Option Addr) (n c : Nat) (fs : List Fl) (w : World) (hrd : RdF w (.slice a n c) fs) (hn : n = fs.length) (hwf : wfFs fs) :
    Calls Tryz.prog 113 #[.agg #[.slice a n c]] w fun e w' => ∃ v, e = .returned (.tuple #[v, .int .i64 (chkF fs 4096)]) ∧ OwE w' w.heap.size v (usedL fs) ∧ Below w.heap.size w w' := by
  obtain ⟨W0, hW0⟩ : ∃ W0, W0 = w.alloc (.cells #[.slice a n c] 30) := ⟨_, rfl⟩
  have hb0 : Below w.heap.size w W0 := by rw [hW0]; exact (Below.refl _ _).alloc (Nat.le_refl _) _
  have HD_W0 := hide (show DirAt W0 w.heap.size (.slice a n c) by rw [hW0]; exact DirAt.new w _)
  have HB_W0 := hide hb0
  have HR := hide hrd
  have HN := hide hn
  have HW := hide hwf
  have hck := rcheck5_any a n c fs 4096 W0 (hrd.carry hb0) hn hwf
  clear hrd hn hwf hb0
  by_cases g1 : chkF fs 4096 = 0
  case neg =>
    have HL := hide (show usedL fs = [] by unfold usedL; rw [if_neg g1])
    obtain ⟨z, hz⟩ : ∃ z, z = chkF fs 4096 := ⟨_, rfl⟩
    rw [← hz] at hck g1
    have HE := hide hz
    have g1' : (z == 0) = false := by simpa using g1
    clear hz
    go_enter Tryz.func113, Tryz.ntmps113
    go_wp2_with fail
    rw [← hW0]
    clear hW0
    refine (hck).mono ?_
    rintro e w1 ⟨rfl, hb1⟩
    have HD_w1 := hide (HD_W0.out.carry hb1)
    have HB_w1 := hide (show Below w.heap.size w w1 from HB_W0.out.trans (hb1.mono HB_W0.out.size))
    clear HD_W0 HB_W0 hb1
    clear hck
    go_wp2
    all_goals (go_ret2; exact ⟨.slice none 0 0, by rw [← HE.out]; rfl, by rw [HL.out]; exact OwE.nil _ _, HB_w1.out⟩)
  have HK := hide (chkF_ok g1).2
  have HL := hide (show usedL fs = usedF fs by unfold usedL; rw [if_pos g1])
  have HE := hide g1
  rw [g1] at hck
  clear g1
  go_enter Tryz.func113, Tryz.ntmps113
  go_wp2_with fail
  rw [← hW0]
  clear hW0
  refine (hck).mono ?_
  rintro e w1 ⟨rfl, hb1⟩
  have HD_w1 := hide (HD_W0.out.carry hb1)
  have HB_w1 := hide (show Below w.heap.size w w1 from HB_W0.out.trans (hb1.mono HB_W0.out.size))
  clear HD_W0 HB_W0 hb1
  clear hck
  have HSZ := hide HB_w1.out.size
  have r0 := HD_w1.out.cell
  go_wp2_with fail
  refine (rused_any a n c fs w1 (HR.out.carry HB_w1.out) HN.out (by have := HK.out.1; have := HN.out; omega) (by have := each_used HK.out.2.1 HK.out.1; omega)).mono ?_
  rintro e w2 ⟨v2, rfl, ho2, hb2⟩
  clear r0
  have HD_w2 := hide (HD_w1.out.carry hb2)
  have HB_w2 := hide (show Below w.heap.size w w2 from HB_w1.out.trans (hb2.mono HB_w1.out.size))
  clear HD_w1 HB_w1 hb2
  have HOx := hide (ho2.mono HSZ.out)
  clear ho2
  go_wp2
  go_ret2
  exact ⟨_, by rw [HE.out]; rfl, by rw [HL.out]; exact HOx.out, HB_w2.out⟩

end Go.Proofs.YtlibnefibeikcaaGreat
namespace Go.Proofs.YtlibnefibeikcaaGreat
open Go.RowKit
set_option linter.unusedVariables false
set_option linter.unusedSimpArgs false

section
variable {P : Program} {md : Region.Mode} {ops : Array Oper} {Q : Exit → Act → World → Prop}
/-- Either of two operations may come up. -/
theorem reg_two {S : World → Prop} {i j : Nat} {fuel : Nat} {listed : Array Bool} {a : Act} {w : World} (hr : Region.ready md ops listed = [i, j])
    (h1 : wpOp P ops (NoPanic Q) i (fun a' w' => S w' ∧ wpAnyH P md ops (NoPanic Q) S fuel (listed.setIfInBounds i true) a' w') a w)
    (h2 : wpOp P ops (NoPanic Q) j (fun a' w' => S w' ∧ wpAnyH P md ops (NoPanic Q) S fuel (listed.setIfInBounds j true) a' w') a w) : wpAnyH P md ops (NoPanic Q) S (fuel + 1) listed a w := by
  refine wpAnyH_all (rs := [i, j]) hr (by simp) ?_
  intro k hk
  rcases List.mem_cons.1 hk with rfl | hk
  · exact h1
  · obtain rfl := List.mem_singleton.1 hk
    exact h2
theorem wop_run {K : Act → World → Prop} {i : Nat} {dst : Option Tmp} {op : Op} {ty : TypeId} {pos : String} {aft : Array Edge} {gd : Option (Nat × Bool)} {a : Act} {w w' : World} {v : Value} (hi : ops[i]? = some { dst := dst, op := op, type := ty, pos := pos, after := aft, guard := gd }) (hw : Region.wanted { dst := dst, op := op, type := ty, pos := pos, after := aft, guard := gd } (yielded ops a.tmps) = true)
    (hrun : (execOp a.eval { dst := dst, op := op, type := ty, pos := pos, after := aft, guard := gd }).run P w = .ok (.value v) w') (h : K (a.put dst v) w') : wpOp P ops Q i K a w := by
  unfold wpOp
  simp only [hi, hw, if_true]
  refine .inl ?_
  unfold Oper.wp
  rw [hrun]
  exact h
theorem wop_callg {K : Act → World → Prop} {i : Nat} {dst : Option Tmp} {op : Op} {ty : TypeId} {pos : String} {aft : Array Edge} {gd : Option (Nat × Bool)} {a : Act} {w : World} {f : FuncId} {args : Array Value} {R : Value → World → Prop} (hi : ops[i]? = some { dst := dst, op := op, type := ty, pos := pos, after := aft, guard := gd }) (hw : Region.wanted { dst := dst, op := op, type := ty, pos := pos, after := aft, guard := gd } (yielded ops a.tmps) = true)
    (hrun : (execOp a.eval { dst := dst, op := op, type := ty, pos := pos, after := aft, guard := gd }).run P w = .ok (.enter f args) w) (hc : Calls P f args w fun e w' => ∃ v, e = .returned v ∧ R v w') (h : ∀ v w', R v w' → K (a.put dst v) w') : wpOp P ops (NoPanic Q) i K a w := by
  unfold wpOp
  simp only [hi, hw, if_true]
  refine .inl ?_
  unfold Oper.wp
  rw [hrun]
  exact hc.mono fun e w' ⟨v, he, hv⟩ => by subst he; exact h v w' hv
end

theorem region_cut {P : Program} {id : Nat} {ops : Array Oper} {Q : Exit → Act → World → Prop} {a : Act} {w : World} {α : Type} (F : α → Act → Act) (R : α → World → Prop) (h : (Code.region id ops true).wp P (fun e a' w' => e = .normal ∧ ∃ x, a' = F x a ∧ R x w') a w) (k : ∀ x w', R x w' → Q .normal (F x a) w') : (Code.region id ops true).wp P Q a w :=
  Code.wp_mono (fun e a' w' ⟨h1, x, h2, h3⟩ => by subst h1 h2; exact k x w' h3) h

end Go.Proofs.YtlibnefibeikcaaGreat
namespace Go.Proofs.YtlibnefibeikcaaGreat
open Go.RowKit
set_option linter.unusedVariables false
set_option linter.unusedSimpArgs false

theorem FileAt.name {w : World} {q : Nat} {s : ByteArray} {y : Value} (h : FileAt w q s y) (u : ByteArray) : FileAt (w.setCell ⟨q, 0, none⟩ (.string u)) q u y := by
  have := heap_setCell_same w q 0 _ 94 (.string u) h
  unfold FileAt
  rw [this]; rfl
end Go.Proofs.YtlibnefibeikcaaGreat

/-
  What table.entriesOf does.
-/
import Derived.Test.YtjkoemdojdcmpaaTb9
import Derived.Test.YtjkoemdojdcmpaaMm1
namespace Go.Proofs.Ytjkoemdojdcmpaa
open Go.RowKit
set_option linter.unusedVariables false
set_option linter.unusedSimpArgs false

theorem OwY.keepN {w w' : World} {base : Nat} {v : Value} {l : List UInt8} (h : OwY w base v l) (hk : KeepG 31 w w') : OwY w' base v l := by
  refine ⟨h.1, ?_⟩
  rcases h.2 with h | ⟨g, cap, cur, e, h1, h2, h3⟩
  · exact .inl h
  · exact .inr ⟨g, cap, cur, e, h1, hk g _ _ _ (by decide) h2, h3⟩
def EnI (bl ix : List UInt8) (acc : List Ent) (B I : List UInt8) : Prop :=
  ∀ ps, (∀ p ∈ ps, PtOk p) → ps.length ≤ 1024 → bl = bodT ps → ix = sm ps.length ++ ixT ps → ∃ qs, ∃ rs, ps = qs ++ rs ∧ acc = qs.flatten ∧ B = bodT rs ∧ I = ixT rs
def EnN (bl ix : List UInt8) : Prop := ∀ ps, (∀ p ∈ ps, PtOk p) → ps.length ≤ 1024 → bl = bodT ps → ix = sm ps.length ++ ixT ps → False
theorem en_none {bl ix : List UInt8} (h : rd ix = none) : EnN bl ix := by
  intro ps h1 h2 _ rfl
  rw [rd_sm _ (by omega)] at h
  cases h
theorem en_start {bl ix : List UInt8} {n k : Nat} (h : rd ix = some (n, k)) : EnI bl ix [] bl (ix.drop k) := by
  intro ps h1 h2 e1 e2
  refine ⟨[], ps, rfl, rfl, e1, ?_⟩
  rw [e2, rd_sm _ (by omega)] at h
  injection h with h
  injection h with e3 e4
  subst e4
  rw [e2]; simp
theorem EnI.row {bl ix : List UInt8} {acc : List Ent} {B I : List UInt8} (h : EnI bl ix acc B I) (hI : 0 < I.length) : ∀ ps, (∀ p ∈ ps, PtOk p) → ps.length ≤ 1024 → bl = bodT ps → ix = sm ps.length ++ ixT ps → ∃ qs p rs, ps = qs ++ p :: rs ∧ acc = qs.flatten ∧ B = blkK p ++ bodT rs ∧ I = tx (p.getLastD zE).1 ++ (sm (blkK p).length ++ ixT rs) := by
  intro ps h1 h2 e1 e2
  obtain ⟨qs, rs, a1, a2, a3, a4⟩ := h ps h1 h2 e1 e2
  cases rs with
  | nil => rw [a4] at hI; simp [ixT] at hI
  | cons p rs => exact ⟨qs, p, rs, a1, a2, by rw [a3, bod_cons], by rw [a4, ix_cons]⟩
theorem EnI.cut {bl ix : List UInt8} {acc : List Ent} {B I : List UInt8} (h : EnI bl ix acc B I) (hI : 0 < I.length) (hc : ct I = none) : EnN bl ix := by
  intro ps h1 h2 e1 e2
  obtain ⟨qs, p, rs, rfl, a2, a3, a4⟩ := h.row hI ps h1 h2 e1 e2
  have hp := (h1 p (by simp)).last
  rw [a4, ct_tx _ _ (by omega)] at hc
  cases hc
theorem EnI.num {bl ix : List UInt8} {acc : List Ent} {B I s r : List UInt8} (h : EnI bl ix acc B I) (hI : 0 < I.length) (hc : ct I = some (s, r)) : ∀ ps, (∀ p ∈ ps, PtOk p) → ps.length ≤ 1024 → bl = bodT ps → ix = sm ps.length ++ ixT ps → ∃ qs p rs, ps = qs ++ p :: rs ∧ PtOk p ∧ acc = qs.flatten ∧ B = blkK p ++ bodT rs ∧ r = sm (blkK p).length ++ ixT rs := by
  intro ps h1 h2 e1 e2
  obtain ⟨qs, p, rs, rfl, a2, a3, a4⟩ := h.row hI ps h1 h2 e1 e2
  have hp := (h1 p (by simp)).last
  rw [a4, ct_tx _ _ (by omega)] at hc
  injection hc with hc
  injection hc with e3 e4
  exact ⟨qs, p, rs, rfl, h1 p (by simp), a2, a3, e4.symm⟩
theorem EnI.bad {bl ix : List UInt8} {acc : List Ent} {B I s r : List UInt8} (h : EnI bl ix acc B I) (hI : 0 < I.length) (hc : ct I = some (s, r)) (hr : rd r = none ∨ ∃ n k, rd r = some (n, k) ∧ (B.length < n ∨ rdKE (B.take n) ≠ 0)) : EnN bl ix := by
  intro ps h1 h2 e1 e2
  obtain ⟨qs, p, rs, rfl, hp, a2, a3, a4⟩ := h.num hI hc ps h1 h2 e1 e2
  have hb := hp.2
  have e := rd_sm (blkK p).length (by omega) (ixT rs)
  rw [← a4] at e
  rcases hr with hr | ⟨n, k, hr, hn⟩
  · rw [hr] at e; cases e
  · rw [hr] at e
    injection e with e
    injection e with e3 e4
    subst e3
    rcases hn with hn | hn
    · rw [a3, List.length_append] at hn; omega
    · rw [a3, List.take_left, (rdK_pt hp).1] at hn
      exact hn rfl
theorem EnI.next {bl ix : List UInt8} {acc : List Ent} {B I s r : List UInt8} {n k : Nat} (h : EnI bl ix acc B I) (hI : 0 < I.length) (hc : ct I = some (s, r)) (hr : rd r = some (n, k)) : EnI bl ix (acc ++ rdKL (B.take n)) (B.drop n) (r.drop k) := by
  intro ps h1 h2 e1 e2
  obtain ⟨qs, p, rs, rfl, hp, a2, a3, a4⟩ := h.num hI hc ps h1 h2 e1 e2
  have hb := hp.2
  have e := rd_sm (blkK p).length (by omega) (ixT rs)
  rw [← a4, hr] at e
  injection e with e
  injection e with e3 e4
  subst e3 e4
  refine ⟨qs ++ [p], rs, by simp, ?_, ?_, ?_⟩
  · rw [a3, List.take_left, (rdK_pt hp).2, a2]; simp
  · rw [a3, List.drop_left]
  · rw [a4, List.drop_left]
theorem EnI.done {bl ix : List UInt8} {acc : List Ent} {B I : List UInt8} (h : EnI bl ix acc B I) (hI : ¬ 0 < I.length) : ∀ ps, (∀ p ∈ ps, PtOk p) → ps.length ≤ 1024 → bl = bodT ps → ix = sm ps.length ++ ixT ps → acc = ps.flatten := by
  intro ps h1 h2 e1 e2
  obtain ⟨qs, rs, a1, a2, a3, a4⟩ := h ps h1 h2 e1 e2
  cases rs with
  | nil => rw [a2, a1, List.append_nil]
  | cons p rs =>
    have := congrArg List.length a4
    rw [ix_cons, List.length_append] at this
    have h3 := sm_pos (p.getLastD zE).1.length
    unfold tx at this
    rw [List.length_append] at this
    omega
def EnP (bl ix : List UInt8) (L : List Ent) (ok : Bool) : Prop := L.length ≤ bl.length ∧ ∀ ps, (∀ p ∈ ps, PtOk p) → ps.length ≤ 1024 → bl = bodT ps → ix = sm ps.length ++ ixT ps → L = ps.flatten ∧ ok = true
theorem EnN.p {bl ix : List UInt8} (h : EnN bl ix) (ok : Bool) : EnP bl ix [] ok := ⟨Nat.zero_le _, fun ps h1 h2 h3 h4 => (h ps h1 h2 h3 h4).elim⟩

set_option maxHeartbeats 4000000 in
set_option maxRecDepth 100000 in
theorem entriesOf_tb (a1 : Option Addr) (n1 c1 : Nat) (bl : List UInt8) (a2 : Option Addr) (n2 c2 : Nat) (ix : List UInt8) (w : World) (h1 : Rd w (.slice a1 n1 c1) bl) (h2 : Rd w (.slice a2 n2 c2) ix) (hbl : bl.length ≤ 100000) (hix : ix.length ≤ 100000) :
    Calls Try.prog 54 #[.slice a1 n1 c1, .slice a2 n2 c2] w fun e w' => ∃ av nv cv L ok, e = .returned (.tuple #[.slice av nv cv, .bool ok]) ∧ OwN w' w.heap.size (.slice av nv cv) L ∧ EnP bl ix L ok ∧ Below w.heap.size w w' := by
  have H1 := hide h1
  have H2 := hide h2
  have HBL := hide hbl
  have HIX := hide hix
  have hrd0 := read1_any w h2
  clear h1 h2 hbl hix
  cases hr0 : rd ix with
  | none =>
    rw [hr0] at hrd0
    unfold rdV at hrd0
    have HE := hide ((en_none (bl := bl) hr0).p false)
    clear hr0
    go_enter Try.func54, Try.ntmps54
    go_wp2_with fail
    refine hrd0.mono ?_
    rintro e w1 ⟨rfl, rfl⟩
    go_wp2
    go_ret2
    exact ⟨_, _, _, [], _, rfl, OwG.nil _ _, HE.out, Below.refl _ _⟩
  | some p =>
  obtain ⟨m0, k0⟩ := p
  rw [hr0] at hrd0
  unfold rdV at hrd0
  have HE0 := hide (en_start (bl := bl) hr0)
  obtain ⟨f1, f2, f3, f4⟩ := rd_fits hr0
  obtain ⟨aI, cI, hslI, hrI⟩ := slYl H2.out .i64 k0 f2
  have HI0 := hide (hrI w H2.out)
  have HL0 := hide (show n2 - k0 = (ix.drop k0).length by rw [List.length_drop, H2.out.cap.1])
  clear hrI f1 f2 f3 f4 hr0
  go_enter Try.func54, Try.ntmps54
  go_wp2_with fail
  refine hrd0.mono ?_
  rintro e w0 ⟨rfl, rfl⟩
  clear hrd0
  go_wp2_with (first | (refine wpList_slY rfl (.tmp 24) (.tmp 25) 22 (by kernel_rfl) rfl rfl rfl hslI ?_) | fail)
  clear hslI
  go_loopw [0, 1, 9] (fun b i v wr => ∃ (B I : List UInt8) (acc : List Ent) (aB : Option Addr) (nB cB : Nat) (aI : Option Addr) (nI cI : Nat) (av : Option Addr) (nv cv : Nat), b = .slice aB nB cB ∧ i = .slice aI nI cI ∧ v = .slice av nv cv ∧ Hid (nI = I.length ∧ nB = B.length) ∧ Hid (I.length ≤ 100000 ∧ acc.length + B.length ≤ bl.length) ∧ Hid (EnI bl ix acc B I) ∧ Hid (∀ wx, Below w0.heap.size w0 wx → Rd wx (.slice aB nB cB) B) ∧ Hid (Rd wr (.slice aI nI cI) I) ∧ Hid (OwN wr w0.heap.size (.slice av nv cv) acc) ∧ Hid (Below w0.heap.size w0 wr)) (fun _ i _ _ => slcN i)
  case atStart => exact ⟨bl, ix.drop k0, [], _, _, _, _, _, _, _, _, _, rfl, rfl, rfl, hide ⟨HL0.out, H1.out.cap.1⟩, hide ⟨by rw [List.length_drop]; have := HIX.out; omega, by simp⟩, HE0, hide (fun wx hb => H1.out.carry hb), HI0, hide (OwG.nil _ _), hide (Below.refl _ _)⟩
  case round =>
    obtain ⟨B, I, acc, aB, nB, cB, aI2, nI, cI2, av, nv, cv, rfl, rfl, rfl, hNI, hLN, hE, hB, hI, hO, hBel⟩ := hrel
    clear HE0 HI0 HL0
    by_cases hlt : 0 < nI
    · have hlt' : (0 : Int) < nI := by omega
      have hIl : 0 < I.length := by have := hNI.out; omega
      cases hct : ct I with
      | none =>
        have HE := hide ((hE.out.cut hIl hct).p false)
        have hcc := cutY_none aI2 nI cI2 I wr (by have := hLN.out; omega) hI.out hct
        clear hct
        go_wp2_with fail
        refine hcc.mono ?_
        rintro e w2 ⟨a3, n3, c3, rfl, b3⟩
        have HB3 := hide (show Below w0.heap.size w0 w2 from hBel.out.trans (b3.mono hBel.out.size))
        clear hcc b3
        go_wp2
        go_ret2
        exact ⟨_, _, _, [], _, rfl, OwG.nil _ _, HE.out, HB3.out⟩
      | some p =>
      obtain ⟨s, r⟩ := p
      have hcc := cutY_some aI2 nI cI2 I s r wr (by have := hLN.out; omega) hI.out hct
      have HRL := hide (ct_len hct).1
      have HCT := hide hct
      have HRS := hide (show r.length < I.length by
        have := congrArg List.length (ct_can hct)
        have h3 := sm_pos s.length
        unfold tx at this
        rw [List.length_append, List.length_append] at this
        omega)
      clear hct
      go_wp2_with fail
      refine hcc.mono ?_
      rintro e w2 ⟨a3, c3, rfl, o3, b3⟩
      have HB2 := hide (show Below w0.heap.size w0 w2 from hBel.out.trans (b3.mono hBel.out.size))
      have HO2 := hide (OwG.carry hO.out b3)
      have HR2 := hide o3
      clear hcc b3 o3 hI hO hBel
      obtain ⟨rl, hrl⟩ : ∃ rl, rl = r.length := ⟨_, rfl⟩
      rw [← hrl] at HR2 HRL HRS ⊢
      have HRLE := hide hrl
      clear hrl
      have hrd2 := read1_any w2 HR2.out.rd
      have gB : (nB : Int) % 18446744073709551616 = nB := by have := hNI.out; have := hLN.out; have := HBL.out; omega
      cases hr1 : rd r with
      | none =>
        have HE := hide ((hE.out.bad hIl HCT.out (.inl hr1)).p false)
        rw [hr1] at hrd2
        unfold rdV at hrd2
        clear hr1
        go_wp2_with fail
        refine hrd2.mono ?_
        rintro e w3 ⟨rfl, rfl⟩
        clear hrd2
        go_wp2
        go_ret2
        exact ⟨_, _, _, [], _, rfl, OwG.nil _ _, HE.out, HB2.out⟩
      | some p =>
      obtain ⟨m, k⟩ := p
      rw [hr1] at hrd2
      unfold rdV at hrd2
      have HR1 := hide hr1
      obtain ⟨f1, f2, f3, f4⟩ := rd_fits hr1
      clear hr1
      by_cases hbig : nB < m
      · have hbig' : (nB : Int) < m := by omega
        have HE := hide ((hE.out.bad hIl HCT.out (.inr ⟨m, k, HR1.out, .inl (by have := hNI.out; omega)⟩)).p false)
        go_wp2_with fail
        refine hrd2.mono ?_
        rintro e w3 ⟨rfl, rfl⟩
        clear hrd2
        go_wp2
        go_ret2
        exact ⟨_, _, _, [], _, rfl, OwG.nil _ _, HE.out, HB2.out⟩
      have hbig' : decide ((nB : Int) < m) = false := by simpa using (by omega : ¬ (nB : Int) < m)
      obtain ⟨a4, c4, hsl4, hr4⟩ := slYh (hB.out w0 (Below.refl _ _)) .u64 m (by have := hNI.out; omega)
      obtain ⟨a5, c5, hsl5, hr5⟩ := slYl (hB.out w0 (Below.refl _ _)) .u64 m (by have := hNI.out; omega)
      obtain ⟨a6, c6, hsl6, hr6⟩ := slYl HR2.out.rd .i64 k f2
      have HR4 := hide hr4
      have HR5 := hide hr5
      have HR6 := hide hr6
      have HKL := hide f2
      rw [← HRLE.out] at HKL
      clear hr4 hr5 hr6 f1 f2 f3 f4
      go_wp2_with fail
      refine hrd2.mono ?_
      rintro e w3 ⟨rfl, rfl⟩
      clear hrd2
      go_wp2_with (first | (refine wpList_slH rfl (.tmp 54) (.tmp 55) 22 (by kernel_rfl) rfl rfl rfl hsl4 ?_) | fail)
      clear hsl4 gB hbig'
      refine (read_bk a4 m c4 (B.take m) w3 (HR4.out _ (hB.out _ HB2.out))).mono ?_
      rintro e w4 ⟨a7, n7, c7, rfl, o7, b7⟩
      have HB4 := hide (show Below w0.heap.size w0 w4 from HB2.out.trans (b7.mono HB2.out.size))
      have HO4 := hide (OwG.carry HO2.out b7)
      have HRR4 := hide (HR2.out.carry b7)
      have HP4 := hide (OwG.rd ecN_len o7)
      clear b7 o7 HO2 HR2 HR4
      by_cases hz : rdKE (B.take m) = 0
      case neg =>
        have HE := hide ((hE.out.bad hIl HCT.out (.inr ⟨m, k, HR1.out, .inr hz⟩)).p false)
        have hz' : (rdKE (B.take m) == 0) = false := by simpa using hz
        generalize rdKE (B.take m) = z at *
        clear hz
        go_wp2
        go_ret2
        exact ⟨_, _, _, [], _, rfl, OwG.nil _ _, HE.out, HB4.out⟩
      rw [hz]
      clear hz
      have HEN := hide (hE.out.next hIl HCT.out HR1.out)
      have HLE := hide (rdKL_le (B.take m))
      have HLT := hide (show (B.take m).length + (B.drop m).length = B.length by rw [← List.length_append, List.take_append_drop])
      obtain ⟨b8, c8, w8, hrun8, o8, b8', k8⟩ := app_ents HO4.out HB4.out.size HP4.out (by have := HLE.out; have := HLT.out; have := hLN.out; have := HBL.out; omega)
      have HO8 := hide o8
      have HB8 := hide (show Below w0.heap.size w0 w8 from HB4.out.trans b8')
      have HRR8 := hide (HRR4.out.keepN k8)
      have HSZ := hide (show (acc ++ rdKL (B.take m)).length + (B.drop m).length ≤ bl.length by rw [List.length_append]; have := HLE.out; have := HLT.out; have := hLN.out; omega)
      obtain ⟨n8, hn8⟩ : ∃ n8, n8 = (acc ++ rdKL (B.take m)).length := ⟨_, rfl⟩
      rw [← hn8] at hrun8 HO8
      clear o8 b8' k8 hn8 HO4 HB4 HRR4 HP4 HLE HLT
      go_wp2_with (first | (at_builtin; refine wpList_runappY rfl (.tmp 62) (.tmp 63) 32 rfl rfl rfl rfl hrun8 ?_) | fail)
      clear hrun8
      go_quiet (fail)
      clear hsl5 hsl6
      go_wp2
      go_roundw
      case rel => exact ⟨B.drop m, r.drop k, acc ++ rdKL (B.take m), _, _, _, _, _, _, _, _, _, rfl, rfl, rfl, hide ⟨by rw [List.length_drop, HRLE.out], by rw [List.length_drop]; have := hNI.out; omega⟩, hide ⟨by rw [List.length_drop]; have := HRLE.out; have := HRS.out; have := hLN.out; omega, HSZ.out⟩, HEN, hide (fun wx hb => HR5.out wx (hB.out wx hb)), hide (HR6.out _ (HRR8.out.carry (below_drewN (Below.refl _ _) _)).rd), hide (OwG.carry HO8.out (below_drewN (Below.refl _ _) _)), hide (below_drewN HB8.out _)⟩
      case measure => simp only [slcN]; have := HRS.out; have := hNI.out; omega
    · have hd : decide (0 < nI) = false := by simpa using hlt
      have HE := hide (show EnP bl ix acc true from ⟨by have := hLN.out; omega, fun ps h1 h2 h3 h4 => ⟨hE.out.done (by have := hNI.out; omega) ps h1 h2 h3 h4, rfl⟩⟩)
      go_wp2
      go_ret2
      exact ⟨_, _, _, _, _, rfl, hO.out, HE.out, hBel.out⟩

end Go.Proofs.Ytjkoemdojdcmpaa

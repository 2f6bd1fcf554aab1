/-
  Rows of blocks that are read elsewhere; what lay, abc and alive do.
-/
import Derived.Test.YtkhkdagdgbmdkaaLf1
import Derived.Lib.SlBytesConst
namespace Go.Proofs.Ytkhkdagdgbmdkaa
open Go.RowKit
set_option linter.unusedVariables false
set_option linter.unusedSimpArgs false

/-- A row of one's own, of slices that are read in memory that was there (world W). -/
def RowR (W w : World) (v : Value) (ls : List (List UInt8)) : Prop :=
  ∃ ps : List (List UInt8 × Value), ps.map (·.1) = ls ∧ w.ownsRow W.heap.size 25 1 v ls.length (ps.map (·.2)) ∧ ∀ p ∈ ps, (∃ y z, p.2 = .slice y p.1.length z) ∧ Rd W p.2 p.1
theorem RowR.nil (W w : World) : RowR W w (.slice none 0 0) [] := ⟨[], rfl, World.ownsRow_nil _ _ _ _, by simp⟩
theorem RowR.form {W w : World} {v : Value} {ls : List (List UInt8)} (h : RowR W w v ls) : ∃ a c, v = .slice a ls.length c := by
  obtain ⟨ps, e, h1, h2⟩ := h
  rcases h1.2 with ⟨rfl, hn⟩ | ⟨g, cap, cur, rfl, _⟩
  · rw [hn]; exact ⟨_, _, rfl⟩
  · exact ⟨_, _, rfl⟩
theorem RowR.carry {W w w' : World} {v : Value} {ls : List (List UInt8)} (h : RowR W w v ls) (hb : Below w.heap.size w w') : RowR W w' v ls := by
  obtain ⟨ps, e, h1, h2⟩ := h
  exact ⟨ps, e, own_carry h1 hb, h2⟩
theorem RowR.rdL {W w : World} {v : Value} {ls : List (List UInt8)} (h : RowR W w v ls) (hb : Below W.heap.size W w) : RdL w v ls := by
  obtain ⟨ps, rfl, h1, h2⟩ := h
  rcases h1.2 with ⟨rfl, hn⟩ | ⟨g, cap, cur, rfl, _, hg, hn, hm, hsz, htake⟩
  · exact .inl ⟨List.length_eq_zero_iff.1 hn, .inl rfl⟩
  · refine .inr ⟨g, 0, cap, rfl, hn, hm, fun j hj => ?_⟩
    have hjp : j < ps.length := by simpa using hj
    have c1 := h1.cells (g := g) rfl j ((ps[j]).2) (by simp [List.getElem?_eq_getElem hjp])
    obtain ⟨⟨y, z, e⟩, hr⟩ := h2 ps[j] (List.getElem_mem hjp)
    rw [e] at c1 hr
    simp only [List.getElem_map]
    exact ⟨y, z, by simpa [Addr.add_lit] using c1, hr.carry hb⟩
theorem RowR.set {W w : World} {a : Option Addr} {n c : Nat} {ls : List (List UInt8)} (h : RowR W w (.slice a n c) ls) (hb : Below W.heap.size W w) (j : Nat) (hj : j < ls.length) (y : Option Addr) (z : Nat) (b : List UInt8) (hv : Rd W (.slice y b.length z) b) :
    ∃ g, a = some ⟨g, 0, none⟩ ∧ (∃ u, w.cell? ⟨g, j, none⟩ = some u) ∧ w.frozen? ⟨g, j, none⟩ = false ∧ RowR W (w.setCell ⟨g, j, none⟩ (.slice y b.length z)) (.slice a n c) (ls.set j b) ∧ Below W.heap.size W (w.setCell ⟨g, j, none⟩ (.slice y b.length z)) := by
  obtain ⟨ps, rfl, h1, h2⟩ := h
  have hjp : j < ps.length := by simpa using hj
  rcases h1.2 with ⟨e, hn⟩ | ⟨g, cap, cur, e, hbg, hgg, hrest⟩
  · cases e; simp at hn; subst hn; simp at hj
  · cases e
    obtain ⟨s1, s2⟩ := World.ownsRow.stored h1 j (.slice y b.length z)
    have hcell := h1.cells (g := g) rfl j ((ps[j]).2) (by simp [List.getElem?_eq_getElem hjp])
    rw [Addr.add_lit] at hcell
    refine ⟨g, rfl, ⟨_, by simpa using hcell⟩, frozen_of_row w _ j _ _ hgg, ⟨ps.set j (b, .slice y b.length z), ?_, ?_, ?_⟩, ?_⟩
    · rw [List.map_set]
    · rw [List.length_set, List.map_set]; exact s1
    · intro p hp
      rcases List.mem_or_eq_of_mem_set hp with hp | rfl
      · exact h2 p hp
      · exact ⟨⟨y, z, rfl⟩, hv⟩
    · exact hb.grown s2 hb.size (fun k hk => by cases hk; exact hbg)
theorem rd_lit8 (w : World) (l : List UInt8) (h : l.length ≤ maxLen) (cs : Array Value) (hc : cs.toList = u8v l) (e : TypeId) (fz : Nat × Nat) : Rd (w.alloc (.cells cs e fz)) (.slice (some ⟨w.heap.size, 0, none⟩) l.length l.length) l := by
  refine .inr ⟨w.heap.size, 0, l.length, rfl, Nat.le_refl _, h, fun j hj => ?_⟩
  have hcs : cs = (u8v l).toArray := by rw [← hc]
  subst hcs
  unfold World.cell?
  rw [show (w.alloc (.cells (u8v l).toArray e fz)).heap[(⟨w.heap.size, 0 + j, none⟩ : Addr).block]? = _ from heap_alloc_new w _]
  simp [u8v, hj]
section
variable {P : Program}
/-- Slices are appended to a row of one's own. -/
theorem wpList_appR {ops : Array Oper} {rest : List Oper} {o : Oper} {a : Act} {Q : Exit → Act → World → Prop} (W wr : World) (hgd : o.guard = none) (s x : Operand) (t : TypeId)
    (ho : o.op = .call { callee := .builtin .append, args := #[s, x], argTypes := #[t, t] })
    (ht : P.underlying t = some (.slice 25)) (hi : (P.info? 25).map (fun i => (i.zero, i.size, i.bytes)) = some (some (.slice none 0 0), 1, 24))
    (v : Value) (ls : List (List UInt8)) (hown : RowR W wr v ls) (hs : a.eval s = v) (hbel : Below W.heap.size W wr)
    (vx : Value) (ms : List (List UInt8)) (hrd : RdL W vx ms) (hx : a.eval x = vx) (hlen : ls.length + ms.length ≤ 1000000)
    (h : ∀ v' w', RowR W w' v' (ls ++ ms) → Below W.heap.size W w' → wpList P ops Q rest (a.put o.dst v') w') :
    wpList P ops Q (o :: rest) a wr := by
  obtain ⟨i0, hi, hz0, hz1, hz2⟩ := info_parts hi
  obtain ⟨ps, hps, h1, h2⟩ := hown
  rcases hrd with ⟨rfl, rfl | ⟨ad, c, rfl⟩⟩ | ⟨b, off, c, rfl, hc, hm, hcell⟩
  · refine wpList_append_own_none hgd s x t ho W.heap.size 25 i0 1 ht hi v ls.length _ hs h1 hx (h _ _ ⟨ps, by simpa using hps, by simpa using h1, h2⟩ hbel)
  · refine wpList_append_own _ hgd s x t ho W.heap.size 25 i0 (.slice none 0 0) 1 24 ht hi hz0 hz1 hz2 rfl (by decide) v ls.length _ hs h1 ad 0 c [] hx rfl ?_ ?_ ?_ ?_ hbel.size ?_
    · intro j u hj; simp at hj
    · intro u hu; simp at hu
    · unfold maxLen; simp at hlen; omega
    · simp at hlen; omega
    · intro v' w' hown' hg _
      exact h v' w' ⟨ps, by simpa using hps, by simpa using hown', h2⟩ (hbel.grown hg hbel.size fun k hk => (h1.lt k hk).1)
  · obtain ⟨qs, hq1, hq2⟩ : ∃ qs : List (List UInt8 × Value), qs.map (·.1) = ms ∧ (∀ j (hj : j < qs.length), wr.cell? ⟨b, off + j, none⟩ = some (qs[j]).2 ∧ (∃ y z, (qs[j]).2 = .slice y (qs[j]).1.length z) ∧ Rd W (qs[j]).2 (qs[j]).1) := by
      refine ⟨(List.range ms.length).attach.map (fun j => (ms[j.1]'(List.mem_range.1 j.2), .slice (Classical.choose (hcell j.1 (List.mem_range.1 j.2))) (ms[j.1]'(List.mem_range.1 j.2)).length (Classical.choose (Classical.choose_spec (hcell j.1 (List.mem_range.1 j.2)))))), ?_, ?_⟩
      · refine List.ext_getElem (by simp) fun j h1 h2 => ?_
        simp
      · intro j hj
        have hj' : j < ms.length := by simpa using hj
        have hsp := Classical.choose_spec (Classical.choose_spec (hcell j hj'))
        simp only [List.getElem_map, List.getElem_attach, List.getElem_range]
        exact ⟨keeps_cell _ _ _ _ hsp.1 hbel, ⟨_, _, rfl⟩, hsp.2⟩
    have hql : qs.length = ms.length := by rw [← hq1, List.length_map]
    refine wpList_append_own _ hgd s x t ho W.heap.size 25 i0 (.slice none 0 0) 1 24 ht hi hz0 hz1 hz2 rfl (by decide) v ls.length _ hs h1 ⟨b, off, none⟩ ms.length c (qs.map (·.2)) hx (by rw [List.length_map]; omega) ?_ ?_ ?_ ?_ hbel.size ?_
    · intro j u hj
      rw [List.getElem?_map, Option.map_eq_some_iff] at hj
      obtain ⟨p, hp, rfl⟩ := hj
      obtain ⟨hj', rfl⟩ := List.getElem?_eq_some_iff.1 hp
      rw [Addr.add_lit]
      exact (hq2 j hj').1
    · intro u hu
      obtain ⟨p, hp, rfl⟩ := List.mem_map.1 hu
      obtain ⟨j, hj', rfl⟩ := List.mem_iff_getElem.1 hp
      obtain ⟨y, z, e⟩ := (hq2 j hj').2.1
      rw [e]; rfl
    · unfold maxLen; omega
    · omega
    · intro v' w' hown' hg _
      refine h v' w' ⟨ps ++ qs, by rw [List.map_append, hps, hq1], by rw [List.map_append, List.length_append]; exact hown', ?_⟩ (hbel.grown hg hbel.size fun k hk => (h1.lt k hk).1)
      intro p hp
      rcases List.mem_append.1 hp with hp | hp
      · exact h2 p hp
      · obtain ⟨j, hj', rfl⟩ := List.mem_iff_getElem.1 hp
        exact (hq2 j hj').2
end

theorem layN_hit {l : List (List UInt8)} {at0 : Nat} {over : List (List UInt8)} {K : List Bool} {k : Nat} (hk : k < K.length) (hK : K[k] = true) (ho : k < over.length) : layN l at0 over K (k + 1) = (layN l at0 over K k).set (at0 + k) over[k] := by
  rw [layN, if_pos (by rw [getD_at K k hk, hK])]
  simp [List.getD, List.getElem?_eq_getElem ho]
theorem layN_miss {l : List (List UInt8)} {at0 : Nat} {over : List (List UInt8)} {K : List Bool} {k : Nat} (hK : K.getD k false = false) : layN l at0 over K (k + 1) = layN l at0 over K k := by
  rw [layN, if_neg (by rw [hK]; simp)]
theorem layN_far {l : List (List UInt8)} {at0 : Nat} {over : List (List UInt8)} {K : List Bool} {k : Nat} (h : l.length ≤ at0 + k) : layN l at0 over K (k + 1) = layN l at0 over K k := by
  rw [layN]
  split
  · rw [List.set_eq_of_length_le (by rw [layN_len]; exact h)]
  · rfl

set_option maxHeartbeats 2000000 in
set_option maxRecDepth 100000 in
theorem lay8_any (a : Option Addr) (n c : Nat) (l : List (List UInt8)) (at0 : Nat) (a2 : Option Addr) (n2 c2 : Nat) (over : List (List UInt8)) (a3 : Option Addr) (n3 c3 : Nat) (K : List Bool) (w : World) (hrd : RdL w (.slice a n c) l) (hro : RdL w (.slice a2 n2 c2) over) (hrk : RdK w (.slice a3 n3 c3) K) (hl : l.length ≤ 5000) (hat : at0 ≤ 5000) (hov : over.length ≤ 5000) :
    Calls Try.prog 15 #[.slice a n c, .int .i64 at0, .slice a2 n2 c2, .slice a3 n3 c3] w fun e w' => ∃ v, e = .returned v ∧ RdL w' v (layL l at0 over K) ∧ Below w.heap.size w w' := by
  have HR := hide hrd
  have HO := hide hro
  have HK := hide hrk
  have HN := hide hrd.le.1
  have HN2 := hide hro.le.1
  have HN3 := hide (rdK_len hrk).1
  have hn5 : n ≤ 5000 := by have := hrd.le.1; omega
  have hn25 : n2 ≤ 5000 := by have := hro.le.1; omega
  have hn3 := (rdK_len hrk).2
  unfold maxLen at hn3
  have HLN := hide (fun k => (layN_len l at0 over K k).trans HN.out.symm)
  clear hrd hro hrk hl hov
  go_enter Try.func15, Try.ntmps15
  go_wp2_with (at_builtin; go_must (refine wpList_appR w w rfl (.const (.slice none 0 0)) (.tmp 11) 22 rfl Try.underlying22 Try.infoSl8 _ [] (RowR.nil _ _) rfl (Below.refl _ _) _ l HR.out rfl (by have := HN.out; simp; omega) ?_); intro v9 w9 hrow9 hbel9; obtain ⟨a9, c9, hv9⟩ := hrow9.form; rw [show (([] : List (List UInt8)) ++ l).length = n from HN.out.symm] at hv9; subst hv9; have HROW9 := hide hrow9; clear hrow9)
  go_loopw [10] (fun i wr => ∃ k : Nat, k ≤ n2 ∧ i = .int .i64 k ∧ Hid (RowR w wr (.slice a9 n c9) (layN l at0 over K k)) ∧ Below w.heap.size w wr) (fun i _ => n2 - (intOf i).toNat)
  case atStart => exact ⟨0, Nat.zero_le _, rfl, HROW9, hbel9⟩
  case round =>
    clear hbel9 HROW9
    obtain ⟨k, hk, rfl, hrow, hbel⟩ := hrel
    by_cases hlt : k < n2
    · have hlt' : (k : Int) < n2 := by omega
      by_cases hk3 : k < n3
      · have hk3' : (k : Int) < n3 := by omega
        have hkK : k < K.length := by have := HN3.out; omega
        obtain ⟨b3, o3, rfl, q3⟩ := (HK.out.carry hbel).at k hkK
        cases hb : K[k]
        · rw [hb] at q3
          have HM := hide (layN_miss (l := l) (at0 := at0) (over := over) (show K.getD k false = false by rw [getD_at K k hkK, hb]))
          clear hb
          go_wp2
          exact ⟨⟨k + 1, by omega, rfl, hide (by rw [HM.out]; exact hrow.out), hbel⟩, by simp only [intOf]; omega⟩
        · rw [hb] at q3
          by_cases hak : at0 + k < n
          · have hak' : (at0 : Int) + k < n := by omega
            have hko : k < over.length := by have := HN2.out; omega
            obtain ⟨b2, o2, y, z, rfl, q2, r2⟩ := HO.out.at k hko
            have q2' := keeps_cell _ _ _ _ q2 hbel
            obtain ⟨g, rfl, ⟨u, hu⟩, hfz, hset, hbs⟩ := hrow.out.set hbel (at0 + k) (by rw [HLN.out]; exact hak) y z over[k] r2
            rw [← layN_hit hkK hb hko] at hset
            have HS := hide hset
            have HB := hide hbs
            obtain ⟨m, hm⟩ : ∃ m, m = (over[k]).length := ⟨_, rfl⟩
            rw [← hm] at q2' HS HB
            clear hb hset hbs q2 r2 hrow hm
            go_wp2
            exact ⟨⟨k + 1, by omega, rfl, HS, HB.out⟩, by simp only [intOf]; omega⟩
          · have hak' : decide ((at0 : Int) + k < n) = false := by simpa using (by omega : ¬ (at0 : Int) + k < n)
            have hak2 : ¬ (at0 : Int) + k < n := by omega
            have HM := hide (layN_far (l := l) (at0 := at0) (over := over) (K := K) (k := k) (by rw [← HN.out]; omega))
            clear hb hak
            go_wp2
            exact ⟨⟨k + 1, by omega, rfl, hide (by rw [HM.out]; exact hrow.out), hbel⟩, by simp only [intOf]; omega⟩
      · have hk3' : decide ((k : Int) < n3) = false := by simpa using (by omega : ¬ (k : Int) < n3)
        have HM := hide (layN_miss (l := l) (at0 := at0) (over := over) (show K.getD k false = false from getD_out K k (by rw [← HN3.out]; omega)))
        go_wp2
        exact ⟨⟨k + 1, by omega, rfl, hide (by rw [HM.out]; exact hrow.out), hbel⟩, by simp only [intOf]; omega⟩
    · have hd : decide ((k : Int) < n2) = false := by simpa using (by omega : ¬ (k : Int) < n2)
      obtain rfl : k = n2 := by omega
      have HE := hide (show layN l at0 over K k = layL l at0 over K by unfold layL; rw [← HN2.out])
      have HRR := hide (hrow.out.rdL hbel)
      clear hrow
      go_wp2
      go_ret
      exact ⟨_, rfl, by rw [← HE.out]; exact HRR.out, hbel⟩

/-- The example's record and blocks. -/
def abcR : List UInt8 := [97, 98, 99]
theorem abc_frm : frmE (1, 1, 7, 0) abcR = 0 := by decide
theorem abc_opn : opn 1 1 0 (rowB (1, 1, 7, 0) abcR) = (abcR, 7, 1) := by
  have := opn_row (l := []) (g := 1) (n := 1) (p := 0) (s := 7) (r := abcR) (by decide) abc_frm
  rw [List.append_nil] at this
  rw [this]; rfl
theorem abc_chk : chkL (rowB (1, 1, 7, 0) abcR) = 0 := by
  refine chkL_of (by rw [rowB_len]; decide) fun b hb => ?_
  obtain ⟨j, hj, rfl⟩ := List.mem_iff_getElem.1 hb
  rw [rowB_get, fillB_len]
theorem okH_of {a b c d : Nat} (h1 : a < 4294967296) (h2 : b < 4294967296) (h3 : c < 4294967296) (h4 : d < 4294967296) : okH (a, b, c, d) := ⟨h1, h2, h3, h4⟩

set_option maxHeartbeats 1000000 in
set_option maxRecDepth 100000 in
theorem abc8_any (w : World) :
    Calls Try.prog 8 #[] w fun e w' => ∃ v, e = .returned v ∧ OwBB w' w.heap.size v (rowB (1, 1, 7, 0) abcR) ∧ Below w.heap.size w w' := by
  have HO := hide (rd_lit8 w abcR (by decide) #[.int .u8 97, .int .u8 98, .int .u8 99] rfl 5 (3, 4))
  have hb0 : ∀ o, Below w.heap.size w (w.alloc o) := fun o => (Below.refl _ _).alloc (Nat.le_refl _) o
  have kc := fun (w : World) (C : Array Value) (n c : Nat) => Lib.run_convert_bytes_const (P := Try.prog) w 25 5 C n c Try.underlying25 Try.underlying5
  go_enter Try.func8, Try.ntmps8
  go_wp2_with fail
  refine (frame_any (1, 1, 7, 0) _ 3 3 abcR _ (okH_of (by decide) (by decide) (by decide) (by decide)) rfl HO.out).mono ?_
  rintro e w1 ⟨v, rfl, hO1, hb1⟩
  rw [frmL_0 abc_frm] at hO1
  rw [abc_frm]
  have HO1 := hide hO1
  have hB1 : Below w.heap.size w w1 := (hb0 _).trans (hb1.mono (by simp))
  clear hO1 hb1
  go_wp2
  go_ret
  exact ⟨_, rfl, HO1.out.mono (by simp), hB1⟩

set_option maxHeartbeats 1000000 in
set_option maxRecDepth 100000 in
theorem alive8_any (w : World) :
    Calls Try.prog 9 #[] w fun e w' => e = .returned (.bool true) ∧ Below w.heap.size w w' := by
  go_enter Try.func9, Try.ntmps9
  go_wp2_with fail
  refine (abc8_any _).mono ?_
  rintro e w1 ⟨v, rfl, hO1, hb1⟩
  obtain ⟨a1, c1, rfl⟩ := hO1.form
  rw [show (rowB (1, 1, 7, 0) abcR).length = 1 from rfl]
  rw [show (rowB (1, 1, 7, 0) abcR).length = 1 from rfl] at hO1
  have HO1 := hide hO1
  clear hO1
  go_wp2_with fail
  refine (open_fr 1 1 0 a1 1 c1 _ _ (by decide) (by decide) (by decide) HO1.out.rdL).mono ?_
  rintro e w2 ⟨v2, rfl, hO2, hb2⟩
  have hB2 : Below w.heap.size w w2 := hb1.trans (hb2.mono hb1.size)
  have hR : opnR 1 1 0 (rowB (1, 1, 7, 0) abcR) = (abcR, 7, 1) := by unfold opnR; rw [if_neg (fun h => h abc_chk), abc_opn]
  have hE : opnE 1 1 0 (rowB (1, 1, 7, 0) abcR) = 0 := by unfold opnE; rw [if_neg (fun h => h abc_chk), abc_opn]; rfl
  rw [hR, hE]
  rw [hR] at hO2
  have hcv := conv_rd (P := Try.prog) 25 5 9 Try.underlying25 Try.underlying5 Try.underlying9 hO2.rd
  have e3 : bs abcR = ⟨#[97, 98, 99]⟩ := rfl
  rw [e3] at hcv
  clear hO2 hb2 hR hE e3 hb1 HO1
  go_wp2
  go_ret
  exact ⟨rfl, hB2⟩

end Go.Proofs.Ytkhkdagdgbmdkaa

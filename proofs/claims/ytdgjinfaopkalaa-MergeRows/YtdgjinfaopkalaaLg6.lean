/-
  What the statement MergeRows answers.
-/
import Derived.Test.YtdgjinfaopkalaaMg10
import Derived.Test.YtdgjinfaopkalaaWov
import Derived.Test.YtdgjinfaopkalaaRegP
import Derived.Test.YtdgjinfaopkalaaBxK
namespace Go.Proofs.Ytdgjinfaopkalaa
open Go.RowKit
set_option linter.unusedVariables false
set_option linter.unusedSimpArgs false

def OwR (w : World) (base : Nat) (v : Value) (R : List (Value × List Ent)) : Prop := OwG 1 ecR 22 w base v R ∧ ∀ p ∈ R, OwN w base p.1 p.2
theorem OwR.carry {w w' : World} {base : Nat} {v : Value} {R : List (Value × List Ent)} (h : OwR w base v R) (hb : Below w.heap.size w w') : OwR w' base v R := ⟨OwG.carry h.1 hb, fun p hp => (h.2 p hp).carry hb⟩
theorem OwR.rd {w : World} {base : Nat} {v : Value} {R : List (Value × List Ent)} (h : OwR w base v R) : RdR w v R := ⟨OwG.rd ecR_len h.1, fun p hp => OwG.rd ecN_len (h.2 p hp)⟩
theorem OwR.nil (w : World) (base : Nat) : OwR w base (.slice none 0 0) [] := ⟨OwG.nil _ _, fun p hp => by cases hp⟩
theorem app_oneX {α : Type} {sz : Nat} {ec : α → List Value} {t : TypeId} {P : Program} {ts : TypeId} {z : Value} {by_ : Nat} (hsz : ∀ x, (ec x).length = sz) (h0 : 0 < sz) (hts : P.underlying ts = some (.slice t)) (hinfo : (P.info? t).map (fun i => (i.zero, i.size, i.bytes)) = some (some z, sz, by_)) (hz : z.cells.size = sz)
    {w : World} {base : Nat} {v : Value} {l : List α} (h : OwG sz ec t w base v l) (hb : base ≤ w.heap.size) (hl : (l.length + 1) * by_ ≤ 140737488355328) (hl2 : l.length + 1 ≤ maxLen) (x : α) (hone : ∀ u ∈ ec x, u.oneCell' = true) (cs : Array Value) (hcs : cs.toList = ec x) :
    ∃ g c w', (Builtin.append_ #[ts, ts] ts #[v, .slice (some ⟨w.heap.size, 0, none⟩) 1 1]).run P (w.alloc (.cells cs t)) = .ok (.slice (some ⟨g, 0, none⟩) (l.length + 1) c) w' ∧
      OwG sz ec t w' base (.slice (some ⟨g, 0, none⟩) (l.length + 1) c) (l ++ [x]) ∧ Below base w w' ∧ KeepG t w w' := by
  obtain ⟨w8, ew8⟩ : ∃ w8, w8 = w.alloc (.cells cs t) := ⟨_, rfl⟩
  have hn8 : ∀ j u, (ec x)[j]? = some u → w8.cell? ((⟨w.heap.size, 0, none⟩ : Addr).add j) = some u := by
    intro j u hj
    have := World.news_of_block (w := w.alloc (.cells cs t)) (heap_alloc_new w _) j u (by rw [← hcs] at hj; simpa using hj)
    rw [ew8]; simpa using this
  rw [← ew8]
  have hb8 : Below w.heap.size w w8 := by rw [ew8]; exact (Below.refl _ _).alloc (Nat.le_refl _) _
  obtain ⟨i0, hi, hz0, hz1, hz2⟩ := info_parts hinfo
  have q2 : w8.ownsRow base t sz v l.length (l.flatMap ec) := own_carry h hb8
  obtain ⟨v9, w9, hrun9, hown9, hg9, _⟩ := run_append_own (P := P) w8 base ts ts t i0 z sz by_ hts hi hz0 hz1 hz2 hz h0 _ _ _ q2 ⟨w.heap.size, 0, none⟩ 1 1 (ec x) (by rw [hsz]; omega) hn8 hone hl2 hl (Nat.le_trans hb hb8.size)
  have hb9 : Below base w w9 := (hb8.mono hb).grown hg9 (Nat.le_trans hb hb8.size) fun k hk => (q2.lt k hk).1
  rcases hown9.2 with ⟨_, h1⟩ | ⟨g, cap, cur, h1, _⟩
  · exact absurd h1 (by omega)
  · subst h1
    refine ⟨g, cap, w9, hrun9, ?_, hb9, (KeepG.below hb8).trans (keepG_of (l := l) (ec := ec) q2 hg9)⟩
    have e : (l ++ [x]).flatMap ec = l.flatMap ec ++ ec x := by simp
    unfold OwG
    rw [e, List.length_append]
    exact hown9
theorem app_rowR {w : World} {base : Nat} {v : Value} {R : List (Value × List Ent)} (h : OwR w base v R) (hb : base ≤ w.heap.size) (hl : R.length ≤ 1000000) {a : Option Addr} {n c : Nat} {l : List Ent} (hx : OwN w base (.slice a n c) l) :
    ∃ g c' w', (Builtin.append_ #[31, 31] 31 #[v, .slice (some ⟨w.heap.size, 0, none⟩) 1 1]).run Try.prog (w.alloc (.cells #[.slice a n c] 22)) = .ok (.slice (some ⟨g, 0, none⟩) (R.length + 1) c') w' ∧
      OwR w' base (.slice (some ⟨g, 0, none⟩) (R.length + 1) c') (R ++ [(.slice a n c, l)]) ∧ Below base w w' := by
  obtain ⟨g, c', w', h1, h2, h3, h4⟩ := app_oneX (P := Try.prog) ecR_len (by decide) Try.underlying31 Try.infoRw rfl h.1 hb (by omega) (by unfold maxLen; omega) (.slice a n c, l) (by intro u hu; simp [ecR] at hu; subst hu; rfl) #[.slice a n c] rfl
  refine ⟨g, c', w', h1, ⟨h2, fun p hp => ?_⟩, h3⟩
  rcases List.mem_append.1 hp with hp | hp
  · exact OwG.keep (h.2 p hp) h4 (by decide)
  · obtain rfl := List.mem_singleton.1 hp
    exact OwG.keep hx h4 (by decide)
theorem rwsL_len (Ls : List (List Ent)) : (rwsL Ls).length ≤ 65536 := by
  by_cases h : rwsE Ls = 0
  · obtain ⟨_, _, h3, h4⟩ := rws_ok h
    rw [h4, putsM_len]; simpa using h3
  · rw [rwsL_bad h]; exact Nat.zero_le _
def CarM (w wx : World) : Prop := Below w.heap.size w wx
theorem CarM.carry {w wx wy : World} (h : CarM w wx) (hb : Below wx.heap.size wx wy) : CarM w wy := Below.trans h (hb.mono (Below.size h))

set_option maxHeartbeats 8000000 in
set_option maxRecDepth 100000 in
theorem mergeRows_any (a : Option Addr) (n c : Nat) (R : List (Value × List Ent)) (w : World) (hrd : RdR w (.slice a n c) R) :
    Calls Try.prog 4 #[.slice a n c] w fun e w' => e = .returned (.bool true) ∧ Below w.heap.size w w' := by
  have HN := hide hrd.len
  have HR := hide hrd
  have hg := rgreat_mg a n c R w hrd
  clear hrd
  go_enter Try.func4, Try.ntmps4
  go_wp2_with fail
  refine hg.mono ?_
  rintro e w3 ⟨bg, rfl, hgr, b3⟩
  have HB3 := hide b3
  clear hg b3
  cases bg with
  | true =>
    go_wp2
    go_ret
    exact ⟨rfl, HB3.out⟩
  | false =>
  have hn5 : n ≤ 50 := (hgr.out rfl).1
  have HNL := hide (show ∀ p ∈ R, p.2.length ≤ 70000 from (hgr.out rfl).2)
  clear hgr
  go_wp2
  go_loopw [4, 3] (fun i v wr => ∃ k : Nat, k ≤ n ∧ i = .int .i64 k ∧ ∃ av nv cv, v = .slice av nv cv ∧ ∃ S, Hid (lsG S = (lsG R).take k) ∧ Hid (OwR wr w.heap.size (.slice av nv cv) S) ∧ Hid (Below w.heap.size w wr)) (fun i _ _ => n - (intOf i).toNat)
  case atStart => exact ⟨0, Nat.zero_le _, rfl, _, _, _, rfl, [], hide rfl, hide (OwR.nil _ _), HB3⟩
  case round =>
    obtain ⟨k, hk, rfl, av, nv, cv, rfl, S, hS, hO, hB⟩ := hrel
    clear HB3
    by_cases hlt : k < n
    · have hlt' : (k : Int) < n := by omega
      have hkl : k < R.length := by have := HN.out; omega
      have hkg : k < (lsG R).length := by rw [lsG_len]; exact hkl
      obtain ⟨b, off, ax, nx, cx, rfl, q0, hRx, hnx⟩ := HR.out.cells hB.out k hkl
      rw [← lsG_get hkl hkg] at hRx hnx
      have HTK := hide (List.take_succ_eq_append_getElem hkg)
      have HXL := hide (show ((lsG R)[k]).length ≤ 70000 by rw [lsG_get hkl hkg]; exact HNL.out _ (List.getElem_mem _))
      obtain ⟨x, hx⟩ : ∃ x, x = (lsG R)[k] := ⟨_, rfl⟩
      rw [← hx] at hRx hnx HTK HXL
      clear hx
      have HSL := hide (show S.length ≤ 50 by
        have := congrArg List.length hS.out
        rw [lsG_len, List.length_take, lsG_len] at this
        have := HN.out
        omega)
      obtain ⟨ao, no, co, w5, hno, hr5, o5, b5⟩ := app_entsG (OwG.nil wr wr.heap.size) (Nat.le_refl _) (hRx.carry hB.out) (by have := HXL.out; simp only [List.length_nil]; omega)
      rw [List.nil_append] at hno o5
      obtain ⟨g9, c9, w9, hr9, o9, b9⟩ := app_rowR (hO.out.carry b5) (Nat.le_trans hB.out.size b5.size) (by have := HSL.out; omega) (o5.mono hB.out.size)
      have HO9 := hide o9
      have HB9 := hide (show Below w.heap.size w w9 from (hB.out.trans (b5.mono hB.out.size)).trans b9)
      have HS9 := hide (show lsG (S ++ [(Value.slice ao no co, x)]) = (lsG R).take (k + 1) by
        rw [HTK.out, ← hS.out]; simp [lsG])
      obtain ⟨n9, hn9⟩ : ∃ n9, n9 = S.length + 1 := ⟨_, rfl⟩
      rw [← hn9] at hr9 HO9
      clear hn9 o9 b9 hno o5 b5 hO hS hB HTK HXL HSL hRx hnx
      go_wp2_with (first | (at_builtin; refine wpList_runappY rfl (.tmp 21) (.tmp 25) 22 rfl rfl rfl rfl hr5 ?_) | (at_builtin; refine wpList_runappY rfl (.tmp 27) (.tmp 29) 31 rfl rfl rfl rfl hr9 ?_) | fail)
      go_roundw
      case rel => exact ⟨k + 1, by omega, by go_num, _, _, _, rfl, _, HS9, HO9, HB9⟩
      case measure => simp only [intOf]; omega
    · have hd : decide ((k : Int) < n) = false := by simpa using (by omega : ¬ (k : Int) < n)
      obtain ⟨v5, hv5⟩ : ∃ v5, v5 = wr := ⟨_, rfl⟩
      have HLS := hide (show lsG S = lsG R by rw [hS.out, List.take_of_length_le (by rw [lsG_len]; have := HN.out; omega)])
      have HOW := hide (show OwR v5 w.heap.size (.slice av nv cv) S by rw [hv5]; exact hO.out)
      have HBV := hide (show Below w.heap.size w v5 by rw [hv5]; exact hB.out)
      have hSn : nv = n := by
        have h1 := HOW.out.rd.len
        have h2 := congrArg List.length HLS.out
        rw [lsG_len, lsG_len] at h2
        have := HN.out
        omega
      subst hSn
      have h1 := HLS.out ▸ rows_mg av nv cv S v5 HOW.out.rd (by omega)
      clear hS hO hB hk
      rw [← hv5]
      clear hv5
      go_wp2_with fail
      refine h1.mono ?_
      rintro e w6 ⟨a6, n6, c6, rfl, o6, b6⟩
      clear hlt hd
      have HO6 := hide o6
      have HB6 := hide (show CarM v5 w6 from b6)
      clear h1 o6 b6
      have h2 := rrows_mg a nv c R w6 (HR.out.carry (HBV.out.trans (HB6.out.mono HBV.out.size))) (by omega)
      go_wp2_with fail
      refine h2.mono ?_
      rintro e w7 ⟨a7, n7, c7, rfl, o7, b7⟩
      have HO7 := hide (OwG.rd ecN_len o7)
      have HO6' := hide (HO6.out.carry b7)
      have HB7 := hide (HB6.out.carry b7)
      clear h2 o7 b7 HO6 HB6
      have HXL := hide (rwsL_len (lsG R))
      obtain ⟨X, hX⟩ : ∃ X, X = rwsL (lsG R) := ⟨_, rfl⟩
      obtain ⟨z, hz⟩ : ∃ z, z = rwsE (lsG R) := ⟨_, rfl⟩
      rw [← hX] at HO7 HO6' HXL
      rw [← hz]
      clear hX hz
      have h3 := (decide_eq_true (rfl : X = X)) ▸ sameEntries_bt a6 n6 c6 X a7 n7 c7 X w7 (by have := HXL.out; omega) (OwG.rd ecN_len HO6'.out) HO7.out
      go_wp2_with fail
      refine h3.mono ?_
      rintro e w8 ⟨rfl, b8⟩
      have HO8 := hide (HO6'.out.carry b8)
      have HB8 := hide (HB7.out.carry b8)
      clear h3 b8 HO7 HO6' HB7
      have hn6 : n6 ≤ 65536 := by have h1 := (OwG.rd ecN_len HO8.out).len; have := HXL.out; omega
      have E6 := hide (OwG.rd ecN_len HO8.out).len.symm
      go_wp2
      go_loopw [11] (fun i wr => ∃ j : Nat, j ≤ n6 ∧ i = .int .i64 j ∧ (∃ L : List Ent, Hid (L.length = n6) ∧ Hid (OwN wr v5.heap.size (.slice a6 n6 c6) L)) ∧ Hid (CarM v5 wr)) (fun i _ => n6 - (intOf i).toNat)
      case atStart => exact ⟨0, Nat.zero_le _, rfl, ⟨X, E6, HO8⟩, HB8⟩
      case round =>
        rename_i zq wq
        obtain ⟨j, hj, rfl, ⟨L, hL, ho⟩, hb⟩ := hrel
        clear HO8 HB8 E6
        by_cases hlt : j < n6
        · have hlt' : (j : Int) < n6 := by omega
          have hjl : j < L.length := by have := hL.out; omega
          obtain ⟨g, u, rfl, q3, f3, -, -⟩ := OwN.place3w ho.out j hjl
          obtain ⟨⟨L', hL', ho'⟩, hb'⟩ := OwN.setW ho.out j hjl [119, 114, 105, 116, 116, 101, 110, 32, 111, 118, 101, 114]
          have HL' := hide (hL'.trans hL.out)
          have HO' := hide ho'
          have HB' := hide (show CarM v5 _ from Below.trans hb.out hb')
          clear hL ho hb hL' ho' hb'
          go_wp2
          go_roundw
          case rel => exact ⟨j + 1, by omega, by go_num, ⟨L', HL', HO'⟩, HB'⟩
          case measure => simp only [intOf]; omega
        · have hd : decide ((j : Int) < n6) = false := by simpa using (by omega : ¬ (j : Int) < n6)
          clear hL ho
          go_wp2
          clear hlt hd hj
          go_loopw [12, 10] (fun i v wr => ∃ k : Nat, k ≤ nv ∧ i = .int .i64 k ∧ v = .bool true ∧ Hid (CarM v5 wr)) (fun i _ _ => nv - (intOf i).toNat)
          case atStart => exact ⟨0, Nat.zero_le _, rfl, rfl, hb⟩
          case round =>
            rename_i zi wi
            obtain ⟨k, hk, rfl, rfl, hb⟩ := hrel
            by_cases hlt : k < nv
            · have hlt' : (k : Int) < nv := by omega
              have hkl : k < R.length := by have := HN.out; omega
              have hks : k < S.length := by have := HOW.out.rd.len; omega
              obtain ⟨b1, off1, a1, n1, c1, rfl, p0, hR1, hn1⟩ := HOW.out.rd.cells hb.out k hks
              obtain ⟨b, off, ax, nx, cx, rfl, q0, hRx, hnx⟩ := HR.out.cells (HBV.out.trans (Below.mono hb.out HBV.out.size)) k hkl
              have hxx : (S[k]).2 = (R[k]).2 := by
                have e1 := lsG_get hks (by rw [lsG_len]; exact hks)
                have e2 := lsG_get hkl (by rw [lsG_len]; exact hkl)
                rw [← e1, ← e2]
                simp only [HLS.out]
              rw [hxx] at hR1 hn1
              have HXL := hide (show ((R[k]).2).length ≤ 70000 from HNL.out _ (List.getElem_mem _))
              obtain ⟨x, hx⟩ : ∃ x, x = (R[k]).2 := ⟨_, rfl⟩
              rw [← hx] at hR1 hn1 hRx hnx HXL
              clear hx hxx
              have HSE := hide (fun wx (h : CarM v5 wx) => (decide_eq_true (rfl : x = x)) ▸ sameEntries_bt a1 n1 c1 x ax nx cx x wx (by have := HXL.out; omega) (hR1.carry h) (hRx.carry (HBV.out.trans (Below.mono h HBV.out.size))))
              clear hR1 hn1 hRx hnx HXL
              have hK : Keeps (fun wx => wx.cell? ⟨b1, off1 + k, none⟩ = some (.slice a1 n1 c1) ∧ wx.cell? ⟨b, off + k, none⟩ = some (.slice ax nx cx) ∧ CarM v5 wx) := fun w1 w2 h hb => ⟨by rw [hb.cell (World.block_lt_of_cell? w1 _ h.1)]; exact h.1, by rw [hb.cell (World.block_lt_of_cell? w1 _ h.2.1)]; exact h.2.1, h.2.2.carry hb⟩
              have hS0 : wr.cell? ⟨b1, off1 + k, none⟩ = some (.slice a1 n1 c1) ∧ wr.cell? ⟨b, off + k, none⟩ = some (.slice ax nx cx) ∧ CarM v5 wr := ⟨p0, q0, hb.out⟩
              clear p0 q0 hb
              go_wp2_with fail
              refine reg_begin hK (by kernel_rfl) hS0 ?_
              intro hS
              clear hS0
              generalize wr.drew = wd at *
              refine reg_plan [0, 1, 2, 3, 4, 5, 6, 7, 8, 9] (fuel := 3) (a' := ?qma1) (by kernel_rfl) (by kernel_rfl) (by kernel_rfl) ?qmp1 hS ?qmn1
              case qmp1 =>
                iterate 10 (apply Yl.cons rfl (by kernel_rfl); focus (rintro wx ⟨hx1, hx2, _⟩; go_simp; all_goals (with_reducible rfl)); try simp only [Act.put, List.setIfInBounds_toArray, List.set_cons_zero, List.set_cons_succ])
                exact Yl.nil
              refine reg_callv hK (i := 10) (v := .bool true) rfl (by kernel_rfl) (by kernel_rfl) (by go_simp) hS (HSE.out _ hS.2.2) ?_
              clear hS
              intro w75 hS
              try simp only [Act.put, List.setIfInBounds_toArray, List.set_cons_zero, List.set_cons_succ]
              refine reg_plan [11, 12] (fuel := 0) (a' := ?qma2) (by kernel_rfl) (by kernel_rfl) (by kernel_rfl) ?qmp2 hS ?qmn2
              case qmp2 =>
                iterate 2 (apply Yl.cons rfl (by kernel_rfl); focus (rintro wx ⟨hx1, hx2, _⟩; go_simp; all_goals (with_reducible rfl)); try simp only [Act.put, List.setIfInBounds_toArray, List.set_cons_zero, List.set_cons_succ])
                exact Yl.nil
              refine wpAnyH_done (by kernel_rfl) ?_ _
              refine NoPanic.normal ?_
              try simp only [Act.put, List.setIfInBounds_toArray, List.set_cons_zero, List.set_cons_succ]
              have HBe := hide hS.2.2
              clear hS hK HSE
              go_wp2
              go_roundw
              case rel => exact ⟨k + 1, by omega, by go_num, rfl, HBe⟩
              case measure => simp only [intOf]; omega
            · have hd : decide ((k : Int) < nv) = false := by simpa using (by omega : ¬ (k : Int) < nv)
              have HBe := hide (show Below w.heap.size w wr from HBV.out.trans (Below.mono hb.out HBV.out.size))
              go_wp2
              go_ret
              exact ⟨rfl, HBe.out⟩
end Go.Proofs.Ytdgjinfaopkalaa

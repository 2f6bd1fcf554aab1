/-
  What merge.At, Live, Drop and the document's At, Live, Drop do.
-/
import Derived.Test.YtdgjinfaopkalaaMg2
import Derived.Test.YtdgjinfaopkalaaMr3
import Derived.Test.YtdgjinfaopkalaaMg5
import Derived.Test.YtdgjinfaopkalaaMg6
namespace Go.Proofs.Ytdgjinfaopkalaa
open Go.RowKit
set_option linter.unusedVariables false
set_option linter.unusedSimpArgs false

def ansG (l : List Ent) (s : Int) (r : List Ent) : List Ent := if askG l s ≠ 0 then [] else r
theorem ansG_ok {l : List Ent} {s : Int} (h : askG l s = 0) (r : List Ent) : ansG l s r = r := by unfold ansG; rw [if_neg (fun q => q h)]
theorem ansG_bad {l : List Ent} {s : Int} (h : askG l s ≠ 0) (r : List Ent) : ansG l s r = [] := by unfold ansG; rw [if_pos h]
def drpG (s : Int) (d : Bool) (l : List Ent) : List Ent := mrgG (l.filter fun e => decide (s < e.2.1)) (lseG s d l)
theorem askG_len {l : List Ent} {s : Int} (h : askG l s = 0) : l.length ≤ 65536 := (chkG_ok.1 (askG_ok.1 h).1).1

set_option maxHeartbeats 1000000 in
set_option maxRecDepth 100000 in
theorem at_mg (a : Option Addr) (n c : Nat) (l : List Ent) (s : Int) (w : World) (hrd : RdN w (.slice a n c) l) :
    Calls Try.prog 8 #[.slice a n c, .int .i64 s] w fun e w' => ∃ av nv cv, e = .returned (.tuple #[.slice av nv cv, .int .i64 (askG l s)]) ∧ OwN w' w.heap.size (.slice av nv cv) (ansG l s (lseG s false l)) ∧ Below w.heap.size w w' := by
  have hcon := checkAt_mg a n c l s w hrd
  have HN := hide hrd.len
  have HR := hide hrd
  clear hrd
  by_cases h : askG l s = 0
  · have HA := hide (ansG_ok h (lseG s false l))
    have hn : n ≤ 65536 := by have := askG_len h; have := HN.out; omega
    have HE := hide h
    rw [h] at hcon
    clear h
    go_enter Try.func8, Try.ntmps8
    go_wp2_with fail
    refine hcon.mono ?_
    rintro e w1 ⟨rfl, b1⟩
    clear hcon
    have HB1 := hide b1
    have h2 := listSeen_mg a n c l s false w1 (HR.out.carry b1) (by omega)
    clear b1
    go_wp2_with fail
    refine h2.mono ?_
    rintro e w2 ⟨av, nv, cv, rfl, o2, b2⟩
    have HO2 := hide (o2.mono HB1.out.size)
    have HB2 := hide (HB1.out.trans (b2.mono HB1.out.size))
    clear o2 b2 h2
    go_wp2
    go_ret2
    exact ⟨_, _, _, by rw [HE.out]; rfl, by rw [HA.out]; exact HO2.out, HB2.out⟩
  · have HA := hide (ansG_bad h (lseG s false l))
    generalize askG l s = x at *
    have h' : (x == 0) = false := by simpa using h
    go_enter Try.func8, Try.ntmps8
    go_wp2_with fail
    refine hcon.mono ?_
    rintro e w1 ⟨rfl, b1⟩
    clear hcon
    go_wp2
    go_ret2
    exact ⟨_, _, _, rfl, by rw [HA.out]; exact OwG.nil _ _, b1⟩

set_option maxHeartbeats 1000000 in
set_option maxRecDepth 100000 in
theorem live_mg (a : Option Addr) (n c : Nat) (l : List Ent) (s : Int) (w : World) (hrd : RdN w (.slice a n c) l) :
    Calls Try.prog 18 #[.slice a n c, .int .i64 s] w fun e w' => ∃ av nv cv, e = .returned (.tuple #[.slice av nv cv, .int .i64 (askG l s)]) ∧ OwN w' w.heap.size (.slice av nv cv) (ansG l s (lseG s true l)) ∧ Below w.heap.size w w' := by
  have hcon := checkAt_mg a n c l s w hrd
  have HN := hide hrd.len
  have HR := hide hrd
  clear hrd
  by_cases h : askG l s = 0
  · have HA := hide (ansG_ok h (lseG s true l))
    have hn : n ≤ 65536 := by have := askG_len h; have := HN.out; omega
    have HE := hide h
    rw [h] at hcon
    clear h
    go_enter Try.func18, Try.ntmps18
    go_wp2_with fail
    refine hcon.mono ?_
    rintro e w1 ⟨rfl, b1⟩
    clear hcon
    have HB1 := hide b1
    have h2 := listSeen_mg a n c l s true w1 (HR.out.carry b1) (by omega)
    clear b1
    go_wp2_with fail
    refine h2.mono ?_
    rintro e w2 ⟨av, nv, cv, rfl, o2, b2⟩
    have HO2 := hide (o2.mono HB1.out.size)
    have HB2 := hide (HB1.out.trans (b2.mono HB1.out.size))
    clear o2 b2 h2
    go_wp2
    go_ret2
    exact ⟨_, _, _, by rw [HE.out]; rfl, by rw [HA.out]; exact HO2.out, HB2.out⟩
  · have HA := hide (ansG_bad h (lseG s true l))
    generalize askG l s = x at *
    have h' : (x == 0) = false := by simpa using h
    go_enter Try.func18, Try.ntmps18
    go_wp2_with fail
    refine hcon.mono ?_
    rintro e w1 ⟨rfl, b1⟩
    clear hcon
    go_wp2
    go_ret2
    exact ⟨_, _, _, rfl, by rw [HA.out]; exact OwG.nil _ _, b1⟩

set_option maxHeartbeats 1000000 in
set_option maxRecDepth 100000 in
theorem drop_mg (a : Option Addr) (n c : Nat) (l : List Ent) (s : Int) (d : Bool) (w : World) (hrd : RdN w (.slice a n c) l) :
    Calls Try.prog 10 #[.slice a n c, .int .i64 s, .bool d] w fun e w' => ∃ av nv cv, e = .returned (.tuple #[.slice av nv cv, .int .i64 (askG l s)]) ∧ OwN w' w.heap.size (.slice av nv cv) (ansG l s (drpG s d l)) ∧ Below w.heap.size w w' := by
  have hcon := checkAt_mg a n c l s w hrd
  have HN := hide hrd.len
  have HR := hide hrd
  clear hrd
  by_cases h : askG l s = 0
  · have HA := hide (ansG_ok h (drpG s d l))
    have hn : n ≤ 65536 := by have := askG_len h; have := HN.out; omega
    have HE := hide h
    rw [h] at hcon
    clear h
    go_enter Try.func10, Try.ntmps10
    go_wp2_with fail
    refine hcon.mono ?_
    rintro e w1 ⟨rfl, b1⟩
    clear hcon
    have HB1 := hide b1
    have h2 := above_mg a n c l s w1 (HR.out.carry b1) (by omega)
    clear b1
    go_wp2_with fail
    refine h2.mono ?_
    rintro e w2 ⟨a2, n2, c2, rfl, o2, b2⟩
    have HB2 := hide (HB1.out.trans (b2.mono HB1.out.size))
    have HR2 := hide (o2.rd ecN_len)
    have h3 := listSeen_mg a n c l s d w2 (HR.out.carry HB2.out) (by omega)
    clear o2 b2 h2
    go_wp2_with fail
    refine h3.mono ?_
    rintro e w3 ⟨a3, n3, c3, rfl, o3, b3⟩
    have HB3 := hide (HB2.out.trans (b3.mono HB2.out.size))
    have HR23 := hide (HR2.out.carry b3)
    have HL2 := hide (show n2 + n3 ≤ 2000000 by
      have h1 := HR2.out.len
      have h2 := (o3.rd ecN_len).len
      have h4 : (l.filter fun e => decide (s < e.2.1)).length ≤ l.length := List.length_filter_le _ _
      have h5 : (lseG s d l).length ≤ l.length := Nat.le_trans (List.length_filter_le _ _) (seeG_len s [] l)
      have := HN.out
      omega)
    have h4 := two_mg a2 n2 c2 _ a3 n3 c3 _ w3 HR23.out (o3.rd ecN_len) HL2.out
    clear o3 b3 h3
    go_wp2_with fail
    refine h4.mono ?_
    rintro e w4 ⟨a4, n4, c4, rfl, o4, b4⟩
    have HO4 := hide (o4.mono HB3.out.size)
    have HB4 := hide (HB3.out.trans (b4.mono HB3.out.size))
    clear o4 b4 h4
    go_wp2
    go_ret2
    exact ⟨_, _, _, by rw [HE.out]; rfl, by rw [HA.out]; exact HO4.out, HB4.out⟩
  · have HA := hide (ansG_bad h (drpG s d l))
    generalize askG l s = x at *
    have h' : (x == 0) = false := by simpa using h
    go_enter Try.func10, Try.ntmps10
    go_wp2_with fail
    refine hcon.mono ?_
    rintro e w1 ⟨rfl, b1⟩
    clear hcon
    go_wp2
    go_ret2
    exact ⟨_, _, _, rfl, by rw [HA.out]; exact OwG.nil _ _, b1⟩

end Go.Proofs.Ytdgjinfaopkalaa

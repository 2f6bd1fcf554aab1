/-
  What merge.At, Live, Drop and the document's At, Live, Drop do.
-/
import Derived.Test.YtdgjinfaopkalaaMg1
import Derived.Test.YtdgjinfaopkalaaMr3
import Derived.Test.YtdgjinfaopkalaaMg5
import Derived.Test.YtdgjinfaopkalaaMg6
namespace Go.Proofs.Ytdgjinfaopkalaa
open Go.RowKit
set_option linter.unusedVariables false
set_option linter.unusedSimpArgs false

def ansG (l : List Ent) (s : Int) (r : List Ent) : List Ent := if askG l s ≠ 0 then [] else r
theorem ansG_ok {l : List Ent} {s : Int} (h : askG l s = 0) (r : List Ent) : ansG l s r = r := by unfold ansG; rw [if_neg (fun q => q h)]
theorem ansG_bad {l : List Ent} {s : Int} (h : askG l s ≠ 0) (r : List Ent) : ansG l s r = [] := by unfold ansG; rw [if_pos h]
theorem askG_len {l : List Ent} {s : Int} (h : askG l s = 0) : l.length ≤ 65536 := (chkG_ok.1 (askG_ok.1 h).1).1

set_option maxHeartbeats 1000000 in
set_option maxRecDepth 100000 in
theorem at_mg (a : Option Addr) (n c : Nat) (l : List Ent) (s : Int) (w : World) (hrd : RdN w (.slice a n c) l) :
    Calls Try.prog 8 #[.slice a n c, .int .i64 s] w fun e w' => ∃ av nv cv, e = .returned (.tuple #[.slice av nv cv, .int .i64 (askG l s)]) ∧ OwN w' w.heap.size (.slice av nv cv) (ansG l s (lseG s false l)) ∧ Below w.heap.size w w' := by
  have hcon := checkAt_mg a n c l s w hrd
  have HN := hide hrd.len
  have HR := hide hrd
  clear hrd
  by_cases h : askG l s = 0
  · have HA := hide (ansG_ok h (lseG s false l))
    have hn : n ≤ 65536 := by have := askG_len h; have := HN.out; omega
    have HE := hide h
    rw [h] at hcon
    clear h
    go_enter Try.func8, Try.ntmps8
    go_wp2_with fail
    refine hcon.mono ?_
    rintro e w1 ⟨rfl, b1⟩
    clear hcon
    have HB1 := hide b1
    have h2 := listSeen_mg a n c l s false w1 (HR.out.carry b1) (by omega)
    clear b1
    go_wp2_with fail
    refine h2.mono ?_
    rintro e w2 ⟨av, nv, cv, rfl, o2, b2⟩
    have HO2 := hide (o2.mono HB1.out.size)
    have HB2 := hide (HB1.out.trans (b2.mono HB1.out.size))
    clear o2 b2 h2
    go_wp2
    go_ret2
    exact ⟨_, _, _, by rw [HE.out]; rfl, by rw [HA.out]; exact HO2.out, HB2.out⟩
  · have HA := hide (ansG_bad h (lseG s false l))
    generalize askG l s = x at *
    have h' : (x == 0) = false := by simpa using h
    go_enter Try.func8, Try.ntmps8
    go_wp2_with fail
    refine hcon.mono ?_
    rintro e w1 ⟨rfl, b1⟩
    clear hcon
    go_wp2
    go_ret2
    exact ⟨_, _, _, rfl, by rw [HA.out]; exact OwG.nil _ _, b1⟩

set_option maxHeartbeats 1000000 in
set_option maxRecDepth 100000 in
theorem live_mg (a : Option Addr) (n c : Nat) (l : List Ent) (s : Int) (w : World) (hrd : RdN w (.slice a n c) l) :
    Calls Try.prog 18 #[.slice a n c, .int .i64 s] w fun e w' => ∃ av nv cv, e = .returned (.tuple #[.slice av nv cv, .int .i64 (askG l s)]) ∧ OwN w' w.heap.size (.slice av nv cv) (ansG l s (lseG s true l)) ∧ Below w.heap.size w w' := by
  have hcon := checkAt_mg a n c l s w hrd
  have HN := hide hrd.len
  have HR := hide hrd
  clear hrd
  by_cases h : askG l s = 0
  · have HA := hide (ansG_ok h (lseG s true l))
    have hn : n ≤ 65536 := by have := askG_len h; have := HN.out; omega
    have HE := hide h
    rw [h] at hcon
    clear h
    go_enter Try.func18, Try.ntmps18
    go_wp2_with fail
    refine hcon.mono ?_
    rintro e w1 ⟨rfl, b1⟩
    clear hcon
    have HB1 := hide b1
    have h2 := listSeen_mg a n c l s true w1 (HR.out.carry b1) (by omega)
    clear b1
    go_wp2_with fail
    refine h2.mono ?_
    rintro e w2 ⟨av, nv, cv, rfl, o2, b2⟩
    have HO2 := hide (o2.mono HB1.out.size)
    have HB2 := hide (HB1.out.trans (b2.mono HB1.out.size))
    clear o2 b2 h2
    go_wp2
    go_ret2
    exact ⟨_, _, _, by rw [HE.out]; rfl, by rw [HA.out]; exact HO2.out, HB2.out⟩
  · have HA := hide (ansG_bad h (lseG s true l))
    generalize askG l s = x at *
    have h' : (x == 0) = false := by simpa using h
    go_enter Try.func18, Try.ntmps18
    go_wp2_with fail
    refine hcon.mono ?_
    rintro e w1 ⟨rfl, b1⟩
    clear hcon
    go_wp2
    go_ret2
    exact ⟨_, _, _, rfl, by rw [HA.out]; exact OwG.nil _ _, b1⟩

end Go.Proofs.Ytdgjinfaopkalaa

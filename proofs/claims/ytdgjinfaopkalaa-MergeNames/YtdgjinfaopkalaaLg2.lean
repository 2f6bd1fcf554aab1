/-
  What the statements' alive of layer 15 answers.
-/
import Derived.Test.YtdgjinfaopkalaaLg1
namespace Go.Proofs.Ytdgjinfaopkalaa
open Go.RowKit
set_option linter.unusedVariables false
set_option linter.unusedSimpArgs false

set_option maxHeartbeats 2000000 in
set_option maxRecDepth 100000 in
theorem alive_mg (w : World) : Calls Try.prog 13 #[] w fun e w' => e = .returned (.bool true) ∧ Below w.heap.size w w' := by
  have HB_w := hide (Below.refl w.heap.size w)
  go_enter Try.func13, Try.ntmps13
  have hc := row_mg w
  obtain ⟨gX, hgX⟩ : ∃ g, g = w.heap.size := ⟨_, rfl⟩
  go_wp2_with fail
  refine hc.mono ?_
  rintro e u1r ⟨rfl, oR, bR⟩
  clear hc
  have HRX := hide (OwG.rd ecN_len oR)
  rw [show (Value.slice (some ⟨w.heap.size, 0, none⟩) 4 4) = .slice (some ⟨gX, 0, none⟩) 4 4 by rw [hgX]] at HRX
  rw [← hgX]
  have HB_u1r := hide (show Below w.heap.size w u1r from HB_w.out.trans (bR.mono HB_w.out.size))
  clear HB_w
  clear oR bR hgX
  have hc := at_mg _ 4 4 rowG 3 u1r HRX.out
  rw [row_ask 3 (by decide) (by decide), row_at3] at hc
  clear HRX
  go_wp2_with fail
  refine hc.mono ?_
  rintro e u1a ⟨aX, nX, cX, rfl, oA, bA⟩
  clear hc
  have HLX := hide (OwG.rd ecN_len oA).len
  obtain rfl : nX = 2 := HLX.out
  clear HLX
  have HB_u1a := hide (show Below w.heap.size w u1a from HB_u1r.out.trans (bA.mono HB_u1r.out.size))
  clear HB_u1r
  have HOX_u1a := hide (OwG.rd ecN_len oA)
  clear oA bA
  have hc := row_mg u1a
  obtain ⟨gY, hgY⟩ : ∃ g, g = u1a.heap.size := ⟨_, rfl⟩
  go_wp2_with fail
  refine hc.mono ?_
  rintro e u2r ⟨rfl, oR, bR⟩
  clear hc
  have HRY := hide (OwG.rd ecN_len oR)
  rw [show (Value.slice (some ⟨u1a.heap.size, 0, none⟩) 4 4) = .slice (some ⟨gY, 0, none⟩) 4 4 by rw [hgY]] at HRY
  rw [← hgY]
  have HOX_u2r := hide (HOX_u1a.out.carry bR)
  have HB_u2r := hide (show Below w.heap.size w u2r from HB_u1a.out.trans (bR.mono HB_u1a.out.size))
  clear HOX_u1a HB_u1a
  clear oR bR hgY
  have hc := at_mg _ 4 4 rowG 2 u2r HRY.out
  rw [row_ask 2 (by decide) (by decide), row_at2] at hc
  clear HRY
  go_wp2_with fail
  refine hc.mono ?_
  rintro e u2a ⟨aY, nY, cY, rfl, oA, bA⟩
  clear hc
  have HLY := hide (OwG.rd ecN_len oA).len
  obtain rfl : nY = 2 := HLY.out
  clear HLY
  have HOX_u2a := hide (HOX_u2r.out.carry bA)
  have HB_u2a := hide (show Below w.heap.size w u2a from HB_u2r.out.trans (bA.mono HB_u2r.out.size))
  clear HOX_u2r HB_u2r
  have HOY_u2a := hide (OwG.rd ecN_len oA)
  clear oA bA
  have hc := row_mg u2a
  obtain ⟨gZ, hgZ⟩ : ∃ g, g = u2a.heap.size := ⟨_, rfl⟩
  go_wp2_with fail
  refine hc.mono ?_
  rintro e u3r ⟨rfl, oR, bR⟩
  clear hc
  have HRZ := hide (OwG.rd ecN_len oR)
  rw [show (Value.slice (some ⟨u2a.heap.size, 0, none⟩) 4 4) = .slice (some ⟨gZ, 0, none⟩) 4 4 by rw [hgZ]] at HRZ
  rw [← hgZ]
  have HOX_u3r := hide (HOX_u2a.out.carry bR)
  have HOY_u3r := hide (HOY_u2a.out.carry bR)
  have HB_u3r := hide (show Below w.heap.size w u3r from HB_u2a.out.trans (bR.mono HB_u2a.out.size))
  clear HOX_u2a HOY_u2a HB_u2a
  clear oR bR hgZ
  have hc := live_mg _ 4 4 rowG 2 u3r HRZ.out
  rw [row_ask 2 (by decide) (by decide), row_li2] at hc
  clear HRZ
  go_wp2_with fail
  refine hc.mono ?_
  rintro e u3a ⟨aZ, nZ, cZ, rfl, oA, bA⟩
  clear hc
  have HLZ := hide (OwG.rd ecN_len oA).len
  obtain rfl : nZ = 1 := HLZ.out
  clear HLZ
  have HOX_u3a := hide (HOX_u3r.out.carry bA)
  have HOY_u3a := hide (HOY_u3r.out.carry bA)
  have HB_u3a := hide (show Below w.heap.size w u3a from HB_u3r.out.trans (bA.mono HB_u3r.out.size))
  clear HOX_u3r HOY_u3r HB_u3r
  have HOZ_u3a := hide (OwG.rd ecN_len oA)
  clear oA bA
  have hc := are_mg aX 2 cX _ [48, 51] u3a HOX_u3a.out rfl (by decide) (fun i hi => by
    have : i = 0 ∨ i = 1 := by simp at hi; omega
    rcases this with rfl | rfl
    · exact ⟨0, by decide, rfl, rfl⟩
    · exact ⟨3, by decide, rfl, rfl⟩)
  rw [show bs [48, 51] = { data := #[48, 51] } from rfl] at hc
  go_wp2_with fail
  refine hc.mono ?_
  rintro e u4 ⟨rfl, bE⟩
  clear hc
  have HOX_u4 := hide (HOX_u3a.out.carry bE)
  have HOY_u4 := hide (HOY_u3a.out.carry bE)
  have HOZ_u4 := hide (HOZ_u3a.out.carry bE)
  have HB_u4 := hide (show Below w.heap.size w u4 from HB_u3a.out.trans (bE.mono HB_u3a.out.size))
  clear HOX_u3a HOY_u3a HOZ_u3a HB_u3a
  clear bE
  have hc := are_mg aY 2 cY _ [49, 51] u4 HOY_u4.out rfl (by decide) (fun i hi => by
    have : i = 0 ∨ i = 1 := by simp at hi; omega
    rcases this with rfl | rfl
    · exact ⟨1, by decide, rfl, rfl⟩
    · exact ⟨3, by decide, rfl, rfl⟩)
  rw [show bs [49, 51] = { data := #[49, 51] } from rfl] at hc
  go_wp2_with fail
  refine hc.mono ?_
  rintro e u5 ⟨rfl, bE⟩
  clear hc
  have HOX_u5 := hide (HOX_u4.out.carry bE)
  have HOY_u5 := hide (HOY_u4.out.carry bE)
  have HOZ_u5 := hide (HOZ_u4.out.carry bE)
  have HB_u5 := hide (show Below w.heap.size w u5 from HB_u4.out.trans (bE.mono HB_u4.out.size))
  clear HOX_u4 HOY_u4 HOZ_u4 HB_u4
  clear bE
  have hc := are_mg aZ 1 cZ _ [51] u5 HOZ_u5.out rfl (by decide) (fun i hi => by
    obtain rfl : i = 0 := by simp at hi; omega
    exact ⟨3, by decide, rfl, rfl⟩)
  rw [show bs [51] = { data := #[51] } from rfl] at hc
  go_wp2_with fail
  refine hc.mono ?_
  rintro e u6 ⟨rfl, bE⟩
  clear hc
  have HOX_u6 := hide (HOX_u5.out.carry bE)
  have HOY_u6 := hide (HOY_u5.out.carry bE)
  have HOZ_u6 := hide (HOZ_u5.out.carry bE)
  have HB_u6 := hide (show Below w.heap.size w u6 from HB_u5.out.trans (bE.mono HB_u5.out.size))
  clear HOX_u5 HOY_u5 HOZ_u5 HB_u5
  clear bE
  go_wp2
  go_ret
  exact ⟨by simp, HB_u6.out⟩
end Go.Proofs.Ytdgjinfaopkalaa

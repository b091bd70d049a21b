/- The walk of the statements' own awake (of the layer of frames), proved over the translation. -/
import Derived.Test.YtgaegggiehhcpabDoorPlain6
namespace Go.Proofs.YtgaegggiehhcpabDoor.P6
open Go.RowKit
attribute [local go_sem] alloc_drewN setCell_drewN

theorem pa1 : atV plainC 17 = 1 := by kernel_rfl
theorem pa2 : atE plainC 17 = 0 := by kernel_rfl
theorem pa3 : atV plainC 5 = -1 := by kernel_rfl
theorem pa4 : atE plainC 5 = 0 := by kernel_rfl
theorem pa5 : shV plainC 0 = 5 := by kernel_rfl
theorem pa6 : shE plainC 0 = 0 := by kernel_rfl
theorem pa7 : hyV plainC = 10 := by kernel_rfl
theorem pa8 : hyE plainC = 0 := by kernel_rfl
theorem pa9 : atE plainC (-1) = 600 := by kernel_rfl
theorem pa10 : shE plainC 2 = 600 := by kernel_rfl
theorem pa11 : checkN plainC = 0 := by kernel_rfl

set_option maxRecDepth 100000 in
set_option maxHeartbeats 2000000 in
theorem awake_any (w : World) (hT : Tab w) :
    Calls Tryd.prog 17 #[] w fun e w' => e = .returned (.bool true) ∧ w.grownBy w' none := by
  have HT := hide hT
  clear hT
  have NUM := hide num_any
  go_enter Tryd.func17, Tryd.ntmps17
  go_wp2_with (first | fail)
  refine (plain_any w).mono ?_; rintro e w1 ⟨n, hn, rfl, hm, hg⟩
  have M1 := hide hm
  have G1 := hide hg
  clear hm hg
  have A1 := hide (World.grownBy_alloc w1 (.cells #[.int .i64 10, .int .i64 2, .slice (some ⟨n + 3, 0, none⟩) 2 2, .slice (some ⟨n + 4, 0, none⟩) 2 2, .slice (some ⟨n + 5, 0, none⟩) 1 1] 26) none)
  have CF := hide (show ∀ W, (w1.alloc (.cells #[.int .i64 10, .int .i64 2, .slice (some ⟨n + 3, 0, none⟩) 2 2, .slice (some ⟨n + 4, 0, none⟩) 2 2, .slice (some ⟨n + 5, 0, none⟩) 1 1] 26)).grownBy W none → ConfAt n W (.agg #[.int .i64 10, .int .i64 2, .slice (some ⟨n + 3, 0, none⟩) 2 2, .slice (some ⟨n + 4, 0, none⟩) 2 2, .slice (some ⟨n + 5, 0, none⟩) 1 1]) plainC from fun W hW => ((M1.out.conf 10 2).grown (grownBy_trans A1.out hW)))
  have KEEP : Hid (∀ W, (w1.alloc (.cells #[.int .i64 10, .int .i64 2, .slice (some ⟨n + 3, 0, none⟩) 2 2, .slice (some ⟨n + 4, 0, none⟩) 2 2, .slice (some ⟨n + 5, 0, none⟩) 1 1] 26)).grownBy W none → W.cell? ⟨w1.heap.size, 0, none⟩ = some (.int .i64 10) ∧ W.cell? ⟨w1.heap.size, 1, none⟩ = some (.int .i64 2) ∧ W.cell? ⟨w1.heap.size, 2, none⟩ = some (.slice (some ⟨n + 3, 0, none⟩) 2 2) ∧ W.cell? ⟨w1.heap.size, 3, none⟩ = some (.slice (some ⟨n + 4, 0, none⟩) 2 2) ∧ W.cell? ⟨w1.heap.size, 4, none⟩ = some (.slice (some ⟨n + 5, 0, none⟩) 1 1)) := by
    intro W hW
    have b := fun k => World.cell?_of_block (a := ⟨w1.heap.size, k, none⟩) (hW.block w1.heap.size (by simp) (by simp))
    exact ⟨(b 0).trans (by simp), (b 1).trans (by simp), (b 2).trans (by simp), (b 3).trans (by simp), (b 4).trans (by simp)⟩
  have TB := hide (show ∀ W, (w1.alloc (.cells #[.int .i64 10, .int .i64 2, .slice (some ⟨n + 3, 0, none⟩) 2 2, .slice (some ⟨n + 4, 0, none⟩) 2 2, .slice (some ⟨n + 5, 0, none⟩) 1 1] 26)).grownBy W none → Tab W from fun W hW => HT.out.grown (grownBy_trans G1.out (grownBy_trans A1.out hW)))
  go_wp2_with (first | fail)
  refine (at_any _ plainC 17 _ (TB.out _ (grownBy_refl _ _)) (CF.out _ (grownBy_refl _ _))).mono ?_; rintro e w2 ⟨rfl, hg⟩
  rw [pa1, pa2]
  have G2 := hide hg
  clear hg
  obtain ⟨k0, k1, k2, k3, k4⟩ := KEEP.out _ G2.out
  go_wp2_with (first | fail)
  refine (at_any _ plainC 5 _ (TB.out _ G2.out) (CF.out _ G2.out)).mono ?_; rintro e w3 ⟨rfl, hg⟩
  rw [pa3, pa4]
  have G3 := hide (grownBy_trans G2.out hg)
  clear hg k0 k1 k2 k3 k4
  obtain ⟨k0, k1, k2, k3, k4⟩ := KEEP.out _ G3.out
  go_wp2_with (first | fail)
  refine (share_any _ plainC 0 _ (TB.out _ G3.out) (CF.out _ G3.out)).mono ?_; rintro e w4 ⟨rfl, hg⟩
  rw [pa5, pa6]
  have G4 := hide (grownBy_trans G3.out hg)
  clear hg k0 k1 k2 k3 k4
  obtain ⟨k0, k1, k2, k3, k4⟩ := KEEP.out _ G4.out
  go_wp2_with (first | fail)
  refine (hyper_any _ plainC _ (TB.out _ G4.out) (CF.out _ G4.out)).mono ?_; rintro e w5 ⟨rfl, hg⟩
  rw [pa7, pa8]
  have G5 := hide (grownBy_trans G4.out hg)
  clear hg k0 k1 k2 k3 k4
  obtain ⟨k0, k1, k2, k3, k4⟩ := KEEP.out _ G5.out
  go_wp2_with (first | fail)
  refine (at_any _ plainC (-1) _ (TB.out _ G5.out) (CF.out _ G5.out)).mono ?_; rintro e w6 ⟨rfl, hg⟩
  rw [pa9]
  have G6 := hide (grownBy_trans G5.out hg)
  clear hg k0 k1 k2 k3 k4
  obtain ⟨k0, k1, k2, k3, k4⟩ := KEEP.out _ G6.out
  go_wp2_with (first | fail)
  refine (share_any _ plainC 2 _ (TB.out _ G6.out) (CF.out _ G6.out)).mono ?_; rintro e w7 ⟨rfl, hg⟩
  rw [pa10]
  have G7 := hide (grownBy_trans G6.out hg)
  clear hg k0 k1 k2 k3 k4
  go_wp2_with (go_at_call 15; refine (NUM.out _ _).mono ?_; rintro e w' ⟨rfl, rfl⟩)
  go_ret
  exact ⟨rfl, grownBy_trans G1.out (grownBy_trans A1.out G7.out)⟩
#print axioms awake_any
end Go.Proofs.YtgaegggiehhcpabDoor.P6

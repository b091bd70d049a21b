/- The walk of the statements' own awake (of the layer of supplies), proved over the translation. -/
import Derived.Test.YtgocfgjdafkjlabDoorPlain7
import Derived.Test.YtgocfgjdafkjlabDoorLeast
namespace Go.Proofs.YtgocfgjdafkjlabDoor.P7
open Go.RowKit
attribute [local go_sem] alloc_drewN setCell_drewN

theorem pa11 : checkN plainC = 0 := by kernel_rfl
theorem pv0 : leV plainC 0 5 = 0 := by kernel_rfl
theorem pe0 : leE plainC 0 5 = 0 := by kernel_rfl
theorem pv1 : leV plainC 0 7 = 2 := by kernel_rfl
theorem pe1 : leE plainC 0 7 = 0 := by kernel_rfl
theorem pv2 : leV plainC 0 10 = 5 := by kernel_rfl
theorem pe2 : leE plainC 0 10 = 0 := by kernel_rfl
theorem pe3 : leE plainC 2 1 = 700 := by kernel_rfl
theorem pe4 : leE plainC 0 (-1) = 700 := by kernel_rfl

set_option maxRecDepth 100000 in
set_option maxHeartbeats 2000000 in
theorem awake_any (w : World) (hT : Tab w) :
    Calls Tryd.prog 6 #[] w fun e w' => e = .returned (.bool true) ∧ w.grownBy w' none := by
  have HT := hide hT
  clear hT
  have NUM := hide num_any
  go_enter Tryd.func6, Tryd.ntmps6
  go_wp2_with (first | fail)
  refine (plain_any w).mono ?_; rintro e w1 ⟨n, hn, rfl, hm, hg⟩
  have M1 := hide hm
  have G1 := hide hg
  clear hm hg
  have A1 := hide (World.grownBy_alloc w1 (.cells #[.int .i64 10, .int .i64 2, .slice (some ⟨n + 3, 0, none⟩) 2 2, .slice (some ⟨n + 4, 0, none⟩) 2 2, .slice (some ⟨n + 5, 0, none⟩) 1 1] 30) none)
  have CF := hide (show ∀ W, (w1.alloc (.cells #[.int .i64 10, .int .i64 2, .slice (some ⟨n + 3, 0, none⟩) 2 2, .slice (some ⟨n + 4, 0, none⟩) 2 2, .slice (some ⟨n + 5, 0, none⟩) 1 1] 30)).grownBy W none → ConfAt n W (.agg #[.int .i64 10, .int .i64 2, .slice (some ⟨n + 3, 0, none⟩) 2 2, .slice (some ⟨n + 4, 0, none⟩) 2 2, .slice (some ⟨n + 5, 0, none⟩) 1 1]) plainC from fun W hW => ((M1.out.conf 10 2).grown (grownBy_trans A1.out hW)))
  have KEEP : Hid (∀ W, (w1.alloc (.cells #[.int .i64 10, .int .i64 2, .slice (some ⟨n + 3, 0, none⟩) 2 2, .slice (some ⟨n + 4, 0, none⟩) 2 2, .slice (some ⟨n + 5, 0, none⟩) 1 1] 30)).grownBy W none → W.cell? ⟨w1.heap.size, 0, none⟩ = some (.int .i64 10) ∧ W.cell? ⟨w1.heap.size, 1, none⟩ = some (.int .i64 2) ∧ W.cell? ⟨w1.heap.size, 2, none⟩ = some (.slice (some ⟨n + 3, 0, none⟩) 2 2) ∧ W.cell? ⟨w1.heap.size, 3, none⟩ = some (.slice (some ⟨n + 4, 0, none⟩) 2 2) ∧ W.cell? ⟨w1.heap.size, 4, none⟩ = some (.slice (some ⟨n + 5, 0, none⟩) 1 1)) := by
    intro W hW
    have b := fun k => World.cell?_of_block (a := ⟨w1.heap.size, k, none⟩) (hW.block w1.heap.size (by simp) (by simp))
    exact ⟨(b 0).trans (by simp), (b 1).trans (by simp), (b 2).trans (by simp), (b 3).trans (by simp), (b 4).trans (by simp)⟩
  have TB := hide (show ∀ W, (w1.alloc (.cells #[.int .i64 10, .int .i64 2, .slice (some ⟨n + 3, 0, none⟩) 2 2, .slice (some ⟨n + 4, 0, none⟩) 2 2, .slice (some ⟨n + 5, 0, none⟩) 1 1] 30)).grownBy W none → Tab W from fun W hW => HT.out.grown (grownBy_trans G1.out (grownBy_trans A1.out hW)))
  have G2 := hide (grownBy_refl (w1.alloc (.cells #[.int .i64 10, .int .i64 2, .slice (some ⟨n + 3, 0, none⟩) 2 2, .slice (some ⟨n + 4, 0, none⟩) 2 2, .slice (some ⟨n + 5, 0, none⟩) 1 1] 30)) none)
  go_wp2_with (first | fail)
  refine (least_any _ plainC 0 5 _ (TB.out _ G2.out) (CF.out _ G2.out)).mono ?_; rintro e w2 ⟨rfl, hg⟩
  rw [pv0, pe0]
  have G3 := hide (grownBy_trans G2.out hg)
  clear hg
  obtain ⟨k0, k1, k2, k3, k4⟩ := KEEP.out _ G3.out
  go_wp2_with (first | fail)
  refine (least_any _ plainC 0 7 _ (TB.out _ G3.out) (CF.out _ G3.out)).mono ?_; rintro e w3 ⟨rfl, hg⟩
  rw [pv1, pe1]
  have G4 := hide (grownBy_trans G3.out hg)
  clear hg k0 k1 k2 k3 k4
  obtain ⟨k0, k1, k2, k3, k4⟩ := KEEP.out _ G4.out
  go_wp2_with (first | fail)
  refine (least_any _ plainC 0 10 _ (TB.out _ G4.out) (CF.out _ G4.out)).mono ?_; rintro e w4 ⟨rfl, hg⟩
  rw [pv2, pe2]
  have G5 := hide (grownBy_trans G4.out hg)
  clear hg k0 k1 k2 k3 k4
  obtain ⟨k0, k1, k2, k3, k4⟩ := KEEP.out _ G5.out
  go_wp2_with (first | fail)
  refine (least_any _ plainC 2 1 _ (TB.out _ G5.out) (CF.out _ G5.out)).mono ?_; rintro e w5 ⟨rfl, hg⟩
  rw [pe3]
  have G6 := hide (grownBy_trans G5.out hg)
  clear hg k0 k1 k2 k3 k4
  obtain ⟨k0, k1, k2, k3, k4⟩ := KEEP.out _ G6.out
  go_wp2_with (first | fail)
  refine (least_any _ plainC 0 (-1) _ (TB.out _ G6.out) (CF.out _ G6.out)).mono ?_; rintro e w6 ⟨rfl, hg⟩
  rw [pe4]
  have G7 := hide (grownBy_trans G6.out hg)
  clear hg k0 k1 k2 k3 k4
  go_wp2_with (go_at_call 9; refine (NUM.out _ _).mono ?_; rintro e w' ⟨rfl, rfl⟩)
  go_ret
  exact ⟨rfl, grownBy_trans G1.out (grownBy_trans A1.out G7.out)⟩
#print axioms awake_any
end Go.Proofs.YtgocfgjdafkjlabDoor.P7

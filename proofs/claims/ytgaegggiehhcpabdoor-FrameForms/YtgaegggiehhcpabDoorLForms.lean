/- The walk of the statement FrameForms: configurations, ticks, parts that are none; proved over the translation. -/
import Derived.Test.YtgaegggiehhcpabDoorAw6
namespace Go.Proofs.YtgaegggiehhcpabDoor.P6
open Go.RowKit
attribute [local go_sem] alloc_drewN setCell_drewN

def czero : ConfV := ⟨0, 0, [], [], []⟩
theorem zero_at (W : World) : ConfAt 0 W (.agg #[.int .i64 0, .int .i64 0, .slice none 0 0, .slice none 0 0, .slice none 0 0]) czero := ⟨_, _, _, rfl, ⟨[], rfl, rowAt_nil _ _ _ _, fun i q p hq => by simp at hq⟩, rowAt_nil _ _ _ _, rowAt_nil _ _ _ _⟩
theorem cz1 : atE czero 0 = 600 := by kernel_rfl
theorem cz2 : shE czero 0 = 600 := by kernel_rfl
theorem cz3 : hyE czero = 600 := by kernel_rfl
theorem pt_in {t : Int} (h0 : 0 ≤ t) (h1 : t ≤ 1099511627776) : atE plainC t = 0 := by
  unfold atE atOK; rw [pa11]; simp [h0, h1]
theorem pt_lo {t : Int} (h0 : t < 0) : atE plainC t = 600 := by
  unfold atE atOK; rw [pa11]; simp; omega
theorem pt_hi {t : Int} (h0 : 1099511627776 < t) : atE plainC t = 600 := by
  unfold atE atOK; rw [pa11]; simp; omega
theorem pp_0 : shE plainC 0 = 0 := by kernel_rfl
theorem pp_1 : shE plainC 1 = 0 := by kernel_rfl
theorem pp_no {p : Int} (h0 : p ≠ 0) (h1 : p ≠ 1) : shE plainC p = 600 := by
  have : (plainC.parts.length : Int) = 2 := rfl
  unfold shE shOK; rw [pa11, this]; simp; omega

set_option maxRecDepth 100000 in
set_option maxHeartbeats 2000000 in
theorem forms_l0 (t p : Int) (h0 : t < 0) (g0 : p = 0) (w : World) (hT : Tab w) :
    Calls Tryd.prog 6 #[.int .i64 t, .int .i64 p] w fun e w' => e = .returned (.bool true) ∧ w.grownBy w' none := by
  have HT := hide hT
  clear hT
  have NUM := hide num_any
  subst g0
  have HA := hide (pt_lo h0)
  have HS := hide (pp_0)
  go_enter Tryd.func6, Tryd.ntmps6
  go_wp2_with (first | fail)
  refine (awake_any w HT.out).mono ?_; rintro e w0 ⟨rfl, hg⟩
  have G0 := hide hg
  clear hg
  go_wp2_with (first | fail)
  refine (plain_any w0).mono ?_; rintro e w1 ⟨n, hn, rfl, hm, hg⟩
  have M1 := hide hm
  have G1 := hide (grownBy_trans G0.out hg)
  clear hm hg
  have A1 := hide (World.grownBy_alloc w1 (.cells #[.int .i64 10, .int .i64 2, .slice (some ⟨n + 3, 0, none⟩) 2 2, .slice (some ⟨n + 4, 0, none⟩) 2 2, .slice (some ⟨n + 5, 0, none⟩) 1 1] 26) none)
  have CF := hide (show ∀ W, (w1.alloc (.cells #[.int .i64 10, .int .i64 2, .slice (some ⟨n + 3, 0, none⟩) 2 2, .slice (some ⟨n + 4, 0, none⟩) 2 2, .slice (some ⟨n + 5, 0, none⟩) 1 1] 26)).grownBy W none → ConfAt n W (.agg #[.int .i64 10, .int .i64 2, .slice (some ⟨n + 3, 0, none⟩) 2 2, .slice (some ⟨n + 4, 0, none⟩) 2 2, .slice (some ⟨n + 5, 0, none⟩) 1 1]) plainC from fun W hW => ((M1.out.conf 10 2).grown (grownBy_trans A1.out hW)))
  have KEEP : Hid (∀ W, (w1.alloc (.cells #[.int .i64 10, .int .i64 2, .slice (some ⟨n + 3, 0, none⟩) 2 2, .slice (some ⟨n + 4, 0, none⟩) 2 2, .slice (some ⟨n + 5, 0, none⟩) 1 1] 26)).grownBy W none → W.cell? ⟨w1.heap.size, 0, none⟩ = some (.int .i64 10) ∧ W.cell? ⟨w1.heap.size, 1, none⟩ = some (.int .i64 2) ∧ W.cell? ⟨w1.heap.size, 2, none⟩ = some (.slice (some ⟨n + 3, 0, none⟩) 2 2) ∧ W.cell? ⟨w1.heap.size, 3, none⟩ = some (.slice (some ⟨n + 4, 0, none⟩) 2 2) ∧ W.cell? ⟨w1.heap.size, 4, none⟩ = some (.slice (some ⟨n + 5, 0, none⟩) 1 1)) := by
    intro W hW
    have b := fun k => World.cell?_of_block (a := ⟨w1.heap.size, k, none⟩) (hW.block w1.heap.size (by simp) (by simp))
    exact ⟨(b 0).trans (by simp), (b 1).trans (by simp), (b 2).trans (by simp), (b 3).trans (by simp), (b 4).trans (by simp)⟩
  have TB := hide (show ∀ W, (w1.alloc (.cells #[.int .i64 10, .int .i64 2, .slice (some ⟨n + 3, 0, none⟩) 2 2, .slice (some ⟨n + 4, 0, none⟩) 2 2, .slice (some ⟨n + 5, 0, none⟩) 1 1] 26)).grownBy W none → Tab W from fun W hW => HT.out.grown (grownBy_trans G1.out (grownBy_trans A1.out hW)))
  go_wp2_with (first | fail)
  refine (at_any _ plainC _ _ (TB.out _ (grownBy_refl _ _)) (CF.out _ (grownBy_refl _ _))).mono ?_; rintro e w2 ⟨rfl, hg⟩
  rw [HA.out]
  have G2 := hide hg
  clear hg
  obtain ⟨k0, k1, k2, k3, k4⟩ := KEEP.out _ G2.out
  go_wp2_with (first | fail)
  refine (share_any _ plainC _ _ (TB.out _ G2.out) (CF.out _ G2.out)).mono ?_; rintro e w3 ⟨rfl, hg⟩
  rw [HS.out]
  have G3 := hide (grownBy_trans G2.out hg)
  clear hg k0 k1 k2 k3 k4
  go_wp2_with (first | fail)
  refine (at_any _ czero 0 _ (TB.out _ G3.out) (zero_at _)).mono ?_; rintro e w4 ⟨rfl, hg⟩
  rw [cz1]
  have G4 := hide (grownBy_trans G3.out hg)
  clear hg
  go_wp2_with (first | fail)
  refine (share_any _ czero 0 _ (TB.out _ G4.out) (zero_at _)).mono ?_; rintro e w5 ⟨rfl, hg⟩
  rw [cz2]
  have G5 := hide (grownBy_trans G4.out hg)
  clear hg
  go_wp2_with (first | fail)
  refine (hyper_any _ czero _ (TB.out _ G5.out) (zero_at _)).mono ?_; rintro e w6 ⟨rfl, hg⟩
  rw [cz3]
  have G6 := hide (grownBy_trans G5.out hg)
  clear hg
  go_wp2_with (go_at_call 15; refine (NUM.out _ _).mono ?_; rintro e w' ⟨rfl, rfl⟩)
  go_ret
  exact ⟨rfl, grownBy_trans G1.out (grownBy_trans A1.out G6.out)⟩

set_option maxRecDepth 100000 in
set_option maxHeartbeats 2000000 in
theorem forms_l1 (t p : Int) (h0 : t < 0) (g0 : p = 1) (w : World) (hT : Tab w) :
    Calls Tryd.prog 6 #[.int .i64 t, .int .i64 p] w fun e w' => e = .returned (.bool true) ∧ w.grownBy w' none := by
  have HT := hide hT
  clear hT
  have NUM := hide num_any
  subst g0
  have HA := hide (pt_lo h0)
  have HS := hide (pp_1)
  go_enter Tryd.func6, Tryd.ntmps6
  go_wp2_with (first | fail)
  refine (awake_any w HT.out).mono ?_; rintro e w0 ⟨rfl, hg⟩
  have G0 := hide hg
  clear hg
  go_wp2_with (first | fail)
  refine (plain_any w0).mono ?_; rintro e w1 ⟨n, hn, rfl, hm, hg⟩
  have M1 := hide hm
  have G1 := hide (grownBy_trans G0.out hg)
  clear hm hg
  have A1 := hide (World.grownBy_alloc w1 (.cells #[.int .i64 10, .int .i64 2, .slice (some ⟨n + 3, 0, none⟩) 2 2, .slice (some ⟨n + 4, 0, none⟩) 2 2, .slice (some ⟨n + 5, 0, none⟩) 1 1] 26) none)
  have CF := hide (show ∀ W, (w1.alloc (.cells #[.int .i64 10, .int .i64 2, .slice (some ⟨n + 3, 0, none⟩) 2 2, .slice (some ⟨n + 4, 0, none⟩) 2 2, .slice (some ⟨n + 5, 0, none⟩) 1 1] 26)).grownBy W none → ConfAt n W (.agg #[.int .i64 10, .int .i64 2, .slice (some ⟨n + 3, 0, none⟩) 2 2, .slice (some ⟨n + 4, 0, none⟩) 2 2, .slice (some ⟨n + 5, 0, none⟩) 1 1]) plainC from fun W hW => ((M1.out.conf 10 2).grown (grownBy_trans A1.out hW)))
  have KEEP : Hid (∀ W, (w1.alloc (.cells #[.int .i64 10, .int .i64 2, .slice (some ⟨n + 3, 0, none⟩) 2 2, .slice (some ⟨n + 4, 0, none⟩) 2 2, .slice (some ⟨n + 5, 0, none⟩) 1 1] 26)).grownBy W none → W.cell? ⟨w1.heap.size, 0, none⟩ = some (.int .i64 10) ∧ W.cell? ⟨w1.heap.size, 1, none⟩ = some (.int .i64 2) ∧ W.cell? ⟨w1.heap.size, 2, none⟩ = some (.slice (some ⟨n + 3, 0, none⟩) 2 2) ∧ W.cell? ⟨w1.heap.size, 3, none⟩ = some (.slice (some ⟨n + 4, 0, none⟩) 2 2) ∧ W.cell? ⟨w1.heap.size, 4, none⟩ = some (.slice (some ⟨n + 5, 0, none⟩) 1 1)) := by
    intro W hW
    have b := fun k => World.cell?_of_block (a := ⟨w1.heap.size, k, none⟩) (hW.block w1.heap.size (by simp) (by simp))
    exact ⟨(b 0).trans (by simp), (b 1).trans (by simp), (b 2).trans (by simp), (b 3).trans (by simp), (b 4).trans (by simp)⟩
  have TB := hide (show ∀ W, (w1.alloc (.cells #[.int .i64 10, .int .i64 2, .slice (some ⟨n + 3, 0, none⟩) 2 2, .slice (some ⟨n + 4, 0, none⟩) 2 2, .slice (some ⟨n + 5, 0, none⟩) 1 1] 26)).grownBy W none → Tab W from fun W hW => HT.out.grown (grownBy_trans G1.out (grownBy_trans A1.out hW)))
  go_wp2_with (first | fail)
  refine (at_any _ plainC _ _ (TB.out _ (grownBy_refl _ _)) (CF.out _ (grownBy_refl _ _))).mono ?_; rintro e w2 ⟨rfl, hg⟩
  rw [HA.out]
  have G2 := hide hg
  clear hg
  obtain ⟨k0, k1, k2, k3, k4⟩ := KEEP.out _ G2.out
  go_wp2_with (first | fail)
  refine (share_any _ plainC _ _ (TB.out _ G2.out) (CF.out _ G2.out)).mono ?_; rintro e w3 ⟨rfl, hg⟩
  rw [HS.out]
  have G3 := hide (grownBy_trans G2.out hg)
  clear hg k0 k1 k2 k3 k4
  go_wp2_with (first | fail)
  refine (at_any _ czero 0 _ (TB.out _ G3.out) (zero_at _)).mono ?_; rintro e w4 ⟨rfl, hg⟩
  rw [cz1]
  have G4 := hide (grownBy_trans G3.out hg)
  clear hg
  go_wp2_with (first | fail)
  refine (share_any _ czero 0 _ (TB.out _ G4.out) (zero_at _)).mono ?_; rintro e w5 ⟨rfl, hg⟩
  rw [cz2]
  have G5 := hide (grownBy_trans G4.out hg)
  clear hg
  go_wp2_with (first | fail)
  refine (hyper_any _ czero _ (TB.out _ G5.out) (zero_at _)).mono ?_; rintro e w6 ⟨rfl, hg⟩
  rw [cz3]
  have G6 := hide (grownBy_trans G5.out hg)
  clear hg
  go_wp2_with (go_at_call 15; refine (NUM.out _ _).mono ?_; rintro e w' ⟨rfl, rfl⟩)
  go_ret
  exact ⟨rfl, grownBy_trans G1.out (grownBy_trans A1.out G6.out)⟩

set_option maxRecDepth 100000 in
set_option maxHeartbeats 2000000 in
theorem forms_ln (t p : Int) (h0 : t < 0) (g0 : p ≠ 0) (g1 : p ≠ 1) (w : World) (hT : Tab w) :
    Calls Tryd.prog 6 #[.int .i64 t, .int .i64 p] w fun e w' => e = .returned (.bool true) ∧ w.grownBy w' none := by
  have HT := hide hT
  clear hT
  have NUM := hide num_any
  have b0 : (p == 0) = false := by simp [g0]
  have b1 : (p == 1) = false := by simp [g1]
  have HA := hide (pt_lo h0)
  have HS := hide (pp_no g0 g1)
  clear g0 g1
  go_enter Tryd.func6, Tryd.ntmps6
  go_wp2_with (first | fail)
  refine (awake_any w HT.out).mono ?_; rintro e w0 ⟨rfl, hg⟩
  have G0 := hide hg
  clear hg
  go_wp2_with (first | fail)
  refine (plain_any w0).mono ?_; rintro e w1 ⟨n, hn, rfl, hm, hg⟩
  have M1 := hide hm
  have G1 := hide (grownBy_trans G0.out hg)
  clear hm hg
  have A1 := hide (World.grownBy_alloc w1 (.cells #[.int .i64 10, .int .i64 2, .slice (some ⟨n + 3, 0, none⟩) 2 2, .slice (some ⟨n + 4, 0, none⟩) 2 2, .slice (some ⟨n + 5, 0, none⟩) 1 1] 26) none)
  have CF := hide (show ∀ W, (w1.alloc (.cells #[.int .i64 10, .int .i64 2, .slice (some ⟨n + 3, 0, none⟩) 2 2, .slice (some ⟨n + 4, 0, none⟩) 2 2, .slice (some ⟨n + 5, 0, none⟩) 1 1] 26)).grownBy W none → ConfAt n W (.agg #[.int .i64 10, .int .i64 2, .slice (some ⟨n + 3, 0, none⟩) 2 2, .slice (some ⟨n + 4, 0, none⟩) 2 2, .slice (some ⟨n + 5, 0, none⟩) 1 1]) plainC from fun W hW => ((M1.out.conf 10 2).grown (grownBy_trans A1.out hW)))
  have KEEP : Hid (∀ W, (w1.alloc (.cells #[.int .i64 10, .int .i64 2, .slice (some ⟨n + 3, 0, none⟩) 2 2, .slice (some ⟨n + 4, 0, none⟩) 2 2, .slice (some ⟨n + 5, 0, none⟩) 1 1] 26)).grownBy W none → W.cell? ⟨w1.heap.size, 0, none⟩ = some (.int .i64 10) ∧ W.cell? ⟨w1.heap.size, 1, none⟩ = some (.int .i64 2) ∧ W.cell? ⟨w1.heap.size, 2, none⟩ = some (.slice (some ⟨n + 3, 0, none⟩) 2 2) ∧ W.cell? ⟨w1.heap.size, 3, none⟩ = some (.slice (some ⟨n + 4, 0, none⟩) 2 2) ∧ W.cell? ⟨w1.heap.size, 4, none⟩ = some (.slice (some ⟨n + 5, 0, none⟩) 1 1)) := by
    intro W hW
    have b := fun k => World.cell?_of_block (a := ⟨w1.heap.size, k, none⟩) (hW.block w1.heap.size (by simp) (by simp))
    exact ⟨(b 0).trans (by simp), (b 1).trans (by simp), (b 2).trans (by simp), (b 3).trans (by simp), (b 4).trans (by simp)⟩
  have TB := hide (show ∀ W, (w1.alloc (.cells #[.int .i64 10, .int .i64 2, .slice (some ⟨n + 3, 0, none⟩) 2 2, .slice (some ⟨n + 4, 0, none⟩) 2 2, .slice (some ⟨n + 5, 0, none⟩) 1 1] 26)).grownBy W none → Tab W from fun W hW => HT.out.grown (grownBy_trans G1.out (grownBy_trans A1.out hW)))
  go_wp2_with (first | fail)
  refine (at_any _ plainC _ _ (TB.out _ (grownBy_refl _ _)) (CF.out _ (grownBy_refl _ _))).mono ?_; rintro e w2 ⟨rfl, hg⟩
  rw [HA.out]
  have G2 := hide hg
  clear hg
  obtain ⟨k0, k1, k2, k3, k4⟩ := KEEP.out _ G2.out
  go_wp2_with (first | fail)
  refine (share_any _ plainC _ _ (TB.out _ G2.out) (CF.out _ G2.out)).mono ?_; rintro e w3 ⟨rfl, hg⟩
  rw [HS.out]
  have G3 := hide (grownBy_trans G2.out hg)
  clear hg k0 k1 k2 k3 k4
  go_wp2_with (first | fail)
  refine (at_any _ czero 0 _ (TB.out _ G3.out) (zero_at _)).mono ?_; rintro e w4 ⟨rfl, hg⟩
  rw [cz1]
  have G4 := hide (grownBy_trans G3.out hg)
  clear hg
  go_wp2_with (first | fail)
  refine (share_any _ czero 0 _ (TB.out _ G4.out) (zero_at _)).mono ?_; rintro e w5 ⟨rfl, hg⟩
  rw [cz2]
  have G5 := hide (grownBy_trans G4.out hg)
  clear hg
  go_wp2_with (first | fail)
  refine (hyper_any _ czero _ (TB.out _ G5.out) (zero_at _)).mono ?_; rintro e w6 ⟨rfl, hg⟩
  rw [cz3]
  have G6 := hide (grownBy_trans G5.out hg)
  clear hg
  go_wp2_with (go_at_call 15; refine (NUM.out _ _).mono ?_; rintro e w' ⟨rfl, rfl⟩)
  go_ret
  exact ⟨rfl, grownBy_trans G1.out (grownBy_trans A1.out G6.out)⟩

set_option maxRecDepth 100000 in
set_option maxHeartbeats 2000000 in
theorem forms_i0 (t p : Int) (h0 : 0 ≤ t) (h1 : t ≤ 1099511627776) (g0 : p = 0) (w : World) (hT : Tab w) :
    Calls Tryd.prog 6 #[.int .i64 t, .int .i64 p] w fun e w' => e = .returned (.bool true) ∧ w.grownBy w' none := by
  have HT := hide hT
  clear hT
  have NUM := hide num_any
  subst g0
  have HA := hide (pt_in h0 h1)
  have HS := hide (pp_0)
  go_enter Tryd.func6, Tryd.ntmps6
  go_wp2_with (first | fail)
  refine (awake_any w HT.out).mono ?_; rintro e w0 ⟨rfl, hg⟩
  have G0 := hide hg
  clear hg
  go_wp2_with (first | fail)
  refine (plain_any w0).mono ?_; rintro e w1 ⟨n, hn, rfl, hm, hg⟩
  have M1 := hide hm
  have G1 := hide (grownBy_trans G0.out hg)
  clear hm hg
  have A1 := hide (World.grownBy_alloc w1 (.cells #[.int .i64 10, .int .i64 2, .slice (some ⟨n + 3, 0, none⟩) 2 2, .slice (some ⟨n + 4, 0, none⟩) 2 2, .slice (some ⟨n + 5, 0, none⟩) 1 1] 26) none)
  have CF := hide (show ∀ W, (w1.alloc (.cells #[.int .i64 10, .int .i64 2, .slice (some ⟨n + 3, 0, none⟩) 2 2, .slice (some ⟨n + 4, 0, none⟩) 2 2, .slice (some ⟨n + 5, 0, none⟩) 1 1] 26)).grownBy W none → ConfAt n W (.agg #[.int .i64 10, .int .i64 2, .slice (some ⟨n + 3, 0, none⟩) 2 2, .slice (some ⟨n + 4, 0, none⟩) 2 2, .slice (some ⟨n + 5, 0, none⟩) 1 1]) plainC from fun W hW => ((M1.out.conf 10 2).grown (grownBy_trans A1.out hW)))
  have KEEP : Hid (∀ W, (w1.alloc (.cells #[.int .i64 10, .int .i64 2, .slice (some ⟨n + 3, 0, none⟩) 2 2, .slice (some ⟨n + 4, 0, none⟩) 2 2, .slice (some ⟨n + 5, 0, none⟩) 1 1] 26)).grownBy W none → W.cell? ⟨w1.heap.size, 0, none⟩ = some (.int .i64 10) ∧ W.cell? ⟨w1.heap.size, 1, none⟩ = some (.int .i64 2) ∧ W.cell? ⟨w1.heap.size, 2, none⟩ = some (.slice (some ⟨n + 3, 0, none⟩) 2 2) ∧ W.cell? ⟨w1.heap.size, 3, none⟩ = some (.slice (some ⟨n + 4, 0, none⟩) 2 2) ∧ W.cell? ⟨w1.heap.size, 4, none⟩ = some (.slice (some ⟨n + 5, 0, none⟩) 1 1)) := by
    intro W hW
    have b := fun k => World.cell?_of_block (a := ⟨w1.heap.size, k, none⟩) (hW.block w1.heap.size (by simp) (by simp))
    exact ⟨(b 0).trans (by simp), (b 1).trans (by simp), (b 2).trans (by simp), (b 3).trans (by simp), (b 4).trans (by simp)⟩
  have TB := hide (show ∀ W, (w1.alloc (.cells #[.int .i64 10, .int .i64 2, .slice (some ⟨n + 3, 0, none⟩) 2 2, .slice (some ⟨n + 4, 0, none⟩) 2 2, .slice (some ⟨n + 5, 0, none⟩) 1 1] 26)).grownBy W none → Tab W from fun W hW => HT.out.grown (grownBy_trans G1.out (grownBy_trans A1.out hW)))
  go_wp2_with (first | fail)
  refine (at_any _ plainC _ _ (TB.out _ (grownBy_refl _ _)) (CF.out _ (grownBy_refl _ _))).mono ?_; rintro e w2 ⟨rfl, hg⟩
  rw [HA.out]
  have G2 := hide hg
  clear hg
  obtain ⟨k0, k1, k2, k3, k4⟩ := KEEP.out _ G2.out
  go_wp2_with (first | fail)
  refine (share_any _ plainC _ _ (TB.out _ G2.out) (CF.out _ G2.out)).mono ?_; rintro e w3 ⟨rfl, hg⟩
  rw [HS.out]
  have G3 := hide (grownBy_trans G2.out hg)
  clear hg k0 k1 k2 k3 k4
  go_wp2_with (first | fail)
  refine (at_any _ czero 0 _ (TB.out _ G3.out) (zero_at _)).mono ?_; rintro e w4 ⟨rfl, hg⟩
  rw [cz1]
  have G4 := hide (grownBy_trans G3.out hg)
  clear hg
  go_wp2_with (first | fail)
  refine (share_any _ czero 0 _ (TB.out _ G4.out) (zero_at _)).mono ?_; rintro e w5 ⟨rfl, hg⟩
  rw [cz2]
  have G5 := hide (grownBy_trans G4.out hg)
  clear hg
  go_wp2_with (first | fail)
  refine (hyper_any _ czero _ (TB.out _ G5.out) (zero_at _)).mono ?_; rintro e w6 ⟨rfl, hg⟩
  rw [cz3]
  have G6 := hide (grownBy_trans G5.out hg)
  clear hg
  go_wp2_with (go_at_call 15; refine (NUM.out _ _).mono ?_; rintro e w' ⟨rfl, rfl⟩)
  go_ret
  exact ⟨rfl, grownBy_trans G1.out (grownBy_trans A1.out G6.out)⟩

set_option maxRecDepth 100000 in
set_option maxHeartbeats 2000000 in
theorem forms_i1 (t p : Int) (h0 : 0 ≤ t) (h1 : t ≤ 1099511627776) (g0 : p = 1) (w : World) (hT : Tab w) :
    Calls Tryd.prog 6 #[.int .i64 t, .int .i64 p] w fun e w' => e = .returned (.bool true) ∧ w.grownBy w' none := by
  have HT := hide hT
  clear hT
  have NUM := hide num_any
  subst g0
  have HA := hide (pt_in h0 h1)
  have HS := hide (pp_1)
  go_enter Tryd.func6, Tryd.ntmps6
  go_wp2_with (first | fail)
  refine (awake_any w HT.out).mono ?_; rintro e w0 ⟨rfl, hg⟩
  have G0 := hide hg
  clear hg
  go_wp2_with (first | fail)
  refine (plain_any w0).mono ?_; rintro e w1 ⟨n, hn, rfl, hm, hg⟩
  have M1 := hide hm
  have G1 := hide (grownBy_trans G0.out hg)
  clear hm hg
  have A1 := hide (World.grownBy_alloc w1 (.cells #[.int .i64 10, .int .i64 2, .slice (some ⟨n + 3, 0, none⟩) 2 2, .slice (some ⟨n + 4, 0, none⟩) 2 2, .slice (some ⟨n + 5, 0, none⟩) 1 1] 26) none)
  have CF := hide (show ∀ W, (w1.alloc (.cells #[.int .i64 10, .int .i64 2, .slice (some ⟨n + 3, 0, none⟩) 2 2, .slice (some ⟨n + 4, 0, none⟩) 2 2, .slice (some ⟨n + 5, 0, none⟩) 1 1] 26)).grownBy W none → ConfAt n W (.agg #[.int .i64 10, .int .i64 2, .slice (some ⟨n + 3, 0, none⟩) 2 2, .slice (some ⟨n + 4, 0, none⟩) 2 2, .slice (some ⟨n + 5, 0, none⟩) 1 1]) plainC from fun W hW => ((M1.out.conf 10 2).grown (grownBy_trans A1.out hW)))
  have KEEP : Hid (∀ W, (w1.alloc (.cells #[.int .i64 10, .int .i64 2, .slice (some ⟨n + 3, 0, none⟩) 2 2, .slice (some ⟨n + 4, 0, none⟩) 2 2, .slice (some ⟨n + 5, 0, none⟩) 1 1] 26)).grownBy W none → W.cell? ⟨w1.heap.size, 0, none⟩ = some (.int .i64 10) ∧ W.cell? ⟨w1.heap.size, 1, none⟩ = some (.int .i64 2) ∧ W.cell? ⟨w1.heap.size, 2, none⟩ = some (.slice (some ⟨n + 3, 0, none⟩) 2 2) ∧ W.cell? ⟨w1.heap.size, 3, none⟩ = some (.slice (some ⟨n + 4, 0, none⟩) 2 2) ∧ W.cell? ⟨w1.heap.size, 4, none⟩ = some (.slice (some ⟨n + 5, 0, none⟩) 1 1)) := by
    intro W hW
    have b := fun k => World.cell?_of_block (a := ⟨w1.heap.size, k, none⟩) (hW.block w1.heap.size (by simp) (by simp))
    exact ⟨(b 0).trans (by simp), (b 1).trans (by simp), (b 2).trans (by simp), (b 3).trans (by simp), (b 4).trans (by simp)⟩
  have TB := hide (show ∀ W, (w1.alloc (.cells #[.int .i64 10, .int .i64 2, .slice (some ⟨n + 3, 0, none⟩) 2 2, .slice (some ⟨n + 4, 0, none⟩) 2 2, .slice (some ⟨n + 5, 0, none⟩) 1 1] 26)).grownBy W none → Tab W from fun W hW => HT.out.grown (grownBy_trans G1.out (grownBy_trans A1.out hW)))
  go_wp2_with (first | fail)
  refine (at_any _ plainC _ _ (TB.out _ (grownBy_refl _ _)) (CF.out _ (grownBy_refl _ _))).mono ?_; rintro e w2 ⟨rfl, hg⟩
  rw [HA.out]
  have G2 := hide hg
  clear hg
  obtain ⟨k0, k1, k2, k3, k4⟩ := KEEP.out _ G2.out
  go_wp2_with (first | fail)
  refine (share_any _ plainC _ _ (TB.out _ G2.out) (CF.out _ G2.out)).mono ?_; rintro e w3 ⟨rfl, hg⟩
  rw [HS.out]
  have G3 := hide (grownBy_trans G2.out hg)
  clear hg k0 k1 k2 k3 k4
  go_wp2_with (first | fail)
  refine (at_any _ czero 0 _ (TB.out _ G3.out) (zero_at _)).mono ?_; rintro e w4 ⟨rfl, hg⟩
  rw [cz1]
  have G4 := hide (grownBy_trans G3.out hg)
  clear hg
  go_wp2_with (first | fail)
  refine (share_any _ czero 0 _ (TB.out _ G4.out) (zero_at _)).mono ?_; rintro e w5 ⟨rfl, hg⟩
  rw [cz2]
  have G5 := hide (grownBy_trans G4.out hg)
  clear hg
  go_wp2_with (first | fail)
  refine (hyper_any _ czero _ (TB.out _ G5.out) (zero_at _)).mono ?_; rintro e w6 ⟨rfl, hg⟩
  rw [cz3]
  have G6 := hide (grownBy_trans G5.out hg)
  clear hg
  go_wp2_with (go_at_call 15; refine (NUM.out _ _).mono ?_; rintro e w' ⟨rfl, rfl⟩)
  go_ret
  exact ⟨rfl, grownBy_trans G1.out (grownBy_trans A1.out G6.out)⟩

set_option maxRecDepth 100000 in
set_option maxHeartbeats 2000000 in
theorem forms_in (t p : Int) (h0 : 0 ≤ t) (h1 : t ≤ 1099511627776) (g0 : p ≠ 0) (g1 : p ≠ 1) (w : World) (hT : Tab w) :
    Calls Tryd.prog 6 #[.int .i64 t, .int .i64 p] w fun e w' => e = .returned (.bool true) ∧ w.grownBy w' none := by
  have HT := hide hT
  clear hT
  have NUM := hide num_any
  have b0 : (p == 0) = false := by simp [g0]
  have b1 : (p == 1) = false := by simp [g1]
  have HA := hide (pt_in h0 h1)
  have HS := hide (pp_no g0 g1)
  clear g0 g1
  go_enter Tryd.func6, Tryd.ntmps6
  go_wp2_with (first | fail)
  refine (awake_any w HT.out).mono ?_; rintro e w0 ⟨rfl, hg⟩
  have G0 := hide hg
  clear hg
  go_wp2_with (first | fail)
  refine (plain_any w0).mono ?_; rintro e w1 ⟨n, hn, rfl, hm, hg⟩
  have M1 := hide hm
  have G1 := hide (grownBy_trans G0.out hg)
  clear hm hg
  have A1 := hide (World.grownBy_alloc w1 (.cells #[.int .i64 10, .int .i64 2, .slice (some ⟨n + 3, 0, none⟩) 2 2, .slice (some ⟨n + 4, 0, none⟩) 2 2, .slice (some ⟨n + 5, 0, none⟩) 1 1] 26) none)
  have CF := hide (show ∀ W, (w1.alloc (.cells #[.int .i64 10, .int .i64 2, .slice (some ⟨n + 3, 0, none⟩) 2 2, .slice (some ⟨n + 4, 0, none⟩) 2 2, .slice (some ⟨n + 5, 0, none⟩) 1 1] 26)).grownBy W none → ConfAt n W (.agg #[.int .i64 10, .int .i64 2, .slice (some ⟨n + 3, 0, none⟩) 2 2, .slice (some ⟨n + 4, 0, none⟩) 2 2, .slice (some ⟨n + 5, 0, none⟩) 1 1]) plainC from fun W hW => ((M1.out.conf 10 2).grown (grownBy_trans A1.out hW)))
  have KEEP : Hid (∀ W, (w1.alloc (.cells #[.int .i64 10, .int .i64 2, .slice (some ⟨n + 3, 0, none⟩) 2 2, .slice (some ⟨n + 4, 0, none⟩) 2 2, .slice (some ⟨n + 5, 0, none⟩) 1 1] 26)).grownBy W none → W.cell? ⟨w1.heap.size, 0, none⟩ = some (.int .i64 10) ∧ W.cell? ⟨w1.heap.size, 1, none⟩ = some (.int .i64 2) ∧ W.cell? ⟨w1.heap.size, 2, none⟩ = some (.slice (some ⟨n + 3, 0, none⟩) 2 2) ∧ W.cell? ⟨w1.heap.size, 3, none⟩ = some (.slice (some ⟨n + 4, 0, none⟩) 2 2) ∧ W.cell? ⟨w1.heap.size, 4, none⟩ = some (.slice (some ⟨n + 5, 0, none⟩) 1 1)) := by
    intro W hW
    have b := fun k => World.cell?_of_block (a := ⟨w1.heap.size, k, none⟩) (hW.block w1.heap.size (by simp) (by simp))
    exact ⟨(b 0).trans (by simp), (b 1).trans (by simp), (b 2).trans (by simp), (b 3).trans (by simp), (b 4).trans (by simp)⟩
  have TB := hide (show ∀ W, (w1.alloc (.cells #[.int .i64 10, .int .i64 2, .slice (some ⟨n + 3, 0, none⟩) 2 2, .slice (some ⟨n + 4, 0, none⟩) 2 2, .slice (some ⟨n + 5, 0, none⟩) 1 1] 26)).grownBy W none → Tab W from fun W hW => HT.out.grown (grownBy_trans G1.out (grownBy_trans A1.out hW)))
  go_wp2_with (first | fail)
  refine (at_any _ plainC _ _ (TB.out _ (grownBy_refl _ _)) (CF.out _ (grownBy_refl _ _))).mono ?_; rintro e w2 ⟨rfl, hg⟩
  rw [HA.out]
  have G2 := hide hg
  clear hg
  obtain ⟨k0, k1, k2, k3, k4⟩ := KEEP.out _ G2.out
  go_wp2_with (first | fail)
  refine (share_any _ plainC _ _ (TB.out _ G2.out) (CF.out _ G2.out)).mono ?_; rintro e w3 ⟨rfl, hg⟩
  rw [HS.out]
  have G3 := hide (grownBy_trans G2.out hg)
  clear hg k0 k1 k2 k3 k4
  go_wp2_with (first | fail)
  refine (at_any _ czero 0 _ (TB.out _ G3.out) (zero_at _)).mono ?_; rintro e w4 ⟨rfl, hg⟩
  rw [cz1]
  have G4 := hide (grownBy_trans G3.out hg)
  clear hg
  go_wp2_with (first | fail)
  refine (share_any _ czero 0 _ (TB.out _ G4.out) (zero_at _)).mono ?_; rintro e w5 ⟨rfl, hg⟩
  rw [cz2]
  have G5 := hide (grownBy_trans G4.out hg)
  clear hg
  go_wp2_with (first | fail)
  refine (hyper_any _ czero _ (TB.out _ G5.out) (zero_at _)).mono ?_; rintro e w6 ⟨rfl, hg⟩
  rw [cz3]
  have G6 := hide (grownBy_trans G5.out hg)
  clear hg
  go_wp2_with (go_at_call 15; refine (NUM.out _ _).mono ?_; rintro e w' ⟨rfl, rfl⟩)
  go_ret
  exact ⟨rfl, grownBy_trans G1.out (grownBy_trans A1.out G6.out)⟩

set_option maxRecDepth 100000 in
set_option maxHeartbeats 2000000 in
theorem forms_h0 (t p : Int) (h0 : 1099511627776 < t) (g0 : p = 0) (w : World) (hT : Tab w) :
    Calls Tryd.prog 6 #[.int .i64 t, .int .i64 p] w fun e w' => e = .returned (.bool true) ∧ w.grownBy w' none := by
  have HT := hide hT
  clear hT
  have NUM := hide num_any
  subst g0
  have h5 : decide (t ≤ 1099511627776) = false := by simp; omega
  have HA := hide (pt_hi h0)
  have HS := hide (pp_0)
  go_enter Tryd.func6, Tryd.ntmps6
  go_wp2_with (first | fail)
  refine (awake_any w HT.out).mono ?_; rintro e w0 ⟨rfl, hg⟩
  have G0 := hide hg
  clear hg
  go_wp2_with (first | fail)
  refine (plain_any w0).mono ?_; rintro e w1 ⟨n, hn, rfl, hm, hg⟩
  have M1 := hide hm
  have G1 := hide (grownBy_trans G0.out hg)
  clear hm hg
  have A1 := hide (World.grownBy_alloc w1 (.cells #[.int .i64 10, .int .i64 2, .slice (some ⟨n + 3, 0, none⟩) 2 2, .slice (some ⟨n + 4, 0, none⟩) 2 2, .slice (some ⟨n + 5, 0, none⟩) 1 1] 26) none)
  have CF := hide (show ∀ W, (w1.alloc (.cells #[.int .i64 10, .int .i64 2, .slice (some ⟨n + 3, 0, none⟩) 2 2, .slice (some ⟨n + 4, 0, none⟩) 2 2, .slice (some ⟨n + 5, 0, none⟩) 1 1] 26)).grownBy W none → ConfAt n W (.agg #[.int .i64 10, .int .i64 2, .slice (some ⟨n + 3, 0, none⟩) 2 2, .slice (some ⟨n + 4, 0, none⟩) 2 2, .slice (some ⟨n + 5, 0, none⟩) 1 1]) plainC from fun W hW => ((M1.out.conf 10 2).grown (grownBy_trans A1.out hW)))
  have KEEP : Hid (∀ W, (w1.alloc (.cells #[.int .i64 10, .int .i64 2, .slice (some ⟨n + 3, 0, none⟩) 2 2, .slice (some ⟨n + 4, 0, none⟩) 2 2, .slice (some ⟨n + 5, 0, none⟩) 1 1] 26)).grownBy W none → W.cell? ⟨w1.heap.size, 0, none⟩ = some (.int .i64 10) ∧ W.cell? ⟨w1.heap.size, 1, none⟩ = some (.int .i64 2) ∧ W.cell? ⟨w1.heap.size, 2, none⟩ = some (.slice (some ⟨n + 3, 0, none⟩) 2 2) ∧ W.cell? ⟨w1.heap.size, 3, none⟩ = some (.slice (some ⟨n + 4, 0, none⟩) 2 2) ∧ W.cell? ⟨w1.heap.size, 4, none⟩ = some (.slice (some ⟨n + 5, 0, none⟩) 1 1)) := by
    intro W hW
    have b := fun k => World.cell?_of_block (a := ⟨w1.heap.size, k, none⟩) (hW.block w1.heap.size (by simp) (by simp))
    exact ⟨(b 0).trans (by simp), (b 1).trans (by simp), (b 2).trans (by simp), (b 3).trans (by simp), (b 4).trans (by simp)⟩
  have TB := hide (show ∀ W, (w1.alloc (.cells #[.int .i64 10, .int .i64 2, .slice (some ⟨n + 3, 0, none⟩) 2 2, .slice (some ⟨n + 4, 0, none⟩) 2 2, .slice (some ⟨n + 5, 0, none⟩) 1 1] 26)).grownBy W none → Tab W from fun W hW => HT.out.grown (grownBy_trans G1.out (grownBy_trans A1.out hW)))
  go_wp2_with (first | fail)
  refine (at_any _ plainC _ _ (TB.out _ (grownBy_refl _ _)) (CF.out _ (grownBy_refl _ _))).mono ?_; rintro e w2 ⟨rfl, hg⟩
  rw [HA.out]
  have G2 := hide hg
  clear hg
  obtain ⟨k0, k1, k2, k3, k4⟩ := KEEP.out _ G2.out
  go_wp2_with (first | fail)
  refine (share_any _ plainC _ _ (TB.out _ G2.out) (CF.out _ G2.out)).mono ?_; rintro e w3 ⟨rfl, hg⟩
  rw [HS.out]
  have G3 := hide (grownBy_trans G2.out hg)
  clear hg k0 k1 k2 k3 k4
  go_wp2_with (first | fail)
  refine (at_any _ czero 0 _ (TB.out _ G3.out) (zero_at _)).mono ?_; rintro e w4 ⟨rfl, hg⟩
  rw [cz1]
  have G4 := hide (grownBy_trans G3.out hg)
  clear hg
  go_wp2_with (first | fail)
  refine (share_any _ czero 0 _ (TB.out _ G4.out) (zero_at _)).mono ?_; rintro e w5 ⟨rfl, hg⟩
  rw [cz2]
  have G5 := hide (grownBy_trans G4.out hg)
  clear hg
  go_wp2_with (first | fail)
  refine (hyper_any _ czero _ (TB.out _ G5.out) (zero_at _)).mono ?_; rintro e w6 ⟨rfl, hg⟩
  rw [cz3]
  have G6 := hide (grownBy_trans G5.out hg)
  clear hg
  go_wp2_with (go_at_call 15; refine (NUM.out _ _).mono ?_; rintro e w' ⟨rfl, rfl⟩)
  go_ret
  exact ⟨rfl, grownBy_trans G1.out (grownBy_trans A1.out G6.out)⟩

set_option maxRecDepth 100000 in
set_option maxHeartbeats 2000000 in
theorem forms_h1 (t p : Int) (h0 : 1099511627776 < t) (g0 : p = 1) (w : World) (hT : Tab w) :
    Calls Tryd.prog 6 #[.int .i64 t, .int .i64 p] w fun e w' => e = .returned (.bool true) ∧ w.grownBy w' none := by
  have HT := hide hT
  clear hT
  have NUM := hide num_any
  subst g0
  have h5 : decide (t ≤ 1099511627776) = false := by simp; omega
  have HA := hide (pt_hi h0)
  have HS := hide (pp_1)
  go_enter Tryd.func6, Tryd.ntmps6
  go_wp2_with (first | fail)
  refine (awake_any w HT.out).mono ?_; rintro e w0 ⟨rfl, hg⟩
  have G0 := hide hg
  clear hg
  go_wp2_with (first | fail)
  refine (plain_any w0).mono ?_; rintro e w1 ⟨n, hn, rfl, hm, hg⟩
  have M1 := hide hm
  have G1 := hide (grownBy_trans G0.out hg)
  clear hm hg
  have A1 := hide (World.grownBy_alloc w1 (.cells #[.int .i64 10, .int .i64 2, .slice (some ⟨n + 3, 0, none⟩) 2 2, .slice (some ⟨n + 4, 0, none⟩) 2 2, .slice (some ⟨n + 5, 0, none⟩) 1 1] 26) none)
  have CF := hide (show ∀ W, (w1.alloc (.cells #[.int .i64 10, .int .i64 2, .slice (some ⟨n + 3, 0, none⟩) 2 2, .slice (some ⟨n + 4, 0, none⟩) 2 2, .slice (some ⟨n + 5, 0, none⟩) 1 1] 26)).grownBy W none → ConfAt n W (.agg #[.int .i64 10, .int .i64 2, .slice (some ⟨n + 3, 0, none⟩) 2 2, .slice (some ⟨n + 4, 0, none⟩) 2 2, .slice (some ⟨n + 5, 0, none⟩) 1 1]) plainC from fun W hW => ((M1.out.conf 10 2).grown (grownBy_trans A1.out hW)))
  have KEEP : Hid (∀ W, (w1.alloc (.cells #[.int .i64 10, .int .i64 2, .slice (some ⟨n + 3, 0, none⟩) 2 2, .slice (some ⟨n + 4, 0, none⟩) 2 2, .slice (some ⟨n + 5, 0, none⟩) 1 1] 26)).grownBy W none → W.cell? ⟨w1.heap.size, 0, none⟩ = some (.int .i64 10) ∧ W.cell? ⟨w1.heap.size, 1, none⟩ = some (.int .i64 2) ∧ W.cell? ⟨w1.heap.size, 2, none⟩ = some (.slice (some ⟨n + 3, 0, none⟩) 2 2) ∧ W.cell? ⟨w1.heap.size, 3, none⟩ = some (.slice (some ⟨n + 4, 0, none⟩) 2 2) ∧ W.cell? ⟨w1.heap.size, 4, none⟩ = some (.slice (some ⟨n + 5, 0, none⟩) 1 1)) := by
    intro W hW
    have b := fun k => World.cell?_of_block (a := ⟨w1.heap.size, k, none⟩) (hW.block w1.heap.size (by simp) (by simp))
    exact ⟨(b 0).trans (by simp), (b 1).trans (by simp), (b 2).trans (by simp), (b 3).trans (by simp), (b 4).trans (by simp)⟩
  have TB := hide (show ∀ W, (w1.alloc (.cells #[.int .i64 10, .int .i64 2, .slice (some ⟨n + 3, 0, none⟩) 2 2, .slice (some ⟨n + 4, 0, none⟩) 2 2, .slice (some ⟨n + 5, 0, none⟩) 1 1] 26)).grownBy W none → Tab W from fun W hW => HT.out.grown (grownBy_trans G1.out (grownBy_trans A1.out hW)))
  go_wp2_with (first | fail)
  refine (at_any _ plainC _ _ (TB.out _ (grownBy_refl _ _)) (CF.out _ (grownBy_refl _ _))).mono ?_; rintro e w2 ⟨rfl, hg⟩
  rw [HA.out]
  have G2 := hide hg
  clear hg
  obtain ⟨k0, k1, k2, k3, k4⟩ := KEEP.out _ G2.out
  go_wp2_with (first | fail)
  refine (share_any _ plainC _ _ (TB.out _ G2.out) (CF.out _ G2.out)).mono ?_; rintro e w3 ⟨rfl, hg⟩
  rw [HS.out]
  have G3 := hide (grownBy_trans G2.out hg)
  clear hg k0 k1 k2 k3 k4
  go_wp2_with (first | fail)
  refine (at_any _ czero 0 _ (TB.out _ G3.out) (zero_at _)).mono ?_; rintro e w4 ⟨rfl, hg⟩
  rw [cz1]
  have G4 := hide (grownBy_trans G3.out hg)
  clear hg
  go_wp2_with (first | fail)
  refine (share_any _ czero 0 _ (TB.out _ G4.out) (zero_at _)).mono ?_; rintro e w5 ⟨rfl, hg⟩
  rw [cz2]
  have G5 := hide (grownBy_trans G4.out hg)
  clear hg
  go_wp2_with (first | fail)
  refine (hyper_any _ czero _ (TB.out _ G5.out) (zero_at _)).mono ?_; rintro e w6 ⟨rfl, hg⟩
  rw [cz3]
  have G6 := hide (grownBy_trans G5.out hg)
  clear hg
  go_wp2_with (go_at_call 15; refine (NUM.out _ _).mono ?_; rintro e w' ⟨rfl, rfl⟩)
  go_ret
  exact ⟨rfl, grownBy_trans G1.out (grownBy_trans A1.out G6.out)⟩

set_option maxRecDepth 100000 in
set_option maxHeartbeats 2000000 in
theorem forms_hn (t p : Int) (h0 : 1099511627776 < t) (g0 : p ≠ 0) (g1 : p ≠ 1) (w : World) (hT : Tab w) :
    Calls Tryd.prog 6 #[.int .i64 t, .int .i64 p] w fun e w' => e = .returned (.bool true) ∧ w.grownBy w' none := by
  have HT := hide hT
  clear hT
  have NUM := hide num_any
  have b0 : (p == 0) = false := by simp [g0]
  have b1 : (p == 1) = false := by simp [g1]
  have h5 : decide (t ≤ 1099511627776) = false := by simp; omega
  have HA := hide (pt_hi h0)
  have HS := hide (pp_no g0 g1)
  clear g0 g1
  go_enter Tryd.func6, Tryd.ntmps6
  go_wp2_with (first | fail)
  refine (awake_any w HT.out).mono ?_; rintro e w0 ⟨rfl, hg⟩
  have G0 := hide hg
  clear hg
  go_wp2_with (first | fail)
  refine (plain_any w0).mono ?_; rintro e w1 ⟨n, hn, rfl, hm, hg⟩
  have M1 := hide hm
  have G1 := hide (grownBy_trans G0.out hg)
  clear hm hg
  have A1 := hide (World.grownBy_alloc w1 (.cells #[.int .i64 10, .int .i64 2, .slice (some ⟨n + 3, 0, none⟩) 2 2, .slice (some ⟨n + 4, 0, none⟩) 2 2, .slice (some ⟨n + 5, 0, none⟩) 1 1] 26) none)
  have CF := hide (show ∀ W, (w1.alloc (.cells #[.int .i64 10, .int .i64 2, .slice (some ⟨n + 3, 0, none⟩) 2 2, .slice (some ⟨n + 4, 0, none⟩) 2 2, .slice (some ⟨n + 5, 0, none⟩) 1 1] 26)).grownBy W none → ConfAt n W (.agg #[.int .i64 10, .int .i64 2, .slice (some ⟨n + 3, 0, none⟩) 2 2, .slice (some ⟨n + 4, 0, none⟩) 2 2, .slice (some ⟨n + 5, 0, none⟩) 1 1]) plainC from fun W hW => ((M1.out.conf 10 2).grown (grownBy_trans A1.out hW)))
  have KEEP : Hid (∀ W, (w1.alloc (.cells #[.int .i64 10, .int .i64 2, .slice (some ⟨n + 3, 0, none⟩) 2 2, .slice (some ⟨n + 4, 0, none⟩) 2 2, .slice (some ⟨n + 5, 0, none⟩) 1 1] 26)).grownBy W none → W.cell? ⟨w1.heap.size, 0, none⟩ = some (.int .i64 10) ∧ W.cell? ⟨w1.heap.size, 1, none⟩ = some (.int .i64 2) ∧ W.cell? ⟨w1.heap.size, 2, none⟩ = some (.slice (some ⟨n + 3, 0, none⟩) 2 2) ∧ W.cell? ⟨w1.heap.size, 3, none⟩ = some (.slice (some ⟨n + 4, 0, none⟩) 2 2) ∧ W.cell? ⟨w1.heap.size, 4, none⟩ = some (.slice (some ⟨n + 5, 0, none⟩) 1 1)) := by
    intro W hW
    have b := fun k => World.cell?_of_block (a := ⟨w1.heap.size, k, none⟩) (hW.block w1.heap.size (by simp) (by simp))
    exact ⟨(b 0).trans (by simp), (b 1).trans (by simp), (b 2).trans (by simp), (b 3).trans (by simp), (b 4).trans (by simp)⟩
  have TB := hide (show ∀ W, (w1.alloc (.cells #[.int .i64 10, .int .i64 2, .slice (some ⟨n + 3, 0, none⟩) 2 2, .slice (some ⟨n + 4, 0, none⟩) 2 2, .slice (some ⟨n + 5, 0, none⟩) 1 1] 26)).grownBy W none → Tab W from fun W hW => HT.out.grown (grownBy_trans G1.out (grownBy_trans A1.out hW)))
  go_wp2_with (first | fail)
  refine (at_any _ plainC _ _ (TB.out _ (grownBy_refl _ _)) (CF.out _ (grownBy_refl _ _))).mono ?_; rintro e w2 ⟨rfl, hg⟩
  rw [HA.out]
  have G2 := hide hg
  clear hg
  obtain ⟨k0, k1, k2, k3, k4⟩ := KEEP.out _ G2.out
  go_wp2_with (first | fail)
  refine (share_any _ plainC _ _ (TB.out _ G2.out) (CF.out _ G2.out)).mono ?_; rintro e w3 ⟨rfl, hg⟩
  rw [HS.out]
  have G3 := hide (grownBy_trans G2.out hg)
  clear hg k0 k1 k2 k3 k4
  go_wp2_with (first | fail)
  refine (at_any _ czero 0 _ (TB.out _ G3.out) (zero_at _)).mono ?_; rintro e w4 ⟨rfl, hg⟩
  rw [cz1]
  have G4 := hide (grownBy_trans G3.out hg)
  clear hg
  go_wp2_with (first | fail)
  refine (share_any _ czero 0 _ (TB.out _ G4.out) (zero_at _)).mono ?_; rintro e w5 ⟨rfl, hg⟩
  rw [cz2]
  have G5 := hide (grownBy_trans G4.out hg)
  clear hg
  go_wp2_with (first | fail)
  refine (hyper_any _ czero _ (TB.out _ G5.out) (zero_at _)).mono ?_; rintro e w6 ⟨rfl, hg⟩
  rw [cz3]
  have G6 := hide (grownBy_trans G5.out hg)
  clear hg
  go_wp2_with (go_at_call 15; refine (NUM.out _ _).mono ?_; rintro e w' ⟨rfl, rfl⟩)
  go_ret
  exact ⟨rfl, grownBy_trans G1.out (grownBy_trans A1.out G6.out)⟩

theorem frameForms_any (t p : Int) (w : World) (hT : Tab w) :
    Calls Tryd.prog 6 #[.int .i64 t, .int .i64 p] w fun e w' => e = .returned (.bool true) ∧ w.grownBy w' none := by
  by_cases h0 : t < 0
  · by_cases g0 : p = 0
    · exact forms_l0 t p h0 g0 w hT
    · by_cases g1 : p = 1
      · exact forms_l1 t p h0 g1 w hT
      · exact forms_ln t p h0 g0 g1 w hT
  · by_cases h1 : t ≤ 1099511627776
    · by_cases g0 : p = 0
      · exact forms_i0 t p (by omega) h1 g0 w hT
      · by_cases g1 : p = 1
        · exact forms_i1 t p (by omega) h1 g1 w hT
        · exact forms_in t p (by omega) h1 g0 g1 w hT
    · by_cases g0 : p = 0
      · exact forms_h0 t p (by omega) g0 w hT
      · by_cases g1 : p = 1
        · exact forms_h1 t p (by omega) g1 w hT
        · exact forms_hn t p (by omega) g0 g1 w hT
#print axioms frameForms_any
end Go.Proofs.YtgaegggiehhcpabDoor.P6

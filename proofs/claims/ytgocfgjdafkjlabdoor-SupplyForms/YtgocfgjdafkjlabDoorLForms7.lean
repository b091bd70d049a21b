/- The walk of the statement SupplyForms: parts, lengths that are none; proved over the translation. -/
import Derived.Test.YtgocfgjdafkjlabDoorAw7
namespace Go.Proofs.YtgocfgjdafkjlabDoor.P7
open Go.RowKit
attribute [local go_sem] alloc_drewN setCell_drewN

def czero : ConfV := ⟨0, 0, [], [], []⟩
theorem zero_at (W : World) : ConfAt 0 W (.agg #[.int .i64 0, .int .i64 0, .slice none 0 0, .slice none 0 0, .slice none 0 0]) czero := ⟨_, _, _, rfl, ⟨[], rfl, rowAt_nil _ _ _ _, fun i q p hq => by simp at hq⟩, rowAt_nil _ _ _ _, rowAt_nil _ _ _ _⟩
theorem cz1 : leE czero 0 1 = 700 := by kernel_rfl
theorem pl2 : (plainC.parts.length : Int) = 2 := rfl
theorem pe_in {p k : Int} (h0 : 0 ≤ p) (h1 : p < 2) (h2 : 0 ≤ k) (h3 : k ≤ 4096) : leE plainC p k = 0 := by
  unfold leE leOK; rw [pa11, pl2]; simp; omega
theorem pe_no {p k : Int} (h : p < 0 ∨ 2 ≤ p ∨ k < 0 ∨ 4096 < k) : leE plainC p k = 700 := by
  unfold leE leOK; rw [pa11, pl2]; simp; omega
theorem pv_no {p k : Int} (h : leE plainC p k = 700) : leV plainC p k = 0 := by
  unfold leE at h; unfold leV
  by_cases hb : leOK plainC p k = true
  · rw [if_pos hb] at h; omega
  · rw [if_neg hb]

set_option maxRecDepth 100000 in
set_option maxHeartbeats 2000000 in
theorem forms_a (p k : Int) (h0 : p < 0) (w : World) (hT : Tab w) :
    Calls Tryd.prog 3 #[.int .i64 p, .int .i64 k] w fun e w' => e = .returned (.bool true) ∧ w.grownBy w' none := by
  have HT := hide hT
  clear hT
  have NUM := hide num_any
  have HE := hide (pe_no (p := p) (k := k) (.inl h0))
  have HV := hide (pv_no HE.out)
  go_enter Tryd.func3, Tryd.ntmps3
  go_wp2_with (first | fail)
  refine (awake_any w HT.out).mono ?_; rintro e w0 ⟨rfl, hg⟩
  have G0 := hide hg
  clear hg
  go_wp2_with (first | fail)
  refine (plain_any w0).mono ?_; rintro e w1 ⟨n, hn, rfl, hm, hg⟩
  have M1 := hide (hm.conf 10 2)
  have G1 := hide (grownBy_trans G0.out hg)
  clear hm hg
  go_wp2_with (first | fail)
  refine (least_any _ plainC p k _ (HT.out.grown G1.out) M1.out).mono ?_; rintro e w2 ⟨rfl, hg⟩
  rw [HE.out, HV.out]
  have G2 := hide (grownBy_trans G1.out hg)
  clear hg
  go_wp2_with (first | fail)
  refine (least_any _ czero 0 1 _ (HT.out.grown G2.out) (zero_at _)).mono ?_; rintro e w3 ⟨rfl, hg⟩
  rw [cz1]
  have G3 := hide (grownBy_trans G2.out hg)
  clear hg
  go_wp2_with (go_at_call 9; refine (NUM.out _ _).mono ?_; rintro e w' ⟨rfl, rfl⟩)
  go_ret
  exact ⟨rfl, G3.out⟩

set_option maxRecDepth 100000 in
set_option maxHeartbeats 2000000 in
theorem forms_b (p k : Int) (h0 : 2 ≤ p) (w : World) (hT : Tab w) :
    Calls Tryd.prog 3 #[.int .i64 p, .int .i64 k] w fun e w' => e = .returned (.bool true) ∧ w.grownBy w' none := by
  have HT := hide hT
  clear hT
  have NUM := hide num_any
  have HE := hide (pe_no (p := p) (k := k) (.inr (.inl h0)))
  have HV := hide (pv_no HE.out)
  go_enter Tryd.func3, Tryd.ntmps3
  go_wp2_with (first | fail)
  refine (awake_any w HT.out).mono ?_; rintro e w0 ⟨rfl, hg⟩
  have G0 := hide hg
  clear hg
  go_wp2_with (first | fail)
  refine (plain_any w0).mono ?_; rintro e w1 ⟨n, hn, rfl, hm, hg⟩
  have M1 := hide (hm.conf 10 2)
  have G1 := hide (grownBy_trans G0.out hg)
  clear hm hg
  go_wp2_with (first | fail)
  refine (least_any _ plainC p k _ (HT.out.grown G1.out) M1.out).mono ?_; rintro e w2 ⟨rfl, hg⟩
  rw [HE.out, HV.out]
  have G2 := hide (grownBy_trans G1.out hg)
  clear hg
  go_wp2_with (first | fail)
  refine (least_any _ czero 0 1 _ (HT.out.grown G2.out) (zero_at _)).mono ?_; rintro e w3 ⟨rfl, hg⟩
  rw [cz1]
  have G3 := hide (grownBy_trans G2.out hg)
  clear hg
  go_wp2_with (go_at_call 9; refine (NUM.out _ _).mono ?_; rintro e w' ⟨rfl, rfl⟩)
  go_ret
  exact ⟨rfl, G3.out⟩

set_option maxRecDepth 100000 in
set_option maxHeartbeats 2000000 in
theorem forms_c (p k : Int) (g0 : 0 ≤ p) (g1 : p < 2) (h0 : k < 0) (w : World) (hT : Tab w) :
    Calls Tryd.prog 3 #[.int .i64 p, .int .i64 k] w fun e w' => e = .returned (.bool true) ∧ w.grownBy w' none := by
  have HT := hide hT
  clear hT
  have NUM := hide num_any
  have HE := hide (pe_no (p := p) (k := k) (.inr (.inr (.inl h0))))
  have HV := hide (pv_no HE.out)
  go_enter Tryd.func3, Tryd.ntmps3
  go_wp2_with (first | fail)
  refine (awake_any w HT.out).mono ?_; rintro e w0 ⟨rfl, hg⟩
  have G0 := hide hg
  clear hg
  go_wp2_with (first | fail)
  refine (plain_any w0).mono ?_; rintro e w1 ⟨n, hn, rfl, hm, hg⟩
  have M1 := hide (hm.conf 10 2)
  have G1 := hide (grownBy_trans G0.out hg)
  clear hm hg
  go_wp2_with (first | fail)
  refine (least_any _ plainC p k _ (HT.out.grown G1.out) M1.out).mono ?_; rintro e w2 ⟨rfl, hg⟩
  rw [HE.out, HV.out]
  have G2 := hide (grownBy_trans G1.out hg)
  clear hg
  go_wp2_with (first | fail)
  refine (least_any _ czero 0 1 _ (HT.out.grown G2.out) (zero_at _)).mono ?_; rintro e w3 ⟨rfl, hg⟩
  rw [cz1]
  have G3 := hide (grownBy_trans G2.out hg)
  clear hg
  go_wp2_with (go_at_call 9; refine (NUM.out _ _).mono ?_; rintro e w' ⟨rfl, rfl⟩)
  go_ret
  exact ⟨rfl, G3.out⟩

set_option maxRecDepth 100000 in
set_option maxHeartbeats 2000000 in
theorem forms_d (p k : Int) (g0 : 0 ≤ p) (g1 : p < 2) (h0 : 4096 < k) (w : World) (hT : Tab w) :
    Calls Tryd.prog 3 #[.int .i64 p, .int .i64 k] w fun e w' => e = .returned (.bool true) ∧ w.grownBy w' none := by
  have HT := hide hT
  clear hT
  have NUM := hide num_any
  have HE := hide (pe_no (p := p) (k := k) (.inr (.inr (.inr h0))))
  have HV := hide (pv_no HE.out)
  have hk : decide (k ≤ 4096) = false := decide_eq_false (by omega)
  go_enter Tryd.func3, Tryd.ntmps3
  go_wp2_with (first | fail)
  refine (awake_any w HT.out).mono ?_; rintro e w0 ⟨rfl, hg⟩
  have G0 := hide hg
  clear hg
  go_wp2_with (first | fail)
  refine (plain_any w0).mono ?_; rintro e w1 ⟨n, hn, rfl, hm, hg⟩
  have M1 := hide (hm.conf 10 2)
  have G1 := hide (grownBy_trans G0.out hg)
  clear hm hg
  go_wp2_with (first | fail)
  refine (least_any _ plainC p k _ (HT.out.grown G1.out) M1.out).mono ?_; rintro e w2 ⟨rfl, hg⟩
  rw [HE.out, HV.out]
  have G2 := hide (grownBy_trans G1.out hg)
  clear hg
  go_wp2_with (first | fail)
  refine (least_any _ czero 0 1 _ (HT.out.grown G2.out) (zero_at _)).mono ?_; rintro e w3 ⟨rfl, hg⟩
  rw [cz1]
  have G3 := hide (grownBy_trans G2.out hg)
  clear hg
  go_wp2_with (go_at_call 9; refine (NUM.out _ _).mono ?_; rintro e w' ⟨rfl, rfl⟩)
  go_ret
  exact ⟨rfl, G3.out⟩

set_option maxRecDepth 100000 in
set_option maxHeartbeats 2000000 in
theorem forms_e (p k : Int) (g0 : 0 ≤ p) (g1 : p < 2) (h0 : 0 ≤ k) (h1 : k ≤ 4096) (w : World) (hT : Tab w) :
    Calls Tryd.prog 3 #[.int .i64 p, .int .i64 k] w fun e w' => e = .returned (.bool true) ∧ w.grownBy w' none := by
  have HT := hide hT
  clear hT
  have NUM := hide num_any
  have HE := hide (pe_in (p := p) (k := k) g0 g1 h0 h1)
  go_enter Tryd.func3, Tryd.ntmps3
  go_wp2_with (first | fail)
  refine (awake_any w HT.out).mono ?_; rintro e w0 ⟨rfl, hg⟩
  have G0 := hide hg
  clear hg
  go_wp2_with (first | fail)
  refine (plain_any w0).mono ?_; rintro e w1 ⟨n, hn, rfl, hm, hg⟩
  have M1 := hide (hm.conf 10 2)
  have G1 := hide (grownBy_trans G0.out hg)
  clear hm hg
  go_wp2_with (first | fail)
  refine (least_any _ plainC p k _ (HT.out.grown G1.out) M1.out).mono ?_; rintro e w2 ⟨rfl, hg⟩
  rw [HE.out]
  have G2 := hide (grownBy_trans G1.out hg)
  clear hg
  generalize leV plainC p k = xv at *
  go_wp2_with (first | fail)
  refine (least_any _ czero 0 1 _ (HT.out.grown G2.out) (zero_at _)).mono ?_; rintro e w3 ⟨rfl, hg⟩
  rw [cz1]
  have G3 := hide (grownBy_trans G2.out hg)
  clear hg
  go_wp2_with (go_at_call 9; refine (NUM.out _ _).mono ?_; rintro e w' ⟨rfl, rfl⟩)
  go_ret
  exact ⟨rfl, G3.out⟩

theorem supplyForms_any (p k : Int) (w : World) (hT : Tab w) :
    Calls Tryd.prog 3 #[.int .i64 p, .int .i64 k] w fun e w' => e = .returned (.bool true) ∧ w.grownBy w' none := by
  by_cases h0 : p < 0
  · exact forms_a p k h0 w hT
  by_cases h1 : 2 ≤ p
  · exact forms_b p k h1 w hT
  by_cases h2 : k < 0
  · exact forms_c p k (by omega) (by omega) h2 w hT
  by_cases h3 : 4096 < k
  · exact forms_d p k (by omega) (by omega) h3 w hT
  exact forms_e p k (by omega) (by omega) (by omega) (by omega) w hT
#print axioms supplyForms_any
end Go.Proofs.YtgocfgjdafkjlabDoor.P7

/- The walk of the statement JobForms: parts, tasks, demands, ticks that are none; proved over the translation. -/
import Derived.Test.YtlppfocoonnpjaaGreatDoorAw14
import Derived.Test.YtlppfocoonnpjaaGreatDoorQh
namespace Go.Proofs.YtlppfocoonnpjaaGreatDoor.L
open Go.RowKit
open Go.Proofs.YtlppfocoonnpjaaGreatDoor.J (JobV jobAt jobVal shJ blk_cell blk_free box_lt box_grown type_box type_own own_type own_mono row_cell take_put)
open Go.Proofs.YtlppfocoonnpjaaGreatDoor.U (TurnsV pickE pickS lateB)
attribute [local go_sem] alloc_drewN setCell_drewN

theorem rem6 (z : Int) : ∃ c : Nat, c < 6 ∧ (IntKind.u64.wrap z).tmod 6 = (c : Int) := by
  have hz : 0 ≤ IntKind.u64.wrap z := by rw [IntKind.wrap_u64]; omega
  refine ⟨((IntKind.u64.wrap z).tmod 6).toNat, ?_, ?_⟩
  · have h1 := Int.tmod_nonneg 6 hz
    have h2 := Int.tmod_lt_of_pos (IntKind.u64.wrap z) (show (0 : Int) < 6 by decide)
    omega
  · rw [Int.toNat_of_nonneg (Int.tmod_nonneg 6 hz)]
theorem begin_no {L : LocV} {now : Int} (h : tickB now = false) : beginN now = 1400 ∧ beginL L now = L ∧ beginV L now = [] := by
  refine ⟨by unfold beginN; rw [h]; rfl, by unfold beginL; rw [h]; rfl, by unfold beginV; rw [h]; rfl⟩
theorem pick_no {L : LocV} {i d now : Int} (h : pickOk L i now = false) : pickN L i d now = 1400 ∧ pickL L i d now = L ∧ pickV L i d now = [] := by
  have e : pickN L i d now = 1400 := by unfold pickN; rw [h]; rfl
  exact ⟨e, by unfold pickL; rw [e]; rfl, by unfold pickV; rw [e]; rfl⟩
theorem pick_er {L : LocV} {i d now n : Int} (e : pickN L i d now = n) (hn : n ≠ 0) : pickL L i d now = L ∧ pickV L i d now = [] :=
  ⟨by unfold pickL; rw [e, if_neg hn], by unfold pickV; rw [e, if_neg hn]⟩
theorem tick_no {now : Int} (h : now < 0 ∨ 1099511627776 < now) : tickB now = false := by
  unfold tickB
  rcases h with h | h
  · rw [decide_eq_false (show ¬0 ≤ now by omega)]; rfl
  · rw [decide_eq_false (show ¬now ≤ 1099511627776 by omega), Bool.and_false]
theorem idx_no {i : Int} {p : PartV} (h : i < 0 ∨ 8 ≤ i) : newOk i p = false := by
  unfold newOk newB
  rcases h with h | h
  · rw [decide_eq_false (show ¬0 ≤ i by omega)]; rfl
  · rw [decide_eq_false (show ¬i < 8 by omega), Bool.false_and, Bool.and_false]
theorem lev_no {l : Int} (h : 2 ≤ l) : newOk 0 (twoP l) = false := by
  have e0 : levelB l = false := by unfold levelB; rw [decide_eq_false (show ¬l = 0 by omega), decide_eq_false (show ¬l = 1 by omega)]; rfl
  have e1 : partsB [twoP l] = false := by
    unfold partsB
    rw [show allB [twoP l].length (fun i => levelB (partAt [twoP l] i).level) = false from allB_false (i := 0) (show 0 < 1 by omega) e0, Bool.and_false, Bool.and_false]
  have e2 : checkN (alone (twoP l)) = 502 := by
    unfold checkN
    rw [show (alone (twoP l)).parts = [twoP l] from rfl, e1]
    rfl
  unfold newOk newB
  rw [e2]
  rfl
/-- Two tasks of one Prio. -/
def tA1 : TaskV := ⟨0, 10, 8, 2, 2, 1⟩
def twoQ : PartV := ⟨0, [tA1, tB], []⟩
theorem two_no : newOk 0 twoQ = false := by kernel_rfl
def lfS (q : Nat) : LocV := ⟨0, 1, [tA, tB], [⟨-1, []⟩, ⟨-1, List.replicate q 3⟩], [0, 0], []⟩
theorem lf_new : newL 0 (twoP 1) = lfS 0 := by kernel_rfl
theorem lf_ok : newOk 0 (twoP 1) = true := by kernel_rfl
theorem lf_pick (q : Nat) (h : q < 4) : pickN (lfS q) 1 3 3 = 0 ∧ pickL (lfS q) 1 3 3 = lfS (q + 1) ∧ pickV (lfS q) 1 3 3 = [] := by
  rcases (by omega : q = 0 ∨ q = 1 ∨ q = 2 ∨ q = 3) with rfl | rfl | rfl | rfl <;> exact ⟨by kernel_rfl, by kernel_rfl, by kernel_rfl⟩
theorem lf_full : pickN (lfS 4) 1 5 3 = 1101 := by kernel_rfl
theorem lf_dem {x : Int} (h : x < 1) : pickN (lfS 0) 1 x 3 = 1100 := by
  have e : U.demMay x = false := by unfold U.demMay; rw [decide_eq_false (show ¬1 ≤ x by omega)]; rfl
  have h1 : pickN (lfS 0) 1 x 3 = pickE tB ⟨-1, []⟩ x := by unfold pickN; rw [if_pos (by rfl)]; rfl
  rw [h1]
  unfold pickE
  rw [e, Bool.and_false, Bool.and_false]
  rfl
set_option maxRecDepth 100000 in
set_option maxHeartbeats 16000000 in
theorem two_own (l : Int) (W : World) : Calls Tryz.prog 29 #[.int .i64 l] W fun e w' => ∃ g, e = .returned (.agg #[.int .i64 l, .slice (some ⟨g, 0, none⟩) 2 2, .slice none 0 0]) ∧ w'.ownsRow W.heap.size 73 6 (.slice (some ⟨g, 0, none⟩) 2 2) 2 (shT.cells [tA, tB]) ∧ W.grownBy w' none := by
  go_enter Tryz.func29, Tryz.ntmps29
  go_upto_region 1 with (first | fail)
  have HR := hide (heap_alloc_new W (.cells #[.int .i64 0, .slice none 0 0, .slice none 0 0] 25))
  have HG := hide (World.grownBy_alloc W (.cells #[.int .i64 0, .slice none 0 0, .slice none 0 0] 25) none)
  generalize W.alloc (.cells #[.int .i64 0, .slice none 0 0, .slice none 0 0] 25) = W1 at *
  generalize hB : W.heap.size = B at *
  have HB := hide hB
  clear hB
  have hg := World.grownBy_alloc W1 (.cells #[.int .i64 0, .int .i64 10, .int .i64 8, .int .i64 2, .int .i64 2, .int .i64 5, .int .i64 1, .int .i64 6, .int .i64 6, .int .i64 3, .int .i64 3, .int .i64 1] 73) none
  have HR1 := hide (box_grown HR.out hg (by simp))
  have HT := hide (show (W1.alloc (.cells #[.int .i64 0, .int .i64 10, .int .i64 8, .int .i64 2, .int .i64 2, .int .i64 5, .int .i64 1, .int .i64 6, .int .i64 6, .int .i64 3, .int .i64 3, .int .i64 1] 73)).ownsRow W.heap.size 73 6 (.slice (some ⟨W1.heap.size, 0, none⟩) 2 2) 2 (shT.cells [tA, tB]) from own_mono (World.ownsRow_lit W1 #[.int .i64 0, .int .i64 10, .int .i64 8, .int .i64 2, .int .i64 2, .int .i64 5, .int .i64 1, .int .i64 6, .int .i64 6, .int .i64 3, .int .i64 3, .int .i64 1] 2 (Nat.le_refl _) (by unfold maxLen; omega) (by simp)) HG.out.size)
  have HG1 := hide (grownBy_trans HG.out hg)
  clear hg
  go_wp2_with (first | ((with_reducible refine J.list_store 25 (.tmp 2) (.tmp 7) B #[.int .i64 l, .slice (some ⟨W1.heap.size, 0, none⟩) 2 2, .slice none 0 0] 25 #[.int .i64 0, .slice none 0 0, .slice none 0 0] ?hx ?hy ?hg ?hi ?ho ?h1 ?_); (case hx => rfl); (case hy => rfl); (case hg => exact HR1.out); (case hi => exact sizePt); (case ho => rfl); (case h1 => simp [Value.oneCell']); intro w8 h1 e1 g1; have HRn := hide h1; have HGn := hide (grown_spoil HG1.out (by rw [HB.out]; exact Nat.le_refl _) g1); have HTn := hide (own_type HT.out g1 (type_box HR1.out) (by decide)); clear h1 e1 g1) | fail)
  refine bodyPost_ret (J.results_row rfl _ _ B 25 #[.int .i64 l, .slice (some ⟨W1.heap.size, 0, none⟩) 2 2, .slice none 0 0] (0, 0) _ rfl HRn.out Tryz.underlying25 rfl sizePt) rfl ?_
  exact ⟨_, rfl, HTn.out, HGn.out⟩
set_option maxRecDepth 100000 in
set_option maxHeartbeats 16000000 in
theorem forms_any (a0 a1 : Int) (w : World) (hT : Tab w) : Calls Tryz.prog 7 #[.int .i64 a0, .int .i64 a1] w fun e w' => e = .returned (.bool true) ∧ w.grownBy w' none := by
  have HT := hide (fun V (hg : w.grownBy V none) => hT.grown hg)
  have HG := hide (grownBy_refl w none)
  obtain ⟨c, hc, ec⟩ := and6 a1
  obtain ⟨e6, he6, ee⟩ := rem6 a0
  clear hT
  have CA := hide (fun V hT => awake_any V hT)
  go_enter Tryz.func7, Tryz.ntmps7
  go_wp2_with (first | (go_at_call 13; refine (num_any _ _).mono ?_; rintro e w' ⟨rfl, rfl⟩) | fail)
  refine (CA.out _ (HT.out _ HG.out)).mono ?_; rintro e W1 ⟨rfl, hg⟩
  have HGn := hide (grownBy_trans HG.out hg)
  clear HG
  have HG := HGn
  clear HGn
  clear hg
  go_wp2_with (first | (go_at_call 13; refine (num_any _ _).mono ?_; rintro e w' ⟨rfl, rfl⟩) | fail)
  refine (two_any 1 _).mono ?_; rintro e W2 ⟨g1, rfl, hp, hg⟩
  have HGn := hide (grownBy_trans HG.out hg)
  clear HG
  have HG := HGn
  clear HGn
  clear hg
  have HP := hide hp
  clear hp
  go_wp2_with (first | (go_at_call 13; refine (num_any _ _).mono ?_; rintro e w' ⟨rfl, rfl⟩) | fail)
  refine (new_no (q := twoM 1 g1) (p := twoP 1) (-(1 + (c : Int))) _ (HT.out _ HG.out) (HP.out.mono (Nat.zero_le _)) (idx_no (by omega))).mono ?_; rintro e W3 ⟨rfl, hg⟩
  have HGn := hide (grownBy_trans HG.out hg)
  clear HG
  have HG := HGn
  clear HGn
  clear hg
  clear HP
  go_wp2_with (first | (go_at_call 13; refine (num_any _ _).mono ?_; rintro e w' ⟨rfl, rfl⟩) | fail)
  refine (two_any 1 _).mono ?_; rintro e W4 ⟨g2, rfl, hp, hg⟩
  have HGn := hide (grownBy_trans HG.out hg)
  clear HG
  have HG := HGn
  clear HGn
  clear hg
  have HP := hide hp
  clear hp
  go_wp2_with (first | (go_at_call 13; refine (num_any _ _).mono ?_; rintro e w' ⟨rfl, rfl⟩) | fail)
  refine (new_no (q := twoM 1 g2) (p := twoP 1) (7 + (1 + (c : Int))) _ (HT.out _ HG.out) (HP.out.mono (Nat.zero_le _)) (idx_no (by omega))).mono ?_; rintro e W5 ⟨rfl, hg⟩
  have HGn := hide (grownBy_trans HG.out hg)
  clear HG
  have HG := HGn
  clear HGn
  clear hg
  clear HP
  go_wp2_with (first | (go_at_call 13; refine (num_any _ _).mono ?_; rintro e w' ⟨rfl, rfl⟩) | fail)
  refine (two_any (1 + (1 + (c : Int))) _).mono ?_; rintro e W6 ⟨g3, rfl, hp, hg⟩
  have HGn := hide (grownBy_trans HG.out hg)
  clear HG
  have HG := HGn
  clear HGn
  clear hg
  have HP := hide hp
  clear hp
  go_wp2_with (first | (go_at_call 13; refine (num_any _ _).mono ?_; rintro e w' ⟨rfl, rfl⟩) | fail)
  refine (new_no (q := twoM (1 + (1 + (c : Int))) g3) (p := twoP (1 + (1 + (c : Int)))) 0 _ (HT.out _ HG.out) (HP.out.mono (Nat.zero_le _)) (lev_no (by omega))).mono ?_; rintro e W7 ⟨rfl, hg⟩
  have HGn := hide (grownBy_trans HG.out hg)
  clear HG
  have HG := HGn
  clear HGn
  clear hg
  clear HP
  go_wp2_with (first | (go_at_call 13; refine (num_any _ _).mono ?_; rintro e w' ⟨rfl, rfl⟩) | fail)
  refine (two_own 0 _).mono ?_; rintro e W8 ⟨g4, rfl, ho, hg⟩
  have HO := hide (own_mono ho (show w.heap.size ≤ _ from HG.out.size))
  have HGn := hide (grownBy_trans HG.out hg)
  clear HG
  have HG := HGn
  clear HGn ho hg
  go_upto_region 8 with (first | (go_at_call 13; refine (num_any _ _).mono ?_; rintro e w' ⟨rfl, rfl⟩) | fail)
  have hg := World.grownBy_alloc W8 (.cells #[.int .i64 0, .slice (some ⟨g4, 0, none⟩) 2 2, .slice none 0 0] 25) none
  have HPX := hide (heap_alloc_new W8 (.cells #[.int .i64 0, .slice (some ⟨g4, 0, none⟩) 2 2, .slice none 0 0] 25))
  have HOn := hide (own_kept HO.out hg)
  have HGn := hide (grownBy_trans HG.out hg)
  clear HO HG hg
  have HO := HOn
  have HG := HGn
  clear HOn HGn
  generalize W8.alloc (.cells #[.int .i64 0, .slice (some ⟨g4, 0, none⟩) 2 2, .slice none 0 0] 25) = W9 at *
  generalize W8.heap.size = BP at *
  have HGT := hide (own_ge HO.out)
  have HS0 : Hid ((fun V => V.heap[BP]? = some (.cells #[.int .i64 0, .slice (some ⟨g4, 0, none⟩) 2 2, .slice none 0 0] 25 (0, 0)) ∧ V.cell? ⟨g4, 11, none⟩ = some (.int .i64 1)) W9) := hide ⟨HPX.out, own_cell (S := shT) HO.out (j := 1) (x := tB) rfl (i := 5) rfl⟩
  refine wp_region_held_drew (S := fun V => V.heap[BP]? = some (.cells #[.int .i64 0, .slice (some ⟨g4, 0, none⟩) 2 2, .slice none 0 0] 25 (0, 0)) ∧ V.cell? ⟨g4, 11, none⟩ = some (.int .i64 1)) (by kernel_rfl) HS0.out (fun hHeld => ?_)
  have hgd := grownBy_draws W9 1 none
  have HOd := hide (own_kept HO.out hgd)
  have HGd := hide (grownBy_trans HG.out hgd)
  have HSd : Hid ((fun V => V.heap[BP]? = some (.cells #[.int .i64 0, .slice (some ⟨g4, 0, none⟩) 2 2, .slice none 0 0] 25 (0, 0)) ∧ V.cell? ⟨g4, 11, none⟩ = some (.int .i64 1)) (W9.drewN 1)) := hide HS0.out
  have hdd : W9.drewN 1 = W9.drew := rfl
  rw [hdd] at HOd HGd HSd
  clear hdd hgd HO HG HS0 HPX
  generalize W9.drew = Z0 at *
  refine take_put (i := 0) (v := .pointer (some ⟨BP, 1, none⟩)) 55 rfl rfl (by kernel_rfl) (by kernel_rfl) (by kernel_rfl) (fun _ _ _ h => h) (Or.inl ⟨by rfl, by intro Wy hSW; go_simp⟩) (by assumption) ?_
  (try simp only [Act.put, List.setIfInBounds_toArray, List.set_cons_zero, List.set_cons_succ])
  refine take_put (i := 1) (v := .slice (some ⟨g4, 0, none⟩) 2 2) 56 rfl rfl (by kernel_rfl) (by kernel_rfl) (by kernel_rfl) (fun _ _ _ h => h) (Or.inl ⟨by rfl, by intro Wy hSW; have hc := blk_cell hSW.1 1; go_simp⟩) (by assumption) ?_
  (try simp only [Act.put, List.setIfInBounds_toArray, List.set_cons_zero, List.set_cons_succ])
  refine take_put (i := 2) (v := .pointer (some ⟨BP, 1, none⟩)) 57 rfl rfl (by kernel_rfl) (by kernel_rfl) (by kernel_rfl) (fun _ _ _ h => h) (Or.inl ⟨by rfl, by intro Wy hSW; go_simp⟩) (by assumption) ?_
  (try simp only [Act.put, List.setIfInBounds_toArray, List.set_cons_zero, List.set_cons_succ])
  refine take_put (i := 3) (v := .slice (some ⟨g4, 0, none⟩) 2 2) 58 rfl rfl (by kernel_rfl) (by kernel_rfl) (by kernel_rfl) (fun _ _ _ h => h) (Or.inl ⟨by rfl, by intro Wy hSW; have hc := blk_cell hSW.1 1; go_simp⟩) (by assumption) ?_
  (try simp only [Act.put, List.setIfInBounds_toArray, List.set_cons_zero, List.set_cons_succ])
  refine take_put (i := 4) (v := .pointer (some ⟨g4, 6, none⟩)) 59 rfl rfl (by kernel_rfl) (by kernel_rfl) (by kernel_rfl) (fun _ _ _ h => h) (Or.inl ⟨by rfl, by intro Wy hSW; go_simp⟩) (by assumption) ?_
  (try simp only [Act.put, List.setIfInBounds_toArray, List.set_cons_zero, List.set_cons_succ])
  refine take_put (i := 5) (v := .pointer (some ⟨g4, 11, none⟩)) 60 rfl rfl (by kernel_rfl) (by kernel_rfl) (by kernel_rfl) (fun _ _ _ h => h) (Or.inl ⟨by rfl, by intro Wy hSW; go_simp⟩) (by assumption) ?_
  (try simp only [Act.put, List.setIfInBounds_toArray, List.set_cons_zero, List.set_cons_succ])
  refine take_put (i := 6) (v := .int .i64 1) 61 rfl rfl (by kernel_rfl) (by kernel_rfl) (by kernel_rfl) (fun _ _ _ h => h) (Or.inl ⟨by rfl, by intro Wy hSW; have hc := hSW.2; go_simp⟩) (by assumption) ?_
  (try simp only [Act.put, List.setIfInBounds_toArray, List.set_cons_zero, List.set_cons_succ])
  refine take_put (i := 7) (v := .pointer (some ⟨g4, 0, none⟩)) 62 rfl rfl (by kernel_rfl) (by kernel_rfl) (by kernel_rfl) (fun _ _ _ h => h) (Or.inl ⟨by rfl, by intro Wy hSW; go_simp⟩) (by assumption) ?_
  (try simp only [Act.put, List.setIfInBounds_toArray, List.set_cons_zero, List.set_cons_succ])
  refine take_put (i := 8) (v := .pointer (some ⟨g4, 5, none⟩)) 63 rfl rfl (by kernel_rfl) (by kernel_rfl) (by kernel_rfl) (fun _ _ _ h => h) (Or.inl ⟨by rfl, by intro Wy hSW; go_simp⟩) (by assumption) ?_
  (try simp only [Act.put, List.setIfInBounds_toArray, List.set_cons_zero, List.set_cons_succ])
  refine wpAnyH_ready (rs := [9]) (by kernel_rfl) (by simp) ?_
  refine AllReadyH.cons rfl (fun Kx hKx => ?_) AllReadyH.nil
  have k5 : Z0.cell? ⟨g4, 5, none⟩ = some (.int .i64 5) := own_cell (S := shT) HOd.out (j := 0) (x := tA) rfl (i := 5) rfl
  have f5 := own_free (k := 6) HOd.out 5
  go_simp
  clear k5 f5
  have HO := hide (show (Z0.setCell ⟨g4, 5, none⟩ (.int .i64 1)).ownsRow w.heap.size 73 6 (.slice (some ⟨g4, 0, none⟩) 2 2) 2 (shT.cells [tA1, tB]) from own_set (S := shT) HOd.out (j := 0) (x := tA) rfl (i := 5) (by decide) (u := .int .i64 1) (x' := tA1) rfl)
  have hgs := grownBy_set Z0 g4 5 (.int .i64 1)
  have HG := hide (grown_spoil HGd.out HGT.out.1 hgs)
  have HS1 : Hid ((fun V => V.heap[BP]? = some (.cells #[.int .i64 0, .slice (some ⟨g4, 0, none⟩) 2 2, .slice none 0 0] 25 (0, 0)) ∧ V.cell? ⟨g4, 11, none⟩ = some (.int .i64 1)) (Z0.setCell ⟨g4, 5, none⟩ (.int .i64 1))) := hide ⟨J.box_type HSd.out.1 hgs (type_own HOd.out) (by decide), own_cell (S := shT) HO.out (j := 1) (x := tB) rfl (i := 5) rfl⟩
  clear hHeld hgs HOd HGd HSd
  refine hKx.out _ _ HS1.out (fun hHeld => ?_)
  clear hKx Kx
  (try simp only [Act.put])
  refine wpAnyH_done (by kernel_rfl) ?_ _
  clear hHeld
  have HPI : Hid (PartIs 0 (Z0.setCell ⟨g4, 5, none⟩ (.int .i64 1)) ⟨0, some ⟨g4, 0, none⟩, 2, 2, none, 0, 0⟩ twoQ) := hide ⟨rfl, RowAt.mono (rowAt_own (S := shT) HO.out) (Nat.zero_le _), rowAt_nil _ _ _ _⟩
  have b0 := blk_cell HS1.out.1 0
  have b1 := blk_cell HS1.out.1 1
  have b2 := blk_cell HS1.out.1 2
  clear HO
  generalize (Z0.setCell ⟨g4, 5, none⟩ (.int .i64 1)) = Y0 at *
  go_wp2_with (first | (go_at_call 13; refine (num_any _ _).mono ?_; rintro e w' ⟨rfl, rfl⟩) | fail)
  refine (new_no 0 _ (HT.out _ HG.out) HPI.out two_no).mono ?_; rintro e W10 ⟨rfl, hg⟩
  clear b0 b1 b2 HPI HS1 HGT
  have HGn := hide (grownBy_trans HG.out hg)
  clear HG hg
  have HG := HGn
  clear HGn
  go_wp2_with (first | (go_at_call 13; refine (num_any _ _).mono ?_; rintro e w' ⟨rfl, rfl⟩) | fail)
  refine (two_any 1 _).mono ?_; rintro e W11 ⟨g5, rfl, hp, hg⟩
  have HGn := hide (grownBy_trans HG.out hg)
  clear HG
  have HG := HGn
  clear HGn
  clear hg
  have HP := hide hp
  clear hp
  go_wp2_with (first | (go_at_call 13; refine (num_any _ _).mono ?_; rintro e w' ⟨rfl, rfl⟩) | fail)
  refine (lnew (q := twoM 1 g5) (p := twoP 1) 0 HG.out (HT.out _ HG.out) (HP.out.mono (Nat.zero_le _)) lf_ok).mono ?_; rintro e W12 ⟨b, rfl, hX, hg, -⟩
  rw [lf_new] at hX
  have HGn := hide (hg)
  clear HG
  have HG := HGn
  clear HGn
  have HX := hide hX
  clear hX hg HP CA HT
  go_upto_region 15 with (first | (go_at_call 13; refine (num_any _ _).mono ?_; rintro e w' ⟨rfl, rfl⟩) | fail)
  rcases (by omega : e6 = 0 ∨ e6 = 1 ∨ e6 = 2 ∨ e6 = 3 ∨ e6 = 4 ∨ e6 = 5) with rfl | rfl | rfl | rfl | rfl | rfl
  · skip
    have HF := hide (pick_no (L := lfS 0) (i := (1 + (1 + (c : Int)))) (d := 5) (now := 3) (by unfold pickOk; rw [decide_eq_false (show ¬(1 + (1 + (c : Int))) < ((lfS 0).tasks.length : Int) by show ¬(1 + (1 + (c : Int))) < ((2 : Nat) : Int); omega), Bool.false_and, Bool.and_false]))
    go_wp2_with (first | (go_at_call 13; refine (num_any _ _).mono ?_; rintro e w' ⟨rfl, rfl⟩) | fail)
    refine (lpick (1 + (1 + (c : Int))) 5 3 HG.out HX.out HF.out.1 HF.out.2.1 HF.out.2.2 (ln := 0) rfl).mono ?_; rintro e W13 ⟨az1, cz1, rfl, hX, ho, hg, hk⟩
    have HGn := hide (hg)
    have HXn := hide (hX)
    clear HG HX
    have HG := HGn
    have HX := HXn
    clear HGn HXn
    clear hX ho hg hk
    have HB1 := hide (begin_no (L := (lfS 0)) (now := -(1 + (c : Int))) (tick_no (by omega)))
    have HB2 := hide (begin_no (L := (lfS 0)) (now := 1099511627776 + (1 + (c : Int))) (tick_no (by omega)))
    go_wp2_with (first | (go_at_call 13; refine (num_any _ _).mono ?_; rintro e w' ⟨rfl, rfl⟩) | fail)
    refine (lbegin (-(1 + (c : Int))) HG.out HX.out (by decide) HB1.out.1 HB1.out.2.1 HB1.out.2.2 (ln := 0) rfl).mono ?_; rintro e W14 ⟨az2, cz2, rfl, hX, ho, hg, hk⟩
    have HGn := hide (hg)
    have HXn := hide (hX)
    clear HG HX
    have HG := HGn
    have HX := HXn
    clear HGn HXn
    clear hX ho hg hk
    go_wp2_with (first | (go_at_call 13; refine (num_any _ _).mono ?_; rintro e w' ⟨rfl, rfl⟩) | fail)
    refine (lbegin (1099511627776 + (1 + (c : Int))) HG.out HX.out (by decide) HB2.out.1 HB2.out.2.1 HB2.out.2.2 (ln := 0) rfl).mono ?_; rintro e W15 ⟨az3, cz3, rfl, hX, ho, hg, hk⟩
    have HGn := hide (hg)
    have HXn := hide (hX)
    clear HG HX
    have HG := HGn
    have HX := HXn
    clear HGn HXn
    clear hX ho hg hk
    go_wp2_with (first | (go_at_call 13; refine (num_any _ _).mono ?_; rintro e w' ⟨rfl, rfl⟩) | fail)
    go_ret
    exact ⟨rfl, HG.out⟩
  · skip
    have HF := hide (pick_no (L := lfS 0) (i := (-(1 + (c : Int)))) (d := 5) (now := 3) (by unfold pickOk; rw [decide_eq_false (show ¬(0 : Int) ≤ (-(1 + (c : Int))) by omega)]; rfl))
    go_wp2_with (first | (go_at_call 13; refine (num_any _ _).mono ?_; rintro e w' ⟨rfl, rfl⟩) | fail)
    refine (lpick (-(1 + (c : Int))) 5 3 HG.out HX.out HF.out.1 HF.out.2.1 HF.out.2.2 (ln := 0) rfl).mono ?_; rintro e W13 ⟨az1, cz1, rfl, hX, ho, hg, hk⟩
    have HGn := hide (hg)
    have HXn := hide (hX)
    clear HG HX
    have HG := HGn
    have HX := HXn
    clear HGn HXn
    clear hX ho hg hk
    have HB1 := hide (begin_no (L := (lfS 0)) (now := -(1 + (c : Int))) (tick_no (by omega)))
    have HB2 := hide (begin_no (L := (lfS 0)) (now := 1099511627776 + (1 + (c : Int))) (tick_no (by omega)))
    go_wp2_with (first | (go_at_call 13; refine (num_any _ _).mono ?_; rintro e w' ⟨rfl, rfl⟩) | fail)
    refine (lbegin (-(1 + (c : Int))) HG.out HX.out (by decide) HB1.out.1 HB1.out.2.1 HB1.out.2.2 (ln := 0) rfl).mono ?_; rintro e W14 ⟨az2, cz2, rfl, hX, ho, hg, hk⟩
    have HGn := hide (hg)
    have HXn := hide (hX)
    clear HG HX
    have HG := HGn
    have HX := HXn
    clear HGn HXn
    clear hX ho hg hk
    go_wp2_with (first | (go_at_call 13; refine (num_any _ _).mono ?_; rintro e w' ⟨rfl, rfl⟩) | fail)
    refine (lbegin (1099511627776 + (1 + (c : Int))) HG.out HX.out (by decide) HB2.out.1 HB2.out.2.1 HB2.out.2.2 (ln := 0) rfl).mono ?_; rintro e W15 ⟨az3, cz3, rfl, hX, ho, hg, hk⟩
    have HGn := hide (hg)
    have HXn := hide (hX)
    clear HG HX
    have HG := HGn
    have HX := HXn
    clear HGn HXn
    clear hX ho hg hk
    go_wp2_with (first | (go_at_call 13; refine (num_any _ _).mono ?_; rintro e w' ⟨rfl, rfl⟩) | fail)
    go_ret
    exact ⟨rfl, HG.out⟩
  · skip
    have HF := hide (pick_no (L := lfS 0) (i := 1) (d := 5) (now := (-(1 + (c : Int)))) (by unfold pickOk; rw [tick_no (by omega), Bool.and_false, Bool.and_false]))
    go_wp2_with (first | (go_at_call 13; refine (num_any _ _).mono ?_; rintro e w' ⟨rfl, rfl⟩) | fail)
    refine (lpick 1 5 (-(1 + (c : Int))) HG.out HX.out HF.out.1 HF.out.2.1 HF.out.2.2 (ln := 0) rfl).mono ?_; rintro e W13 ⟨az1, cz1, rfl, hX, ho, hg, hk⟩
    have HGn := hide (hg)
    have HXn := hide (hX)
    clear HG HX
    have HG := HGn
    have HX := HXn
    clear HGn HXn
    clear hX ho hg hk
    have HB1 := hide (begin_no (L := (lfS 0)) (now := -(1 + (c : Int))) (tick_no (by omega)))
    have HB2 := hide (begin_no (L := (lfS 0)) (now := 1099511627776 + (1 + (c : Int))) (tick_no (by omega)))
    go_wp2_with (first | (go_at_call 13; refine (num_any _ _).mono ?_; rintro e w' ⟨rfl, rfl⟩) | fail)
    refine (lbegin (-(1 + (c : Int))) HG.out HX.out (by decide) HB1.out.1 HB1.out.2.1 HB1.out.2.2 (ln := 0) rfl).mono ?_; rintro e W14 ⟨az2, cz2, rfl, hX, ho, hg, hk⟩
    have HGn := hide (hg)
    have HXn := hide (hX)
    clear HG HX
    have HG := HGn
    have HX := HXn
    clear HGn HXn
    clear hX ho hg hk
    go_wp2_with (first | (go_at_call 13; refine (num_any _ _).mono ?_; rintro e w' ⟨rfl, rfl⟩) | fail)
    refine (lbegin (1099511627776 + (1 + (c : Int))) HG.out HX.out (by decide) HB2.out.1 HB2.out.2.1 HB2.out.2.2 (ln := 0) rfl).mono ?_; rintro e W15 ⟨az3, cz3, rfl, hX, ho, hg, hk⟩
    have HGn := hide (hg)
    have HXn := hide (hX)
    clear HG HX
    have HG := HGn
    have HX := HXn
    clear HGn HXn
    clear hX ho hg hk
    go_wp2_with (first | (go_at_call 13; refine (num_any _ _).mono ?_; rintro e w' ⟨rfl, rfl⟩) | fail)
    go_ret
    exact ⟨rfl, HG.out⟩
  · skip
    have HF := hide (pick_no (L := lfS 0) (i := 1) (d := 5) (now := (1099511627776 + (1 + (c : Int)))) (by unfold pickOk; rw [tick_no (by omega), Bool.and_false, Bool.and_false]))
    go_wp2_with (first | (go_at_call 13; refine (num_any _ _).mono ?_; rintro e w' ⟨rfl, rfl⟩) | fail)
    refine (lpick 1 5 (1099511627776 + (1 + (c : Int))) HG.out HX.out HF.out.1 HF.out.2.1 HF.out.2.2 (ln := 0) rfl).mono ?_; rintro e W13 ⟨az1, cz1, rfl, hX, ho, hg, hk⟩
    have HGn := hide (hg)
    have HXn := hide (hX)
    clear HG HX
    have HG := HGn
    have HX := HXn
    clear HGn HXn
    clear hX ho hg hk
    have HB1 := hide (begin_no (L := (lfS 0)) (now := -(1 + (c : Int))) (tick_no (by omega)))
    have HB2 := hide (begin_no (L := (lfS 0)) (now := 1099511627776 + (1 + (c : Int))) (tick_no (by omega)))
    go_wp2_with (first | (go_at_call 13; refine (num_any _ _).mono ?_; rintro e w' ⟨rfl, rfl⟩) | fail)
    refine (lbegin (-(1 + (c : Int))) HG.out HX.out (by decide) HB1.out.1 HB1.out.2.1 HB1.out.2.2 (ln := 0) rfl).mono ?_; rintro e W14 ⟨az2, cz2, rfl, hX, ho, hg, hk⟩
    have HGn := hide (hg)
    have HXn := hide (hX)
    clear HG HX
    have HG := HGn
    have HX := HXn
    clear HGn HXn
    clear hX ho hg hk
    go_wp2_with (first | (go_at_call 13; refine (num_any _ _).mono ?_; rintro e w' ⟨rfl, rfl⟩) | fail)
    refine (lbegin (1099511627776 + (1 + (c : Int))) HG.out HX.out (by decide) HB2.out.1 HB2.out.2.1 HB2.out.2.2 (ln := 0) rfl).mono ?_; rintro e W15 ⟨az3, cz3, rfl, hX, ho, hg, hk⟩
    have HGn := hide (hg)
    have HXn := hide (hX)
    clear HG HX
    have HG := HGn
    have HX := HXn
    clear HGn HXn
    clear hX ho hg hk
    go_wp2_with (first | (go_at_call 13; refine (num_any _ _).mono ?_; rintro e w' ⟨rfl, rfl⟩) | fail)
    go_ret
    exact ⟨rfl, HG.out⟩
  · skip
    go_wp2_with (first | (go_at_call 13; refine (num_any _ _).mono ?_; rintro e w' ⟨rfl, rfl⟩) | fail)
    refine (lpick 1 (1 - (1 + (c : Int))) 3 HG.out HX.out (lf_dem (by omega)) (pick_er (lf_dem (by omega)) (by decide)).1 (pick_er (lf_dem (by omega)) (by decide)).2 (ln := 0) rfl).mono ?_; rintro e W13 ⟨az1, cz1, rfl, hX, ho, hg, hk⟩
    have HGn := hide (hg)
    have HXn := hide (hX)
    clear HG HX
    have HG := HGn
    have HX := HXn
    clear HGn HXn
    clear hX ho hg hk
    have HB1 := hide (begin_no (L := (lfS 0)) (now := -(1 + (c : Int))) (tick_no (by omega)))
    have HB2 := hide (begin_no (L := (lfS 0)) (now := 1099511627776 + (1 + (c : Int))) (tick_no (by omega)))
    go_wp2_with (first | (go_at_call 13; refine (num_any _ _).mono ?_; rintro e w' ⟨rfl, rfl⟩) | fail)
    refine (lbegin (-(1 + (c : Int))) HG.out HX.out (by decide) HB1.out.1 HB1.out.2.1 HB1.out.2.2 (ln := 0) rfl).mono ?_; rintro e W14 ⟨az2, cz2, rfl, hX, ho, hg, hk⟩
    have HGn := hide (hg)
    have HXn := hide (hX)
    clear HG HX
    have HG := HGn
    have HX := HXn
    clear HGn HXn
    clear hX ho hg hk
    go_wp2_with (first | (go_at_call 13; refine (num_any _ _).mono ?_; rintro e w' ⟨rfl, rfl⟩) | fail)
    refine (lbegin (1099511627776 + (1 + (c : Int))) HG.out HX.out (by decide) HB2.out.1 HB2.out.2.1 HB2.out.2.2 (ln := 0) rfl).mono ?_; rintro e W15 ⟨az3, cz3, rfl, hX, ho, hg, hk⟩
    have HGn := hide (hg)
    have HXn := hide (hX)
    clear HG HX
    have HG := HGn
    have HX := HXn
    clear HGn HXn
    clear hX ho hg hk
    go_wp2_with (first | (go_at_call 13; refine (num_any _ _).mono ?_; rintro e w' ⟨rfl, rfl⟩) | fail)
    go_ret
    exact ⟨rfl, HG.out⟩
  · skip
    go_wp2_with (first | fail)
    go_loopw [21] (fun i V => ∃ (n : Nat), n ≤ 4 ∧ i = .int .i64 n ∧ Hid (PX w V b (lfS n) 0) ∧ Hid (w.grownBy V none)) (fun i _ => 4 - (intOf i).toNat)
    case atStart => exact ⟨0, by omega, rfl, HX, HG⟩
    case round =>
      clear HX HG
      obtain ⟨n, hn, rfl, HX, HG⟩ := hrel
      by_cases hlt : n < 4
      · have hn4 : (n : Int) < 4 := by omega
        have HF := hide (lf_pick n hlt)
        go_wp2_with (first | (go_at_call 13; refine (num_any _ _).mono ?_; rintro e w' ⟨rfl, rfl⟩) | fail)
        refine (lpick 1 3 3 HG.out HX.out HF.out.1 HF.out.2.1 HF.out.2.2 (ln := 0) rfl).mono ?_; rintro e W13 ⟨az1, cz1, rfl, hX, ho, hg, hk⟩
        have HGn := hide (hg)
        have HXn := hide (hX)
        clear HG HX
        have HG := HGn
        have HX := HXn
        clear HGn HXn
        clear hX ho hg hk
        go_wp2
        go_roundw
        case rel => exact ⟨n + 1, by omega, by first | rfl | go_num, HX, HG⟩
        case measure => first | (simp [intOf]; omega) | simp [intOf]
      · obtain rfl : n = 4 := by omega
        go_wp2_with (first | (go_at_call 13; refine (num_any _ _).mono ?_; rintro e w' ⟨rfl, rfl⟩) | fail)
        refine (lpick 1 5 3 HG.out HX.out lf_full (pick_er lf_full (by decide)).1 (pick_er lf_full (by decide)).2 (ln := 0) rfl).mono ?_; rintro e W13 ⟨az1, cz1, rfl, hX, ho, hg, hk⟩
        have HGn := hide (hg)
        have HXn := hide (hX)
        clear HG HX
        have HG := HGn
        have HX := HXn
        clear HGn HXn
        clear hX ho hg hk
        have HB1 := hide (begin_no (L := (lfS 4)) (now := -(1 + (c : Int))) (tick_no (by omega)))
        have HB2 := hide (begin_no (L := (lfS 4)) (now := 1099511627776 + (1 + (c : Int))) (tick_no (by omega)))
        go_wp2_with (first | (go_at_call 13; refine (num_any _ _).mono ?_; rintro e w' ⟨rfl, rfl⟩) | fail)
        refine (lbegin (-(1 + (c : Int))) HG.out HX.out (by decide) HB1.out.1 HB1.out.2.1 HB1.out.2.2 (ln := 0) rfl).mono ?_; rintro e W14 ⟨az2, cz2, rfl, hX, ho, hg, hk⟩
        have HGn := hide (hg)
        have HXn := hide (hX)
        clear HG HX
        have HG := HGn
        have HX := HXn
        clear HGn HXn
        clear hX ho hg hk
        go_wp2_with (first | (go_at_call 13; refine (num_any _ _).mono ?_; rintro e w' ⟨rfl, rfl⟩) | fail)
        refine (lbegin (1099511627776 + (1 + (c : Int))) HG.out HX.out (by decide) HB2.out.1 HB2.out.2.1 HB2.out.2.2 (ln := 0) rfl).mono ?_; rintro e W15 ⟨az3, cz3, rfl, hX, ho, hg, hk⟩
        have HGn := hide (hg)
        have HXn := hide (hX)
        clear HG HX
        have HG := HGn
        have HX := HXn
        clear HGn HXn
        clear hX ho hg hk
        go_wp2_with (first | (go_at_call 13; refine (num_any _ _).mono ?_; rintro e w' ⟨rfl, rfl⟩) | fail)
        go_ret
        exact ⟨rfl, HG.out⟩
#print axioms forms_any
end Go.Proofs.YtlppfocoonnpjaaGreatDoor.L

/- The walk of the statement DemandForms: tasks, numbers, lengths that are none; proved over the translation. -/
import Derived.Test.YtadolobbidpejaaAw8
namespace Go.Proofs.Ytadolobbidpejaa
open Go.RowKit
attribute [local go_sem] alloc_drewN setCell_drewN

theorem and_low (z : Int) (k : Nat) (hk : k < 63) (m : Int) (hm2 : (BitVec.ofInt 64 m).toNat = 2 ^ k - 1) : bits .and .i64 z m = z % 2 ^ k := by
  have key : (BitVec.ofInt 64 z &&& BitVec.ofInt 64 m).toNat = (z % ((2 ^ 64 : Nat) : Int)).toNat % 2 ^ k := by
    rw [BitVec.toNat_and, BitVec.toNat_ofInt, hm2, Nat.and_two_pow_sub_one_eq_mod]
  show IntKind.i64.wrap ((BitVec.ofInt 64 z &&& BitVec.ofInt 64 m).toNat : Nat) = z % 2 ^ k
  rw [key, IntKind.wrap_i64]
  have hp : (2 : Nat) ^ k ∣ 2 ^ 64 := Nat.pow_dvd_pow 2 (by omega)
  have hlt : (2 : Nat) ^ k ≤ 2 ^ 62 := Nat.pow_le_pow_right (by decide) (by omega)
  have hpos : 0 < (2 : Nat) ^ k := Nat.pow_pos (by decide)
  have e1 : (((z % ((2 ^ 64 : Nat) : Int)).toNat % 2 ^ k : Nat) : Int) = z % 2 ^ k := by
    rw [Int.natCast_emod, Int.toNat_of_nonneg (Int.emod_nonneg _ (by decide))]
    have : ((2 ^ k : Nat) : Int) ∣ ((2 ^ 64 : Nat) : Int) := Int.natCast_dvd_natCast.2 hp
    rw [Int.emod_emod_of_dvd _ this]
    simp
  have h2 : (z % ((2 ^ 64 : Nat) : Int)).toNat % 2 ^ k < 2 ^ k := Nat.mod_lt _ hpos
  rw [← e1]
  have h3 : (((z % ((2 ^ 64 : Nat) : Int)).toNat % 2 ^ k : Nat) : Int) < 4611686018427387904 := by
    have : (2 : Nat) ^ 62 = 4611686018427387904 := by decide
    omega
  generalize (z % ((2 ^ 64 : Nat) : Int)).toNat % 2 ^ k = x at *
  omega
theorem and63 (z : Int) : ∃ c : Int, 0 ≤ c ∧ c ≤ 63 ∧ bits .and .i64 z 63 = c := ⟨z % 64, by omega, by omega, and_low z 6 (by decide) 63 (by decide)⟩
theorem umod10 (z : Int) : ∃ c : Nat, c < 10 ∧ (IntKind.u64.wrap z).tmod 10 = (c : Int) := by
  have h0 : 0 ≤ IntKind.u64.wrap z := by rw [IntKind.wrap_u64]; omega
  rw [Int.tmod_eq_emod_of_nonneg h0]
  exact ⟨((IntKind.u64.wrap z) % 10).toNat, by omega, by omega⟩
theorem no_task {ts : List TaskV} {i len : Int} {j : Nat} (hj : j < ts.length) (h : taskMay (taskAt ts j) = false) : okB ts i len = false := by
  unfold okB rtasksB
  rw [allB_false hj (by unfold rtaskB; rw [h]; rfl), Bool.false_and]
theorem bound_two_no {W : World} {b : Nat} {t0 t1 : TaskV} (h : Two W b t0 t1) (h0 : TFit t0) (h1 : TFit t1) {i len : Int} (hn : okB [t0, t1] i len = false) :
    Calls Try.prog 9 #[.slice (some ⟨b, 0, none⟩) 2 2, .int .i64 i, .int .i64 len] W fun e w' => e = .returned (.tuple #[.int .i64 0, .int .i64 800]) ∧ W.grownBy w' none :=
  bound_two h h0 h1 i len 0 800 (bound_no hn).1 (bound_no hn).2
theorem bound_nil (W : World) (i len : Int) :
    Calls Try.prog 9 #[.slice none 0 0, .int .i64 i, .int .i64 len] W fun e w' => e = .returned (.tuple #[.int .i64 0, .int .i64 800]) ∧ W.grownBy w' none := by
  have hn : okB [] i len = false := by
    cases h : okB [] i len with
    | false => rfl
    | true => have := okB_true.1 h; simp at this; omega
  have := bound_any (lo := 0) (.slice none 0 0) [] i len W (rowAt_nil _ _ _ _) (fits_of fun t ht => by simp at ht) (by simp)
  rw [(bound_no hn).1, (bound_no hn).2] at this
  exact this
theorem not_ok {ts : List TaskV} {i len : Int} (h : i < 0 ∨ (ts.length : Int) ≤ i ∨ len < 0 ∨ 4096 < len) : okB ts i len = false := by
  cases h2 : okB ts i len with
  | false => rfl
  | true => have := okB_true.1 h2; omega

set_option maxRecDepth 100000 in
set_option maxHeartbeats 2000000 in
theorem forms_0 (which x : Int) (hc : (IntKind.u64.wrap which).tmod 10 = 0) (w : World) :
    Calls Try.prog 5 #[.int .i64 which, .int .i64 x] w fun e w' => e = .returned (.bool true) ∧ w.grownBy w' none := by
  have NUM := hide num_any
  obtain ⟨y, hy0, hy1, hy⟩ := and63 x
  go_enter Try.func5, Try.ntmps5
  go_wp2_with (first | fail)
  refine (awake_any w).mono ?_; rintro e w0 ⟨rfl, hg⟩
  have G0 := hide hg
  clear hg
  go_upto_region 6 with fail
  generalize hw1 : w0.alloc _ = w1
  have G1 := hide (show w.grownBy w1 none by rw [← hw1]; exact grownBy_trans G0.out (World.grownBy_alloc _ _ _))
  have T1 := hide (show Two w1 w0.heap.size a0 a1 by rw [← hw1]; exact (MapKept.heap_alloc w0 _).1)
  have HB := hide (show w.heap.size ≤ w0.heap.size from G0.out.size)
  generalize w0.heap.size = b at *
  clear hw1
  go_wp2_with (first | fail)
  refine (bound_two T1.out fa0 fa1 0 5 7 0 (by kernel_rfl) (by kernel_rfl)).mono ?_; rintro e w2 ⟨rfl, hg⟩
  have G2 := hide (grownBy_trans G1.out hg)
  have T2 := hide (T1.out.grown hg)
  clear hg
  go_wp2_with (first | fail)
  refine (bound_two_no T2.out fa0 fa1 (not_ok (.inl (by omega)))).mono ?_
  rintro e w6 ⟨rfl, hg⟩
  have G6 := hide (grownBy_trans (G2.out) hg)
  clear hg
  go_wp2_with (go_at_call 11; refine (NUM.out _ _).mono ?_; rintro e w' ⟨rfl, rfl⟩)
  go_ret
  exact ⟨rfl, G6.out⟩

set_option maxRecDepth 100000 in
set_option maxHeartbeats 2000000 in
theorem forms_1 (which x : Int) (hc : (IntKind.u64.wrap which).tmod 10 = 1) (w : World) :
    Calls Try.prog 5 #[.int .i64 which, .int .i64 x] w fun e w' => e = .returned (.bool true) ∧ w.grownBy w' none := by
  have NUM := hide num_any
  obtain ⟨y, hy0, hy1, hy⟩ := and63 x
  go_enter Try.func5, Try.ntmps5
  go_wp2_with (first | fail)
  refine (awake_any w).mono ?_; rintro e w0 ⟨rfl, hg⟩
  have G0 := hide hg
  clear hg
  go_upto_region 6 with fail
  generalize hw1 : w0.alloc _ = w1
  have G1 := hide (show w.grownBy w1 none by rw [← hw1]; exact grownBy_trans G0.out (World.grownBy_alloc _ _ _))
  have T1 := hide (show Two w1 w0.heap.size a0 a1 by rw [← hw1]; exact (MapKept.heap_alloc w0 _).1)
  have HB := hide (show w.heap.size ≤ w0.heap.size from G0.out.size)
  generalize w0.heap.size = b at *
  clear hw1
  go_wp2_with (first | fail)
  refine (bound_two T1.out fa0 fa1 0 5 7 0 (by kernel_rfl) (by kernel_rfl)).mono ?_; rintro e w2 ⟨rfl, hg⟩
  have G2 := hide (grownBy_trans G1.out hg)
  have T2 := hide (T1.out.grown hg)
  clear hg
  go_wp2_with (first | fail)
  refine (bound_two_no T2.out fa0 fa1 (not_ok (.inr (.inl (by simp; omega))))).mono ?_
  rintro e w6 ⟨rfl, hg⟩
  have G6 := hide (grownBy_trans (G2.out) hg)
  clear hg
  go_wp2_with (go_at_call 11; refine (NUM.out _ _).mono ?_; rintro e w' ⟨rfl, rfl⟩)
  go_ret
  exact ⟨rfl, G6.out⟩

set_option maxRecDepth 100000 in
set_option maxHeartbeats 2000000 in
theorem forms_2 (which x : Int) (hc : (IntKind.u64.wrap which).tmod 10 = 2) (w : World) :
    Calls Try.prog 5 #[.int .i64 which, .int .i64 x] w fun e w' => e = .returned (.bool true) ∧ w.grownBy w' none := by
  have NUM := hide num_any
  obtain ⟨y, hy0, hy1, hy⟩ := and63 x
  go_enter Try.func5, Try.ntmps5
  go_wp2_with (first | fail)
  refine (awake_any w).mono ?_; rintro e w0 ⟨rfl, hg⟩
  have G0 := hide hg
  clear hg
  go_upto_region 6 with fail
  generalize hw1 : w0.alloc _ = w1
  have G1 := hide (show w.grownBy w1 none by rw [← hw1]; exact grownBy_trans G0.out (World.grownBy_alloc _ _ _))
  have T1 := hide (show Two w1 w0.heap.size a0 a1 by rw [← hw1]; exact (MapKept.heap_alloc w0 _).1)
  have HB := hide (show w.heap.size ≤ w0.heap.size from G0.out.size)
  generalize w0.heap.size = b at *
  clear hw1
  go_wp2_with (first | fail)
  refine (bound_two T1.out fa0 fa1 0 5 7 0 (by kernel_rfl) (by kernel_rfl)).mono ?_; rintro e w2 ⟨rfl, hg⟩
  have G2 := hide (grownBy_trans G1.out hg)
  have T2 := hide (T1.out.grown hg)
  clear hg
  go_wp2_with (first | fail)
  refine (bound_two_no T2.out fa0 fa1 (not_ok (.inr (.inr (.inl (by omega)))))).mono ?_
  rintro e w6 ⟨rfl, hg⟩
  have G6 := hide (grownBy_trans (G2.out) hg)
  clear hg
  go_wp2_with (go_at_call 11; refine (NUM.out _ _).mono ?_; rintro e w' ⟨rfl, rfl⟩)
  go_ret
  exact ⟨rfl, G6.out⟩

set_option maxRecDepth 100000 in
set_option maxHeartbeats 2000000 in
theorem forms_3 (which x : Int) (hc : (IntKind.u64.wrap which).tmod 10 = 3) (w : World) :
    Calls Try.prog 5 #[.int .i64 which, .int .i64 x] w fun e w' => e = .returned (.bool true) ∧ w.grownBy w' none := by
  have NUM := hide num_any
  obtain ⟨y, hy0, hy1, hy⟩ := and63 x
  go_enter Try.func5, Try.ntmps5
  go_wp2_with (first | fail)
  refine (awake_any w).mono ?_; rintro e w0 ⟨rfl, hg⟩
  have G0 := hide hg
  clear hg
  go_upto_region 6 with fail
  generalize hw1 : w0.alloc _ = w1
  have G1 := hide (show w.grownBy w1 none by rw [← hw1]; exact grownBy_trans G0.out (World.grownBy_alloc _ _ _))
  have T1 := hide (show Two w1 w0.heap.size a0 a1 by rw [← hw1]; exact (MapKept.heap_alloc w0 _).1)
  have HB := hide (show w.heap.size ≤ w0.heap.size from G0.out.size)
  generalize w0.heap.size = b at *
  clear hw1
  go_wp2_with (first | fail)
  refine (bound_two T1.out fa0 fa1 0 5 7 0 (by kernel_rfl) (by kernel_rfl)).mono ?_; rintro e w2 ⟨rfl, hg⟩
  have G2 := hide (grownBy_trans G1.out hg)
  have T2 := hide (T1.out.grown hg)
  clear hg
  go_wp2_with (first | fail)
  refine (bound_two_no T2.out fa0 fa1 (not_ok (.inr (.inr (.inr (by omega)))))).mono ?_
  rintro e w6 ⟨rfl, hg⟩
  have G6 := hide (grownBy_trans (G2.out) hg)
  clear hg
  go_wp2_with (go_at_call 11; refine (NUM.out _ _).mono ?_; rintro e w' ⟨rfl, rfl⟩)
  go_ret
  exact ⟨rfl, G6.out⟩

set_option maxRecDepth 100000 in
set_option maxHeartbeats 2000000 in
theorem forms_4 (which x : Int) (hc : (IntKind.u64.wrap which).tmod 10 = 4) (w : World) :
    Calls Try.prog 5 #[.int .i64 which, .int .i64 x] w fun e w' => e = .returned (.bool true) ∧ w.grownBy w' none := by
  have NUM := hide num_any
  obtain ⟨y, hy0, hy1, hy⟩ := and63 x
  go_enter Try.func5, Try.ntmps5
  go_wp2_with (first | fail)
  refine (awake_any w).mono ?_; rintro e w0 ⟨rfl, hg⟩
  have G0 := hide hg
  clear hg
  go_upto_region 6 with fail
  generalize hw1 : w0.alloc _ = w1
  have G1 := hide (show w.grownBy w1 none by rw [← hw1]; exact grownBy_trans G0.out (World.grownBy_alloc _ _ _))
  have T1 := hide (show Two w1 w0.heap.size a0 a1 by rw [← hw1]; exact (MapKept.heap_alloc w0 _).1)
  have HB := hide (show w.heap.size ≤ w0.heap.size from G0.out.size)
  generalize w0.heap.size = b at *
  clear hw1
  go_wp2_with (first | fail)
  refine (bound_two T1.out fa0 fa1 0 5 7 0 (by kernel_rfl) (by kernel_rfl)).mono ?_; rintro e w2 ⟨rfl, hg⟩
  have G2 := hide (grownBy_trans G1.out hg)
  have T2 := hide (T1.out.grown hg)
  clear hg
  have d5 : w2.cell? ⟨b, 11, none⟩ = some (.int .i64 1) := blk_cell T2.out 11
  have e5 := blk_free T2.out 11
  have G3 := hide (fun u => grown_spoil G2.out HB.out (grownBy_set w2 b 11 u))
  go_wp2_with (first | fail)
  refine (bound_two_no (t0 := a0) (t1 := a2) (show Two _ _ _ _ from blk_set T2.out rfl) fa0 fa2 (by kernel_rfl)).mono ?_
  rintro e w6 ⟨rfl, hg⟩
  have G6 := hide (grownBy_trans (G3.out _) hg)
  clear hg
  go_wp2_with (go_at_call 11; refine (NUM.out _ _).mono ?_; rintro e w' ⟨rfl, rfl⟩)
  go_ret
  exact ⟨rfl, G6.out⟩

set_option maxRecDepth 100000 in
set_option maxHeartbeats 2000000 in
theorem forms_5 (which x : Int) (hc : (IntKind.u64.wrap which).tmod 10 = 5) (w : World) :
    Calls Try.prog 5 #[.int .i64 which, .int .i64 x] w fun e w' => e = .returned (.bool true) ∧ w.grownBy w' none := by
  have NUM := hide num_any
  obtain ⟨y, hy0, hy1, hy⟩ := and63 x
  go_enter Try.func5, Try.ntmps5
  go_wp2_with (first | fail)
  refine (awake_any w).mono ?_; rintro e w0 ⟨rfl, hg⟩
  have G0 := hide hg
  clear hg
  go_upto_region 6 with fail
  generalize hw1 : w0.alloc _ = w1
  have G1 := hide (show w.grownBy w1 none by rw [← hw1]; exact grownBy_trans G0.out (World.grownBy_alloc _ _ _))
  have T1 := hide (show Two w1 w0.heap.size a0 a1 by rw [← hw1]; exact (MapKept.heap_alloc w0 _).1)
  have HB := hide (show w.heap.size ≤ w0.heap.size from G0.out.size)
  generalize w0.heap.size = b at *
  clear hw1
  go_wp2_with (first | fail)
  refine (bound_two T1.out fa0 fa1 0 5 7 0 (by kernel_rfl) (by kernel_rfl)).mono ?_; rintro e w2 ⟨rfl, hg⟩
  have G2 := hide (grownBy_trans G1.out hg)
  have T2 := hide (T1.out.grown hg)
  clear hg
  have d5 : w2.cell? ⟨b, 7, none⟩ = some (.int .i64 4) := blk_cell T2.out 7
  have e5 := blk_free T2.out 7
  have G3 := hide (fun u => grown_spoil G2.out HB.out (grownBy_set w2 b 7 u))
  have CB := hide (fun (z : Int) (hz : (-100000 ≤ z ∧ z ≤ 100000) ∧ z ≤ 0) => bound_two_no (W := w2.setCell ⟨b, 7, none⟩ (.int .i64 z)) (t0 := a0) (t1 := ⟨0, z, 4, 1, 2, 1⟩) (i := 0) (len := 5) (show Two _ _ _ _ from blk_set T2.out rfl) fa0 (tfit_of (by omega) (by omega) (by omega) (by omega) (by omega) (by omega)) (no_task (j := 1) (by simp) (by show taskMay ⟨0, z, 4, 1, 2, 1⟩ = false; unfold taskMay; simp; omega)))
  go_wp2_with (first | fail)
  refine (CB.out _ ?hz).mono ?_
  case hz => omega
  rintro e w6 ⟨rfl, hg⟩
  have G6 := hide (grownBy_trans (G3.out _) hg)
  clear hg
  go_wp2_with (go_at_call 11; refine (NUM.out _ _).mono ?_; rintro e w' ⟨rfl, rfl⟩)
  go_ret
  exact ⟨rfl, G6.out⟩

set_option maxRecDepth 100000 in
set_option maxHeartbeats 2000000 in
theorem forms_6 (which x : Int) (hc : (IntKind.u64.wrap which).tmod 10 = 6) (w : World) :
    Calls Try.prog 5 #[.int .i64 which, .int .i64 x] w fun e w' => e = .returned (.bool true) ∧ w.grownBy w' none := by
  have NUM := hide num_any
  obtain ⟨y, hy0, hy1, hy⟩ := and63 x
  go_enter Try.func5, Try.ntmps5
  go_wp2_with (first | fail)
  refine (awake_any w).mono ?_; rintro e w0 ⟨rfl, hg⟩
  have G0 := hide hg
  clear hg
  go_upto_region 6 with fail
  generalize hw1 : w0.alloc _ = w1
  have G1 := hide (show w.grownBy w1 none by rw [← hw1]; exact grownBy_trans G0.out (World.grownBy_alloc _ _ _))
  have T1 := hide (show Two w1 w0.heap.size a0 a1 by rw [← hw1]; exact (MapKept.heap_alloc w0 _).1)
  have HB := hide (show w.heap.size ≤ w0.heap.size from G0.out.size)
  generalize w0.heap.size = b at *
  clear hw1
  go_wp2_with (first | fail)
  refine (bound_two T1.out fa0 fa1 0 5 7 0 (by kernel_rfl) (by kernel_rfl)).mono ?_; rintro e w2 ⟨rfl, hg⟩
  have G2 := hide (grownBy_trans G1.out hg)
  have T2 := hide (T1.out.grown hg)
  clear hg
  have d5 : w2.cell? ⟨b, 3, none⟩ = some (.int .i64 2) := blk_cell T2.out 3
  have e5 := blk_free T2.out 3
  have G3 := hide (fun u => grown_spoil G2.out HB.out (grownBy_set w2 b 3 u))
  have CB := hide (fun (z : Int) (hz : (-100000 ≤ z ∧ z ≤ 100000) ∧ 3 < z) => bound_two_no (W := w2.setCell ⟨b, 3, none⟩ (.int .i64 z)) (t0 := ⟨0, 10, 10, z, 3, 5⟩) (t1 := a1) (i := 0) (len := 5) (show Two _ _ _ _ from blk_set T2.out rfl) (tfit_of (by omega) (by omega) (by omega) (by omega) (by omega) (by omega)) fa1 (no_task (j := 0) (by simp) (by show taskMay ⟨0, 10, 10, z, 3, 5⟩ = false; unfold taskMay; simp; omega)))
  go_wp2_with (first | fail)
  refine (CB.out _ ?hz).mono ?_
  case hz => omega
  rintro e w6 ⟨rfl, hg⟩
  have G6 := hide (grownBy_trans (G3.out _) hg)
  clear hg
  go_wp2_with (go_at_call 11; refine (NUM.out _ _).mono ?_; rintro e w' ⟨rfl, rfl⟩)
  go_ret
  exact ⟨rfl, G6.out⟩

set_option maxRecDepth 100000 in
set_option maxHeartbeats 2000000 in
theorem forms_7 (which x : Int) (hc : (IntKind.u64.wrap which).tmod 10 = 7) (w : World) :
    Calls Try.prog 5 #[.int .i64 which, .int .i64 x] w fun e w' => e = .returned (.bool true) ∧ w.grownBy w' none := by
  have NUM := hide num_any
  obtain ⟨y, hy0, hy1, hy⟩ := and63 x
  go_enter Try.func5, Try.ntmps5
  go_wp2_with (first | fail)
  refine (awake_any w).mono ?_; rintro e w0 ⟨rfl, hg⟩
  have G0 := hide hg
  clear hg
  go_upto_region 6 with fail
  generalize hw1 : w0.alloc _ = w1
  have G1 := hide (show w.grownBy w1 none by rw [← hw1]; exact grownBy_trans G0.out (World.grownBy_alloc _ _ _))
  have T1 := hide (show Two w1 w0.heap.size a0 a1 by rw [← hw1]; exact (MapKept.heap_alloc w0 _).1)
  have HB := hide (show w.heap.size ≤ w0.heap.size from G0.out.size)
  generalize w0.heap.size = b at *
  clear hw1
  go_wp2_with (first | fail)
  refine (bound_two T1.out fa0 fa1 0 5 7 0 (by kernel_rfl) (by kernel_rfl)).mono ?_; rintro e w2 ⟨rfl, hg⟩
  have G2 := hide (grownBy_trans G1.out hg)
  have T2 := hide (T1.out.grown hg)
  clear hg
  have d5 : w2.cell? ⟨b, 5, none⟩ = some (.int .i64 5) := blk_cell T2.out 5
  have e5 := blk_free T2.out 5
  have G3 := hide (fun u => grown_spoil G2.out HB.out (grownBy_set w2 b 5 u))
  have CB := hide (fun (z : Int) (hz : (-100000 ≤ z ∧ z ≤ 100000) ∧ 255 < z) => bound_two_no (W := w2.setCell ⟨b, 5, none⟩ (.int .i64 z)) (t0 := ⟨0, 10, 10, 2, 3, z⟩) (t1 := a1) (i := 0) (len := 5) (show Two _ _ _ _ from blk_set T2.out rfl) (tfit_of (by omega) (by omega) (by omega) (by omega) (by omega) (by omega)) fa1 (no_task (j := 0) (by simp) (by show taskMay ⟨0, 10, 10, 2, 3, z⟩ = false; unfold taskMay; simp; omega)))
  go_wp2_with (first | fail)
  refine (CB.out _ ?hz).mono ?_
  case hz => omega
  rintro e w6 ⟨rfl, hg⟩
  have G6 := hide (grownBy_trans (G3.out _) hg)
  clear hg
  go_wp2_with (go_at_call 11; refine (NUM.out _ _).mono ?_; rintro e w' ⟨rfl, rfl⟩)
  go_ret
  exact ⟨rfl, G6.out⟩

set_option maxRecDepth 100000 in
set_option maxHeartbeats 2000000 in
theorem forms_8 (which x : Int) (hc : (IntKind.u64.wrap which).tmod 10 = 8) (w : World) :
    Calls Try.prog 5 #[.int .i64 which, .int .i64 x] w fun e w' => e = .returned (.bool true) ∧ w.grownBy w' none := by
  have NUM := hide num_any
  obtain ⟨y, hy0, hy1, hy⟩ := and63 x
  go_enter Try.func5, Try.ntmps5
  go_wp2_with (first | fail)
  refine (awake_any w).mono ?_; rintro e w0 ⟨rfl, hg⟩
  have G0 := hide hg
  clear hg
  go_upto_region 6 with fail
  generalize hw1 : w0.alloc _ = w1
  have G1 := hide (show w.grownBy w1 none by rw [← hw1]; exact grownBy_trans G0.out (World.grownBy_alloc _ _ _))
  have T1 := hide (show Two w1 w0.heap.size a0 a1 by rw [← hw1]; exact (MapKept.heap_alloc w0 _).1)
  have HB := hide (show w.heap.size ≤ w0.heap.size from G0.out.size)
  generalize w0.heap.size = b at *
  clear hw1
  go_wp2_with (first | fail)
  refine (bound_two T1.out fa0 fa1 0 5 7 0 (by kernel_rfl) (by kernel_rfl)).mono ?_; rintro e w2 ⟨rfl, hg⟩
  have G2 := hide (grownBy_trans G1.out hg)
  have T2 := hide (T1.out.grown hg)
  clear hg
  have d5 : w2.cell? ⟨b, 4, none⟩ = some (.int .i64 3) := blk_cell T2.out 4
  have e5 := blk_free T2.out 4
  have G3 := hide (fun u => grown_spoil G2.out HB.out (grownBy_set w2 b 4 u))
  have CB := hide (fun (z : Int) (hz : (-100000 ≤ z ∧ z ≤ 100000) ∧ 10 < z) => bound_two_no (W := w2.setCell ⟨b, 4, none⟩ (.int .i64 z)) (t0 := ⟨0, 10, 10, 2, z, 5⟩) (t1 := a1) (i := 0) (len := 5) (show Two _ _ _ _ from blk_set T2.out rfl) (tfit_of (by omega) (by omega) (by omega) (by omega) (by omega) (by omega)) fa1 (no_task (j := 0) (by simp) (by show taskMay ⟨0, 10, 10, 2, z, 5⟩ = false; unfold taskMay; simp; omega)))
  go_wp2_with (first | fail)
  refine (CB.out _ ?hz).mono ?_
  case hz => omega
  rintro e w6 ⟨rfl, hg⟩
  have G6 := hide (grownBy_trans (G3.out _) hg)
  clear hg
  go_wp2_with (go_at_call 11; refine (NUM.out _ _).mono ?_; rintro e w' ⟨rfl, rfl⟩)
  go_ret
  exact ⟨rfl, G6.out⟩

set_option maxRecDepth 100000 in
set_option maxHeartbeats 2000000 in
theorem forms_9 (which x : Int) (hc : (IntKind.u64.wrap which).tmod 10 = 9) (w : World) :
    Calls Try.prog 5 #[.int .i64 which, .int .i64 x] w fun e w' => e = .returned (.bool true) ∧ w.grownBy w' none := by
  have NUM := hide num_any
  obtain ⟨y, hy0, hy1, hy⟩ := and63 x
  go_enter Try.func5, Try.ntmps5
  go_wp2_with (first | fail)
  refine (awake_any w).mono ?_; rintro e w0 ⟨rfl, hg⟩
  have G0 := hide hg
  clear hg
  go_upto_region 6 with fail
  generalize hw1 : w0.alloc _ = w1
  have G1 := hide (show w.grownBy w1 none by rw [← hw1]; exact grownBy_trans G0.out (World.grownBy_alloc _ _ _))
  have T1 := hide (show Two w1 w0.heap.size a0 a1 by rw [← hw1]; exact (MapKept.heap_alloc w0 _).1)
  have HB := hide (show w.heap.size ≤ w0.heap.size from G0.out.size)
  generalize w0.heap.size = b at *
  clear hw1
  go_wp2_with (first | fail)
  refine (bound_two T1.out fa0 fa1 0 5 7 0 (by kernel_rfl) (by kernel_rfl)).mono ?_; rintro e w2 ⟨rfl, hg⟩
  have G2 := hide (grownBy_trans G1.out hg)
  have T2 := hide (T1.out.grown hg)
  clear hg
  go_wp2_with (first | fail)
  refine (bound_nil _ _ _).mono ?_
  rintro e w6 ⟨rfl, hg⟩
  have G6 := hide (grownBy_trans (G2.out) hg)
  clear hg
  go_wp2_with (go_at_call 11; refine (NUM.out _ _).mono ?_; rintro e w' ⟨rfl, rfl⟩)
  go_ret
  exact ⟨rfl, G6.out⟩

theorem forms_any (which x : Int) (w : World) :
    Calls Try.prog 5 #[.int .i64 which, .int .i64 x] w fun e w' => e = .returned (.bool true) ∧ w.grownBy w' none := by
  obtain ⟨c, hc, h⟩ := umod10 which
  rcases (by omega : c = 0 ∨ c = 1 ∨ c = 2 ∨ c = 3 ∨ c = 4 ∨ c = 5 ∨ c = 6 ∨ c = 7 ∨ c = 8 ∨ c = 9) with rfl | rfl | rfl | rfl | rfl | rfl | rfl | rfl | rfl | rfl
  · exact forms_0 which x h w
  · exact forms_1 which x h w
  · exact forms_2 which x h w
  · exact forms_3 which x h w
  · exact forms_4 which x h w
  · exact forms_5 which x h w
  · exact forms_6 which x h w
  · exact forms_7 which x h w
  · exact forms_8 which x h w
  · exact forms_9 which x h w
#print axioms forms_any
end Go.Proofs.Ytadolobbidpejaa

/- The walk of the law TickEdges: for every a and b it answers true and makes new memory alone. -/
import Derived.Test.YtnepbdbalniodaaAwake
import Derived.Deep.DeepFit
namespace Go.Proofs.Ytnepbdbalniodaa
open Go.RowKit Go.Lib
attribute [local go_sem] alloc_drewN setCell_drewN

theorem add_top (a : Int) (ha : 0 ≤ a) (ha' : a ≤ 18446744073709551615) (w : World) :
    Calls Try.prog 8 #[.int .u64 a, .int .u64 (18446744073709551615 - a)] w fun e w' => e = .returned (.tuple #[.int .u64 18446744073709551615, .int .i64 0]) ∧ w' = w := by
  have c := add_ok a (18446744073709551615 - a) ha (by omega) (by omega) w
  rw [show a + (18446744073709551615 - a) = 18446744073709551615 from by omega] at c
  exact c
theorem add_past (a : Int) (ha : 0 < a) (ha' : a ≤ 18446744073709551615) (w : World) :
    Calls Try.prog 8 #[.int .u64 a, .int .u64 (18446744073709551615 - (a - 1))] w fun e w' => e = .returned (.tuple #[.int .u64 0, .int .i64 100]) ∧ w' = w :=
  add_over a _ (by omega) (by omega) (by omega) w
theorem half_lt (a b : Int) (ha : 0 ≤ a) (ha' : a ≤ 18446744073709551615) (hb : 0 ≤ b) (hb' : b ≤ 18446744073709551615) : a / 4294967296 * (b / 4294967296) < 18446744073709551616 := by
  have h := Int.mul_le_mul (show a / 4294967296 ≤ 4294967295 by omega) (show b / 4294967296 ≤ 4294967295 by omega) (by omega) (by omega)
  omega
theorem mul_halves (a b : Int) (ha : 0 ≤ a) (ha' : a ≤ 18446744073709551615) (hb : 0 ≤ b) (hb' : b ≤ 18446744073709551615) (w : World) :
    Calls Try.prog 10 #[.int .u64 (a / 4294967296), .int .u64 (b / 4294967296)] w fun e w' => e = .returned (.tuple #[.int .u64 (a / 4294967296 * (b / 4294967296)), .int .i64 0]) ∧ w' = w :=
  mul_ok _ _ (by omega) (by omega) (by omega) (by omega) (half_lt a b ha ha' hb hb') w
theorem mul_one (a : Int) (ha : 0 ≤ a) (ha' : a ≤ 18446744073709551615) (w : World) :
    Calls Try.prog 10 #[.int .u64 (a / 4294967296), .int .u64 1] w fun e w' => e = .returned (.tuple #[.int .u64 (a / 4294967296), .int .i64 0]) ∧ w' = w := by
  have c := mul_ok (a / 4294967296) 1 (by omega) (by omega) (by omega) (by omega) (by omega) w
  rw [Int.mul_one] at c
  exact c
theorem mul_top (c : Int) (hc : 0 < c) (hc' : c ≤ 18446744073709551615) (w : World) :
    Calls Try.prog 10 #[.int .u64 c, .int .u64 (18446744073709551615 / c)] w fun e w' => e = .returned (.tuple #[.int .u64 (c * (18446744073709551615 / c)), .int .i64 0]) ∧ w' = w := by
  have h1 := Int.mul_ediv_self_le (x := 18446744073709551615) (k := c) (by omega)
  have h2 : 0 ≤ 18446744073709551615 / c := Int.ediv_nonneg (by omega) (by omega)
  have h3 : 18446744073709551615 / c ≤ 18446744073709551615 := Int.ediv_le_self _ (by omega)
  exact mul_ok _ _ (by omega) (by omega) h2 (by omega) (by omega) w
theorem top_quo (c : Int) (hc : 1 < c) : 0 ≤ 18446744073709551615 / c ∧ 18446744073709551615 / c ≤ 9223372036854775807 := by
  have h2 : 0 ≤ 18446744073709551615 / c := Int.ediv_nonneg (by omega) (by omega)
  have := Int.mul_ediv_self_le (x := 18446744073709551615) (k := c) (by omega)
  have h4 := Int.mul_le_mul_of_nonneg_right (a := 2) (b := c) (c := 18446744073709551615 / c) (by omega) h2
  omega
theorem mul_past (c : Int) (hc : 1 < c) (hc' : c ≤ 18446744073709551615) (w : World) :
    Calls Try.prog 10 #[.int .u64 c, .int .u64 (18446744073709551615 / c + 1)] w fun e w' => e = .returned (.tuple #[.int .u64 0, .int .i64 100]) ∧ w' = w := by
  have h1 := Int.lt_mul_ediv_self_add (x := 18446744073709551615) (k := c) (by omega)
  have h2 := top_quo c hc
  exact mul_over _ _ (by omega) (by omega) (by omega) (by omega) (by rw [Int.mul_add, Int.mul_one]; omega) w

theorem add_zero (w : World) :
    Calls Try.prog 8 #[.int .u64 0, .int .u64 0] w fun e w' => e = .returned (.tuple #[.int .u64 0, .int .i64 0]) ∧ w' = w :=
  add_ok 0 0 (by omega) (by omega) (by omega) w
theorem add_zero_top (w : World) :
    Calls Try.prog 8 #[.int .u64 0, .int .u64 18446744073709551615] w fun e w' => e = .returned (.tuple #[.int .u64 18446744073709551615, .int .i64 0]) ∧ w' = w :=
  add_top 0 (by omega) (by omega) w
theorem mul_zero_left (q : Int) (h : 0 ≤ q) (h' : q ≤ 18446744073709551615) (w : World) :
    Calls Try.prog 10 #[.int .u64 0, .int .u64 q] w fun e w' => e = .returned (.tuple #[.int .u64 0, .int .i64 0]) ∧ w' = w := by
  have c := mul_ok 0 q (by omega) (by omega) h (by omega) (by rw [Int.zero_mul]; omega) w
  rw [Int.zero_mul] at c
  exact c
theorem mul_zero_right (p : Int) (h : 0 ≤ p) (h' : p ≤ 18446744073709551615) (w : World) :
    Calls Try.prog 10 #[.int .u64 p, .int .u64 0] w fun e w' => e = .returned (.tuple #[.int .u64 0, .int .i64 0]) ∧ w' = w := by
  have c := mul_ok p 0 h (by omega) (by omega) (by omega) (by rw [Int.mul_zero]; omega) w
  rw [Int.mul_zero] at c
  exact c
theorem mul_one_top (w : World) :
    Calls Try.prog 10 #[.int .u64 1, .int .u64 18446744073709551615] w fun e w' => e = .returned (.tuple #[.int .u64 18446744073709551615, .int .i64 0]) ∧ w' = w :=
  mul_ok 1 18446744073709551615 (by omega) (by omega) (by omega) (by omega) (by omega) w

set_option maxRecDepth 100000 in
set_option maxHeartbeats 1000000 in
theorem edges_gg (a b : Int) (ha : 0 < a) (ha' : a ≤ 18446744073709551615) (hb : 1 < b) (hb' : b ≤ 18446744073709551615) (w : World) :
    Calls Try.prog 6 #[.int .u64 a, .int .u64 b] w fun e w' => e = .returned (.bool true) ∧ Grown w w' := by
  have c1 := hide (add_top a (by omega) ha')
  have c2 := hide (add_past a (by omega) ha')
  have c3 := hide (mul_halves a b (by omega) ha' (by omega) hb')
  have c4 := hide (mul_one a (by omega) ha')
  have c5 := hide (mul_top b (by omega) hb')
  have c6 := hide (mul_past b (by omega) hb')
  obtain ⟨t0, t1⟩ := top_quo b hb
  have hz : (b == 0) = false := by simp; omega
  have hm := half_lt a b (by omega) ha' (by omega) hb'
  have p1 : 0 ≤ a / 4294967296 ∧ a / 4294967296 ≤ 4294967295 := by omega
  have q1 : 0 ≤ b / 4294967296 ∧ b / 4294967296 ≤ 4294967295 := by omega
  generalize hp : a / 4294967296 = p at c3 c4 hm p1
  generalize hq : b / 4294967296 = q at c3 hm q1
  have hw : IntKind.u64.wrap (p * q) = p * q := by
    have := Int.mul_nonneg p1.1 q1.1
    rw [IntKind.wrap_u64]; omega
  obtain ⟨p0, p1⟩ := p1
  obtain ⟨q0, q1⟩ := q1
  clear hm
  go_enter Try.func6, Try.ntmps6
  go_wp2_with fail
  refine (awake_any _).mono ?_; rintro e w1 ⟨rfl, hg, _⟩
  go_wp2_with fail
  refine (c1.out _).mono ?_; rintro e w' ⟨rfl, rfl⟩
  go_wp2_with fail
  refine (c2.out _).mono ?_; rintro e w' ⟨rfl, rfl⟩
  go_wp2_with fail
  refine (c3.out _).mono ?_; rintro e w' ⟨rfl, rfl⟩
  go_wp2_with fail
  refine (c4.out _).mono ?_; rintro e w' ⟨rfl, rfl⟩
  go_wp2_with fail
  refine (c5.out _).mono ?_; rintro e w' ⟨rfl, rfl⟩
  go_wp2_with (go_at_call 16; refine (num_any _ _).mono ?_; rintro e w' ⟨rfl, rfl⟩)
  go_wp2_with fail
  go_fit (c6.out _); rintro e w' ⟨rfl, rfl⟩
  go_wp2_with (go_at_call 16; refine (num_any _ _).mono ?_; rintro e w' ⟨rfl, rfl⟩)
  go_ret
  exact ⟨rfl, hg⟩

set_option maxRecDepth 100000 in
set_option maxHeartbeats 1000000 in
theorem edges_zg (b : Int) (hb : 1 < b) (hb' : b ≤ 18446744073709551615) (w : World) :
    Calls Try.prog 6 #[.int .u64 0, .int .u64 b] w fun e w' => e = .returned (.bool true) ∧ Grown w w' := by
  have c3 := hide (mul_zero_left (b / 4294967296) (by omega) (by omega))
  have c5 := hide (mul_top b (by omega) hb')
  have c6 := hide (mul_past b (by omega) hb')
  obtain ⟨t0, t1⟩ := top_quo b hb
  have hz : (b == 0) = false := by simp; omega
  have q1 : 0 ≤ b / 4294967296 ∧ b / 4294967296 ≤ 4294967295 := by omega
  generalize hq : b / 4294967296 = q at c3 q1
  obtain ⟨q0, q1⟩ := q1
  go_enter Try.func6, Try.ntmps6
  go_wp2_with fail
  refine (awake_any _).mono ?_; rintro e w1 ⟨rfl, hg, _⟩
  go_wp2_with fail
  refine (add_zero_top _).mono ?_; rintro e w' ⟨rfl, rfl⟩
  go_wp2_with fail
  refine (add_zero _).mono ?_; rintro e w' ⟨rfl, rfl⟩
  go_wp2_with fail
  refine (c3.out _).mono ?_; rintro e w' ⟨rfl, rfl⟩
  go_wp2_with fail
  refine (mul_zero_left 1 (by omega) (by omega) _).mono ?_; rintro e w' ⟨rfl, rfl⟩
  go_wp2_with fail
  refine (c5.out _).mono ?_; rintro e w' ⟨rfl, rfl⟩
  go_wp2_with (go_at_call 16; refine (num_any _ _).mono ?_; rintro e w' ⟨rfl, rfl⟩)
  go_wp2_with fail
  go_fit (c6.out _); rintro e w' ⟨rfl, rfl⟩
  go_wp2_with (go_at_call 16; refine (num_any _ _).mono ?_; rintro e w' ⟨rfl, rfl⟩)
  go_ret
  exact ⟨rfl, hg⟩

set_option maxRecDepth 100000 in
set_option maxHeartbeats 1000000 in
theorem edges_g0 (a : Int) (ha : 0 < a) (ha' : a ≤ 18446744073709551615) (w : World) :
    Calls Try.prog 6 #[.int .u64 a, .int .u64 0] w fun e w' => e = .returned (.bool true) ∧ Grown w w' := by
  have c1 := hide (add_top a (by omega) ha')
  have c2 := hide (add_past a (by omega) ha')
  have c3 := hide (mul_zero_right (a / 4294967296) (by omega) (by omega))
  have c4 := hide (mul_one a (by omega) ha')
  have p1 : 0 ≤ a / 4294967296 ∧ a / 4294967296 ≤ 4294967295 := by omega
  generalize hp : a / 4294967296 = p at c3 c4 p1
  obtain ⟨p0, p1⟩ := p1
  go_enter Try.func6, Try.ntmps6
  go_wp2_with fail
  refine (awake_any _).mono ?_; rintro e w1 ⟨rfl, hg, _⟩
  go_wp2_with fail
  refine (c1.out _).mono ?_; rintro e w' ⟨rfl, rfl⟩
  go_wp2_with fail
  refine (c2.out _).mono ?_; rintro e w' ⟨rfl, rfl⟩
  go_wp2_with fail
  refine (c3.out _).mono ?_; rintro e w' ⟨rfl, rfl⟩
  go_wp2_with fail
  refine (c4.out _).mono ?_; rintro e w' ⟨rfl, rfl⟩
  go_wp2_with fail
  refine (mul_one_top _).mono ?_; rintro e w' ⟨rfl, rfl⟩
  go_wp2_with (go_at_call 16; refine (num_any _ _).mono ?_; rintro e w' ⟨rfl, rfl⟩)
  go_ret
  exact ⟨rfl, hg⟩

set_option maxRecDepth 100000 in
set_option maxHeartbeats 1000000 in
theorem edges_z0  (w : World) :
    Calls Try.prog 6 #[.int .u64 0, .int .u64 0] w fun e w' => e = .returned (.bool true) ∧ Grown w w' := by
  go_enter Try.func6, Try.ntmps6
  go_wp2_with fail
  refine (awake_any _).mono ?_; rintro e w1 ⟨rfl, hg, _⟩
  go_wp2_with fail
  refine (add_zero_top _).mono ?_; rintro e w' ⟨rfl, rfl⟩
  go_wp2_with fail
  refine (add_zero _).mono ?_; rintro e w' ⟨rfl, rfl⟩
  go_wp2_with fail
  refine (mul_zero_left 0 (by omega) (by omega) _).mono ?_; rintro e w' ⟨rfl, rfl⟩
  go_wp2_with fail
  refine (mul_zero_left 1 (by omega) (by omega) _).mono ?_; rintro e w' ⟨rfl, rfl⟩
  go_wp2_with fail
  refine (mul_one_top _).mono ?_; rintro e w' ⟨rfl, rfl⟩
  go_wp2_with (go_at_call 16; refine (num_any _ _).mono ?_; rintro e w' ⟨rfl, rfl⟩)
  go_ret
  exact ⟨rfl, hg⟩

set_option maxRecDepth 100000 in
set_option maxHeartbeats 1000000 in
theorem edges_g1 (a : Int) (ha : 0 < a) (ha' : a ≤ 18446744073709551615) (w : World) :
    Calls Try.prog 6 #[.int .u64 a, .int .u64 1] w fun e w' => e = .returned (.bool true) ∧ Grown w w' := by
  have c1 := hide (add_top a (by omega) ha')
  have c2 := hide (add_past a (by omega) ha')
  have c3 := hide (mul_zero_right (a / 4294967296) (by omega) (by omega))
  have c4 := hide (mul_one a (by omega) ha')
  have p1 : 0 ≤ a / 4294967296 ∧ a / 4294967296 ≤ 4294967295 := by omega
  generalize hp : a / 4294967296 = p at c3 c4 p1
  obtain ⟨p0, p1⟩ := p1
  go_enter Try.func6, Try.ntmps6
  go_wp2_with fail
  refine (awake_any _).mono ?_; rintro e w1 ⟨rfl, hg, _⟩
  go_wp2_with fail
  refine (c1.out _).mono ?_; rintro e w' ⟨rfl, rfl⟩
  go_wp2_with fail
  refine (c2.out _).mono ?_; rintro e w' ⟨rfl, rfl⟩
  go_wp2_with fail
  refine (c3.out _).mono ?_; rintro e w' ⟨rfl, rfl⟩
  go_wp2_with fail
  refine (c4.out _).mono ?_; rintro e w' ⟨rfl, rfl⟩
  go_wp2_with fail
  refine (mul_one_top _).mono ?_; rintro e w' ⟨rfl, rfl⟩
  go_wp2_with (go_at_call 16; refine (num_any _ _).mono ?_; rintro e w' ⟨rfl, rfl⟩)
  go_ret
  exact ⟨rfl, hg⟩

set_option maxRecDepth 100000 in
set_option maxHeartbeats 1000000 in
theorem edges_z1  (w : World) :
    Calls Try.prog 6 #[.int .u64 0, .int .u64 1] w fun e w' => e = .returned (.bool true) ∧ Grown w w' := by
  go_enter Try.func6, Try.ntmps6
  go_wp2_with fail
  refine (awake_any _).mono ?_; rintro e w1 ⟨rfl, hg, _⟩
  go_wp2_with fail
  refine (add_zero_top _).mono ?_; rintro e w' ⟨rfl, rfl⟩
  go_wp2_with fail
  refine (add_zero _).mono ?_; rintro e w' ⟨rfl, rfl⟩
  go_wp2_with fail
  refine (mul_zero_left 0 (by omega) (by omega) _).mono ?_; rintro e w' ⟨rfl, rfl⟩
  go_wp2_with fail
  refine (mul_zero_left 1 (by omega) (by omega) _).mono ?_; rintro e w' ⟨rfl, rfl⟩
  go_wp2_with fail
  refine (mul_one_top _).mono ?_; rintro e w' ⟨rfl, rfl⟩
  go_wp2_with (go_at_call 16; refine (num_any _ _).mono ?_; rintro e w' ⟨rfl, rfl⟩)
  go_ret
  exact ⟨rfl, hg⟩

theorem edges_walk (a b : Int) (ha : 0 ≤ a) (ha' : a ≤ 18446744073709551615) (hb : 0 ≤ b) (hb' : b ≤ 18446744073709551615) (w : World) :
    Calls Try.prog 6 #[.int .u64 a, .int .u64 b] w fun e w' => e = .returned (.bool true) ∧ Grown w w' := by
  by_cases h : a = 0
  · subst h
    by_cases h0 : b = 0
    · subst h0; exact edges_z0 w
    · by_cases h1 : b = 1
      · subst h1; exact edges_z1 w
      · exact edges_zg b (by omega) hb' w
  · by_cases h0 : b = 0
    · subst h0; exact edges_g0 a (by omega) ha' w
    · by_cases h1 : b = 1
      · subst h1; exact edges_g1 a (by omega) ha' w
      · exact edges_gg a b (by omega) ha' (by omega) hb' w
#print axioms edges_walk
end Go.Proofs.Ytnepbdbalniodaa

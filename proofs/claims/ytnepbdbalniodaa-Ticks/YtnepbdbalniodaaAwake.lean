/- The contract of the statements' own function awake, proved over the translation: it answers true and makes new memory alone. -/
import Derived.Test.YtnepbdbalniodaaCount
namespace Go.Proofs.Ytnepbdbalniodaa
open Go.RowKit Go.Lib

attribute [local go_sem] alloc_drewN setCell_drewN

theorem grown_drewN {W w : World} (h : Grown W w) (n : Nat) : Grown W (w.drewN n) := h

theorem lcm46 (w : World) :
    Calls Try.prog 12 #[.int .u64 4, .int .u64 6] w fun e w' => e = .returned (.tuple #[.int .u64 12, .int .i64 0]) ∧ ∃ n, w' = w.drewN n := by
  have e : (4 : Int) / gcdI 4 6 * 6 = 12 := by decide
  have c := lcm_ok 4 6 (by omega) (by omega) (by omega) (by omega) (by rw [e]; omega) w
  rw [e] at c
  exact c
theorem gcd46 (w : World) :
    Calls Try.prog 17 #[.int .u64 4, .int .u64 6] w fun e w' => e = .returned (.int .u64 2) ∧ ∃ n, w' = w.drewN n := by
  have e : gcdI 4 6 = 2 := by decide
  have c := gcd_any 4 6 (by omega) (by omega) (by omega) (by omega) w
  rw [e] at c
  exact c

theorem sum123 (b cap : Nat) (w : World) (h0 : w.cell? ⟨b, 0, none⟩ = some (.int .u64 1)) (h1 : w.cell? ⟨b, 1, none⟩ = some (.int .u64 2)) (h2 : w.cell? ⟨b, 2, none⟩ = some (.int .u64 3)) :
    Calls Try.prog 14 #[.slice (some ⟨b, 0, none⟩) 3 cap] w fun e w' => e = .returned (.tuple #[.int .u64 6, .int .i64 0]) ∧ w' = w := by
  have e : psum [1, 2, 3] 3 = 6 := by decide
  have c := sum_ok b 0 3 cap [1, 2, 3] (by simp) (by omega) (fun j => by
    match j with
    | 0 => decide
    | 1 => decide
    | 2 => decide
    | j + 3 => simp) w (fun k hk => by
    match k, hk with
    | 0, _ => simpa using h0
    | 1, _ => simpa using h1
    | 2, _ => simpa using h2) (by rw [e]; omega)
  rw [e] at c
  exact c

theorem count59 (b : Nat) (w : World) (h0 : w.cell? ⟨b, 0, none⟩ = some (.int .i64 5)) (h1 : w.cell? ⟨b, 1, none⟩ = some (.int .i64 0)) (h2 : w.frozen? ⟨b, 1, none⟩ = false) :
    Calls Try.prog 22 #[.pointer (some ⟨b, 0, none⟩), .int .i64 9] w fun e w' => e = .returned (.int .i64 0) ∧ ∃ n, w' = (w.setCell ⟨b, 1, none⟩ (.int .i64 5)).drewN n :=
  count_ok b 5 0 9 (by omega) (by omega) (by omega) (by omega) (by omega) w h0 h1 h2

set_option maxHeartbeats 1000000 in
theorem awake_any (w : World) :
    Calls Try.prog 19 #[] w fun e w' => e = .returned (.bool true) ∧ Grown w w' ∧ Below w.heap.size w w' := by
  go_enter Try.func19, Try.ntmps19
  go_wp2_with fail
  refine (add_over _ _ (by omega) (by omega) (by omega) _).mono ?_; rintro e w' ⟨rfl, rfl⟩
  go_wp2_with fail
  refine (mul_ok _ _ (by omega) (by omega) (by omega) (by omega) (by omega) _).mono ?_; rintro e w' ⟨rfl, rfl⟩
  go_wp2_with fail
  refine (lcm46 _).mono ?_; rintro e w' ⟨rfl, n1, rfl⟩
  go_wp2_with fail
  refine (sum123 _ _ _ (by simp) (by simp) (by simp)).mono ?_; rintro e w' ⟨rfl, rfl⟩
  go_wp2_with fail
  refine (new_ok _ (by omega) _).mono ?_; rintro e w' ⟨rfl, rfl⟩
  go_wp2_with fail
  refine (new_no _ (by omega) _).mono ?_; rintro e w' ⟨rfl, rfl⟩
  go_wp2_with (go_at_call 16; refine (num_any _ _).mono ?_; rintro e w' ⟨rfl, rfl⟩)
  refine (count59 _ _ (by simp) (by simp) (by simp)).mono ?_; rintro e w' ⟨rfl, n2, rfl⟩
  go_wp2_with fail
  refine (count_no _ _ (by omega) _).mono ?_; rintro e w' ⟨rfl, rfl⟩
  go_wp2_with (first | (go_at_call 16; refine (num_any _ _).mono ?_; rintro e w' ⟨rfl, rfl⟩) | (go_at_call 17; refine (gcd46 _).mono ?_; rintro e w' ⟨rfl, n3, rfl⟩) | (go_at_call 24; refine (value_any _ 5 _ (by simp)).mono ?_; rintro e w' ⟨rfl, rfl⟩) | (go_at_call 25; refine (full_any _ 5 5 _ (by simp) (by simp)).mono ?_; rintro e w' ⟨rfl, n4, rfl⟩))
  go_ret
  exact ⟨rfl, grown_drewN (((Grown.refl _).alloc _ _).alloc _ _) _, below_drewN (((Below.refl _ _).alloc (Nat.le_refl _) _).alloc (by simp) _) _⟩
#print axioms awake_any
end Go.Proofs.Ytnepbdbalniodaa

/- Contracts of package tick's Gcd and Lcm, proved over the translation: Gcd answers the greatest number that divides both, Lcm the least one above 0 that both divide, 0 where one is 0, ErrTickOver where it is 2^64 or more. -/
import Derived.Test.YtnepbdbalniodaaBase
import Derived.Deep.QuietTactic
import Derived.BigQuiet
import Derived.Outline
namespace Go.Proofs.Ytnepbdbalniodaa
open Go.RowKit Go.Lib

theorem ret_int {k : IntKind} {a b : Int} (h : a = b) : Ending.returned (.int k a) = .returned (.int k b) := by rw [h]
def gcdI (a b : Int) : Int := ((Nat.gcd a.toNat b.toNat : Nat) : Int)
theorem gcdI_zero (a : Int) (h : 0 ≤ a) : gcdI a 0 = a := by unfold gcdI; simp; omega
theorem gcdI_step (a b : Int) (ha : 0 ≤ a) (hb : 0 < b) : gcdI b (a % b) = gcdI a b := by
  obtain ⟨x, rfl⟩ := Int.eq_ofNat_of_zero_le ha
  obtain ⟨y, rfl⟩ := Int.eq_ofNat_of_zero_le (Int.le_of_lt hb)
  unfold gcdI
  have e : ((x : Int) % (y : Int)).toNat = x % y := by rw [← Int.natCast_emod, Int.toNat_natCast]
  rw [e, Int.toNat_natCast, Int.toNat_natCast, Nat.gcd_comm y, ← Nat.gcd_rec, Nat.gcd_comm]
theorem gcdI_nonneg (a b : Int) : 0 ≤ gcdI a b := by unfold gcdI; omega

set_option maxHeartbeats 400000 in
theorem gcd_any (a b : Int) (ha : 0 ≤ a) (ha' : a < 18446744073709551616) (hb : 0 ≤ b) (hb' : b < 18446744073709551616) (w : World) :
    Calls Try.prog 17 #[.int .u64 a, .int .u64 b] w fun e w' => e = .returned (.int .u64 (gcdI a b)) ∧ ∃ n, w' = w.drewN n := by
  go_enter Try.func17, Try.ntmps17
  go_wp2
  go_loopw [0, 1] (fun s t wr => ∃ x y : Int, 0 ≤ x ∧ x < 18446744073709551616 ∧ 0 ≤ y ∧ y < 18446744073709551616 ∧ s = .int .u64 x ∧ t = .int .u64 y ∧ Hid (gcdI x y = gcdI a b) ∧ ∃ n, wr = w.drewN n) (fun _ t _ => (intOf t).toNat)
  case atStart => exact ⟨a, b, ha, ha', hb, hb', rfl, rfl, rfl, 0, rfl⟩
  case round =>
    obtain ⟨x, y, hx, hx', hy, hy', rfl, rfl, hg, n, rfl⟩ := hrel
    by_cases hz : y = 0
    · subst hz
      go_wp2
      go_ret
      exact ⟨ret_int ((gcdI_zero x hx).symm.trans hg.out), n, rfl⟩
    · have h1 : (y != 0) = true := by rw [bne_iff_ne]; exact hz
      have h2 : 0 < y := by omega
      have h3 : 0 ≤ x % y := Int.emod_nonneg x hz
      have h4 : x % y < y := Int.emod_lt_of_pos x h2
      go_wp2
      go_quiet (fail)
      go_wp2
      go_roundw
      case rel => exact ⟨y, x % y, hy, hy', h3, by omega, rfl, rfl, hide ((gcdI_step x y hx h2).trans hg.out), _, World.drewN_drewN _ _ _⟩
      case measure => simp [intOf]; omega

theorem gcdI_comm (a b : Int) : gcdI a b = gcdI b a := by unfold gcdI; rw [Nat.gcd_comm]
theorem gcdI_pos (a b : Int) (ha : 0 < a) : 0 < gcdI a b := by
  unfold gcdI; have := Nat.gcd_pos_of_pos_left b.toNat (m := a.toNat) (by omega); omega
theorem gcdI_dvd_left (a b : Int) (ha : 0 ≤ a) : gcdI a b ∣ a := by
  obtain ⟨x, rfl⟩ := Int.eq_ofNat_of_zero_le ha
  unfold gcdI; exact Int.ofNat_dvd.2 (Nat.gcd_dvd_left _ _)
theorem gcdI_le (a b : Int) (ha : 0 < a) : gcdI a b ≤ a := Int.le_of_dvd ha (gcdI_dvd_left a b (by omega))

/-- What is left of a when the greatest common divisor is struck. -/
theorem quo_bd (a b : Int) (ha : 0 < a) : 0 < a / gcdI a b ∧ a / gcdI a b ≤ a := by
  have hg := gcdI_pos a b ha
  have hl := gcdI_le a b ha
  exact ⟨Int.ediv_pos_of_pos_of_dvd ha (by omega) (gcdI_dvd_left a b (by omega)), Int.ediv_le_self _ (by omega)⟩

set_option maxHeartbeats 400000 in
theorem lcm_zero (a b : Int) (h : a = 0 ∨ b = 0) (w : World) :
    Calls Try.prog 12 #[.int .u64 a, .int .u64 b] w fun e w' => e = .returned (.tuple #[.int .u64 0, .int .i64 0]) ∧ w' = w := by
  by_cases h0 : a = 0
  · subst h0
    clear h
    go_enter Try.func12, Try.ntmps12
    go_wp2
    go_ret2
    exact ⟨rfl, rfl⟩
  · have hb : b = 0 := by omega
    subst hb
    have h1 : (a == 0) = false := by simp [h0]
    clear h
    go_enter Try.func12, Try.ntmps12
    go_wp2
    go_ret2
    exact ⟨rfl, rfl⟩

set_option maxHeartbeats 400000 in
theorem lcm_ok (a b : Int) (ha : 0 < a) (ha' : a < 18446744073709551616) (hb : 0 < b) (hb' : b < 18446744073709551616) (h : a / gcdI a b * b < 18446744073709551616) (w : World) :
    Calls Try.prog 12 #[.int .u64 a, .int .u64 b] w fun e w' => e = .returned (.tuple #[.int .u64 (a / gcdI a b * b), .int .i64 0]) ∧ ∃ n, w' = w.drewN n := by
  have hq := quo_bd a b ha
  obtain ⟨hq1, hq2⟩ := hq
  have hg := gcdI_pos a b ha
  have cg := hide (gcd_any a b (by omega) ha' (by omega) hb')
  have cm := hide (mul_ok (a / gcdI a b) b (by omega) (by omega) (by omega) hb' h)
  have h1 : (a == 0) = false := by simp; omega
  have h2 : (b == 0) = false := by simp; omega
  clear h
  go_enter Try.func12, Try.ntmps12
  go_wp2_with (first | (go_at_call 17; refine (cg.out _).mono ?_; rintro e w' ⟨rfl, n, rfl⟩) | (go_at_call 10; refine (cm.out _).mono ?_; rintro e w' ⟨rfl, rfl⟩))
  go_ret2
  exact ⟨rfl, n, rfl⟩

set_option maxHeartbeats 400000 in
theorem lcm_over (a b : Int) (ha : 0 < a) (ha' : a < 18446744073709551616) (hb : 0 < b) (hb' : b < 18446744073709551616) (h : 18446744073709551616 ≤ a / gcdI a b * b) (w : World) :
    Calls Try.prog 12 #[.int .u64 a, .int .u64 b] w fun e w' => e = .returned (.tuple #[.int .u64 0, .int .i64 100]) ∧ ∃ n, w' = w.drewN n := by
  have hq := quo_bd a b ha
  obtain ⟨hq1, hq2⟩ := hq
  have hg := gcdI_pos a b ha
  have cg := hide (gcd_any a b (by omega) ha' (by omega) hb')
  have cm := hide (mul_over (a / gcdI a b) b (by omega) (by omega) (by omega) hb' h)
  have h1 : (a == 0) = false := by simp; omega
  have h2 : (b == 0) = false := by simp; omega
  clear h
  go_enter Try.func12, Try.ntmps12
  go_wp2_with (first | (go_at_call 17; refine (cg.out _).mono ?_; rintro e w' ⟨rfl, n, rfl⟩) | (go_at_call 10; refine (cm.out _).mono ?_; rintro e w' ⟨rfl, rfl⟩))
  go_ret2
  exact ⟨rfl, n, rfl⟩
#print axioms lcm_over
end Go.Proofs.Ytnepbdbalniodaa

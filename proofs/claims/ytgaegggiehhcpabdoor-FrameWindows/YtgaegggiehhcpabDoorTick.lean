/- Contracts of package tick's Mul, Gcd and Lcm and of the document's own, proved over the translation. -/
import Derived.Test.YtgaegggiehhcpabDoorCommon
import Derived.Lib.Mul64
import Derived.Laws.Bits64b
import Derived.Deep.QuietTactic
import Derived.BigQuiet
import Derived.Outline
namespace Go.Proofs.YtgaegggiehhcpabDoor
open Go.RowKit Go.Lib

namespace Mul64
theorem maskN (a : Nat) (ha : a < 18446744073709551616) : bits .and .u64 (a : Int) 4294967295 = ((a % 4294967296 : Nat) : Int) := by
  have h := bits_and_u64_nat a 4294967295 ha (by omega)
  have e : a &&& 4294967295 = a % 4294967296 := Nat.and_two_pow_sub_one_eq_mod a 32
  rw [e] at h
  exact h
theorem divN (a : Nat) : (a : Int) / 4294967296 = ((a / 4294967296 : Nat) : Int) := by omega
theorem mulN (a b : Nat) : (a : Int) * (b : Int) = ((a * b : Nat) : Int) := (Int.natCast_mul a b).symm
theorem addN (a b : Nat) : (a : Int) + (b : Int) = ((a + b : Nat) : Int) := (Int.natCast_add a b).symm
theorem wrapN (a : Nat) (ha : a < 18446744073709551616) : IntKind.u64.wrap (a : Int) = (a : Int) := by rw [IntKind.wrap_u64]; omega
theorem wrapM (a : Nat) : IntKind.u64.wrap (a : Int) = ((a % 18446744073709551616 : Nat) : Int) := by rw [IntKind.wrap_u64]; omega
end Mul64

set_option maxHeartbeats 1000000 in
theorem mul64_any (x y : Nat) (hx : x < 18446744073709551616) (hy : y < 18446744073709551616) (w : World) :
    Calls Tryd.prog 65 #[.int .u64 x, .int .u64 y] w fun e w' => e = .returned (.tuple #[.int .u64 ((x * y / 18446744073709551616 : Nat) : Int), .int .u64 ((x * y % 18446744073709551616 : Nat) : Int)]) ∧ w' = w := by
  obtain ⟨bd, bt, bw, hhi⟩ := Lib.mul64_hi x y hx hy
  have ba := Lib.half_mul_le (a := x / 4294967296) (b := y / 4294967296) (by omega) (by omega)
  have bb := Lib.half_mul_le (a := x / 4294967296) (b := y % 4294967296) (by omega) (by omega)
  have bc := Lib.half_mul_le (a := x % 4294967296) (b := y / 4294967296) (by omega) (by omega)
  have ba' : x / 4294967296 * (y / 4294967296) < 18446744073709551616 := by omega
  have bb' : x / 4294967296 * (y % 4294967296) < 18446744073709551616 := by omega
  have bc' : x % 4294967296 * (y / 4294967296) < 18446744073709551616 := by omega
  have bh1 : x / 4294967296 * (y / 4294967296) + (x / 4294967296 * (y % 4294967296) + x % 4294967296 * (y % 4294967296) / 4294967296) / 4294967296 < 18446744073709551616 := by omega
  have bh : x / 4294967296 * (y / 4294967296) + (x / 4294967296 * (y % 4294967296) + x % 4294967296 * (y % 4294967296) / 4294967296) / 4294967296 + ((x / 4294967296 * (y % 4294967296) + x % 4294967296 * (y % 4294967296) / 4294967296) % 4294967296 + x % 4294967296 * (y / 4294967296)) / 4294967296 < 18446744073709551616 := by omega
  go_enter Tryd.func65, Tryd.ntmps65
  go_wp2
  simp only [Mul64.maskN x hx, Mul64.maskN y hy, Mul64.divN, Mul64.mulN, Mul64.addN, Mul64.wrapN _ bd, Mul64.wrapN _ bb', Mul64.wrapN _ bt, Mul64.maskN _ bt, Mul64.wrapN _ bc', Mul64.wrapN _ bw, Mul64.wrapN _ ba', Mul64.wrapN _ bh1, Mul64.wrapN _ bh, Mul64.wrapM (x * y)]
  rw [hhi]
  go_ret2
  exact ⟨rfl, rfl⟩

/-- The same over Int: the high word is above 0 just where the product is 2^64 or more. -/
theorem mul64_ok (a b : Int) (ha : 0 ≤ a) (ha' : a < 18446744073709551616) (hb : 0 ≤ b) (hb' : b < 18446744073709551616) (h : a * b < 18446744073709551616) (w : World) :
    Calls Tryd.prog 65 #[.int .u64 a, .int .u64 b] w fun e w' => e = .returned (.tuple #[.int .u64 0, .int .u64 (a * b)]) ∧ w' = w := by
  obtain ⟨x, rfl⟩ := Int.eq_ofNat_of_zero_le ha
  obtain ⟨y, rfl⟩ := Int.eq_ofNat_of_zero_le hb
  have hxy : x * y < 18446744073709551616 := by rw [Mul64.mulN] at h; omega
  have e1 : x * y / 18446744073709551616 = 0 := by omega
  have e2 : x * y % 18446744073709551616 = x * y := by omega
  have c := mul64_any x y (by omega) (by omega) w
  rw [e1, e2] at c
  rw [Mul64.mulN]
  exact c

theorem mul64_over (a b : Int) (ha : 0 ≤ a) (ha' : a < 18446744073709551616) (hb : 0 ≤ b) (hb' : b < 18446744073709551616) (h : 18446744073709551616 ≤ a * b) (w : World) :
    Calls Tryd.prog 65 #[.int .u64 a, .int .u64 b] w fun e w' => (∃ hi lo : Int, 1 ≤ hi ∧ e = .returned (.tuple #[.int .u64 hi, .int .u64 lo])) ∧ w' = w := by
  obtain ⟨x, rfl⟩ := Int.eq_ofNat_of_zero_le ha
  obtain ⟨y, rfl⟩ := Int.eq_ofNat_of_zero_le hb
  have hxy : 18446744073709551616 ≤ x * y := by rw [Mul64.mulN] at h; omega
  refine (mul64_any x y (by omega) (by omega) w).mono ?_
  rintro e w' ⟨rfl, rfl⟩
  exact ⟨⟨_, _, by omega, rfl⟩, rfl⟩

set_option maxHeartbeats 400000 in
theorem mul_ok (a b : Int) (ha : 0 ≤ a) (ha' : a < 18446744073709551616) (hb : 0 ≤ b) (hb' : b < 18446744073709551616) (h : a * b < 18446744073709551616) (w : World) :
    Calls Tryd.prog 51 #[.int .u64 a, .int .u64 b] w fun e w' => e = .returned (.tuple #[.int .u64 (a * b), .int .i64 0]) ∧ w' = w := by
  have c := hide (mul64_ok a b ha ha' hb hb' h)
  clear h
  go_enter Tryd.func51, Tryd.ntmps51
  go_wp2_with (go_at_call 65; refine (c.out _).mono ?_; rintro e w' ⟨rfl, rfl⟩)
  go_ret2
  exact ⟨rfl, rfl⟩

set_option maxHeartbeats 400000 in
theorem mul_over (a b : Int) (ha : 0 ≤ a) (ha' : a < 18446744073709551616) (hb : 0 ≤ b) (hb' : b < 18446744073709551616) (h : 18446744073709551616 ≤ a * b) (w : World) :
    Calls Tryd.prog 51 #[.int .u64 a, .int .u64 b] w fun e w' => e = .returned (.tuple #[.int .u64 0, .int .i64 100]) ∧ w' = w := by
  have c := hide (mul64_over a b ha ha' hb hb' h)
  clear h
  go_enter Tryd.func51, Tryd.ntmps51
  go_wp2_with (go_at_call 65; refine (c.out _).mono ?_; rintro e w' ⟨⟨hi, lo, hhi, rfl⟩, rfl⟩)
  go_ret2
  exact ⟨rfl, rfl⟩
theorem ret_int {k : IntKind} {a b : Int} (h : a = b) : Ending.returned (.int k a) = .returned (.int k b) := by rw [h]
def gcdI (a b : Int) : Int := ((Nat.gcd a.toNat b.toNat : Nat) : Int)
theorem gcdI_zero (a : Int) (h : 0 ≤ a) : gcdI a 0 = a := by unfold gcdI; simp; omega
theorem gcdI_step (a b : Int) (ha : 0 ≤ a) (hb : 0 < b) : gcdI b (a % b) = gcdI a b := by
  obtain ⟨x, rfl⟩ := Int.eq_ofNat_of_zero_le ha
  obtain ⟨y, rfl⟩ := Int.eq_ofNat_of_zero_le (Int.le_of_lt hb)
  unfold gcdI
  have e : ((x : Int) % (y : Int)).toNat = x % y := by rw [← Int.natCast_emod, Int.toNat_natCast]
  rw [e, Int.toNat_natCast, Int.toNat_natCast, Nat.gcd_comm y, ← Nat.gcd_rec, Nat.gcd_comm]
theorem gcdI_nonneg (a b : Int) : 0 ≤ gcdI a b := by unfold gcdI; omega

set_option maxHeartbeats 400000 in
theorem gcd_any (a b : Int) (ha : 0 ≤ a) (ha' : a < 18446744073709551616) (hb : 0 ≤ b) (hb' : b < 18446744073709551616) (w : World) :
    Calls Tryd.prog 52 #[.int .u64 a, .int .u64 b] w fun e w' => e = .returned (.int .u64 (gcdI a b)) ∧ ∃ n, w' = w.drewN n := by
  go_enter Tryd.func52, Tryd.ntmps52
  go_wp2
  go_loopw [0, 1] (fun s t wr => ∃ x y : Int, 0 ≤ x ∧ x < 18446744073709551616 ∧ 0 ≤ y ∧ y < 18446744073709551616 ∧ s = .int .u64 x ∧ t = .int .u64 y ∧ Hid (gcdI x y = gcdI a b) ∧ ∃ n, wr = w.drewN n) (fun _ t _ => (intOf t).toNat)
  case atStart => exact ⟨a, b, ha, ha', hb, hb', rfl, rfl, rfl, 0, rfl⟩
  case round =>
    obtain ⟨x, y, hx, hx', hy, hy', rfl, rfl, hg, n, rfl⟩ := hrel
    by_cases hz : y = 0
    · subst hz
      go_wp2
      go_ret
      exact ⟨ret_int ((gcdI_zero x hx).symm.trans hg.out), n, rfl⟩
    · have h1 : (y != 0) = true := by rw [bne_iff_ne]; exact hz
      have h2 : 0 < y := by omega
      have h3 : 0 ≤ x % y := Int.emod_nonneg x hz
      have h4 : x % y < y := Int.emod_lt_of_pos x h2
      go_wp2
      go_quiet (fail)
      go_wp2
      go_roundw
      case rel => exact ⟨y, x % y, hy, hy', h3, by omega, rfl, rfl, hide ((gcdI_step x y hx h2).trans hg.out), _, World.drewN_drewN _ _ _⟩
      case measure => simp [intOf]; omega

theorem gcdI_comm (a b : Int) : gcdI a b = gcdI b a := by unfold gcdI; rw [Nat.gcd_comm]
theorem gcdI_pos (a b : Int) (ha : 0 < a) : 0 < gcdI a b := by
  unfold gcdI; have := Nat.gcd_pos_of_pos_left b.toNat (m := a.toNat) (by omega); omega
theorem gcdI_dvd_left (a b : Int) (ha : 0 ≤ a) : gcdI a b ∣ a := by
  obtain ⟨x, rfl⟩ := Int.eq_ofNat_of_zero_le ha
  unfold gcdI; exact Int.ofNat_dvd.2 (Nat.gcd_dvd_left _ _)
theorem gcdI_le (a b : Int) (ha : 0 < a) : gcdI a b ≤ a := Int.le_of_dvd ha (gcdI_dvd_left a b (by omega))

/-- What is left of a when the greatest common divisor is struck. -/
theorem quo_bd (a b : Int) (ha : 0 < a) : 0 < a / gcdI a b ∧ a / gcdI a b ≤ a := by
  have hg := gcdI_pos a b ha
  have hl := gcdI_le a b ha
  exact ⟨Int.ediv_pos_of_pos_of_dvd ha (by omega) (gcdI_dvd_left a b (by omega)), Int.ediv_le_self _ (by omega)⟩

set_option maxHeartbeats 400000 in
theorem lcm_zero (a b : Int) (h : a = 0 ∨ b = 0) (w : World) :
    Calls Tryd.prog 36 #[.int .u64 a, .int .u64 b] w fun e w' => e = .returned (.tuple #[.int .u64 0, .int .i64 0]) ∧ w' = w := by
  by_cases h0 : a = 0
  · subst h0
    clear h
    go_enter Tryd.func36, Tryd.ntmps36
    go_wp2
    go_ret2
    exact ⟨rfl, rfl⟩
  · have hb : b = 0 := by omega
    subst hb
    have h1 : (a == 0) = false := by simp [h0]
    clear h
    go_enter Tryd.func36, Tryd.ntmps36
    go_wp2
    go_ret2
    exact ⟨rfl, rfl⟩

set_option maxHeartbeats 400000 in
theorem lcm_ok (a b : Int) (ha : 0 < a) (ha' : a < 18446744073709551616) (hb : 0 < b) (hb' : b < 18446744073709551616) (h : a / gcdI a b * b < 18446744073709551616) (w : World) :
    Calls Tryd.prog 36 #[.int .u64 a, .int .u64 b] w fun e w' => e = .returned (.tuple #[.int .u64 (a / gcdI a b * b), .int .i64 0]) ∧ ∃ n, w' = w.drewN n := by
  have hq := quo_bd a b ha
  obtain ⟨hq1, hq2⟩ := hq
  have hg := gcdI_pos a b ha
  have cg := hide (gcd_any a b (by omega) ha' (by omega) hb')
  have cm := hide (mul_ok (a / gcdI a b) b (by omega) (by omega) (by omega) hb' h)
  have h1 : (a == 0) = false := by simp; omega
  have h2 : (b == 0) = false := by simp; omega
  clear h
  go_enter Tryd.func36, Tryd.ntmps36
  go_wp2_with (first | (go_at_call 52; refine (cg.out _).mono ?_; rintro e w' ⟨rfl, n, rfl⟩) | (go_at_call 51; refine (cm.out _).mono ?_; rintro e w' ⟨rfl, rfl⟩))
  go_ret2
  exact ⟨rfl, n, rfl⟩

set_option maxHeartbeats 400000 in
theorem lcm_over (a b : Int) (ha : 0 < a) (ha' : a < 18446744073709551616) (hb : 0 < b) (hb' : b < 18446744073709551616) (h : 18446744073709551616 ≤ a / gcdI a b * b) (w : World) :
    Calls Tryd.prog 36 #[.int .u64 a, .int .u64 b] w fun e w' => e = .returned (.tuple #[.int .u64 0, .int .i64 100]) ∧ ∃ n, w' = w.drewN n := by
  have hq := quo_bd a b ha
  obtain ⟨hq1, hq2⟩ := hq
  have hg := gcdI_pos a b ha
  have cg := hide (gcd_any a b (by omega) ha' (by omega) hb')
  have cm := hide (mul_over (a / gcdI a b) b (by omega) (by omega) (by omega) hb' h)
  have h1 : (a == 0) = false := by simp; omega
  have h2 : (b == 0) = false := by simp; omega
  clear h
  go_enter Tryd.func36, Tryd.ntmps36
  go_wp2_with (first | (go_at_call 52; refine (cg.out _).mono ?_; rintro e w' ⟨rfl, n, rfl⟩) | (go_at_call 51; refine (cm.out _).mono ?_; rintro e w' ⟨rfl, rfl⟩))
  go_ret2
  exact ⟨rfl, n, rfl⟩
def mulV (a b : Int) : Int := if a * b < 18446744073709551616 then a * b else 0
def mulE (a b : Int) : Int := if a * b < 18446744073709551616 then 0 else 100
def lcmV (a b : Int) : Int := if a = 0 ∨ b = 0 then 0 else mulV (a / gcdI a b) b
def lcmE (a b : Int) : Int := if a = 0 ∨ b = 0 then 0 else mulE (a / gcdI a b) b
theorem mul_def (a b : Int) (ha : 0 ≤ a) (ha' : a ≤ 18446744073709551615) (hb : 0 ≤ b) (hb' : b ≤ 18446744073709551615) (w : World) :
    Calls Tryd.prog 51 #[.int .u64 a, .int .u64 b] w fun e w' => e = .returned (.tuple #[.int .u64 (mulV a b), .int .i64 (mulE a b)]) ∧ w' = w := by
  unfold mulV mulE
  by_cases h : a * b < 18446744073709551616
  · rw [if_pos h, if_pos h]; exact mul_ok a b ha (by omega) hb (by omega) h w
  · rw [if_neg h, if_neg h]; exact mul_over a b ha (by omega) hb (by omega) (by omega) w
theorem lcm_def (a b : Int) (ha : 0 ≤ a) (ha' : a ≤ 18446744073709551615) (hb : 0 ≤ b) (hb' : b ≤ 18446744073709551615) (w : World) :
    Calls Tryd.prog 36 #[.int .u64 a, .int .u64 b] w fun e w' => e = .returned (.tuple #[.int .u64 (lcmV a b), .int .i64 (lcmE a b)]) ∧ ∃ n, w' = w.drewN n := by
  unfold lcmV lcmE
  by_cases h0 : a = 0 ∨ b = 0
  · rw [if_pos h0, if_pos h0]
    exact (lcm_zero a b h0 w).mono fun _ _ ⟨he, hw⟩ => ⟨he, 0, hw⟩
  · rw [if_neg h0, if_neg h0]
    unfold mulV mulE
    by_cases h : a / gcdI a b * b < 18446744073709551616
    · rw [if_pos h, if_pos h]; exact lcm_ok a b (by omega) (by omega) (by omega) (by omega) h w
    · rw [if_neg h, if_neg h]; exact lcm_over a b (by omega) (by omega) (by omega) (by omega) (by omega) w
theorem mul_fit {a b : Int} (ha : 0 < a) (hb : 0 ≤ b) (h : a * b < 18446744073709551616) : ∃ m, IntKind.u64.wrap (a * b) = m ∧ 0 ≤ m ∧ m ≤ 18446744073709551615 ∧ m / a = b ∧ a * b = m := by
  have h0 := Int.mul_nonneg (Int.le_of_lt ha) hb
  exact ⟨a * b, by rw [IntKind.wrap_u64]; omega, h0, by omega, Int.mul_ediv_cancel_left b (by omega), rfl⟩
theorem mul_nofit {a b : Int} (ha : 0 < a) (h : 18446744073709551616 ≤ a * b) : ∃ m, IntKind.u64.wrap (a * b) = m ∧ 0 ≤ m ∧ m ≤ 18446744073709551615 ∧ (m / a != b) = true := by
  refine ⟨_, rfl, by rw [IntKind.wrap_u64]; omega, by rw [IntKind.wrap_u64]; omega, ?_⟩
  rw [bne_iff_ne]
  intro e
  have h1 : IntKind.u64.wrap (a * b) < 18446744073709551616 := by rw [IntKind.wrap_u64]; omega
  generalize IntKind.u64.wrap (a * b) = r at *
  have h2 := Int.mul_ediv_self_le (x := r) (k := a) (by omega)
  rw [e] at h2
  omega

set_option maxHeartbeats 400000 in
theorem rmul_zero (b : Int) (_hb : 0 ≤ b) (w : World) :
    Calls Tryd.prog 37 #[.int .u64 0, .int .u64 b] w fun e w' => e = .returned (.tuple #[.int .u64 0, .int .i64 0]) ∧ w' = w := by
  go_enter Tryd.func37, Tryd.ntmps37
  go_wp2
  go_ret2
  exact ⟨rfl, rfl⟩
set_option maxHeartbeats 400000 in
theorem rmul_ok (a b m : Int) (ha : 0 < a) (hw : IntKind.u64.wrap (a * b) = m) (m0 : 0 ≤ m) (m1 : m ≤ 18446744073709551615) (hq : m / a = b) (w : World) :
    Calls Tryd.prog 37 #[.int .u64 a, .int .u64 b] w fun e w' => e = .returned (.tuple #[.int .u64 m, .int .i64 0]) ∧ w' = w := by
  have h0 : (a != 0) = true := by rw [bne_iff_ne]; omega
  go_enter Tryd.func37, Tryd.ntmps37
  go_wp2
  go_ret2
  exact ⟨rfl, rfl⟩
set_option maxHeartbeats 400000 in
theorem rmul_over (a b m : Int) (ha : 0 < a) (hw : IntKind.u64.wrap (a * b) = m) (m0 : 0 ≤ m) (m1 : m ≤ 18446744073709551615) (hq : (m / a != b) = true) (w : World) :
    Calls Tryd.prog 37 #[.int .u64 a, .int .u64 b] w fun e w' => e = .returned (.tuple #[.int .u64 0, .int .i64 100]) ∧ w' = w := by
  have h0 : (a != 0) = true := by rw [bne_iff_ne]; omega
  go_enter Tryd.func37, Tryd.ntmps37
  go_wp2
  go_ret2
  exact ⟨rfl, rfl⟩
theorem rmul_def (a b : Int) (ha : 0 ≤ a) (hb : 0 ≤ b) (w : World) :
    Calls Tryd.prog 37 #[.int .u64 a, .int .u64 b] w fun e w' => e = .returned (.tuple #[.int .u64 (mulV a b), .int .i64 (mulE a b)]) ∧ w' = w := by
  unfold mulV mulE
  by_cases h0 : a = 0
  · subst h0
    rw [Int.zero_mul, if_pos (by omega), if_pos (by omega)]
    exact rmul_zero b hb w
  · by_cases h : a * b < 18446744073709551616
    · rw [if_pos h, if_pos h]
      obtain ⟨m, h1, h2, h3, h4, h5⟩ := mul_fit (by omega) hb h
      rw [h5]
      exact rmul_ok a b m (by omega) h1 h2 h3 h4 w
    · rw [if_neg h, if_neg h]
      obtain ⟨m, h1, h2, h3, h4⟩ := mul_nofit (b := b) (show 0 < a by omega) (by omega)
      exact rmul_over a b m (by omega) h1 h2 h3 h4 w

set_option maxHeartbeats 400000 in
theorem rgcd_any (a b : Int) (ha : 0 ≤ a) (ha' : a < 18446744073709551616) (hb : 0 ≤ b) (hb' : b < 18446744073709551616) (w : World) :
    Calls Tryd.prog 38 #[.int .u64 a, .int .u64 b] w fun e w' => e = .returned (.int .u64 (gcdI a b)) ∧ w' = w := by
  go_enter Tryd.func38, Tryd.ntmps38
  go_wp2
  go_loop [0, 1] (fun s t => ∃ x y : Int, 0 ≤ x ∧ x < 18446744073709551616 ∧ 0 ≤ y ∧ y < 18446744073709551616 ∧ s = .int .u64 x ∧ t = .int .u64 y ∧ Hid (gcdI x y = gcdI a b)) (fun _ t => (intOf t).toNat)
  case atStart => exact ⟨a, b, ha, ha', hb, hb', rfl, rfl, rfl⟩
  case round =>
    obtain ⟨x, y, hx, hx', hy, hy', rfl, rfl, hg⟩ := hrel
    by_cases hz : y = 0
    · subst hz
      go_wp2
      go_ret
      exact ⟨ret_int ((gcdI_zero x hx).symm.trans hg.out), rfl⟩
    · have h1 : (y != 0) = true := by rw [bne_iff_ne]; exact hz
      have h2 : 0 < y := by omega
      have h3 : 0 ≤ x % y := Int.emod_nonneg x hz
      have h4 : x % y < y := Int.emod_lt_of_pos x h2
      go_wp2
      go_round
      case rel => exact ⟨y, x % y, hy, hy', h3, by omega, rfl, rfl, hide ((gcdI_step x y hx h2).trans hg.out)⟩
      case measure => simp [intOf]; omega

set_option maxHeartbeats 400000 in
theorem rlcm_zero (a b : Int) (h : a = 0 ∨ b = 0) (w : World) :
    Calls Tryd.prog 29 #[.int .u64 a, .int .u64 b] w fun e w' => e = .returned (.tuple #[.int .u64 0, .int .i64 0]) ∧ w' = w := by
  by_cases h0 : a = 0
  · subst h0
    clear h
    go_enter Tryd.func29, Tryd.ntmps29
    go_wp2
    go_ret2
    exact ⟨rfl, rfl⟩
  · have hb : b = 0 := by omega
    subst hb
    have h1 : (a == 0) = false := by simp [h0]
    clear h
    go_enter Tryd.func29, Tryd.ntmps29
    go_wp2
    go_ret2
    exact ⟨rfl, rfl⟩
set_option maxHeartbeats 400000 in
theorem rlcm_def (a b : Int) (ha : 0 ≤ a) (ha' : a ≤ 18446744073709551615) (hb : 0 ≤ b) (hb' : b ≤ 18446744073709551615) (w : World) :
    Calls Tryd.prog 29 #[.int .u64 a, .int .u64 b] w fun e w' => e = .returned (.tuple #[.int .u64 (lcmV a b), .int .i64 (lcmE a b)]) ∧ w' = w := by
  unfold lcmV lcmE
  by_cases h0 : a = 0 ∨ b = 0
  · rw [if_pos h0, if_pos h0]
    exact rlcm_zero a b h0 w
  · rw [if_neg h0, if_neg h0]
    have ha0 : 0 < a := by omega
    have hq := quo_bd a b ha0
    obtain ⟨hq1, hq2⟩ := hq
    have hg := gcdI_pos a b ha0
    have cg := hide (rgcd_any a b (by omega) (by omega) (by omega) (by omega))
    have cm := hide (rmul_def (a / gcdI a b) b (by omega) hb)
    have h1 : (a == 0) = false := by simp; omega
    have h2 : (b == 0) = false := by simp; omega
    clear h0
    go_enter Tryd.func29, Tryd.ntmps29
    go_wp2_with (first | (go_at_call 38; refine (cg.out _).mono ?_; rintro e w' ⟨rfl, rfl⟩) | (go_at_call 37; refine (cm.out _).mono ?_; rintro e w' ⟨rfl, rfl⟩))
    go_ret2
    exact ⟨rfl, rfl⟩

#print axioms rlcm_def
end Go.Proofs.YtgaegggiehhcpabDoor

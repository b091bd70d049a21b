/- The walk of the law TickDivides: for every a, b and c it answers true and makes new memory alone. -/
import Derived.Test.YtnepbdbalniodaaAwake
import Derived.Deep.DeepFit
namespace Go.Proofs.Ytnepbdbalniodaa
open Go.RowKit Go.Lib
attribute [local go_sem] alloc_drewN setCell_drewN

theorem mask20 (a : Int) (ha : 0 ≤ a) (ha' : a ≤ 18446744073709551615) : ∃ x, bits .and .u64 a 1048575 = x ∧ 0 ≤ x ∧ x ≤ 1048575 := by
  obtain ⟨n, rfl⟩ := Int.eq_ofNat_of_zero_le ha
  have h := bits_and_u64_nat n 1048575 (by omega) (by omega)
  have e : n &&& 1048575 = n % 1048576 := Nat.and_two_pow_sub_one_eq_mod n 20
  rw [e] at h
  exact ⟨_, h, by omega, by omega⟩
theorem mask8 (a : Int) (ha : 0 ≤ a) (ha' : a ≤ 18446744073709551615) : ∃ x, bits .and .u64 a 255 = x ∧ 0 ≤ x ∧ x ≤ 255 := by
  obtain ⟨n, rfl⟩ := Int.eq_ofNat_of_zero_le ha
  have h := bits_and_u64_nat n 255 (by omega) (by omega)
  have e : n &&& 255 = n % 256 := Nat.and_two_pow_sub_one_eq_mod n 8
  rw [e] at h
  exact ⟨_, h, by omega, by omega⟩
theorem mul_bd {x z B C : Int} (hx : 0 ≤ x) (hx' : x ≤ B) (hz : 0 ≤ z) (hz' : z ≤ C) : 0 ≤ x * z ∧ x * z ≤ B * C :=
  ⟨Int.mul_nonneg hx hz, Int.mul_le_mul hx' hz' hz (by omega)⟩
theorem wrap_id {x : Int} (h : 0 ≤ x) (h' : x ≤ 18446744073709551615) : IntKind.u64.wrap x = x := by rw [IntKind.wrap_u64]; omega
theorem gcdI_mul (x y z : Int) (hx : 0 ≤ x) (hy : 0 ≤ y) (hz : 0 ≤ z) : gcdI (x * z) (y * z) = gcdI x y * z := by
  obtain ⟨a, rfl⟩ := Int.eq_ofNat_of_zero_le hx
  obtain ⟨b, rfl⟩ := Int.eq_ofNat_of_zero_le hy
  obtain ⟨c, rfl⟩ := Int.eq_ofNat_of_zero_le hz
  unfold gcdI
  rw [← Int.natCast_mul, ← Int.natCast_mul, Int.toNat_natCast, Int.toNat_natCast, Int.toNat_natCast, Int.toNat_natCast, Nat.gcd_mul_right, Int.natCast_mul]
theorem gcdI_dvd_right (a b : Int) (hb : 0 ≤ b) : gcdI a b ∣ b := by rw [gcdI_comm]; exact gcdI_dvd_left b a hb

theorem dvd_quo {x y g : Int} (d1 : g ∣ x) (d2 : g ∣ y) : x ∣ x / g * y := by
  obtain ⟨k, hk⟩ := d2
  have e2 : x / g * g = x := Int.ediv_mul_cancel d1
  exact ⟨k, by rw [hk, ← Int.mul_assoc, e2]⟩

theorem gcd_to (a b g : Int) (ha : 0 ≤ a) (ha' : a ≤ 18446744073709551615) (hb : 0 ≤ b) (hb' : b ≤ 18446744073709551615) (h : gcdI a b = g) (w : World) :
    Calls Try.prog 17 #[.int .u64 a, .int .u64 b] w fun e w' => e = .returned (.int .u64 g) ∧ ∃ n, w' = w.drewN n := by
  rw [← h]; exact gcd_any a b ha (by omega) hb (by omega) w

set_option maxRecDepth 100000 in
set_option maxHeartbeats 1000000 in
theorem divides_pp (a b c x y v : Int) (hx : bits .and .u64 a 1048575 = x) (hy : bits .and .u64 b 1048575 = y) (hv : bits .and .u64 c 255 = v) (x0 : 0 < x) (x1 : x ≤ 1048575) (y0 : 0 < y) (y1 : y ≤ 1048575) (v0 : 0 ≤ v) (v1 : v ≤ 255) (w : World) :
    Calls Try.prog 4 #[.int .u64 a, .int .u64 b, .int .u64 c] w fun e w' => e = .returned (.bool true) ∧ Grown w w' := by
  obtain ⟨z, hz⟩ : ∃ z, 1 + v = z := ⟨_, rfl⟩
  have z0 : 1 ≤ z := by omega
  have z1 : z ≤ 256 := by omega
  have bx := mul_bd (by omega) x1 (by omega) z1
  have bz := mul_bd (by omega) y1 (by omega) z1
  have bxy := mul_bd (by omega) x1 (by omega) y1
  have hg0 := gcdI_pos x y x0
  have hg1 := gcdI_le x y x0
  have hgz := gcdI_mul x y z (by omega) (by omega) (by omega)
  have hgc := gcdI_comm y x
  have d1 := gcdI_dvd_left x y (by omega)
  have d2 := gcdI_dvd_right x y (by omega)
  have hm := lcm_ok x y x0 (by omega) y0 (by omega)
  have hq : gcdI x y * (x / gcdI x y * y) = x * y := by rw [← Int.mul_assoc, Int.mul_ediv_cancel' d1]
  have hqy : y ∣ x / gcdI x y * y := Int.dvd_mul_left _ _
  have hqx := dvd_quo d1 d2
  have q1 := quo_bd x y x0
  have q2 := mul_bd (Int.le_of_lt q1.1) (Int.le_trans q1.2 x1) (by omega) y1
  generalize hgg : gcdI x y = g at *
  generalize hmm : x / g * y = m at *
  have cm := hide (hm (by omega))
  have c1 := hide (gcd_to x y g (by omega) (by omega) (by omega) (by omega) hgg)
  have c2 := hide (gcd_to (x * z) (y * z) (g * z) (by omega) (by omega) (by omega) (by omega) hgz)
  have c3 := hide (gcd_to y x g (by omega) (by omega) (by omega) (by omega) hgc)
  have c4 := hide (gcd_to x 0 x (by omega) (by omega) (by omega) (by omega) (gcdI_zero x (by omega)))
  have bg := mul_bd (by omega) (Int.le_trans hg1 x1) (by omega) z1
  have w1 : IntKind.u64.wrap (x * z) = x * z := wrap_id (by omega) (by omega)
  have w2 : IntKind.u64.wrap (y * z) = y * z := wrap_id (by omega) (by omega)
  have w3 : IntKind.u64.wrap (g * z) = g * z := wrap_id (by omega) (by omega)
  have w4 : IntKind.u64.wrap (g * m) = x * y := by rw [hq]; exact wrap_id (by omega) (by omega)
  have w5 : IntKind.u64.wrap (x * y) = x * y := wrap_id (by omega) (by omega)
  have t1 : (x == 0) = false := by simp; omega
  have t2 : (y == 0) = false := by simp; omega
  have t3 : x % g = 0 := Int.emod_eq_zero_of_dvd d1
  have t4 : y % g = 0 := Int.emod_eq_zero_of_dvd d2
  have t5 : m % x = 0 := Int.emod_eq_zero_of_dvd hqx
  have t6 : m % y = 0 := Int.emod_eq_zero_of_dvd hqy
  have m0 : 0 ≤ m := q2.1
  have m1 : m ≤ 1099509530625 := q2.2
  clear hm hq hqx hqy d1 d2 hgz hgc hgg hmm q1 q2 bx bz bxy bg
  go_enter Try.func4, Try.ntmps4
  go_wp2_with fail
  refine (awake_any _).mono ?_; rintro e wa ⟨rfl, hg, _⟩
  go_wp2_with fail
  go_fit (c1.out _); rintro e w' ⟨rfl, n1, rfl⟩
  go_wp2_with fail
  go_fit (c2.out _); rintro e w' ⟨rfl, n2, rfl⟩
  go_wp2_with fail
  go_fit (c3.out _); rintro e w' ⟨rfl, n3, rfl⟩
  go_wp2_with fail
  go_fit (c4.out _); rintro e w' ⟨rfl, n4, rfl⟩
  go_wp2_with fail
  go_fit (cm.out _); rintro e w' ⟨rfl, n5, rfl⟩
  go_wp2_with (go_at_call 16; refine (num_any _ _).mono ?_; rintro e w' ⟨rfl, rfl⟩)
  go_ret
  exact ⟨rfl, hg⟩

set_option maxRecDepth 100000 in
set_option maxHeartbeats 1000000 in
theorem divides_zz (a b c v : Int) (hx : bits .and .u64 a 1048575 = 0) (hy : bits .and .u64 b 1048575 = 0) (hv : bits .and .u64 c 255 = v) (v0 : 0 ≤ v) (v1 : v ≤ 255) (w : World) :
    Calls Try.prog 4 #[.int .u64 a, .int .u64 b, .int .u64 c] w fun e w' => e = .returned (.bool true) ∧ Grown w w' := by
  obtain ⟨z, hz⟩ : ∃ z, 1 + v = z := ⟨_, rfl⟩
  have z0 : 1 ≤ z := by omega
  have z1 : z ≤ 256 := by omega
  have c1 := hide (gcd_to 0 0 0 (by omega) (by omega) (by omega) (by omega) (by decide))
  have c2 := c1
  have c3 := c1
  have c4 := c1
  have cm := hide (lcm_zero 0 0 (.inl rfl))
  go_enter Try.func4, Try.ntmps4
  go_wp2_with fail
  refine (awake_any _).mono ?_; rintro e wa ⟨rfl, hg, _⟩
  go_wp2_with fail
  go_fit (c1.out _); rintro e w' ⟨rfl, n1, rfl⟩
  go_wp2_with fail
  go_fit (c2.out _); rintro e w' ⟨rfl, n2, rfl⟩
  go_wp2_with fail
  go_fit (c3.out _); rintro e w' ⟨rfl, n3, rfl⟩
  go_wp2_with fail
  go_fit (c4.out _); rintro e w' ⟨rfl, n4, rfl⟩
  go_wp2_with fail
  go_fit (cm.out _); rintro e w' ⟨rfl, rfl⟩
  go_wp2_with (go_at_call 16; refine (num_any _ _).mono ?_; rintro e w' ⟨rfl, rfl⟩)
  go_ret
  exact ⟨rfl, hg⟩

set_option maxRecDepth 100000 in
set_option maxHeartbeats 1000000 in
theorem divides_zp (a b c y v : Int) (hx : bits .and .u64 a 1048575 = 0) (hy : bits .and .u64 b 1048575 = y) (hv : bits .and .u64 c 255 = v) (y0 : 0 < y) (y1 : y ≤ 1048575) (v0 : 0 ≤ v) (v1 : v ≤ 255) (w : World) :
    Calls Try.prog 4 #[.int .u64 a, .int .u64 b, .int .u64 c] w fun e w' => e = .returned (.bool true) ∧ Grown w w' := by
  obtain ⟨z, hz⟩ : ∃ z, 1 + v = z := ⟨_, rfl⟩
  have z0 : 1 ≤ z := by omega
  have z1 : z ≤ 256 := by omega
  have bz := mul_bd (by omega) y1 (by omega) z1
  have e1 : gcdI 0 y = y := by rw [gcdI_comm]; exact gcdI_zero y (by omega)
  have e2 : gcdI 0 (y * z) = y * z := by rw [gcdI_comm]; exact gcdI_zero _ (by omega)
  have c1 := hide (gcd_to 0 y y (by omega) (by omega) (by omega) (by omega) e1)
  have c2 := hide (gcd_to 0 (y * z) (y * z) (by omega) (by omega) (by omega) (by omega) e2)
  have c3 := hide (gcd_to y 0 y (by omega) (by omega) (by omega) (by omega) (gcdI_zero y (by omega)))
  have c4 := hide (gcd_to 0 0 0 (by omega) (by omega) (by omega) (by omega) (by decide))
  have cm := hide (lcm_zero 0 y (.inl rfl))
  have w2 : IntKind.u64.wrap (y * z) = y * z := wrap_id (by omega) (by omega)
  have t2 : (y == 0) = false := by simp; omega
  clear e1 e2 bz
  go_enter Try.func4, Try.ntmps4
  go_wp2_with fail
  refine (awake_any _).mono ?_; rintro e wa ⟨rfl, hg, _⟩
  go_wp2_with fail
  go_fit (c1.out _); rintro e w' ⟨rfl, n1, rfl⟩
  go_wp2_with fail
  go_fit (c2.out _); rintro e w' ⟨rfl, n2, rfl⟩
  go_wp2_with fail
  go_fit (c3.out _); rintro e w' ⟨rfl, n3, rfl⟩
  go_wp2_with fail
  go_fit (c4.out _); rintro e w' ⟨rfl, n4, rfl⟩
  go_wp2_with fail
  go_fit (cm.out _); rintro e w' ⟨rfl, rfl⟩
  go_wp2_with (go_at_call 16; refine (num_any _ _).mono ?_; rintro e w' ⟨rfl, rfl⟩)
  go_ret
  exact ⟨rfl, hg⟩

set_option maxRecDepth 100000 in
set_option maxHeartbeats 1000000 in
theorem divides_pz (a b c x v : Int) (hx : bits .and .u64 a 1048575 = x) (hy : bits .and .u64 b 1048575 = 0) (hv : bits .and .u64 c 255 = v) (x0 : 0 < x) (x1 : x ≤ 1048575) (v0 : 0 ≤ v) (v1 : v ≤ 255) (w : World) :
    Calls Try.prog 4 #[.int .u64 a, .int .u64 b, .int .u64 c] w fun e w' => e = .returned (.bool true) ∧ Grown w w' := by
  obtain ⟨z, hz⟩ : ∃ z, 1 + v = z := ⟨_, rfl⟩
  have z0 : 1 ≤ z := by omega
  have z1 : z ≤ 256 := by omega
  have bz := mul_bd (by omega) x1 (by omega) z1
  have e1 : gcdI 0 x = x := by rw [gcdI_comm]; exact gcdI_zero x (by omega)
  have c1 := hide (gcd_to x 0 x (by omega) (by omega) (by omega) (by omega) (gcdI_zero x (by omega)))
  have c2 := hide (gcd_to (x * z) 0 (x * z) (by omega) (by omega) (by omega) (by omega) (gcdI_zero _ (by omega)))
  have c3 := hide (gcd_to 0 x x (by omega) (by omega) (by omega) (by omega) e1)
  have c4 := c1
  have cm := hide (lcm_zero x 0 (.inr rfl))
  have w2 : IntKind.u64.wrap (x * z) = x * z := wrap_id (by omega) (by omega)
  have t2 : (x == 0) = false := by simp; omega
  clear e1 bz
  go_enter Try.func4, Try.ntmps4
  go_wp2_with fail
  refine (awake_any _).mono ?_; rintro e wa ⟨rfl, hg, _⟩
  go_wp2_with fail
  go_fit (c1.out _); rintro e w' ⟨rfl, n1, rfl⟩
  go_wp2_with fail
  go_fit (c2.out _); rintro e w' ⟨rfl, n2, rfl⟩
  go_wp2_with fail
  go_fit (c3.out _); rintro e w' ⟨rfl, n3, rfl⟩
  go_wp2_with fail
  go_fit (c4.out _); rintro e w' ⟨rfl, n4, rfl⟩
  go_wp2_with fail
  go_fit (cm.out _); rintro e w' ⟨rfl, rfl⟩
  go_wp2_with (go_at_call 16; refine (num_any _ _).mono ?_; rintro e w' ⟨rfl, rfl⟩)
  go_ret
  exact ⟨rfl, hg⟩

theorem divides_walk (a b c : Int) (ha : 0 ≤ a) (ha' : a ≤ 18446744073709551615) (hb : 0 ≤ b) (hb' : b ≤ 18446744073709551615) (hc : 0 ≤ c) (hc' : c ≤ 18446744073709551615) (w : World) :
    Calls Try.prog 4 #[.int .u64 a, .int .u64 b, .int .u64 c] w fun e w' => e = .returned (.bool true) ∧ Grown w w' := by
  obtain ⟨x, hx, x0, x1⟩ := mask20 a ha ha'
  obtain ⟨y, hy, y0, y1⟩ := mask20 b hb hb'
  obtain ⟨v, hv, v0, v1⟩ := mask8 c hc hc'
  by_cases h : x = 0
  · by_cases h' : y = 0
    · exact divides_zz a b c v (hx.trans h) (hy.trans h') hv v0 v1 w
    · exact divides_zp a b c y v (hx.trans h) hy hv (by omega) y1 v0 v1 w
  · by_cases h' : y = 0
    · exact divides_pz a b c x v hx (hy.trans h') hv (by omega) x1 v0 v1 w
    · exact divides_pp a b c x y v hx hy hv (by omega) x1 (by omega) y1 v0 v1 w
#print axioms divides_walk
end Go.Proofs.Ytnepbdbalniodaa

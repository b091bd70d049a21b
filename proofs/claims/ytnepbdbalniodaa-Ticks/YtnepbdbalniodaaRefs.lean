/- Package tick's functions and the document's own answer the same pairs, proved over the translation: one value and one error for each of Add, Mul, Lcm and Sum, at every input. -/
import Derived.Test.YtnepbdbalniodaaAwake
import Derived.Deep.DeepFit
namespace Go.Proofs.Ytnepbdbalniodaa
open Go.RowKit Go.Lib
attribute [local go_sem] alloc_drewN setCell_drewN

def addV (a b : Int) : Int := if a + b < 18446744073709551616 then a + b else 0
def addE (a b : Int) : Int := if a + b < 18446744073709551616 then 0 else 100
def mulV (a b : Int) : Int := if a * b < 18446744073709551616 then a * b else 0
def mulE (a b : Int) : Int := if a * b < 18446744073709551616 then 0 else 100
def lcmV (a b : Int) : Int := if a = 0 ∨ b = 0 then 0 else mulV (a / gcdI a b) b
def lcmE (a b : Int) : Int := if a = 0 ∨ b = 0 then 0 else mulE (a / gcdI a b) b
def sumV (s : Int) : Int := if s < 18446744073709551616 then s else 0
def sumE (s : Int) : Int := if s < 18446744073709551616 then 0 else 100

theorem add_def (a b : Int) (ha : 0 ≤ a) (hb : 0 ≤ b) (w : World) :
    Calls Try.prog 8 #[.int .u64 a, .int .u64 b] w fun e w' => e = .returned (.tuple #[.int .u64 (addV a b), .int .i64 (addE a b)]) ∧ w' = w := by
  unfold addV addE
  by_cases h : a + b < 18446744073709551616
  · rw [if_pos h, if_pos h]; exact add_ok a b ha hb h w
  · rw [if_neg h, if_neg h]; exact add_over a b ha hb (by omega) w
theorem mul_def (a b : Int) (ha : 0 ≤ a) (ha' : a ≤ 18446744073709551615) (hb : 0 ≤ b) (hb' : b ≤ 18446744073709551615) (w : World) :
    Calls Try.prog 10 #[.int .u64 a, .int .u64 b] w fun e w' => e = .returned (.tuple #[.int .u64 (mulV a b), .int .i64 (mulE a b)]) ∧ w' = w := by
  unfold mulV mulE
  by_cases h : a * b < 18446744073709551616
  · rw [if_pos h, if_pos h]; exact mul_ok a b ha (by omega) hb (by omega) h w
  · rw [if_neg h, if_neg h]; exact mul_over a b ha (by omega) hb (by omega) (by omega) w
theorem lcm_def (a b : Int) (ha : 0 ≤ a) (ha' : a ≤ 18446744073709551615) (hb : 0 ≤ b) (hb' : b ≤ 18446744073709551615) (w : World) :
    Calls Try.prog 12 #[.int .u64 a, .int .u64 b] w fun e w' => e = .returned (.tuple #[.int .u64 (lcmV a b), .int .i64 (lcmE a b)]) ∧ ∃ n, w' = w.drewN n := by
  unfold lcmV lcmE
  by_cases h0 : a = 0 ∨ b = 0
  · rw [if_pos h0, if_pos h0]
    exact (lcm_zero a b h0 w).mono fun _ _ ⟨he, hw⟩ => ⟨he, 0, hw⟩
  · rw [if_neg h0, if_neg h0]
    unfold mulV mulE
    by_cases h : a / gcdI a b * b < 18446744073709551616
    · rw [if_pos h, if_pos h]; exact lcm_ok a b (by omega) (by omega) (by omega) (by omega) h w
    · rw [if_neg h, if_neg h]; exact lcm_over a b (by omega) (by omega) (by omega) (by omega) (by omega) w
theorem sum_def (b off len cap : Nat) (zs : List Int) (hlen : len ≤ zs.length) (hm : len ≤ 9223372036854775807) (hl : ∀ j : Nat, 0 ≤ zs[j]?.getD 0) (w : World) (hc : NumsAt w b off len zs) :
    Calls Try.prog 14 #[.slice (some ⟨b, off, none⟩) len cap] w fun e w' => e = .returned (.tuple #[.int .u64 (sumV (psum zs len)), .int .i64 (sumE (psum zs len))]) ∧ w' = w := by
  unfold sumV sumE
  by_cases h : psum zs len < 18446744073709551616
  · rw [if_pos h, if_pos h]; exact sum_ok b off len cap zs hlen hm hl w hc h
  · rw [if_neg h, if_neg h]; exact sum_over b off len cap zs hlen hm hl w hc (by omega)

/-! The document's. -/
set_option maxHeartbeats 400000 in
theorem radd_ok (a b : Int) (ha : 0 ≤ a) (hb : 0 ≤ b) (h : a + b < 18446744073709551616) (w : World) :
    Calls Try.prog 9 #[.int .u64 a, .int .u64 b] w fun e w' => e = .returned (.tuple #[.int .u64 (a + b), .int .i64 0]) ∧ w' = w := by
  go_enter Try.func9, Try.ntmps9
  go_wp2
  go_ret2
  exact ⟨rfl, rfl⟩
set_option maxHeartbeats 400000 in
theorem radd_over (a b : Int) (_ha : 0 ≤ a) (ha' : a ≤ 18446744073709551615) (hb : 0 ≤ b) (hb' : b ≤ 18446744073709551615) (h : 18446744073709551616 ≤ a + b) (w : World) :
    Calls Try.prog 9 #[.int .u64 a, .int .u64 b] w fun e w' => e = .returned (.tuple #[.int .u64 0, .int .i64 100]) ∧ w' = w := by
  obtain ⟨r, hr, hr'⟩ : ∃ r, IntKind.u64.wrap (a + b) = r ∧ r < a := ⟨_, rfl, by rw [IntKind.wrap_u64]; omega⟩
  clear h
  go_enter Try.func9, Try.ntmps9
  go_wp2
  go_ret2
  exact ⟨rfl, rfl⟩
theorem radd_def (a b : Int) (ha : 0 ≤ a) (ha' : a ≤ 18446744073709551615) (hb : 0 ≤ b) (hb' : b ≤ 18446744073709551615) (w : World) :
    Calls Try.prog 9 #[.int .u64 a, .int .u64 b] w fun e w' => e = .returned (.tuple #[.int .u64 (addV a b), .int .i64 (addE a b)]) ∧ w' = w := by
  unfold addV addE
  by_cases h : a + b < 18446744073709551616
  · rw [if_pos h, if_pos h]; exact radd_ok a b ha hb h w
  · rw [if_neg h, if_neg h]; exact radd_over a b ha ha' hb hb' (by omega) w

theorem mul_fit {a b : Int} (ha : 0 < a) (hb : 0 ≤ b) (h : a * b < 18446744073709551616) : ∃ m, IntKind.u64.wrap (a * b) = m ∧ 0 ≤ m ∧ m ≤ 18446744073709551615 ∧ m / a = b ∧ a * b = m := by
  have h0 := Int.mul_nonneg (Int.le_of_lt ha) hb
  exact ⟨a * b, by rw [IntKind.wrap_u64]; omega, h0, by omega, Int.mul_ediv_cancel_left b (by omega), rfl⟩
theorem mul_nofit {a b : Int} (ha : 0 < a) (h : 18446744073709551616 ≤ a * b) : ∃ m, IntKind.u64.wrap (a * b) = m ∧ 0 ≤ m ∧ m ≤ 18446744073709551615 ∧ (m / a != b) = true := by
  refine ⟨_, rfl, by rw [IntKind.wrap_u64]; omega, by rw [IntKind.wrap_u64]; omega, ?_⟩
  rw [bne_iff_ne]
  intro e
  have h1 : IntKind.u64.wrap (a * b) < 18446744073709551616 := by rw [IntKind.wrap_u64]; omega
  generalize IntKind.u64.wrap (a * b) = r at *
  have h2 := Int.mul_ediv_self_le (x := r) (k := a) (by omega)
  rw [e] at h2
  omega

set_option maxHeartbeats 400000 in
theorem rmul_zero (b : Int) (_hb : 0 ≤ b) (w : World) :
    Calls Try.prog 11 #[.int .u64 0, .int .u64 b] w fun e w' => e = .returned (.tuple #[.int .u64 0, .int .i64 0]) ∧ w' = w := by
  go_enter Try.func11, Try.ntmps11
  go_wp2
  go_ret2
  exact ⟨rfl, rfl⟩
set_option maxHeartbeats 400000 in
theorem rmul_ok (a b m : Int) (ha : 0 < a) (hw : IntKind.u64.wrap (a * b) = m) (m0 : 0 ≤ m) (m1 : m ≤ 18446744073709551615) (hq : m / a = b) (w : World) :
    Calls Try.prog 11 #[.int .u64 a, .int .u64 b] w fun e w' => e = .returned (.tuple #[.int .u64 m, .int .i64 0]) ∧ w' = w := by
  have h0 : (a != 0) = true := by rw [bne_iff_ne]; omega
  go_enter Try.func11, Try.ntmps11
  go_wp2
  go_ret2
  exact ⟨rfl, rfl⟩
set_option maxHeartbeats 400000 in
theorem rmul_over (a b m : Int) (ha : 0 < a) (hw : IntKind.u64.wrap (a * b) = m) (m0 : 0 ≤ m) (m1 : m ≤ 18446744073709551615) (hq : (m / a != b) = true) (w : World) :
    Calls Try.prog 11 #[.int .u64 a, .int .u64 b] w fun e w' => e = .returned (.tuple #[.int .u64 0, .int .i64 100]) ∧ w' = w := by
  have h0 : (a != 0) = true := by rw [bne_iff_ne]; omega
  go_enter Try.func11, Try.ntmps11
  go_wp2
  go_ret2
  exact ⟨rfl, rfl⟩
theorem rmul_def (a b : Int) (ha : 0 ≤ a) (hb : 0 ≤ b) (w : World) :
    Calls Try.prog 11 #[.int .u64 a, .int .u64 b] w fun e w' => e = .returned (.tuple #[.int .u64 (mulV a b), .int .i64 (mulE a b)]) ∧ w' = w := by
  unfold mulV mulE
  by_cases h0 : a = 0
  · subst h0
    rw [Int.zero_mul, if_pos (by omega), if_pos (by omega)]
    exact rmul_zero b hb w
  · by_cases h : a * b < 18446744073709551616
    · rw [if_pos h, if_pos h]
      obtain ⟨m, h1, h2, h3, h4, h5⟩ := mul_fit (by omega) hb h
      rw [h5]
      exact rmul_ok a b m (by omega) h1 h2 h3 h4 w
    · rw [if_neg h, if_neg h]
      obtain ⟨m, h1, h2, h3, h4⟩ := mul_nofit (b := b) (show 0 < a by omega) (by omega)
      exact rmul_over a b m (by omega) h1 h2 h3 h4 w

set_option maxHeartbeats 400000 in
theorem rgcd_any (a b : Int) (ha : 0 ≤ a) (ha' : a < 18446744073709551616) (hb : 0 ≤ b) (hb' : b < 18446744073709551616) (w : World) :
    Calls Try.prog 18 #[.int .u64 a, .int .u64 b] w fun e w' => e = .returned (.int .u64 (gcdI a b)) ∧ w' = w := by
  go_enter Try.func18, Try.ntmps18
  go_wp2
  go_loop [0, 1] (fun s t => ∃ x y : Int, 0 ≤ x ∧ x < 18446744073709551616 ∧ 0 ≤ y ∧ y < 18446744073709551616 ∧ s = .int .u64 x ∧ t = .int .u64 y ∧ Hid (gcdI x y = gcdI a b)) (fun _ t => (intOf t).toNat)
  case atStart => exact ⟨a, b, ha, ha', hb, hb', rfl, rfl, rfl⟩
  case round =>
    obtain ⟨x, y, hx, hx', hy, hy', rfl, rfl, hg⟩ := hrel
    by_cases hz : y = 0
    · subst hz
      go_wp2
      go_ret
      exact ⟨ret_int ((gcdI_zero x hx).symm.trans hg.out), rfl⟩
    · have h1 : (y != 0) = true := by rw [bne_iff_ne]; exact hz
      have h2 : 0 < y := by omega
      have h3 : 0 ≤ x % y := Int.emod_nonneg x hz
      have h4 : x % y < y := Int.emod_lt_of_pos x h2
      go_wp2
      go_round
      case rel => exact ⟨y, x % y, hy, hy', h3, by omega, rfl, rfl, hide ((gcdI_step x y hx h2).trans hg.out)⟩
      case measure => simp [intOf]; omega

set_option maxHeartbeats 400000 in
theorem rlcm_zero (a b : Int) (h : a = 0 ∨ b = 0) (w : World) :
    Calls Try.prog 13 #[.int .u64 a, .int .u64 b] w fun e w' => e = .returned (.tuple #[.int .u64 0, .int .i64 0]) ∧ w' = w := by
  by_cases h0 : a = 0
  · subst h0
    clear h
    go_enter Try.func13, Try.ntmps13
    go_wp2
    go_ret2
    exact ⟨rfl, rfl⟩
  · have hb : b = 0 := by omega
    subst hb
    have h1 : (a == 0) = false := by simp [h0]
    clear h
    go_enter Try.func13, Try.ntmps13
    go_wp2
    go_ret2
    exact ⟨rfl, rfl⟩
set_option maxHeartbeats 400000 in
theorem rlcm_def (a b : Int) (ha : 0 ≤ a) (ha' : a ≤ 18446744073709551615) (hb : 0 ≤ b) (hb' : b ≤ 18446744073709551615) (w : World) :
    Calls Try.prog 13 #[.int .u64 a, .int .u64 b] w fun e w' => e = .returned (.tuple #[.int .u64 (lcmV a b), .int .i64 (lcmE a b)]) ∧ w' = w := by
  unfold lcmV lcmE
  by_cases h0 : a = 0 ∨ b = 0
  · rw [if_pos h0, if_pos h0]
    exact rlcm_zero a b h0 w
  · rw [if_neg h0, if_neg h0]
    have ha0 : 0 < a := by omega
    have hq := quo_bd a b ha0
    obtain ⟨hq1, hq2⟩ := hq
    have hg := gcdI_pos a b ha0
    have cg := hide (rgcd_any a b (by omega) (by omega) (by omega) (by omega))
    have cm := hide (rmul_def (a / gcdI a b) b (by omega) hb)
    have h1 : (a == 0) = false := by simp; omega
    have h2 : (b == 0) = false := by simp; omega
    clear h0
    go_enter Try.func13, Try.ntmps13
    go_wp2_with (first | (go_at_call 18; refine (cg.out _).mono ?_; rintro e w' ⟨rfl, rfl⟩) | (go_at_call 11; refine (cm.out _).mono ?_; rintro e w' ⟨rfl, rfl⟩))
    go_ret2
    exact ⟨rfl, rfl⟩

set_option maxHeartbeats 400000 in
theorem rsum_none (a : Option Addr) (cap : Nat) (w : World) :
    Calls Try.prog 15 #[.slice a 0 cap] w fun e w' => e = .returned (.tuple #[.int .u64 0, .int .i64 0]) ∧ w' = w := by
  go_enter Try.func15, Try.ntmps15
  go_wp2
  go_loop [4, 5] (fun s i => s = .int .u64 0 ∧ i = .int .i64 0) (fun _ _ => 0)
  case atStart => exact ⟨rfl, rfl⟩
  case round =>
    obtain ⟨rfl, rfl⟩ := hrel
    go_wp2
    go_ret2
    exact ⟨rfl, rfl⟩
set_option maxHeartbeats 400000 in
theorem rsum_ok (b off len cap : Nat) (zs : List Int) (hlen : len ≤ zs.length) (hm : len ≤ 9223372036854775807) (hl : ∀ j : Nat, 0 ≤ zs[j]?.getD 0) (w : World) (hc : NumsAt w b off len zs) (h : psum zs len < 18446744073709551616) :
    Calls Try.prog 15 #[.slice (some ⟨b, off, none⟩) len cap] w fun e w' => e = .returned (.tuple #[.int .u64 (psum zs len), .int .i64 0]) ∧ w' = w := by
  go_enter Try.func15, Try.ntmps15
  go_wp2
  go_loop [4, 5] (fun s i => ∃ k : Nat, k ≤ len ∧ i = .int .i64 k ∧ s = .int .u64 (psum zs k)) (fun _ i => len - (intOf i).toNat)
  case atStart => exact ⟨0, Nat.zero_le _, rfl, by rw [psum_zero]⟩
  case round =>
    obtain ⟨k, hk, rfl, rfl⟩ := hrel
    by_cases hlt : k < len
    · have hcell := hc k hlt
      have h0 := psum_nonneg zs hl k
      have h1 := hl k
      have h2 := psum_mono zs hl (k + 1) len (by omega)
      have h3 := hide (psum_succ zs k (by omega))
      have h4 : psum zs k + zs[k]?.getD 0 < 18446744073709551616 := by rw [← h3.out]; omega
      clear h2
      go_wp2_with (go_at_call 9; refine (radd_ok _ _ h0 h1 h4 _).mono ?_; rintro e w' ⟨rfl, rfl⟩)
      go_round
      case rel => exact ⟨k + 1, by omega, by go_num, by rw [h3.out]⟩
      case measure => simp [intOf]; omega
    · have e : k = len := by omega
      subst e
      go_wp2
      go_ret2
      exact ⟨rfl, rfl⟩
set_option maxHeartbeats 400000 in
theorem rsum_over (b off len cap : Nat) (zs : List Int) (hlen : len ≤ zs.length) (hm : len ≤ 9223372036854775807) (hl : ∀ j : Nat, 0 ≤ zs[j]?.getD 0 ∧ zs[j]?.getD 0 ≤ 18446744073709551615) (w : World) (hc : NumsAt w b off len zs) (h : 18446744073709551616 ≤ psum zs len) :
    Calls Try.prog 15 #[.slice (some ⟨b, off, none⟩) len cap] w fun e w' => e = .returned (.tuple #[.int .u64 0, .int .i64 100]) ∧ w' = w := by
  have HL := hide hl
  clear hl
  go_enter Try.func15, Try.ntmps15
  go_wp2
  go_loop [4, 5] (fun s i => ∃ k : Nat, k ≤ len ∧ i = .int .i64 k ∧ s = .int .u64 (psum zs k) ∧ psum zs k < 18446744073709551616) (fun _ i => len - (intOf i).toNat)
  case atStart => exact ⟨0, Nat.zero_le _, rfl, by rw [psum_zero], by rw [psum_zero]; omega⟩
  case round =>
    obtain ⟨k, hk, rfl, rfl, hs⟩ := hrel
    have hlt : k < len := by
      by_cases e : k = len
      · subst e; omega
      · omega
    have hcell := hc k hlt
    have h0 := psum_nonneg zs (fun j => (HL.out j).1) k
    obtain ⟨h1, h1'⟩ := HL.out k
    have h3 := hide (psum_succ zs k (by omega))
    by_cases h4 : psum zs k + zs[k]?.getD 0 < 18446744073709551616
    · have h5 := hide (h3.out ▸ h4 : psum zs (k + 1) < 18446744073709551616)
      go_wp2_with (go_at_call 9; refine (radd_ok _ _ h0 h1 h4 _).mono ?_; rintro e w' ⟨rfl, rfl⟩)
      go_round
      case rel => exact ⟨k + 1, by omega, by go_num, by rw [h3.out], h5.out⟩
      case measure => simp [intOf]; omega
    · have h6 : 18446744073709551616 ≤ psum zs k + zs[k]?.getD 0 := by omega
      clear h4
      go_wp2_with (go_at_call 9; refine (radd_over _ _ h0 (by omega) h1 h1' h6 _).mono ?_; rintro e w' ⟨rfl, rfl⟩)
      go_ret2
      exact ⟨rfl, rfl⟩
theorem rsum_def (b off len cap : Nat) (zs : List Int) (hlen : len ≤ zs.length) (hm : len ≤ 9223372036854775807) (hl : ∀ j : Nat, 0 ≤ zs[j]?.getD 0 ∧ zs[j]?.getD 0 ≤ 18446744073709551615) (w : World) (hc : NumsAt w b off len zs) :
    Calls Try.prog 15 #[.slice (some ⟨b, off, none⟩) len cap] w fun e w' => e = .returned (.tuple #[.int .u64 (sumV (psum zs len)), .int .i64 (sumE (psum zs len))]) ∧ w' = w := by
  unfold sumV sumE
  by_cases h : psum zs len < 18446744073709551616
  · rw [if_pos h, if_pos h]; exact rsum_ok b off len cap zs hlen hm (fun j => (hl j).1) w hc h
  · rw [if_neg h, if_neg h]; exact rsum_over b off len cap zs hlen hm hl w hc (by omega)
#print axioms rsum_def
end Go.Proofs.Ytnepbdbalniodaa

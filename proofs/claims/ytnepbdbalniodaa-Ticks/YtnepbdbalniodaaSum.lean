/- The contract of package tick's Sum, proved over the translation: over a slice of numbers it answers their sum, or 0 and ErrTickOver where the sum is 2^64 or more. -/
import Derived.Test.YtnepbdbalniodaaGcd
namespace Go.Proofs.Ytnepbdbalniodaa
open Go.RowKit Go.Lib

/-- The sum of the first k. -/
def psum (l : List Int) (k : Nat) : Int := (l.take k).sum
theorem psum_zero (l : List Int) : psum l 0 = 0 := by simp [psum]
theorem psum_succ (l : List Int) (k : Nat) (h : k < l.length) : psum l (k + 1) = psum l k + l[k]?.getD 0 := by
  unfold psum
  rw [List.take_succ_eq_append_getElem h, List.sum_append]
  simp [List.getElem?_eq_getElem h]
theorem psum_nonneg (l : List Int) (hl : ∀ j : Nat, 0 ≤ l[j]?.getD 0) (k : Nat) : 0 ≤ psum l k := by
  induction k with
  | zero => simp [psum_zero]
  | succ k ih =>
    by_cases h : k < l.length
    · rw [psum_succ l k h]; have := hl k; omega
    · have e : psum l (k + 1) = psum l k := by unfold psum; rw [List.take_of_length_le (by omega), List.take_of_length_le (by omega)]
      rw [e]; exact ih
theorem psum_mono (l : List Int) (hl : ∀ j : Nat, 0 ≤ l[j]?.getD 0) (k m : Nat) (h : k ≤ m) : psum l k ≤ psum l m := by
  induction m with
  | zero => have : k = 0 := by omega
            subst this; exact Int.le_refl _
  | succ m ih =>
    by_cases e : k = m + 1
    · subst e; exact Int.le_refl _
    · have := ih (by omega)
      by_cases h : m < l.length
      · rw [psum_succ l m h]; have := hl m; omega
      · have e : psum l (m + 1) = psum l m := by unfold psum; rw [List.take_of_length_le (by omega), List.take_of_length_le (by omega)]
        rw [e]; exact this
theorem ret_two {k1 k2 : IntKind} {a b c d : Int} (h : a = b) (h' : c = d) : Ending.returned (.tuple #[.int k1 a, .int k2 c]) = .returned (.tuple #[.int k1 b, .int k2 d]) := by rw [h, h']

/-- The numbers of a slice, as cells. -/
def NumsAt (w : World) (b : Nat) (off len : Nat) (zs : List Int) : Prop :=
  ∀ k, k < len → w.cell? ⟨b, off + k, none⟩ = some (.int .u64 (zs[k]?.getD 0))

set_option maxHeartbeats 400000 in
theorem sum_none (a : Option Addr) (cap : Nat) (w : World) :
    Calls Try.prog 14 #[.slice a 0 cap] w fun e w' => e = .returned (.tuple #[.int .u64 0, .int .i64 0]) ∧ w' = w := by
  go_enter Try.func14, Try.ntmps14
  go_wp2
  go_loop [4, 11] (fun s i => s = .int .u64 0 ∧ i = .int .i64 0) (fun _ _ => 0)
  case atStart => exact ⟨rfl, rfl⟩
  case round =>
    obtain ⟨rfl, rfl⟩ := hrel
    go_wp2
    go_ret2
    exact ⟨rfl, rfl⟩

set_option maxHeartbeats 400000 in
theorem sum_ok (b : Nat) (off len cap : Nat) (zs : List Int) (hlen : len ≤ zs.length) (hm : len ≤ 9223372036854775807) (hl : ∀ j : Nat, 0 ≤ zs[j]?.getD 0) (w : World) (hc : NumsAt w b off len zs) (h : psum zs len < 18446744073709551616) :
    Calls Try.prog 14 #[.slice (some ⟨b, off, none⟩) len cap] w fun e w' => e = .returned (.tuple #[.int .u64 (psum zs len), .int .i64 0]) ∧ w' = w := by
  go_enter Try.func14, Try.ntmps14
  go_wp2
  go_loop [4, 11] (fun s i => ∃ k : Nat, k ≤ len ∧ i = .int .i64 k ∧ s = .int .u64 (psum zs k)) (fun _ i => len - (intOf i).toNat)
  case atStart => exact ⟨0, Nat.zero_le _, rfl, by rw [psum_zero]⟩
  case round =>
    obtain ⟨k, hk, rfl, rfl⟩ := hrel
    by_cases hlt : k < len
    · have hcell := hc k hlt
      have h0 := psum_nonneg zs hl k
      have h1 := hl k
      have h2 := psum_mono zs hl (k + 1) len (by omega)
      have h3 := hide (psum_succ zs k (by omega))
      have h4 : psum zs k + zs[k]?.getD 0 < 18446744073709551616 := by rw [← h3.out]; omega
      clear h2
      go_wp2_with (go_at_call 8; refine (add_ok _ _ h0 h1 h4 _).mono ?_; rintro e w' ⟨rfl, rfl⟩)
      go_round
      case rel => exact ⟨k + 1, by omega, by go_num, by rw [h3.out]⟩
      case measure => simp [intOf]; omega
    · have e : k = len := by omega
      subst e
      go_wp2
      go_ret2
      exact ⟨rfl, rfl⟩

set_option maxHeartbeats 400000 in
theorem sum_over (b : Nat) (off len cap : Nat) (zs : List Int) (hlen : len ≤ zs.length) (hm : len ≤ 9223372036854775807) (hl : ∀ j : Nat, 0 ≤ zs[j]?.getD 0) (w : World) (hc : NumsAt w b off len zs) (h : 18446744073709551616 ≤ psum zs len) :
    Calls Try.prog 14 #[.slice (some ⟨b, off, none⟩) len cap] w fun e w' => e = .returned (.tuple #[.int .u64 0, .int .i64 100]) ∧ w' = w := by
  go_enter Try.func14, Try.ntmps14
  go_wp2
  go_loop [4, 11] (fun s i => ∃ k : Nat, k ≤ len ∧ i = .int .i64 k ∧ s = .int .u64 (psum zs k) ∧ psum zs k < 18446744073709551616) (fun _ i => len - (intOf i).toNat)
  case atStart => exact ⟨0, Nat.zero_le _, rfl, by rw [psum_zero], by rw [psum_zero]; omega⟩
  case round =>
    obtain ⟨k, hk, rfl, rfl, hs⟩ := hrel
    have hlt : k < len := by
      by_cases e : k = len
      · subst e; omega
      · omega
    have hcell := hc k hlt
    have h0 := psum_nonneg zs hl k
    have h1 := hl k
    have h3 := hide (psum_succ zs k (by omega))
    by_cases h4 : psum zs k + zs[k]?.getD 0 < 18446744073709551616
    · have h5 := hide (h3.out ▸ h4 : psum zs (k + 1) < 18446744073709551616)
      go_wp2_with (go_at_call 8; refine (add_ok _ _ h0 h1 h4 _).mono ?_; rintro e w' ⟨rfl, rfl⟩)
      go_round
      case rel => exact ⟨k + 1, by omega, by go_num, by rw [h3.out], h5.out⟩
      case measure => simp [intOf]; omega
    · have h6 : 18446744073709551616 ≤ psum zs k + zs[k]?.getD 0 := by omega
      clear h4
      go_wp2_with (go_at_call 8; refine (add_over _ _ h0 h1 h6 _).mono ?_; rintro e w' ⟨rfl, rfl⟩)
      go_ret2
      exact ⟨rfl, rfl⟩
#print axioms sum_over
end Go.Proofs.Ytnepbdbalniodaa

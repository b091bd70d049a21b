/- Contracts of package bits' Has and Next, proved over the translation. -/
import Derived.Test.YthphkcblifkmeaaDoorSet
namespace Go.Proofs.YthphkcblifkmeaaDoor
open Go.RowKit
attribute [local go_sem] alloc_drewN setCell_drewN

set_option maxRecDepth 100000 in
set_option maxHeartbeats 1000000 in
theorem has_any (b k x : Nat) (i : Int) (w : World) (h : SetAt w b k x) :
    Calls Tryd.prog 18 #[.pointer (some ⟨b, 0, none⟩), .int .i64 i] w fun e w' => e = .returned (.bool (hasW x i)) ∧ ∃ n, w' = w.drewN n := by
  have C := hide (fun n => fits_any b k x i _ (h.draws n))
  by_cases hf : Fits k i
  · rw [decide_eq_true hf] at C
    have hk := h.most
    unfold Fits at hf
    obtain ⟨n, rfl⟩ : ∃ n : Nat, i = n := ⟨i.toNat, by omega⟩
    have hx := h.word_lt
    have hh : hasW x n = x.testBit n := by simp [hasW]
    rw [hh]
    clear hh
    have hb := bit_has x n (by omega) hx
    have CB := hide (fun w => bit_any n (2 ^ n) (by omega) rfl w)
    generalize x.testBit n = t at *
    generalize 2 ^ n = p at hb CB
    have h1 := h.word
    clear h
    go_enter Tryd.func18, Tryd.ntmps18
    go_wp2
    go_quiet (first | (go_at_call 24; exact Calls.quiet_of (Calls.mono (C.out _) (fun _ _ h => ⟨h.1, 0, h.2⟩))) | (go_at_call 25; exact Calls.quiet_of (Calls.mono (CB.out _) (fun _ _ h => ⟨h.1, 0, h.2⟩))))
    go_wp2
    go_ret
    exact ⟨rfl, _, rfl⟩
  · rw [decide_eq_false hf] at C
    have hh : hasW x i = false := by
      unfold hasW
      unfold Fits at hf
      by_cases h0 : 0 ≤ i
      · rw [no_bit h.small (by omega)]; simp
      · simp [h0]
    rw [hh]
    clear hh hf h
    go_enter Tryd.func18, Tryd.ntmps18
    go_wp2
    go_quiet (first | (go_at_call 24; exact Calls.quiet_of (Calls.mono (C.out _) (fun _ _ h => ⟨h.1, 0, h.2⟩))))
    go_wp2
    go_ret
    exact ⟨rfl, _, rfl⟩
#print axioms has_any

set_option maxRecDepth 100000 in
set_option maxHeartbeats 1000000 in
theorem next_none (b k : Nat) (i : Int) (w : World) (h : SetAt w b k 0) :
    Calls Tryd.prog 16 #[.pointer (some ⟨b, 0, none⟩), .int .i64 i] w fun e w' => e = .returned (.tuple #[.int .i64 0, .bool false]) ∧ w' = w := by
  have h1 := h.word
  go_enter Tryd.func16, Tryd.ntmps16
  go_wp2
  go_ret2
  exact ⟨rfl, rfl⟩

theorem and_u64 (x p y : Nat) (hx : x < 18446744073709551616) (hp : p < 18446744073709551616) (h : x &&& p = y) : bits .and .u64 (x : Int) (p : Int) = (y : Int) := by rw [bits_and_u64_nat _ _ hx hp, h]

set_option maxRecDepth 100000 in
set_option maxHeartbeats 1000000 in
theorem next_some (b k x : Nat) (i : Int) (h0 : 0 < x) (w : World) (hT : Tab w) (h : SetAt w b k x) :
    Calls Tryd.prog 16 #[.pointer (some ⟨b, 0, none⟩), .int .i64 i] w fun e w' => ∃ r : Nat, e = .returned (.tuple #[.int .i64 r, .bool true]) ∧ IsNext x i r ∧ ∃ n, w' = w.drewN n := by
  have hx := h.word_lt
  have h1 := h.word
  have hb := and_u64 x (aboveW i) _ hx (above_lt i) rfl
  have CA := hide (fun w => above_any i (aboveW i) rfl w)
  have hne : ((x : Int) == 0) = false := by rw [beq_eq_false_iff_ne]; omega
  rcases Nat.eq_zero_or_pos (x &&& aboveW i) with ha | ha
  · have HN := hide (next_least x i hx h0 ha)
    rw [ha] at hb
    have CT := hide (fun n => tz_any x h0 hx _ (hT.draws n))
    generalize aboveW i = a at hb CA
    generalize Lib.ctz 64 x = c at *
    clear h hT ha
    go_enter Tryd.func16, Tryd.ntmps16
    go_wp2
    go_quiet (first | (go_at_call 27; exact Calls.quiet_of (Calls.mono (CA.out _) (fun _ _ h => ⟨h.1, 0, h.2⟩))))
    go_wp2_with (go_at_call 28; refine (CT.out _).mono ?_; rintro e w' ⟨rfl, rfl⟩)
    go_ret2
    exact ⟨c, rfl, HN.out, _, rfl⟩
  · have HN := hide (next_above x i hx ha)
    have hlt : x &&& aboveW i < 18446744073709551616 := Nat.lt_of_le_of_lt Nat.and_le_left hx
    have CT := hide (fun n => tz_any (x &&& aboveW i) ha hlt _ (hT.draws n))
    generalize Lib.ctz 64 (x &&& aboveW i) = c at *
    generalize x &&& aboveW i = y at *
    generalize aboveW i = a at hb CA
    have hne2 : ((y : Int) == 0) = false := by rw [beq_eq_false_iff_ne]; omega
    clear h hT
    go_enter Tryd.func16, Tryd.ntmps16
    go_wp2
    go_quiet (first | (go_at_call 27; exact Calls.quiet_of (Calls.mono (CA.out _) (fun _ _ h => ⟨h.1, 0, h.2⟩))))
    go_wp2_with (go_at_call 28; refine (CT.out _).mono ?_; rintro e w' ⟨rfl, rfl⟩)
    go_ret2
    exact ⟨c, rfl, HN.out, _, rfl⟩
#print axioms next_some
end Go.Proofs.YthphkcblifkmeaaDoor

/- Contracts of package bits' fits, bit, bitsAbove, Put, Drop, Has and Next, and of the library's TrailingZeros64, proved over the translation. -/
import Derived.Test.YthphkcblifkmeaaDoorNums
namespace Go.Proofs.YthphkcblifkmeaaDoor
open Go.RowKit
attribute [local go_sem] alloc_drewN setCell_drewN

/-- The Set at block b is of size k and holds the bits of x. -/
structure SetAt (W : World) (b k x : Nat) : Prop where
  one : 1 ≤ k
  most : k ≤ 64
  small : x < 2 ^ k
  word : W.cell? ⟨b, 0, none⟩ = some (.int .u64 x)
  size : W.cell? ⟨b, 1, none⟩ = some (.int .i64 k)
  thaw : W.frozen? ⟨b, 0, none⟩ = false

theorem SetAt.lt {W : World} {b k x : Nat} (h : SetAt W b k x) : b < W.heap.size := World.block_lt_of_cell? W ⟨b, 0, none⟩ h.word
theorem SetAt.word_lt {W : World} {b k x : Nat} (h : SetAt W b k x) : x < 18446744073709551616 := Nat.lt_of_lt_of_le h.small (pow_le h.most)
theorem SetAt.draws {W : World} {b k x : Nat} (h : SetAt W b k x) (n : Nat) : SetAt (W.drewN n) b k x := ⟨h.one, h.most, h.small, h.word, h.size, h.thaw⟩
theorem SetAt.kept {W W' : World} {b k x : Nat} (h : SetAt W b k x) (e : W'.heap[b]? = W.heap[b]?) : SetAt W' b k x :=
  ⟨h.one, h.most, h.small, (World.cell?_of_block (a := ⟨b, 0, none⟩) e).trans h.word, (World.cell?_of_block (a := ⟨b, 1, none⟩) e).trans h.size, (World.frozen?_of_block (a := ⟨b, 0, none⟩) e).trans h.thaw⟩
theorem SetAt.put {W : World} {b k x y : Nat} (h : SetAt W b k x) (hy : y < 2 ^ k) : SetAt (W.setCell ⟨b, 0, none⟩ (.int .u64 y)) b k y :=
  ⟨h.one, h.most, hy, World.cell?_setCell_same _ _ _ h.word, by rw [other _ _ _ _ _ (by omega)]; exact h.size, by rw [World.frozen?_setCell]; exact h.thaw⟩

/-- The library's table is there. -/
def Tab (W : World) : Prop := ∀ j, j < 64 → W.cell? ⟨0, j, none⟩ = some (.int .u8 (Lib.deBruijn64tab.getD j 0 : Nat))
theorem Tab.draws {W : World} (h : Tab W) (n : Nat) : Tab (W.drewN n) := h
theorem Tab.pos {W : World} (h : Tab W) : 0 < W.heap.size := World.block_lt_of_cell? W ⟨0, 0, none⟩ (h 0 (by decide))
theorem Tab.kept {W W' : World} (h : Tab W) (e : W'.heap[0]? = W.heap[0]?) : Tab W' := fun j hj => (World.cell?_of_block (a := ⟨0, j, none⟩) e).trans (h j hj)

set_option maxHeartbeats 400000 in
theorem fits_any (b k x : Nat) (i : Int) (w : World) (h : SetAt w b k x) :
    Calls Tryd.prog 24 #[.pointer (some ⟨b, 0, none⟩), .int .i64 i] w fun e w' => e = .returned (.bool (decide (Fits k i))) ∧ w' = w := by
  have h1 := h.size
  by_cases h0 : 0 ≤ i
  · by_cases hk : i < k
    · have hd : decide (Fits k i) = true := decide_eq_true ⟨h0, hk⟩
      rw [hd]
      go_enter Tryd.func24, Tryd.ntmps24
      go_wp2
      go_ret
      exact ⟨rfl, rfl⟩
    · have hd : decide (Fits k i) = false := decide_eq_false (fun h => hk h.2)
      rw [hd]
      go_enter Tryd.func24, Tryd.ntmps24
      go_wp2
      go_ret
      exact ⟨rfl, rfl⟩
  · have hd : decide (Fits k i) = false := decide_eq_false (fun h => h0 h.1)
    rw [hd]
    go_enter Tryd.func24, Tryd.ntmps24
    go_wp2
    go_ret
    exact ⟨rfl, rfl⟩

theorem pow_cast (i : Nat) : (2 : Int) ^ i = ((2 ^ i : Nat) : Int) := by rw [Int.natCast_pow]; rfl
set_option maxHeartbeats 400000 in
theorem bit_any (i p : Nat) (hi : i < 64) (hp : 2 ^ i = p) (w : World) :
    Calls Tryd.prog 25 #[.int .i64 i] w fun e w' => e = .returned (.int .u64 p) ∧ w' = w := by
  have h1 : IntKind.u64.wrap (2 ^ i) = (p : Int) := by
    have := pow_lt hi
    rw [IntKind.wrap_u64, pow_cast, hp]
    rw [hp] at this
    omega
  have H1 := hide h1
  clear h1 hp
  go_enter Tryd.func25, Tryd.ntmps25
  go_wp2
  go_ret
  refine ⟨?_, rfl⟩
  rw [← H1.out]
  rfl

set_option maxHeartbeats 400000 in
theorem above_any (i : Int) (a : Nat) (ha : aboveW i = a) (w : World) :
    Calls Tryd.prog 27 #[.int .i64 i] w fun e w' => e = .returned (.int .u64 a) ∧ w' = w := by
  by_cases h0 : i < 0
  · have H1 := hide ha
    clear ha
    go_enter Tryd.func27, Tryd.ntmps27
    go_wp2
    go_ret
    refine ⟨?_, rfl⟩
    rw [← H1.out]
    unfold aboveW
    rw [if_pos h0]
    rfl
  · have h0' : 0 ≤ i := by omega
    have h1 := above_eq i h0'
    rw [ha] at h1
    have H1 := hide h1
    clear h1 ha
    go_enter Tryd.func27, Tryd.ntmps27
    go_wp2
    go_ret
    refine ⟨?_, rfl⟩
    rw [← H1.out]
    rfl

/-! The library's TrailingZeros64. -/
theorem tz_key (x a : Nat) (hx : x < 18446744073709551616) (hx0 : x ≠ 0) (hlow : x &&& (18446744073709551616 - x) = a) :
    IntKind.u64.wrap (bits BinOp.and IntKind.u64 (x : Int) (IntKind.u64.wrap (-(x : Int))) * 285870213051353865) / 288230376151711744 = ((a * 285870213051353865 % 18446744073709551616 / 288230376151711744 : Nat) : Int) := by
  have e1 : IntKind.u64.wrap (-(x : Int)) = ((18446744073709551616 - x : Nat) : Int) := by rw [IntKind.wrap_u64]; omega
  rw [e1, bits_and_u64_nat x _ hx (by omega), hlow, IntKind.wrap_u64]
  omega
set_option maxHeartbeats 1000000 in
theorem tz_core (x k idx : Nat) (w : World) (hx0 : ((x : Int) == 0) = false)
    (key : IntKind.u64.wrap (bits BinOp.and IntKind.u64 (x : Int) (IntKind.u64.wrap (-(x : Int))) * 285870213051353865) / 288230376151711744 = (idx : Int))
    (hi : idx < 64) (hk : k < 64) (hcell : w.cell? ⟨0, idx, none⟩ = some (.int .u8 k)) :
    Calls Tryd.prog 28 #[.int .u64 x] w fun e w' => e = .returned (.int .i64 k) ∧ w' = w := by
  go_enter Tryd.func28, Tryd.ntmps28
  go_wp2_with (simp only [key])
  go_ret
  exact ⟨rfl, rfl⟩
theorem tz_any (x : Nat) (h0 : 0 < x) (hx : x < 18446744073709551616) (w : World) (hT : Tab w) :
    Calls Tryd.prog 28 #[.int .u64 x] w fun e w' => e = .returned (.int .i64 (Lib.ctz 64 x : Nat)) ∧ w' = w := by
  obtain ⟨hlow, hk⟩ := Lib.lowest_bit 64 x (by omega) hx
  obtain ⟨hi, htab⟩ := Lib.deBruijn64_at _ hk
  have hcell := hT _ hi
  rw [htab] at hcell
  exact tz_core x _ _ w (by simp; omega) (tz_key x _ hx (by omega) hlow) hi hk hcell

/-! Put and Drop. -/
theorem or_u64 (x p y : Nat) (hx : x < 18446744073709551616) (hp : p < 18446744073709551616) (h : x ||| p = y) : bits .or .u64 (x : Int) (p : Int) = (y : Int) := by rw [bits_or_u64_nat _ _ hx hp, h]
attribute [local go_sem ↓] Go.wp_at_zero Go.wp_at_succ
set_option maxRecDepth 100000 in
set_option maxHeartbeats 1000000 in
theorem put_any (b k x : Nat) (i : Int) (w : World) (h : SetAt w b k x) :
    Calls Tryd.prog 12 #[.pointer (some ⟨b, 0, none⟩), .int .i64 i] w fun e w' => e = .returned (.int .i64 (ans k i)) ∧ SetAt w' b k (putW k x i) ∧ w.grownBy w' (some b) := by
  have C := hide (fits_any b k x i w h)
  by_cases hf : Fits k i
  · rw [decide_eq_true hf] at C
    have hk := h.most
    unfold Fits at hf
    obtain ⟨n, rfl⟩ : ∃ n : Nat, i = n := ⟨i.toNat, by omega⟩
    have hx := h.word_lt
    have hy : putW k x n = x ||| 2 ^ n := by unfold putW; rw [if_pos (by unfold Fits; exact hf)]; rfl
    have hyl : putW k x n < 2 ^ k := put_lt h.small
    have ha : ans k n = 0 := by unfold ans; rw [if_pos (by unfold Fits; exact hf)]
    rw [ha]
    clear ha
    have hb := or_u64 x (2 ^ n) _ hx (pow_lt (by omega)) hy.symm
    have CB := hide (fun w => bit_any n (2 ^ n) (by omega) rfl w)
    generalize putW k x n = y at *
    generalize 2 ^ n = p at hb CB
    clear hy
    have h1 := h.word
    have h2 := h.thaw
    have HS := hide (h.put hyl)
    clear hyl
    go_enter Tryd.func12, Tryd.ntmps12
    go_wp2_with (go_at_call 24; refine C.out.mono ?_; rintro e w' ⟨rfl, rfl⟩)
    go_region_with (first | (go_at_call 25; refine (CB.out _).mono ?_; rintro e w' ⟨rfl, rfl⟩))
    all_goals go_wp2
    all_goals
      go_ret
      exact ⟨rfl, HS.out.draws 1, grownBy_trans (grownBy_set _ _ _ _) (grownBy_draws _ 1 _)⟩
  · rw [decide_eq_false hf] at C
    have ha : ans k i = 300 := by unfold ans; rw [if_neg hf]
    have hp : putW k x i = x := by unfold putW; rw [if_neg hf]
    rw [ha, hp]
    have HS := hide h
    clear ha hp hf h
    go_enter Tryd.func12, Tryd.ntmps12
    go_wp2_with (go_at_call 24; refine C.out.mono ?_; rintro e w' ⟨rfl, rfl⟩)
    go_ret
    exact ⟨rfl, HS.out, grownBy_refl _ _⟩

set_option maxRecDepth 100000 in
set_option maxHeartbeats 1000000 in
theorem drop_any (b k x : Nat) (i : Int) (w : World) (h : SetAt w b k x) :
    Calls Tryd.prog 14 #[.pointer (some ⟨b, 0, none⟩), .int .i64 i] w fun e w' => e = .returned (.int .i64 (ans k i)) ∧ SetAt w' b k (dropW k x i) ∧ w.grownBy w' (some b) := by
  have C := hide (fits_any b k x i w h)
  by_cases hf : Fits k i
  · rw [decide_eq_true hf] at C
    have hk := h.most
    unfold Fits at hf
    obtain ⟨n, rfl⟩ : ∃ n : Nat, i = n := ⟨i.toNat, by omega⟩
    have hx := h.word_lt
    have hy : dropW k x n = x &&& (18446744073709551615 - 2 ^ n) := by unfold dropW; rw [if_pos (by unfold Fits; exact hf)]; rfl
    have hyl : dropW k x n < 2 ^ k := drop_lt h.small
    have ha : ans k n = 0 := by unfold ans; rw [if_pos (by unfold Fits; exact hf)]
    rw [ha]
    clear ha
    have hb := andNot_u64 x (2 ^ n) hx (pow_lt (by omega))
    rw [← hy] at hb
    have CB := hide (fun w => bit_any n (2 ^ n) (by omega) rfl w)
    generalize dropW k x n = y at *
    generalize 2 ^ n = p at hb CB
    clear hy
    have h1 := h.word
    have h2 := h.thaw
    have HS := hide (h.put hyl)
    clear hyl
    go_enter Tryd.func14, Tryd.ntmps14
    go_wp2_with (go_at_call 24; refine C.out.mono ?_; rintro e w' ⟨rfl, rfl⟩)
    go_region_with (first | (go_at_call 25; refine (CB.out _).mono ?_; rintro e w' ⟨rfl, rfl⟩))
    all_goals go_wp2
    all_goals
      go_ret
      exact ⟨rfl, HS.out.draws 1, grownBy_trans (grownBy_set _ _ _ _) (grownBy_draws _ 1 _)⟩
  · rw [decide_eq_false hf] at C
    have ha : ans k i = 300 := by unfold ans; rw [if_neg hf]
    have hp : dropW k x i = x := by unfold dropW; rw [if_neg hf]
    rw [ha, hp]
    have HS := hide h
    clear ha hp hf h
    go_enter Tryd.func14, Tryd.ntmps14
    go_wp2_with (go_at_call 24; refine C.out.mono ?_; rintro e w' ⟨rfl, rfl⟩)
    go_ret
    exact ⟨rfl, HS.out, grownBy_refl _ _⟩
#print axioms drop_any
end Go.Proofs.YthphkcblifkmeaaDoor

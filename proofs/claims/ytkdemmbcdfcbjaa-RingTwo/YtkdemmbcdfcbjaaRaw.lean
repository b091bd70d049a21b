/- Contracts of package ring's Offer and Pop over the cells of a Ring, proved over the translation. -/
import Derived.Test.YtkdemmbcdfcbjaaBase
namespace Go.Proofs.Ytkdemmbcdfcbjaa
open Go.RowKit
attribute [local go_sem] alloc_drewN setCell_drewN

/-- The cells of a Ring at block b: its places, its size, its first, the one past. -/
structure Raw (W : World) (b : Nat) (k f p : Int) (v : Nat → Int) : Prop where
  val : ∀ j, j < 65 → W.cell? ⟨b, j, none⟩ = some (.int .i64 (v j))
  size : W.cell? ⟨b, 65, none⟩ = some (.int .i64 k)
  first : W.cell? ⟨b, 66, none⟩ = some (.int .i64 f)
  past : W.cell? ⟨b, 67, none⟩ = some (.int .i64 p)
  thaw : ∀ j, W.frozen? ⟨b, j, none⟩ = false

theorem Raw.draws {W : World} {b : Nat} {k f p : Int} {v : Nat → Int} (h : Raw W b k f p v) (n : Nat) : Raw (W.drewN n) b k f p v :=
  ⟨h.val, h.size, h.first, h.past, h.thaw⟩
theorem Raw.kept {W W' : World} {b : Nat} {k f p : Int} {v : Nat → Int} (h : Raw W b k f p v) (e : W'.heap[b]? = W.heap[b]?) : Raw W' b k f p v :=
  ⟨fun j hj => (World.cell?_of_block (a := ⟨b, j, none⟩) e).trans (h.val j hj), (World.cell?_of_block (a := ⟨b, 65, none⟩) e).trans h.size, (World.cell?_of_block (a := ⟨b, 66, none⟩) e).trans h.first, (World.cell?_of_block (a := ⟨b, 67, none⟩) e).trans h.past, fun j => (World.frozen?_of_block (a := ⟨b, j, none⟩) e).trans (h.thaw j)⟩
theorem Raw.lt {W : World} {b : Nat} {k f p : Int} {v : Nat → Int} (h : Raw W b k f p v) : b < W.heap.size := World.block_lt_of_cell? W ⟨b, 65, none⟩ h.size

theorem other (W : World) (b j i : Nat) (u : Value) (h : i ≠ j) : (W.setCell ⟨b, i, none⟩ u).cell? ⟨b, j, none⟩ = W.cell? ⟨b, j, none⟩ :=
  World.cell?_setCell_other _ _ _ _ (fun e => absurd (congrArg Addr.off e) h)

theorem Raw.put {W : World} {b : Nat} {k f p : Int} {v : Nat → Int} (h : Raw W b k f p v) (q : Nat) (hq : q < 65) (x : Int) : Raw (W.setCell ⟨b, q, none⟩ (.int .i64 x)) b k f p (fun j => if j = q then x else v j) where
  val j hj := by
    by_cases e : j = q
    · subst e; simp only [if_true]; exact World.cell?_setCell_same _ _ _ (h.val j hj)
    · simp only [if_neg e]; rw [other _ _ _ _ _ (fun e' => e e'.symm)]; exact h.val j hj
  size := by rw [other _ _ _ _ _ (by omega)]; exact h.size
  first := by rw [other _ _ _ _ _ (by omega)]; exact h.first
  past := by rw [other _ _ _ _ _ (by omega)]; exact h.past
  thaw j := by rw [World.frozen?_setCell]; exact h.thaw j
theorem Raw.setFirst {W : World} {b : Nat} {k f p : Int} {v : Nat → Int} (h : Raw W b k f p v) (x : Int) : Raw (W.setCell ⟨b, 66, none⟩ (.int .i64 x)) b k x p v where
  val j hj := by rw [other _ _ _ _ _ (by omega)]; exact h.val j hj
  size := by rw [other _ _ _ _ _ (by omega)]; exact h.size
  first := World.cell?_setCell_same _ _ _ h.first
  past := by rw [other _ _ _ _ _ (by omega)]; exact h.past
  thaw j := by rw [World.frozen?_setCell]; exact h.thaw j
theorem Raw.setPast {W : World} {b : Nat} {k f p : Int} {v : Nat → Int} (h : Raw W b k f p v) (x : Int) : Raw (W.setCell ⟨b, 67, none⟩ (.int .i64 x)) b k f x v where
  val j hj := by rw [other _ _ _ _ _ (by omega)]; exact h.val j hj
  size := by rw [other _ _ _ _ _ (by omega)]; exact h.size
  first := by rw [other _ _ _ _ _ (by omega)]; exact h.first
  past := World.cell?_setCell_same _ _ _ h.past
  thaw j := by rw [World.frozen?_setCell]; exact h.thaw j

theorem length_l (b : Nat) (k f p l : Int) (v : Nat → Int) (hf : 0 ≤ f) (hf' : f < 65) (hp : 0 ≤ p) (hp' : p < 65) (hl : (p - f + 65) % 65 = l) (w : World) (h : Raw w b k f p v) :
    Calls Try.prog 20 #[.pointer (some ⟨b, 0, none⟩)] w fun e w' => e = .returned (.int .i64 l) ∧ ∃ n, w' = w.drewN n := by
  subst hl
  exact length_raw b f p hf hf' hp hp' w h.first h.past

set_option maxHeartbeats 1000000 in
theorem offer_full (b : Nat) (k f p x : Int) (v : Nat → Int) (hf : 0 ≤ f) (hf' : f < 65) (hp : 0 ≤ p) (hp' : p < 65) (hk : (p - f + 65) % 65 = k) (w : World) (h : Raw w b k f p v) :
    Calls Try.prog 13 #[.pointer (some ⟨b, 0, none⟩), .int .i64 x] w fun e w' => e = .returned (.bool false) ∧ ∃ n, w' = w.drewN n := by
  have h1 := h.size
  have C := hide (fun n => length_l b k f p k v hf hf' hp hp' hk _ (h.draws n))
  clear hk
  go_enter Try.func13, Try.ntmps13
  go_wp2
  go_quiet (first | (go_at_call 20; exact Calls.quiet_of (C.out _)))
  go_wp2
  go_ret
  exact ⟨rfl, _, rfl⟩

set_option maxHeartbeats 1000000 in
theorem offer_room (b : Nat) (k f x : Int) (q : Nat) (v : Nat → Int) (hf : 0 ≤ f) (hf' : f < 65) (hp' : q < 65) (l : Int) (hl : ((q : Int) - f + 65) % 65 = l) (hk : l < k) (w : World) (h : Raw w b k f q v) :
    Calls Try.prog 13 #[.pointer (some ⟨b, 0, none⟩), .int .i64 x] w fun e w' => e = .returned (.bool true) ∧ ∃ n, w' = ((w.setCell ⟨b, q, none⟩ (.int .i64 x)).setCell ⟨b, 67, none⟩ (.int .i64 (((q : Int) + 1) % 65))).drewN n := by
  have h1 := h.size
  have h2 := h.past
  have h3 := h.val q hp'
  have h4 := h.thaw q
  have h5 := h.thaw 67
  have hne : (l == k) = false := by rw [beq_eq_false_iff_ne]; omega
  have C := hide (fun n => length_l b k f q l v hf hf' (by omega) (by omega) hl _ (h.draws n))
  clear hl
  have C2 := hide (behind_any q 1 (by omega) (by omega) (by omega) (by omega))
  go_enter Try.func13, Try.ntmps13
  go_wp2
  go_quiet (first | (go_at_call 20; exact Calls.quiet_of (C.out _)))
  go_wp2
  go_region
  all_goals go_wp2_with (go_at_call 21; refine (C2.out _).mono ?_; rintro e w' ⟨rfl, rfl⟩)
  all_goals
    go_ret
    exact ⟨rfl, _, rfl⟩

set_option maxHeartbeats 1000000 in
theorem pop_none (b : Nat) (k f : Int) (v : Nat → Int) (hf : 0 ≤ f) (hf' : f < 65) (w : World) (h : Raw w b k f f v) :
    Calls Try.prog 15 #[.pointer (some ⟨b, 0, none⟩)] w fun e w' => e = .returned (.tuple #[.int .i64 0, .bool false]) ∧ ∃ n, w' = w.drewN n := by
  have c := length_raw b f f hf hf' hf hf' w h.first h.past
  rw [show (f - f + 65) % 65 = 0 by omega] at c
  have C := hide c
  clear c
  go_enter Try.func15, Try.ntmps15
  go_wp2_with (go_at_call 20; refine C.out.mono ?_; rintro e w' ⟨rfl, n1, rfl⟩)
  go_ret2
  exact ⟨rfl, _, rfl⟩

set_option maxHeartbeats 1000000 in
theorem pop_some (b : Nat) (k p : Int) (q : Nat) (v : Nat → Int) (hp : 0 ≤ p) (hp' : p < 65) (hf' : q < 65) (l : Int) (hl : (p - q + 65) % 65 = l) (h0 : 0 < l) (w : World) (h : Raw w b k q p v) :
    Calls Try.prog 15 #[.pointer (some ⟨b, 0, none⟩)] w fun e w' => e = .returned (.tuple #[.int .i64 (v q), .bool true]) ∧ ∃ n, w' = (w.setCell ⟨b, 66, none⟩ (.int .i64 (((q : Int) + 1) % 65))).drewN n := by
  have h2 := h.first
  have h3 := h.val q hf'
  have h5 := h.thaw 66
  have hne : (l == 0) = false := by rw [beq_eq_false_iff_ne]; omega
  have c := length_raw b q p (by omega) (by omega) hp hp' w h.first h.past
  rw [hl] at c
  have C := hide c
  have C2 := hide (behind_any q 1 (by omega) (by omega) (by omega) (by omega))
  clear c
  go_enter Try.func15, Try.ntmps15
  go_wp2_with (go_at_call 20; refine C.out.mono ?_; rintro e w' ⟨rfl, n1, rfl⟩)
  go_quiet (fail)
  go_wp2_with (go_at_call 21; refine (C2.out _).mono ?_; rintro e w' ⟨rfl, rfl⟩)
  go_ret2
  exact ⟨rfl, _, rfl⟩
#print axioms pop_some
end Go.Proofs.Ytkdemmbcdfcbjaa

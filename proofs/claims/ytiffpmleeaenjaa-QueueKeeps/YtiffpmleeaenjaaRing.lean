/- Contracts of package ring over the row that a Ring holds. -/
import Derived.Test.YtiffpmleeaenjaaBoxs
namespace Go.Proofs.Ytiffpmleeaenjaa
open Go.RowKit
attribute [local go_sem] alloc_drewN setCell_drewN
/-- The 68 cells of a Ring that is all zero: 65 places, the size, the first, the one past. -/
def zs : Array Value := Array.replicate 68 (.int .i64 0)
theorem zs_size : zs.size = 68 := by simp [zs]
theorem zeroRing (w : World) : (zeroValue 49).run Try.prog w = .ok (.agg zs) w := by kernel_rfl

set_option maxHeartbeats 400000 in
theorem new_ok (l : Int) (h : 1 ≤ l) (h' : l ≤ 64) (w : World) :
    Calls Try.prog 14 #[.int .i64 l] w fun e w' => e = .returned (.tuple #[.pointer (some ⟨w.heap.size, 0, none⟩), .int .i64 0]) ∧ w' = w.alloc (.cells (zs.setIfInBounds 65 (.int .i64 l)) 49) := by
  have hz := zs_size
  go_enter Try.func14, Try.ntmps14
  go_wp2_with (simp only [zeroRing, Result.andThen, hz])
  go_ret2
  exact ⟨rfl, rfl⟩

set_option maxHeartbeats 400000 in
theorem behind_any (x y : Int) (hx : 0 ≤ x) (hx' : x ≤ 65) (hy : 0 ≤ y) (hy' : y ≤ 65) (w : World) :
    Calls Try.prog 22 #[.int .i64 x, .int .i64 y] w fun e w' => e = .returned (.int .i64 ((x + y) % 65)) ∧ w' = w := by
  go_enter Try.func22, Try.ntmps22
  go_wp2
  go_ret
  exact ⟨rfl, rfl⟩

set_option maxHeartbeats 400000 in
theorem length_raw (b : Nat) (f p : Int) (hf : 0 ≤ f) (hf' : f < 65) (hp : 0 ≤ p) (hp' : p < 65) (w : World) (h2 : w.cell? ⟨b, 66, none⟩ = some (.int .i64 f)) (h3 : w.cell? ⟨b, 67, none⟩ = some (.int .i64 p)) :
    Calls Try.prog 21 #[.pointer (some ⟨b, 0, none⟩)] w fun e w' => e = .returned (.int .i64 ((p - f + 65) % 65)) ∧ ∃ n, w' = w.drewN n := by
  go_enter Try.func21, Try.ntmps21
  go_wp2
  go_quiet (fail)
  go_wp2
  go_ret
  exact ⟨rfl, _, rfl⟩

/-- The cells of a Ring at block b: its places, its size, its first, the one past. -/
structure Raw (W : World) (b : Nat) (k f p : Int) (v : Nat → Int) : Prop where
  val : ∀ j, j < 65 → W.cell? ⟨b, j, none⟩ = some (.int .i64 (v j))
  size : W.cell? ⟨b, 65, none⟩ = some (.int .i64 k)
  first : W.cell? ⟨b, 66, none⟩ = some (.int .i64 f)
  past : W.cell? ⟨b, 67, none⟩ = some (.int .i64 p)
  thaw : ∀ j, W.frozen? ⟨b, j, none⟩ = false

theorem Raw.draws {W : World} {b : Nat} {k f p : Int} {v : Nat → Int} (h : Raw W b k f p v) (n : Nat) : Raw (W.drewN n) b k f p v :=
  ⟨h.val, h.size, h.first, h.past, h.thaw⟩
theorem Raw.kept {W W' : World} {b : Nat} {k f p : Int} {v : Nat → Int} (h : Raw W b k f p v) (e : W'.heap[b]? = W.heap[b]?) : Raw W' b k f p v :=
  ⟨fun j hj => (World.cell?_of_block (a := ⟨b, j, none⟩) e).trans (h.val j hj), (World.cell?_of_block (a := ⟨b, 65, none⟩) e).trans h.size, (World.cell?_of_block (a := ⟨b, 66, none⟩) e).trans h.first, (World.cell?_of_block (a := ⟨b, 67, none⟩) e).trans h.past, fun j => (World.frozen?_of_block (a := ⟨b, j, none⟩) e).trans (h.thaw j)⟩
theorem Raw.lt {W : World} {b : Nat} {k f p : Int} {v : Nat → Int} (h : Raw W b k f p v) : b < W.heap.size := World.block_lt_of_cell? W ⟨b, 65, none⟩ h.size

theorem Raw.put {W : World} {b : Nat} {k f p : Int} {v : Nat → Int} (h : Raw W b k f p v) (q : Nat) (hq : q < 65) (x : Int) : Raw (W.setCell ⟨b, q, none⟩ (.int .i64 x)) b k f p (fun j => if j = q then x else v j) where
  val j hj := by
    by_cases e : j = q
    · subst e; simp only [if_true]; exact World.cell?_setCell_same _ _ _ (h.val j hj)
    · simp only [if_neg e]; rw [other _ _ _ _ _ (fun e' => e e'.symm)]; exact h.val j hj
  size := by rw [other _ _ _ _ _ (by omega)]; exact h.size
  first := by rw [other _ _ _ _ _ (by omega)]; exact h.first
  past := by rw [other _ _ _ _ _ (by omega)]; exact h.past
  thaw j := by rw [World.frozen?_setCell]; exact h.thaw j
theorem Raw.setFirst {W : World} {b : Nat} {k f p : Int} {v : Nat → Int} (h : Raw W b k f p v) (x : Int) : Raw (W.setCell ⟨b, 66, none⟩ (.int .i64 x)) b k x p v where
  val j hj := by rw [other _ _ _ _ _ (by omega)]; exact h.val j hj
  size := by rw [other _ _ _ _ _ (by omega)]; exact h.size
  first := World.cell?_setCell_same _ _ _ h.first
  past := by rw [other _ _ _ _ _ (by omega)]; exact h.past
  thaw j := by rw [World.frozen?_setCell]; exact h.thaw j
theorem Raw.setPast {W : World} {b : Nat} {k f p : Int} {v : Nat → Int} (h : Raw W b k f p v) (x : Int) : Raw (W.setCell ⟨b, 67, none⟩ (.int .i64 x)) b k f x v where
  val j hj := by rw [other _ _ _ _ _ (by omega)]; exact h.val j hj
  size := by rw [other _ _ _ _ _ (by omega)]; exact h.size
  first := by rw [other _ _ _ _ _ (by omega)]; exact h.first
  past := World.cell?_setCell_same _ _ _ h.past
  thaw j := by rw [World.frozen?_setCell]; exact h.thaw j

theorem length_l (b : Nat) (k f p l : Int) (v : Nat → Int) (hf : 0 ≤ f) (hf' : f < 65) (hp : 0 ≤ p) (hp' : p < 65) (hl : (p - f + 65) % 65 = l) (w : World) (h : Raw w b k f p v) :
    Calls Try.prog 21 #[.pointer (some ⟨b, 0, none⟩)] w fun e w' => e = .returned (.int .i64 l) ∧ ∃ n, w' = w.drewN n := by
  subst hl
  exact length_raw b f p hf hf' hp hp' w h.first h.past

set_option maxHeartbeats 1000000 in
theorem offer_full (b : Nat) (k f p x : Int) (v : Nat → Int) (hf : 0 ≤ f) (hf' : f < 65) (hp : 0 ≤ p) (hp' : p < 65) (hk : (p - f + 65) % 65 = k) (w : World) (h : Raw w b k f p v) :
    Calls Try.prog 20 #[.pointer (some ⟨b, 0, none⟩), .int .i64 x] w fun e w' => e = .returned (.bool false) ∧ ∃ n, w' = w.drewN n := by
  have h1 := h.size
  have C := hide (fun n => length_l b k f p k v hf hf' hp hp' hk _ (h.draws n))
  clear hk
  go_enter Try.func20, Try.ntmps20
  go_wp2
  go_quiet (first | (go_at_call 21; exact Calls.quiet_of (C.out _)))
  go_wp2
  go_ret
  exact ⟨rfl, _, rfl⟩

set_option maxHeartbeats 1000000 in
theorem offer_room (b : Nat) (k f x : Int) (q : Nat) (v : Nat → Int) (hf : 0 ≤ f) (hf' : f < 65) (hp' : q < 65) (l : Int) (hl : ((q : Int) - f + 65) % 65 = l) (hk : l < k) (w : World) (h : Raw w b k f q v) :
    Calls Try.prog 20 #[.pointer (some ⟨b, 0, none⟩), .int .i64 x] w fun e w' => e = .returned (.bool true) ∧ ∃ n, w' = ((w.setCell ⟨b, q, none⟩ (.int .i64 x)).setCell ⟨b, 67, none⟩ (.int .i64 (((q : Int) + 1) % 65))).drewN n := by
  have h1 := h.size
  have h2 := h.past
  have h3 := h.val q hp'
  have h4 := h.thaw q
  have h5 := h.thaw 67
  have hne : (l == k) = false := by rw [beq_eq_false_iff_ne]; omega
  have C := hide (fun n => length_l b k f q l v hf hf' (by omega) (by omega) hl _ (h.draws n))
  clear hl
  have C2 := hide (behind_any q 1 (by omega) (by omega) (by omega) (by omega))
  go_enter Try.func20, Try.ntmps20
  go_wp2
  go_quiet (first | (go_at_call 21; exact Calls.quiet_of (C.out _)))
  go_wp2
  go_region
  all_goals go_wp2_with (go_at_call 22; refine (C2.out _).mono ?_; rintro e w' ⟨rfl, rfl⟩)
  all_goals
    go_ret
    exact ⟨rfl, _, rfl⟩

set_option maxHeartbeats 1000000 in
theorem pop_none (b : Nat) (k f : Int) (v : Nat → Int) (hf : 0 ≤ f) (hf' : f < 65) (w : World) (h : Raw w b k f f v) :
    Calls Try.prog 18 #[.pointer (some ⟨b, 0, none⟩)] w fun e w' => e = .returned (.tuple #[.int .i64 0, .bool false]) ∧ ∃ n, w' = w.drewN n := by
  have c := length_raw b f f hf hf' hf hf' w h.first h.past
  rw [show (f - f + 65) % 65 = 0 by omega] at c
  have C := hide c
  clear c
  go_enter Try.func18, Try.ntmps18
  go_wp2_with (go_at_call 21; refine C.out.mono ?_; rintro e w' ⟨rfl, n1, rfl⟩)
  go_ret2
  exact ⟨rfl, _, rfl⟩

set_option maxHeartbeats 1000000 in
theorem pop_some (b : Nat) (k p : Int) (q : Nat) (v : Nat → Int) (hp : 0 ≤ p) (hp' : p < 65) (hf' : q < 65) (l : Int) (hl : (p - q + 65) % 65 = l) (h0 : 0 < l) (w : World) (h : Raw w b k q p v) :
    Calls Try.prog 18 #[.pointer (some ⟨b, 0, none⟩)] w fun e w' => e = .returned (.tuple #[.int .i64 (v q), .bool true]) ∧ ∃ n, w' = (w.setCell ⟨b, 66, none⟩ (.int .i64 (((q : Int) + 1) % 65))).drewN n := by
  have h2 := h.first
  have h3 := h.val q hf'
  have h5 := h.thaw 66
  have hne : (l == 0) = false := by rw [beq_eq_false_iff_ne]; omega
  have c := length_raw b q p (by omega) (by omega) hp hp' w h.first h.past
  rw [hl] at c
  have C := hide c
  have C2 := hide (behind_any q 1 (by omega) (by omega) (by omega) (by omega))
  clear c
  go_enter Try.func18, Try.ntmps18
  go_wp2_with (go_at_call 21; refine C.out.mono ?_; rintro e w' ⟨rfl, n1, rfl⟩)
  go_quiet (fail)
  go_wp2_with (go_at_call 22; refine (C2.out _).mono ?_; rintro e w' ⟨rfl, rfl⟩)
  go_ret2
  exact ⟨rfl, _, rfl⟩

/-- The Ring at block b is of size k and holds the row. -/
def RingAt (W : World) (b k : Nat) (row : List Int) : Prop :=
  k ≤ 64 ∧ row.length ≤ k ∧ ∃ (f : Nat) (v : Nat → Int), f < 65 ∧ Raw W b k f (((f + row.length) % 65 : Nat) : Int) v ∧ ∀ i, i < row.length → v ((f + i) % 65) = row[i]?.getD 0

theorem RingAt.lt {W : World} {b k : Nat} {row : List Int} (h : RingAt W b k row) : b < W.heap.size := by
  obtain ⟨_, _, f, v, _, hr, _⟩ := h
  exact hr.lt
theorem RingAt.kept {W W' : World} {b k : Nat} {row : List Int} (h : RingAt W b k row) (e : W'.heap[b]? = W.heap[b]?) : RingAt W' b k row := by
  obtain ⟨h1, h2, f, v, h3, hr, h4⟩ := h
  exact ⟨h1, h2, f, v, h3, hr.kept e, h4⟩
theorem RingAt.draws {W : World} {b k : Nat} {row : List Int} (h : RingAt W b k row) (n : Nat) : RingAt (W.drewN n) b k row := h.kept rfl
theorem RingAt.grown {W W' : World} {b k : Nat} {row : List Int} (h : RingAt W b k row) {r : Option Nat} (hg : W.grownBy W' r) (hne : some b ≠ r) : RingAt W' b k row := h.kept (hg.block b h.lt hne)
theorem RingAt.below {W W' : World} {b k B : Nat} {row : List Int} (h : RingAt W b k row) (hg : Below B W W') (hb : b < B) : RingAt W' b k row := h.kept (hg.block b hb)

/-- What the calls answer and leave. -/
def offerIs (k : Nat) (row : List Int) : Bool := decide (row.length < k)
def offered (k : Nat) (row : List Int) (x : Int) : List Int := if row.length < k then row ++ [x] else row
def popIs (row : List Int) : Bool := decide (0 < row.length)
def popOut (row : List Int) : Int := row[0]?.getD 0
def popped (row : List Int) : List Int := row.tail
def pushIs (k : Nat) (row : List Int) : Bool := !offerIs k row
def pushOut (k : Nat) (row : List Int) : Int := if row.length < k then 0 else popOut row
def pushed (k : Nat) (row : List Int) (x : Int) : List Int := if row.length < k then row ++ [x] else popped row ++ [x]

theorem ringAt_new (w : World) (k : Nat) (hk : k ≤ 64) : RingAt (w.alloc (.cells (zs.setIfInBounds 65 (.int .i64 k)) 49)) w.heap.size k [] := by
  refine ⟨hk, by simp, 0, fun _ => 0, by omega, ⟨?_, ?_, ?_, ?_, ?_⟩, by simp⟩
  · intro j hj
    rw [cell_of_row _ w.heap.size j (zs.setIfInBounds 65 (.int .i64 k)) 49 (0, 0) (heap_alloc_new w _), Array.getElem?_setIfInBounds, if_neg (by omega), zs, Array.getElem?_replicate, if_pos (by omega)]
  · rw [cell_of_row _ w.heap.size _ (zs.setIfInBounds 65 (.int .i64 k)) 49 (0, 0) (heap_alloc_new w _), Array.getElem?_setIfInBounds]
    simp [zs]
  · rw [cell_of_row _ w.heap.size _ (zs.setIfInBounds 65 (.int .i64 k)) 49 (0, 0) (heap_alloc_new w _), Array.getElem?_setIfInBounds]
    simp [zs]
  · rw [cell_of_row _ w.heap.size _ (zs.setIfInBounds 65 (.int .i64 k)) 49 (0, 0) (heap_alloc_new w _), Array.getElem?_setIfInBounds]
    simp [zs]
  · intro j
    exact frozen_of_row _ w.heap.size j _ 49 (heap_alloc_new w _)

theorem new_ring (k : Nat) (h : 1 ≤ k) (h' : k ≤ 64) (w : World) :
    Calls Try.prog 14 #[.int .i64 k] w fun e w' => e = .returned (.tuple #[.pointer (some ⟨w.heap.size, 0, none⟩), .int .i64 0]) ∧ RingAt w' w.heap.size k [] ∧ w.grownBy w' none ∧ w'.heap.size = w.heap.size + 1 := by
  refine (new_ok k (by omega) (by omega) w).mono ?_
  rintro e w' ⟨rfl, rfl⟩
  exact ⟨rfl, ringAt_new w k h', World.grownBy_alloc _ _ _, by simp⟩

theorem offer_no (b k : Nat) (row : List Int) (x : Int) (hl : row.length = k) (w : World) (h : RingAt w b k row) :
    Calls Try.prog 20 #[.pointer (some ⟨b, 0, none⟩), .int .i64 x] w fun e w' => e = .returned (.bool false) ∧ ∃ n, w' = w.drewN n := by
  obtain ⟨h1, h2, f, v, h3, hr, h4⟩ := h
  exact offer_full b k f _ x v (by omega) (by omega) (by omega) (by omega) (by omega) w hr

theorem offer_yes (b k : Nat) (row : List Int) (x : Int) (hl : row.length < k) (w : World) (h : RingAt w b k row) :
    Calls Try.prog 20 #[.pointer (some ⟨b, 0, none⟩), .int .i64 x] w fun e w' => e = .returned (.bool true) ∧ RingAt w' b k (row ++ [x]) ∧ w.grownBy w' (some b) ∧ w'.heap.size = w.heap.size := by
  obtain ⟨h1, h2, f, v, h3, hr, h4⟩ := h
  refine (offer_room b k f x ((f + row.length) % 65) v (by omega) (by omega) (by omega) row.length (by omega) (by omega) w hr).mono ?_
  rintro e w' ⟨rfl, n, rfl⟩
  refine ⟨rfl, ?_, grownBy_trans (grownBy_trans (grownBy_set _ _ _ _) (grownBy_set _ _ _ _)) (grownBy_draws _ _ _), by simp [World.setCell]⟩
  refine RingAt.draws ⟨h1, by simp; omega, f, fun j => if j = (f + row.length) % 65 then x else v j, h3, ?_, ?_⟩ n
  · have := (hr.put ((f + row.length) % 65) (by omega) x).setPast (((((f + row.length) % 65 : Nat) : Int) + 1) % 65)
    rw [show (((f + (row ++ [x]).length) % 65 : Nat) : Int) = ((((f + row.length) % 65 : Nat) : Int) + 1) % 65 by simp; omega]
    exact this
  · intro i hi
    simp at hi
    by_cases e : i = row.length
    · subst e
      simp
    · show (if (f + i) % 65 = (f + row.length) % 65 then x else v ((f + i) % 65)) = _
      rw [if_neg (by omega), h4 i (by omega), List.getElem?_append_left (by omega)]

theorem pop_no (b k : Nat) (w : World) (h : RingAt w b k []) :
    Calls Try.prog 18 #[.pointer (some ⟨b, 0, none⟩)] w fun e w' => e = .returned (.tuple #[.int .i64 0, .bool false]) ∧ ∃ n, w' = w.drewN n := by
  obtain ⟨h1, h2, f, v, h3, hr, h4⟩ := h
  rw [show ((f + ([] : List Int).length) % 65 : Nat) = f by simp; omega] at hr
  exact pop_none b k f v (by omega) (by omega) w hr

theorem pop_yes (b k : Nat) (row : List Int) (hl : 0 < row.length) (w : World) (h : RingAt w b k row) :
    Calls Try.prog 18 #[.pointer (some ⟨b, 0, none⟩)] w fun e w' => e = .returned (.tuple #[.int .i64 (popOut row), .bool true]) ∧ RingAt w' b k (popped row) ∧ w.grownBy w' (some b) ∧ w'.heap.size = w.heap.size := by
  obtain ⟨h1, h2, f, v, h3, hr, h4⟩ := h
  have h0 := h4 0 hl
  rw [show (f + 0) % 65 = f by omega] at h0
  refine (pop_some b k _ f v (by omega) (by omega) h3 row.length (by omega) (by omega) w hr).mono ?_
  rintro e w' ⟨rfl, n, rfl⟩
  refine ⟨by rw [h0]; rfl, ?_, grownBy_trans (grownBy_set _ _ _ _) (grownBy_draws _ _ _), by simp [World.setCell]⟩
  refine RingAt.draws ⟨h1, by simp [popped]; omega, (f + 1) % 65, v, by omega, ?_, ?_⟩ n
  · have := hr.setFirst (((f : Int) + 1) % 65)
    rw [show (((f + 1) % 65 : Nat) : Int) = ((f : Int) + 1) % 65 by omega, show (((f + 1) % 65 + (popped row).length) % 65 : Nat) = (f + row.length) % 65 by simp [popped]; omega]
    exact this
  · intro i hi
    simp [popped] at hi
    rw [show ((f + 1) % 65 + i) % 65 = (f + (i + 1)) % 65 by omega, h4 (i + 1) (by omega)]
    simp [popped]

/-- Offer, of every row. -/
theorem offer_any (b k : Nat) (row : List Int) (x : Int) (w : World) (h : RingAt w b k row) :
    Calls Try.prog 20 #[.pointer (some ⟨b, 0, none⟩), .int .i64 x] w fun e w' => e = .returned (.bool (offerIs k row)) ∧ RingAt w' b k (offered k row x) ∧ w.grownBy w' (some b) ∧ w'.heap.size = w.heap.size := by
  by_cases hl : row.length < k
  · refine (offer_yes b k row x hl w h).mono ?_
    rintro e w' ⟨rfl, h1, h2, h3⟩
    refine ⟨by simp [offerIs, hl], ?_, h2, h3⟩
    rw [offered, if_pos hl]; exact h1
  · refine (offer_no b k row x (by have := h.2.1; omega) w h).mono ?_
    rintro e w' ⟨rfl, n, rfl⟩
    refine ⟨by simp [offerIs, hl], ?_, grownBy_draws _ _ _, rfl⟩
    rw [offered, if_neg hl]; exact h.draws n

/-- Pop, of every row. -/
theorem pop_any (b k : Nat) (row : List Int) (w : World) (h : RingAt w b k row) :
    Calls Try.prog 18 #[.pointer (some ⟨b, 0, none⟩)] w fun e w' => e = .returned (.tuple #[.int .i64 (popOut row), .bool (popIs row)]) ∧ RingAt w' b k (popped row) ∧ w.grownBy w' (some b) ∧ w'.heap.size = w.heap.size := by
  cases row with
  | nil =>
    refine (pop_no b k w h).mono ?_
    rintro e w' ⟨rfl, n, rfl⟩
    exact ⟨rfl, h.draws n, grownBy_draws _ _ _, rfl⟩
  | cons y t =>
    refine (pop_yes b k (y :: t) (by simp) w h).mono ?_
    rintro e w' ⟨rfl, h1, h2, h3⟩
    exact ⟨by simp [popIs], h1, h2, h3⟩

set_option maxHeartbeats 1000000 in
theorem push_room (b k : Nat) (row : List Int) (x : Int) (hl : row.length < k) (w : World) (h : RingAt w b k row) :
    Calls Try.prog 17 #[.pointer (some ⟨b, 0, none⟩), .int .i64 x] w fun e w' => e = .returned (.tuple #[.int .i64 0, .bool false]) ∧ RingAt w' b k (row ++ [x]) ∧ w.grownBy w' (some b) ∧ w'.heap.size = w.heap.size := by
  have C := hide (offer_yes b k row x hl w h)
  clear hl h
  go_enter Try.func17, Try.ntmps17
  go_wp2_with (go_at_call 20; refine C.out.mono ?_; rintro e w' ⟨rfl, h1, h2, h3⟩)
  go_ret2
  exact ⟨rfl, h1, h2, h3⟩

set_option maxHeartbeats 1000000 in
theorem push_full (b k : Nat) (row : List Int) (x : Int) (hk : 0 < k) (hl : row.length = k) (w : World) (h : RingAt w b k row) :
    Calls Try.prog 17 #[.pointer (some ⟨b, 0, none⟩), .int .i64 x] w fun e w' => e = .returned (.tuple #[.int .i64 (popOut row), .bool true]) ∧ RingAt w' b k (popped row ++ [x]) ∧ w.grownBy w' (some b) ∧ w'.heap.size = w.heap.size := by
  have C := hide (offer_no b k row x hl w h)
  have C2 := hide (fun n => pop_yes b k row (by omega) _ (h.draws n))
  have C3 := hide (fun w => offer_yes b k (popped row) x (by simp [popped]; omega) w)
  clear hk hl h
  go_enter Try.func17, Try.ntmps17
  go_wp2_with (first | fail)
  refine C.out.mono ?_; rintro e w' ⟨rfl, n, rfl⟩
  go_wp2_with (first | fail)
  refine (C2.out _).mono ?_; rintro e w' ⟨rfl, h1, h2, h3⟩
  go_wp2_with (first | fail)
  refine (C3.out _ h1).mono ?_; rintro e w' ⟨rfl, h1', h2', h3'⟩
  go_wp2
  go_ret2
  exact ⟨rfl, h1', grownBy_trans (grownBy_trans (grownBy_draws _ _ _) h2) h2', h3'.trans h3⟩

/-- Push, of every row. -/
theorem push_any (b k : Nat) (row : List Int) (x : Int) (hk : 0 < k) (w : World) (h : RingAt w b k row) :
    Calls Try.prog 17 #[.pointer (some ⟨b, 0, none⟩), .int .i64 x] w fun e w' => e = .returned (.tuple #[.int .i64 (pushOut k row), .bool (pushIs k row)]) ∧ RingAt w' b k (pushed k row x) ∧ w.grownBy w' (some b) ∧ w'.heap.size = w.heap.size := by
  by_cases hl : row.length < k
  · refine (push_room b k row x hl w h).mono ?_
    rintro e w' ⟨rfl, h1, h2, h3⟩
    refine ⟨by simp [pushIs, offerIs, pushOut, hl], ?_, h2, h3⟩
    rw [pushed, if_pos hl]; exact h1
  · refine (push_full b k row x hk (by have := h.2.1; omega) w h).mono ?_
    rintro e w' ⟨rfl, h1, h2, h3⟩
    refine ⟨by simp [pushIs, offerIs, pushOut, hl], ?_, h2, h3⟩
    rw [pushed, if_neg hl]; exact h1
#print axioms push_any
end Go.Proofs.Ytiffpmleeaenjaa

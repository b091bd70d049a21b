/- Contracts of package ring over the row that a Ring holds: New, Offer, Pop and Push answer and leave what the document says, and write to the Ring's own block alone. -/
import Derived.Test.YtkdemmbcdfcbjaaRaw
import Derived.Deep.AppendLies
namespace Go.Proofs.Ytkdemmbcdfcbjaa
open Go.RowKit
attribute [local go_sem] alloc_drewN setCell_drewN

/-- The Ring at block b is of size k and holds the row. -/
def RingAt (W : World) (b k : Nat) (row : List Int) : Prop :=
  k ≤ 64 ∧ row.length ≤ k ∧ ∃ (f : Nat) (v : Nat → Int), f < 65 ∧ Raw W b k f (((f + row.length) % 65 : Nat) : Int) v ∧ ∀ i, i < row.length → v ((f + i) % 65) = row[i]?.getD 0

theorem RingAt.lt {W : World} {b k : Nat} {row : List Int} (h : RingAt W b k row) : b < W.heap.size := by
  obtain ⟨_, _, f, v, _, hr, _⟩ := h
  exact hr.lt
theorem RingAt.kept {W W' : World} {b k : Nat} {row : List Int} (h : RingAt W b k row) (e : W'.heap[b]? = W.heap[b]?) : RingAt W' b k row := by
  obtain ⟨h1, h2, f, v, h3, hr, h4⟩ := h
  exact ⟨h1, h2, f, v, h3, hr.kept e, h4⟩
theorem RingAt.draws {W : World} {b k : Nat} {row : List Int} (h : RingAt W b k row) (n : Nat) : RingAt (W.drewN n) b k row := h.kept rfl
theorem RingAt.grown {W W' : World} {b k : Nat} {row : List Int} (h : RingAt W b k row) {r : Option Nat} (hg : W.grownBy W' r) (hne : some b ≠ r) : RingAt W' b k row := h.kept (hg.block b h.lt hne)
theorem RingAt.below {W W' : World} {b k B : Nat} {row : List Int} (h : RingAt W b k row) (hg : Below B W W') (hb : b < B) : RingAt W' b k row := h.kept (hg.block b hb)

/-- What the calls answer and leave. -/
def offerIs (k : Nat) (row : List Int) : Bool := decide (row.length < k)
def offered (k : Nat) (row : List Int) (x : Int) : List Int := if row.length < k then row ++ [x] else row
def popIs (row : List Int) : Bool := decide (0 < row.length)
def popOut (row : List Int) : Int := row[0]?.getD 0
def popped (row : List Int) : List Int := row.tail
def pushIs (k : Nat) (row : List Int) : Bool := !offerIs k row
def pushOut (k : Nat) (row : List Int) : Int := if row.length < k then 0 else popOut row
def pushed (k : Nat) (row : List Int) (x : Int) : List Int := if row.length < k then row ++ [x] else popped row ++ [x]

theorem grownBy_draws (w : World) (n : Nat) (r : Option Nat) : w.grownBy (w.drewN n) r := ⟨rfl, rfl, rfl, Nat.le_refl _, fun _ _ _ => rfl⟩
theorem grownBy_set (w : World) (b j : Nat) (u : Value) : w.grownBy (w.setCell ⟨b, j, none⟩ u) (some b) :=
  ⟨rfl, rfl, rfl, by simp [World.setCell], fun k _ hk => Below.heap_setCell _ _ _ _ (fun e => hk (by rw [e]))⟩
theorem grownBy_trans {a b c : World} {r : Option Nat} (h : a.grownBy b r) (h' : b.grownBy c r) : a.grownBy c r :=
  ⟨h'.os.trans h.os, h'.tape.trans h.tape, h'.output.trans h.output, Nat.le_trans h.size h'.size, fun k hk hn => (h'.block k (Nat.lt_of_lt_of_le hk h.size) hn).trans (h.block k hk hn)⟩
theorem grownBy_any {a b : World} {r : Option Nat} (h : a.grownBy b none) : a.grownBy b r := ⟨h.os, h.tape, h.output, h.size, fun k hk _ => h.block k hk (by simp)⟩
theorem grownBy_refl (w : World) (r : Option Nat) : w.grownBy w r := ⟨rfl, rfl, rfl, Nat.le_refl _, fun _ _ _ => rfl⟩
theorem below_of_grown {a b : World} (h : a.grownBy b none) : Below a.heap.size a b := ⟨h.os, h.tape, h.output, h.size, fun k hk => h.block k hk (by simp)⟩
theorem below_of_grown_some {a b : World} {g : Nat} (h : a.grownBy b (some g)) (hg : g < a.heap.size) : Below g a b := ⟨h.os, h.tape, h.output, h.size, fun k hk => h.block k (by omega) (by simp; omega)⟩

theorem ringAt_new (w : World) (k : Nat) (hk : k ≤ 64) : RingAt (w.alloc (.cells (zs.setIfInBounds 65 (.int .i64 k)) 46)) w.heap.size k [] := by
  refine ⟨hk, by simp, 0, fun _ => 0, by omega, ⟨?_, ?_, ?_, ?_, ?_⟩, by simp⟩
  · intro j hj
    rw [cell_of_row _ w.heap.size j (zs.setIfInBounds 65 (.int .i64 k)) 46 (0, 0) (heap_alloc_new w _), Array.getElem?_setIfInBounds, if_neg (by omega), zs, Array.getElem?_replicate, if_pos (by omega)]
  · rw [cell_of_row _ w.heap.size _ (zs.setIfInBounds 65 (.int .i64 k)) 46 (0, 0) (heap_alloc_new w _), Array.getElem?_setIfInBounds]
    simp [zs]
  · rw [cell_of_row _ w.heap.size _ (zs.setIfInBounds 65 (.int .i64 k)) 46 (0, 0) (heap_alloc_new w _), Array.getElem?_setIfInBounds]
    simp [zs]
  · rw [cell_of_row _ w.heap.size _ (zs.setIfInBounds 65 (.int .i64 k)) 46 (0, 0) (heap_alloc_new w _), Array.getElem?_setIfInBounds]
    simp [zs]
  · intro j
    exact frozen_of_row _ w.heap.size j _ 46 (heap_alloc_new w _)

theorem new_ring (k : Nat) (h : 1 ≤ k) (h' : k ≤ 64) (w : World) :
    Calls Try.prog 7 #[.int .i64 k] w fun e w' => e = .returned (.tuple #[.pointer (some ⟨w.heap.size, 0, none⟩), .int .i64 0]) ∧ RingAt w' w.heap.size k [] ∧ w.grownBy w' none ∧ w'.heap.size = w.heap.size + 1 := by
  refine (new_ok k (by omega) (by omega) w).mono ?_
  rintro e w' ⟨rfl, rfl⟩
  exact ⟨rfl, ringAt_new w k h', World.grownBy_alloc _ _ _, by simp⟩

theorem offer_no (b k : Nat) (row : List Int) (x : Int) (hl : row.length = k) (w : World) (h : RingAt w b k row) :
    Calls Try.prog 13 #[.pointer (some ⟨b, 0, none⟩), .int .i64 x] w fun e w' => e = .returned (.bool false) ∧ ∃ n, w' = w.drewN n := by
  obtain ⟨h1, h2, f, v, h3, hr, h4⟩ := h
  exact offer_full b k f _ x v (by omega) (by omega) (by omega) (by omega) (by omega) w hr

theorem offer_yes (b k : Nat) (row : List Int) (x : Int) (hl : row.length < k) (w : World) (h : RingAt w b k row) :
    Calls Try.prog 13 #[.pointer (some ⟨b, 0, none⟩), .int .i64 x] w fun e w' => e = .returned (.bool true) ∧ RingAt w' b k (row ++ [x]) ∧ w.grownBy w' (some b) ∧ w'.heap.size = w.heap.size := by
  obtain ⟨h1, h2, f, v, h3, hr, h4⟩ := h
  refine (offer_room b k f x ((f + row.length) % 65) v (by omega) (by omega) (by omega) row.length (by omega) (by omega) w hr).mono ?_
  rintro e w' ⟨rfl, n, rfl⟩
  refine ⟨rfl, ?_, grownBy_trans (grownBy_trans (grownBy_set _ _ _ _) (grownBy_set _ _ _ _)) (grownBy_draws _ _ _), by simp [World.setCell]⟩
  refine RingAt.draws ⟨h1, by simp; omega, f, fun j => if j = (f + row.length) % 65 then x else v j, h3, ?_, ?_⟩ n
  · have := (hr.put ((f + row.length) % 65) (by omega) x).setPast (((((f + row.length) % 65 : Nat) : Int) + 1) % 65)
    rw [show (((f + (row ++ [x]).length) % 65 : Nat) : Int) = ((((f + row.length) % 65 : Nat) : Int) + 1) % 65 by simp; omega]
    exact this
  · intro i hi
    simp at hi
    by_cases e : i = row.length
    · subst e
      simp
    · show (if (f + i) % 65 = (f + row.length) % 65 then x else v ((f + i) % 65)) = _
      rw [if_neg (by omega), h4 i (by omega), List.getElem?_append_left (by omega)]

theorem pop_no (b k : Nat) (w : World) (h : RingAt w b k []) :
    Calls Try.prog 15 #[.pointer (some ⟨b, 0, none⟩)] w fun e w' => e = .returned (.tuple #[.int .i64 0, .bool false]) ∧ ∃ n, w' = w.drewN n := by
  obtain ⟨h1, h2, f, v, h3, hr, h4⟩ := h
  rw [show ((f + ([] : List Int).length) % 65 : Nat) = f by simp; omega] at hr
  exact pop_none b k f v (by omega) (by omega) w hr

theorem pop_yes (b k : Nat) (row : List Int) (hl : 0 < row.length) (w : World) (h : RingAt w b k row) :
    Calls Try.prog 15 #[.pointer (some ⟨b, 0, none⟩)] w fun e w' => e = .returned (.tuple #[.int .i64 (popOut row), .bool true]) ∧ RingAt w' b k (popped row) ∧ w.grownBy w' (some b) ∧ w'.heap.size = w.heap.size := by
  obtain ⟨h1, h2, f, v, h3, hr, h4⟩ := h
  have h0 := h4 0 hl
  rw [show (f + 0) % 65 = f by omega] at h0
  refine (pop_some b k _ f v (by omega) (by omega) h3 row.length (by omega) (by omega) w hr).mono ?_
  rintro e w' ⟨rfl, n, rfl⟩
  refine ⟨by rw [h0]; rfl, ?_, grownBy_trans (grownBy_set _ _ _ _) (grownBy_draws _ _ _), by simp [World.setCell]⟩
  refine RingAt.draws ⟨h1, by simp [popped]; omega, (f + 1) % 65, v, by omega, ?_, ?_⟩ n
  · have := hr.setFirst (((f : Int) + 1) % 65)
    rw [show (((f + 1) % 65 : Nat) : Int) = ((f : Int) + 1) % 65 by omega, show (((f + 1) % 65 + (popped row).length) % 65 : Nat) = (f + row.length) % 65 by simp [popped]; omega]
    exact this
  · intro i hi
    simp [popped] at hi
    rw [show ((f + 1) % 65 + i) % 65 = (f + (i + 1)) % 65 by omega, h4 (i + 1) (by omega)]
    simp [popped]

/-- Offer, of every row. -/
theorem offer_any (b k : Nat) (row : List Int) (x : Int) (w : World) (h : RingAt w b k row) :
    Calls Try.prog 13 #[.pointer (some ⟨b, 0, none⟩), .int .i64 x] w fun e w' => e = .returned (.bool (offerIs k row)) ∧ RingAt w' b k (offered k row x) ∧ w.grownBy w' (some b) ∧ w'.heap.size = w.heap.size := by
  by_cases hl : row.length < k
  · refine (offer_yes b k row x hl w h).mono ?_
    rintro e w' ⟨rfl, h1, h2, h3⟩
    refine ⟨by simp [offerIs, hl], ?_, h2, h3⟩
    rw [offered, if_pos hl]; exact h1
  · refine (offer_no b k row x (by have := h.2.1; omega) w h).mono ?_
    rintro e w' ⟨rfl, n, rfl⟩
    refine ⟨by simp [offerIs, hl], ?_, grownBy_draws _ _ _, rfl⟩
    rw [offered, if_neg hl]; exact h.draws n

/-- Pop, of every row. -/
theorem pop_any (b k : Nat) (row : List Int) (w : World) (h : RingAt w b k row) :
    Calls Try.prog 15 #[.pointer (some ⟨b, 0, none⟩)] w fun e w' => e = .returned (.tuple #[.int .i64 (popOut row), .bool (popIs row)]) ∧ RingAt w' b k (popped row) ∧ w.grownBy w' (some b) ∧ w'.heap.size = w.heap.size := by
  cases row with
  | nil =>
    refine (pop_no b k w h).mono ?_
    rintro e w' ⟨rfl, n, rfl⟩
    exact ⟨rfl, h.draws n, grownBy_draws _ _ _, rfl⟩
  | cons y t =>
    refine (pop_yes b k (y :: t) (by simp) w h).mono ?_
    rintro e w' ⟨rfl, h1, h2, h3⟩
    exact ⟨by simp [popIs], h1, h2, h3⟩

set_option maxHeartbeats 1000000 in
theorem push_room (b k : Nat) (row : List Int) (x : Int) (hl : row.length < k) (w : World) (h : RingAt w b k row) :
    Calls Try.prog 11 #[.pointer (some ⟨b, 0, none⟩), .int .i64 x] w fun e w' => e = .returned (.tuple #[.int .i64 0, .bool false]) ∧ RingAt w' b k (row ++ [x]) ∧ w.grownBy w' (some b) ∧ w'.heap.size = w.heap.size := by
  have C := hide (offer_yes b k row x hl w h)
  clear hl h
  go_enter Try.func11, Try.ntmps11
  go_wp2_with (go_at_call 13; refine C.out.mono ?_; rintro e w' ⟨rfl, h1, h2, h3⟩)
  go_ret2
  exact ⟨rfl, h1, h2, h3⟩

set_option maxHeartbeats 1000000 in
theorem push_full (b k : Nat) (row : List Int) (x : Int) (hk : 0 < k) (hl : row.length = k) (w : World) (h : RingAt w b k row) :
    Calls Try.prog 11 #[.pointer (some ⟨b, 0, none⟩), .int .i64 x] w fun e w' => e = .returned (.tuple #[.int .i64 (popOut row), .bool true]) ∧ RingAt w' b k (popped row ++ [x]) ∧ w.grownBy w' (some b) ∧ w'.heap.size = w.heap.size := by
  have C := hide (offer_no b k row x hl w h)
  have C2 := hide (fun n => pop_yes b k row (by omega) _ (h.draws n))
  have C3 := hide (fun w => offer_yes b k (popped row) x (by simp [popped]; omega) w)
  clear hk hl h
  go_enter Try.func11, Try.ntmps11
  go_wp2_with (first | fail)
  refine C.out.mono ?_; rintro e w' ⟨rfl, n, rfl⟩
  go_wp2_with (first | fail)
  refine (C2.out _).mono ?_; rintro e w' ⟨rfl, h1, h2, h3⟩
  go_wp2_with (first | fail)
  refine (C3.out _ h1).mono ?_; rintro e w' ⟨rfl, h1', h2', h3'⟩
  go_wp2
  go_ret2
  exact ⟨rfl, h1', grownBy_trans (grownBy_trans (grownBy_draws _ _ _) h2) h2', h3'.trans h3⟩

/-- Push, of every row. -/
theorem push_any (b k : Nat) (row : List Int) (x : Int) (hk : 0 < k) (w : World) (h : RingAt w b k row) :
    Calls Try.prog 11 #[.pointer (some ⟨b, 0, none⟩), .int .i64 x] w fun e w' => e = .returned (.tuple #[.int .i64 (pushOut k row), .bool (pushIs k row)]) ∧ RingAt w' b k (pushed k row x) ∧ w.grownBy w' (some b) ∧ w'.heap.size = w.heap.size := by
  by_cases hl : row.length < k
  · refine (push_room b k row x hl w h).mono ?_
    rintro e w' ⟨rfl, h1, h2, h3⟩
    refine ⟨by simp [pushIs, offerIs, pushOut, hl], ?_, h2, h3⟩
    rw [pushed, if_pos hl]; exact h1
  · refine (push_full b k row x hk (by have := h.2.1; omega) w h).mono ?_
    rintro e w' ⟨rfl, h1, h2, h3⟩
    refine ⟨by simp [pushIs, offerIs, pushOut, hl], ?_, h2, h3⟩
    rw [pushed, if_neg hl]; exact h1
#print axioms push_any
end Go.Proofs.Ytkdemmbcdfcbjaa

/- The walk of the statements' own awake: it answers true wherever the library's table is there, and turns nothing. -/
import Derived.Test.YthphkcblifkmeaaDoorRef
namespace Go.Proofs.YthphkcblifkmeaaDoor
open Go.RowKit
attribute [local go_sem] alloc_drewN setCell_drewN

theorem n1 : newW 9 0 [3, 8, 3] = some 264 := by decide
theorem n2 : newW 9 0 [9] = none := by decide
theorem nx1 : IsNext 264 3 8 := ⟨by decide, .inl ⟨by decide, fun j h1 h2 => by
  have : j = 4 ∨ j = 5 ∨ j = 6 ∨ j = 7 := by omega
  rcases this with rfl | rfl | rfl | rfl <;> decide⟩⟩
theorem nx2 : IsNext 264 8 3 := ⟨by decide, .inr ⟨fun j h1 => no_bit (k := 9) (by decide) (by omega), fun j h2 => by
  have : j = 0 ∨ j = 1 ∨ j = 2 := by omega
  rcases this with rfl | rfl | rfl <;> decide⟩⟩

theorem Tab.grown {W W' : World} (h : Tab W) {r : Option Nat} (hg : W.grownBy W' r) (hr : r ≠ some 0) : Tab W' := h.kept (hg.block 0 h.pos (by
  cases r with
  | none => simp
  | some b => simpa using fun e : 0 = b => hr (by rw [e])))

/-- The table as the row lists it. -/
theorem tab_of {W : World} (h : ∀ i, i < (Lib.deBruijn64tab.map Int.ofNat).length → W.cell? ⟨0, i, none⟩ = some (.int .u8 ((Lib.deBruijn64tab.map Int.ofNat).getD i 0))) : Tab W := fun j hj => by
  have := h j hj
  rw [this]
  congr 2
  simp [List.getD, List.getElem?_map]
  cases Lib.deBruijn64tab[j]? <;> rfl

theorem reads_lit (w : World) (zs : List Int) (t : Nat) : Reads (w.alloc (.cells (vals zs).toArray t)) (.slice (some ⟨w.heap.size, 0, none⟩) zs.length zs.length) zs := by
  refine ⟨_, _, rfl, fun _ => ⟨w.heap.size, 0, rfl, fun i hi => ?_⟩⟩
  simp [vals_get _ _ hi]

theorem next3 (b : Nat) (w : World) (hT : Tab w) (h : SetAt w b 9 264) :
    Calls Tryd.prog 16 #[.pointer (some ⟨b, 0, none⟩), .int .i64 3] w fun e w' => e = .returned (.tuple #[.int .i64 8, .bool true]) ∧ ∃ n, w' = w.drewN n := by
  refine (next_some b 9 264 3 (by decide) w hT h).mono ?_
  rintro e w' ⟨r, rfl, hr, hw⟩
  rw [next_one hr nx1]
  exact ⟨rfl, hw⟩
theorem next8 (b : Nat) (w : World) (hT : Tab w) (h : SetAt w b 9 264) :
    Calls Tryd.prog 16 #[.pointer (some ⟨b, 0, none⟩), .int .i64 8] w fun e w' => e = .returned (.tuple #[.int .i64 3, .bool true]) ∧ ∃ n, w' = w.drewN n := by
  refine (next_some b 9 264 8 (by decide) w hT h).mono ?_
  rintro e w' ⟨r, rfl, hr, hw⟩
  rw [next_one hr nx2]
  exact ⟨rfl, hw⟩
theorem drop3 (b : Nat) (w : World) (h : SetAt w b 9 264) :
    Calls Tryd.prog 14 #[.pointer (some ⟨b, 0, none⟩), .int .i64 3] w fun e w' => e = .returned (.int .i64 0) ∧ SetAt w' b 9 256 ∧ w.grownBy w' (some b) := drop_any b 9 264 3 w h
theorem put9 (b : Nat) (w : World) (h : SetAt w b 9 256) :
    Calls Tryd.prog 12 #[.pointer (some ⟨b, 0, none⟩), .int .i64 9] w fun e w' => e = .returned (.int .i64 300) ∧ SetAt w' b 9 256 ∧ w.grownBy w' (some b) := put_any b 9 256 9 w h
theorem all8 (b : Nat) (w : World) (h : SetAt w b 9 256) :
    Calls Tryd.prog 21 #[.pointer (some ⟨b, 0, none⟩)] w fun e w' => ∃ v, e = .returned v ∧ Reads w' v [8] ∧ w.grownBy w' none := by
  refine (all_any b 9 256 w h).mono ?_
  rintro e w' ⟨v, rfl, ho, hg⟩
  exact ⟨v, rfl, reads_own (zs := [8]) ho, hg⟩
theorem has8 (b : Nat) (w : World) (h : SetAt w b 9 256) :
    Calls Tryd.prog 18 #[.pointer (some ⟨b, 0, none⟩), .int .i64 8] w fun e w' => e = .returned (.bool true) ∧ ∃ n, w' = w.drewN n := has_any b 9 256 8 w h
theorem has3 (b : Nat) (w : World) (h : SetAt w b 9 256) :
    Calls Tryd.prog 18 #[.pointer (some ⟨b, 0, none⟩), .int .i64 3] w fun e w' => e = .returned (.bool false) ∧ ∃ n, w' = w.drewN n := has_any b 9 256 3 w h

set_option maxRecDepth 100000 in
set_option maxHeartbeats 2000000 in
theorem awake_any (w : World) (hT : Tab w) :
    Calls Tryd.prog 11 #[] w fun e w' => e = .returned (.bool true) ∧ w.grownBy w' none := by
  go_enter Tryd.func11, Tryd.ntmps11
  go_wp2_with (first | fail)
  refine (new_yes 9 (by decide) (by decide) _ [3, 8, 3] 264 n1 (by decide) _ (reads_lit w [3, 8, 3] 3)).mono ?_
  rintro e w2 ⟨b, hb, rfl, S2, g2⟩
  have HB := hide (Nat.le_trans (World.grownBy_alloc w _ none).size hb)
  have G2 := hide (grownBy_trans (World.grownBy_alloc w _ none) g2)
  clear g2 hb
  go_wp2_with (first | fail)
  refine (new_not 9 (by decide) (by decide) _ [9] n2 (by decide) _ (reads_lit w2 [9] 3)).mono ?_
  rintro e w3 ⟨rfl, g3⟩
  have G23 := grownBy_trans (World.grownBy_alloc w2 _ none) g3
  have S3 := S2.kept (G23.block b S2.lt (by simp))
  have G3 := hide (grownBy_trans G2.out G23)
  have T3 := hT.grown G3.out (by simp)
  clear g3 G2 G23 S2
  go_wp2_with (first | fail)
  refine (new_size 0 _ (by decide) _).mono ?_; rintro e w' ⟨rfl, rfl⟩
  go_wp2_with (go_at_call 10; refine (num_any _ _).mono ?_; rintro e w' ⟨rfl, rfl⟩)
  refine (next3 b _ T3 S3).mono ?_; rintro e w' ⟨rfl, n4, rfl⟩
  go_wp2_with (first | fail)
  refine (next8 b _ (T3.draws n4) (S3.draws n4)).mono ?_; rintro e w' ⟨rfl, n5, rfl⟩
  go_wp2_with (first | fail)
  refine (drop3 b _ (S3.draws _)).mono ?_; rintro e w6 ⟨rfl, S6, g6⟩
  have G6 := hide (grown_spoil (grownBy_trans G3.out (grownBy_draws _ _ _)) HB.out g6)
  clear g6 G3 T3 S3
  go_wp2_with (first | fail)
  refine (put9 b _ S6).mono ?_; rintro e w7 ⟨rfl, S7, g7⟩
  have G7 := hide (grown_spoil G6.out HB.out g7)
  clear g7 G6 S6
  have C1 := hide (all8 b w7 S7)
  go_wp2_with (first | (go_at_call 10; refine (num_any _ _).mono ?_; rintro e w' ⟨rfl, rfl⟩) | (go_at_call 21; refine C1.out.mono ?_; rintro e w8 ⟨v, rfl, R8, g8⟩; have R8' := hide (R8.grown (World.grownBy_alloc w8 (.cells (vals [8]).toArray 3) none)); have S8 := hide ((S7.kept (g8.block b S7.lt (by simp))).kept (Below.heap_alloc w8 (.cells (vals [8]).toArray 3) b ((S7.kept (g8.block b S7.lt (by simp))).lt))); have G8 := hide (grownBy_trans (grownBy_trans G7.out g8) (World.grownBy_alloc w8 (.cells (vals [8]).toArray 3) none)); clear R8 g8))
  refine (same_any _ _ [8] (by decide) _ R8'.out (reads_lit w8 [8] 3)).mono ?_; rintro e w' ⟨rfl, n9, rfl⟩
  go_wp2_with (first | fail)
  refine (has8 b _ (S8.out.draws _)).mono ?_; rintro e w' ⟨rfl, n10, rfl⟩
  go_wp2_with (first | fail)
  refine (has3 b _ (S8.out.draws _)).mono ?_; rintro e w' ⟨rfl, n11, rfl⟩
  go_wp2
  go_ret
  exact ⟨rfl, grownBy_trans G8.out (grownBy_draws _ _ _)⟩
#print axioms awake_any
end Go.Proofs.YthphkcblifkmeaaDoor

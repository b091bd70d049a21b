/- The walk of the law BitActs: it answers true and turns nothing that was there, wherever the library's table is and the list is of a length that memory holds. -/
import Derived.Test.YthphkcblifkmeaaDoorLend
namespace Go.Proofs.YthphkcblifkmeaaDoor
open Go.RowKit
attribute [local go_sem] alloc_drewN setCell_drewN

theorem num_any2 (e : Int) (w : World) : Calls Tryd.prog 10 #[.int .i64 e] w fun r w' => r = .returned (.int .i64 e) ∧ w = w' := (num_any e w).mono (fun _ _ h => ⟨h.1, h.2.symm⟩)
theorem i64_and3 (n : Int) : bits .and .i64 n 3 = n % 4 := by
  have h3 : (BitVec.ofInt 64 3).toNat = 2 ^ 2 - 1 := by decide
  have key : (BitVec.ofInt 64 n &&& BitVec.ofInt 64 3).toNat = (n % ((2 ^ 64 : Nat) : Int)).toNat % 2 ^ 2 := by
    rw [BitVec.toNat_and, BitVec.toNat_ofInt, h3, Nat.and_two_pow_sub_one_eq_mod]
  show IntKind.i64.wrap ((BitVec.ofInt 64 n &&& BitVec.ofInt 64 3).toNat : Nat) = n % 4
  rw [key, IntKind.wrap_i64]
  omega
theorem and3 (z : Int) : (z % 4 = 0 ∧ bits .and .i64 z 3 = 0) ∨ (z % 4 = 1 ∧ bits .and .i64 z 3 = 1) ∨ (z % 4 = 2 ∧ bits .and .i64 z 3 = 2) ∨ (z % 4 = 3 ∧ bits .and .i64 z 3 = 3) := by
  rw [i64_and3]
  omega
/-- What Next answers. -/
def NextAns (x : Nat) (i p : Int) (q : Bool) : Prop := (x = 0 ∧ p = 0 ∧ q = false) ∨ (0 < x ∧ q = true ∧ ∃ r : Nat, p = r ∧ IsNext x i r)
theorem nextAns_one {x : Nat} {i p p' : Int} {q q' : Bool} (h : NextAns x i p q) (h' : NextAns x i p' q') : p' = p ∧ q' = q := by
  rcases h with ⟨h0, rfl, rfl⟩ | ⟨h0, rfl, r, rfl, hr⟩ <;> rcases h' with ⟨h1, rfl, rfl⟩ | ⟨h1, rfl, r', rfl, hr'⟩
  · exact ⟨rfl, rfl⟩
  · omega
  · omega
  · rw [next_one hr hr']; exact ⟨rfl, rfl⟩
theorem next_any (b k x : Nat) (i : Int) (w : World) (hT : Tab w) (h : SetAt w b k x) :
    Calls Tryd.prog 16 #[.pointer (some ⟨b, 0, none⟩), .int .i64 i] w fun e w' => ∃ p q, e = .returned (.tuple #[.int .i64 p, .bool q]) ∧ NextAns x i p q ∧ ∃ n, w' = w.drewN n := by
  rcases Nat.eq_zero_or_pos x with h0 | h0
  · subst h0
    refine (next_none b k i w h).mono ?_
    rintro e w' ⟨rfl, rfl⟩
    exact ⟨_, _, rfl, .inl ⟨rfl, rfl, rfl⟩, 0, rfl⟩
  · refine (next_some b k x i h0 w hT h).mono ?_
    rintro e w' ⟨r, rfl, hr, hw⟩
    exact ⟨_, _, rfl, .inr ⟨h0, rfl, r, rfl, hr⟩, hw⟩
theorem rnext_any (b k x : Nat) (i : Int) (w : World) (h : RefAt w b k x) :
    Calls Tryd.prog 17 #[.pointer (some ⟨b, 0, none⟩), .int .i64 i] w fun e w' => ∃ p q, e = .returned (.tuple #[.int .i64 p, .bool q]) ∧ NextAns x i p q ∧ w.grownBy w' none := by
  rcases Nat.eq_zero_or_pos x with h0 | h0
  · subst h0
    refine (rnext_none b k i w h).mono ?_
    rintro e w' ⟨rfl, hg⟩
    exact ⟨_, _, rfl, .inl ⟨rfl, rfl, rfl⟩, hg⟩
  · refine (rnext_some b k x i h0 w h).mono ?_
    rintro e w' ⟨r, rfl, hr, hg⟩
    exact ⟨_, _, rfl, .inr ⟨h0, rfl, r, rfl, hr⟩, hg⟩

/-- The Set at b and the document's Bits at r, both of size k, hold the same; nothing that was there in w has turned. -/
structure ActSt (w W : World) (b r k x : Nat) : Prop where
  set : SetAt W b k x
  ref : RefAt W r k x
  ne : b ≠ r
  grown : w.grownBy W none
  le : w.heap.size ≤ b
  le' : w.heap.size ≤ r
theorem ActSt.more {w W W1 : World} {b r k x : Nat} (h : ActSt w W b r k x) (g : W.grownBy W1 none) : ActSt w W1 b r k x :=
  ⟨h.set.kept (g.block b h.set.lt (by simp)), h.ref.kept (g.block r h.ref.lt (by simp)), h.ne, grownBy_trans h.grown g, h.le, h.le'⟩
theorem ActSt.draws {w W : World} {b r k x : Nat} (h : ActSt w W b r k x) (n : Nat) : ActSt w (W.drewN n) b r k x := h.more (grownBy_draws _ _ _)
theorem ActSt.mid {w W W1 : World} {b r k x : Nat} (h : ActSt w W b r k x) (g : W.grownBy W1 (some b)) : RefAt W1 r k x := h.ref.kept (g.block r h.ref.lt (by simpa using fun e => h.ne e.symm))
theorem ActSt.both {w W W1 W2 : World} {b r k x y : Nat} (h : ActSt w W b r k x) (S : SetAt W1 b k y) (g : W.grownBy W1 (some b)) (R : RefAt W2 r k y) (g' : W1.grownBy W2 (some r)) : ActSt w W2 b r k y :=
  ⟨S.kept (g'.block b S.lt (by simpa using fun e => h.ne e)), R, h.ne, grown_spoil (grown_spoil h.grown h.le g) h.le' g', h.le, h.le'⟩

theorem reads_front {W : World} {g cap : Nat} {zs : List Int} (h : Reads W (.slice (some ⟨g, 0, none⟩) (zs.length + 2) cap) (zs ++ [-7777, -8888])) : Reads W (.slice (some ⟨g, 0, none⟩) zs.length cap) zs := by
  obtain ⟨a1, cap1, e1, h1⟩ := h
  simp only [Value.slice.injEq] at e1
  obtain ⟨rfl, -, rfl⟩ := e1
  obtain ⟨g', o', e2, hcell⟩ := h1 (by simp)
  cases e2
  exact ⟨_, cap, rfl, fun _ => ⟨g, 0, rfl, fun i hi => by rw [hcell i (by simp; omega), List.getElem?_append_left hi]⟩⟩

set_option maxRecDepth 100000 in
set_option maxHeartbeats 4000000 in
theorem acts_size (l : Int) (hl : l < 1 ∨ 64 < l) (v1 v2 : Value) (zs : List Int) (hz : zs.length ≤ 17592186043904) (w : World) (hT : Tab w) (hv1 : Reads w v1 zs) :
    Calls Tryd.prog 3 #[.int .i64 l, v1, v2] w fun e w' => e = .returned (.bool true) ∧ Below w.heap.size w w' := by
  have HV := hide hv1
  clear hv1
  go_enter Tryd.func3, Tryd.ntmps3
  go_wp2_with (first | fail)
  refine (lend_any v1 zs hz w HV.out).mono ?_; rintro e w1 ⟨g, cap, rfl, hc1, hc2, hR, hg⟩
  go_wp2_with (first | fail)
  refine (new_size l _ hl _).mono ?_; rintro e w' ⟨rfl, hw'⟩
  subst hw'
  go_wp2_with (first | fail)
  refine (rnew_size l _ hl _).mono ?_; rintro e w' ⟨rfl, hw'⟩
  subst hw'
  go_wp2_with (first | fail)
  refine (kept_any g cap v1 zs hz hc1 _ hR (HV.out.grown hg)).mono ?_; rintro e w' ⟨rfl, n1, rfl⟩
  have HT := hide (hT.grown hg (by simp))
  have HG := hide hg
  clear hR hg
  go_wp2_with (first | (go_at_call 10; refine (num_any _ _).mono ?_; rintro e w' ⟨rfl, hw'⟩; subst hw'))
  refine (awake_any _ (HT.out.draws n1)).mono ?_; rintro e w5 ⟨rfl, g5⟩
  have HG5 := hide (grownBy_trans HG.out (grownBy_trans (grownBy_draws _ n1 _) g5))
  clear g5
  go_wp2
  go_ret
  exact ⟨rfl, below_of_grown HG5.out⟩

set_option maxRecDepth 100000 in
set_option maxHeartbeats 4000000 in
theorem acts_not (k : Nat) (h1 : 1 ≤ k) (h2 : k ≤ 64) (v1 v2 : Value) (zs : List Int) (hn : newW k 0 zs = none) (hz : zs.length ≤ 17592186043904) (w : World) (hT : Tab w) (hv1 : Reads w v1 zs) :
    Calls Tryd.prog 3 #[.int .i64 k, v1, v2] w fun e w' => e = .returned (.bool true) ∧ Below w.heap.size w w' := by
  have HV := hide hv1
  have HN := hide hn
  clear hv1 hn
  go_enter Tryd.func3, Tryd.ntmps3
  go_wp2_with (first | fail)
  refine (lend_any v1 zs hz w HV.out).mono ?_; rintro e w1 ⟨g, cap, rfl, hc1, hc2, hR, hg⟩
  have HR := hide hR
  have HG := hide hg
  clear hR hg
  go_wp2_with (first | fail)
  refine (new_not k h1 h2 _ zs HN.out (by omega) _ (reads_front HR.out)).mono ?_; rintro e w2 ⟨rfl, g2⟩
  have HG2 := hide g2
  clear g2
  go_wp2_with (first | fail)
  refine (rnew_not k h1 h2 _ zs HN.out (by omega) _ (HV.out.grown (grownBy_trans HG.out HG2.out))).mono ?_; rintro e w3 ⟨rfl, g3⟩
  have HG3 := hide g3
  clear g3
  go_wp2_with (first | fail)
  refine (kept_any g cap v1 zs hz hc1 _ ((HR.out.grown HG2.out).grown HG3.out) (HV.out.grown (grownBy_trans (grownBy_trans HG.out HG2.out) HG3.out))).mono ?_; rintro e w' ⟨rfl, n1, rfl⟩
  have HG4 := hide (grownBy_trans (grownBy_trans HG.out HG2.out) HG3.out)
  have HT := hide (hT.grown HG4.out (by simp))
  go_wp2_with (first | (go_at_call 10; refine (num_any _ _).mono ?_; rintro e w' ⟨rfl, hw'⟩; subst hw'))
  refine (awake_any _ (HT.out.draws n1)).mono ?_; rintro e w5 ⟨rfl, g5⟩
  have HG5 := hide (grownBy_trans HG4.out (grownBy_trans (grownBy_draws _ n1 _) g5))
  clear g5
  go_wp2
  go_ret
  exact ⟨rfl, below_of_grown HG5.out⟩
#print axioms acts_not

set_option maxRecDepth 100000 in
set_option maxHeartbeats 8000000 in
theorem acts_yes (k : Nat) (h1 : 1 ≤ k) (h2 : k ≤ 64) (v1 v2 : Value) (zs ys : List Int) (x0 : Nat) (hn : newW k 0 zs = some x0) (hz : zs.length ≤ 17592186043904) (hy : ys.length ≤ 9223372036854775807) (w : World) (hT : Tab w) (hv1 : Reads w v1 zs) (hv2 : Reads w v2 ys) :
    Calls Tryd.prog 3 #[.int .i64 k, v1, v2] w fun e w' => e = .returned (.bool true) ∧ Below w.heap.size w w' := by
  have HV := hide hv1
  have HN := hide hn
  have HW := hide (fun W => hv2.grown (W := W))
  obtain ⟨a2, cap2, rfl, -⟩ := hv2
  generalize hM : ys.length = M at *
  have HM := hide hM
  clear hv1 hn hM
  go_enter Tryd.func3, Tryd.ntmps3
  go_wp2_with (first | fail)
  refine (lend_any v1 zs hz w HV.out).mono ?_; rintro e w1 ⟨g, cap, rfl, hc1, hc2, hR, hg⟩
  have HR := hide hR
  have HG := hide hg
  clear hR hg
  go_wp2_with (first | fail)
  refine (new_yes k h1 h2 _ zs x0 HN.out (by omega) _ (reads_front HR.out)).mono ?_; rintro e w2 ⟨b, hb, rfl, S2, g2⟩
  have HG2 := hide g2
  have HS2 := hide S2
  have HB := hide hb
  clear g2 S2 hb
  go_wp2_with (first | fail)
  refine (rnew_yes k h1 h2 _ zs x0 HN.out (by omega) _ (HV.out.grown (grownBy_trans HG.out HG2.out))).mono ?_; rintro e w3 ⟨r, hr, rfl, R3, g3⟩
  have hS : ActSt w w3 b r k x0 := by
    have l2 := HS2.out.lt
    have l1 := HG.out.size
    have l3 := HG2.out.size
    have l4 := HB.out
    exact ⟨HS2.out.kept (g3.block b HS2.out.lt (by simp)), R3, by omega, grownBy_trans (grownBy_trans HG.out HG2.out) g3, by omega, by omega⟩
  have HG3 := hide g3
  clear g3 R3 hr HB HS2
  go_wp2_with (first | fail)
  refine (kept_any g cap v1 zs hz hc1 _ ((HR.out.grown HG2.out).grown HG3.out) (HV.out.grown (grownBy_trans (grownBy_trans HG.out HG2.out) HG3.out))).mono ?_; rintro e w' ⟨rfl, n1, rfl⟩
  have HS := hide (hS.draws n1)
  clear hS HR HG HG2 HG3
  go_wp2_with (first | (go_at_call 10; refine (num_any2 _ _).mono ?_; rintro e w' ⟨rfl, rfl⟩))
  go_loopw [12] (fun i W => ∃ (j x : Nat), j ≤ M ∧ j ≤ 100 ∧ i = .int .i64 j ∧ ActSt w W b r k x) (fun i _ => 100 - (intOf i).toNat)
  case atStart => exact ⟨0, x0, by omega, by omega, rfl, HS.out⟩
  case round =>
    clear HS
    obtain ⟨j, x, hj, hj', rfl, hS⟩ := hrel
    by_cases h4 : j < M
    · by_cases h5 : j < 100
      · obtain ⟨a3, cap3, e3, hc⟩ := HW.out wr hS.grown
        simp only [Value.slice.injEq] at e3
        obtain ⟨rfl, -, rfl⟩ := e3
        obtain ⟨g0, o0, rfl, hc0⟩ := hc (by rw [HM.out]; omega)
        have hcell := hc0 j (by rw [HM.out]; exact h4)
        clear hc hc0
        generalize ys[j]?.getD 0 = z at hcell
        have HS := hide hS
        clear hS
        rcases and3 z with ⟨hm1, hm2⟩ | ⟨hm1, hm2⟩ | ⟨hm1, hm2⟩ | ⟨hm1, hm2⟩
        · go_wp2_with (first | fail)
          refine (put_any b k x _ _ HS.out.set).mono ?_; rintro e w2 ⟨rfl, S2, g2⟩
          have R2 := HS.out.mid g2
          go_wp2_with (first | (go_at_call 10; refine (num_any2 _ _).mono ?_; rintro e w' ⟨rfl, rfl⟩))
          refine (rput_any r k x _ _ R2).mono ?_; rintro e w3 ⟨rfl, R3, g3⟩
          have HS3 := hide (HS.out.both S2 g2 R3 g3)
          clear S2 g2 R2 R3 g3 HS
          generalize putW k x _ = x3 at *
          go_wp2_with (first | fail)
          refine (next_any b k x3 _ _ (hT.grown HS3.out.grown (by simp)) HS3.out.set).mono ?_; rintro e w' ⟨p, q, rfl, hnx, n4, rfl⟩
          have HS4 := hide (HS3.out.draws n4)
          clear HS3
          go_wp2_with (first | fail)
          refine (rnext_any r k x3 _ _ HS4.out.ref).mono ?_; rintro e w5 ⟨p', q', rfl, hnx', g5⟩
          obtain ⟨rfl, rfl⟩ := nextAns_one hnx hnx'
          have HS5 := hide (HS4.out.more g5)
          clear HS4 g5 hnx hnx'
          go_wp2_with (first | fail)
          refine (has_any b k x3 _ _ HS5.out.set).mono ?_; rintro e w' ⟨rfl, n6, rfl⟩
          have HS6 := hide (HS5.out.draws n6)
          clear HS5
          go_wp2_with (first | fail)
          refine (rhas_any r k x3 _ _ HS6.out.ref).mono ?_; rintro e w' ⟨rfl, hw'⟩
          subst hw'
          go_wp2_with (first | fail)
          refine (all_any b k x3 _ HS6.out.set).mono ?_; rintro e w7 ⟨u7, rfl, o7, g7⟩
          have HS7 := hide (HS6.out.more g7)
          have R7 := hide (reads_own o7)
          clear HS6 g7 o7
          go_wp2_with (first | fail)
          refine (rall_any r k x3 _ HS7.out.ref).mono ?_; rintro e w8 ⟨u8, rfl, o8, g8⟩
          have HS8 := hide (HS7.out.more g8)
          have R8 := hide (R7.out.grown g8)
          have R9 := hide (reads_own o8)
          clear HS7 g8 o8 R7
          go_wp2_with (first | fail)
          refine (same_any u7 u8 (mem x3 k) (by have := mem_length x3 k; omega) _ R8.out R9.out).mono ?_; rintro e w' ⟨rfl, n9, rfl⟩
          have HS9 := hide (HS8.out.draws n9)
          clear HS8 R8 R9
          go_wp2
          go_roundw
          case rel => exact ⟨j + 1, _, by omega, by omega, by go_num, HS9.out⟩
          case measure => simp [intOf]; omega
        · go_wp2_with (first | fail)
          refine (put_any b k x _ _ HS.out.set).mono ?_; rintro e w2 ⟨rfl, S2, g2⟩
          have R2 := HS.out.mid g2
          go_wp2_with (first | (go_at_call 10; refine (num_any2 _ _).mono ?_; rintro e w' ⟨rfl, rfl⟩))
          refine (rput_any r k x _ _ R2).mono ?_; rintro e w3 ⟨rfl, R3, g3⟩
          have HS3 := hide (HS.out.both S2 g2 R3 g3)
          clear S2 g2 R2 R3 g3 HS
          generalize putW k x _ = x3 at *
          go_wp2_with (first | fail)
          refine (next_any b k x3 _ _ (hT.grown HS3.out.grown (by simp)) HS3.out.set).mono ?_; rintro e w' ⟨p, q, rfl, hnx, n4, rfl⟩
          have HS4 := hide (HS3.out.draws n4)
          clear HS3
          go_wp2_with (first | fail)
          refine (rnext_any r k x3 _ _ HS4.out.ref).mono ?_; rintro e w5 ⟨p', q', rfl, hnx', g5⟩
          obtain ⟨rfl, rfl⟩ := nextAns_one hnx hnx'
          have HS5 := hide (HS4.out.more g5)
          clear HS4 g5 hnx hnx'
          go_wp2_with (first | fail)
          refine (has_any b k x3 _ _ HS5.out.set).mono ?_; rintro e w' ⟨rfl, n6, rfl⟩
          have HS6 := hide (HS5.out.draws n6)
          clear HS5
          go_wp2_with (first | fail)
          refine (rhas_any r k x3 _ _ HS6.out.ref).mono ?_; rintro e w' ⟨rfl, hw'⟩
          subst hw'
          go_wp2_with (first | fail)
          refine (all_any b k x3 _ HS6.out.set).mono ?_; rintro e w7 ⟨u7, rfl, o7, g7⟩
          have HS7 := hide (HS6.out.more g7)
          have R7 := hide (reads_own o7)
          clear HS6 g7 o7
          go_wp2_with (first | fail)
          refine (rall_any r k x3 _ HS7.out.ref).mono ?_; rintro e w8 ⟨u8, rfl, o8, g8⟩
          have HS8 := hide (HS7.out.more g8)
          have R8 := hide (R7.out.grown g8)
          have R9 := hide (reads_own o8)
          clear HS7 g8 o8 R7
          go_wp2_with (first | fail)
          refine (same_any u7 u8 (mem x3 k) (by have := mem_length x3 k; omega) _ R8.out R9.out).mono ?_; rintro e w' ⟨rfl, n9, rfl⟩
          have HS9 := hide (HS8.out.draws n9)
          clear HS8 R8 R9
          go_wp2
          go_roundw
          case rel => exact ⟨j + 1, _, by omega, by omega, by go_num, HS9.out⟩
          case measure => simp [intOf]; omega
        · go_wp2_with (first | fail)
          refine (drop_any b k x _ _ HS.out.set).mono ?_; rintro e w2 ⟨rfl, S2, g2⟩
          have R2 := HS.out.mid g2
          go_wp2_with (first | (go_at_call 10; refine (num_any2 _ _).mono ?_; rintro e w' ⟨rfl, rfl⟩))
          refine (rdrop_any r k x _ _ R2).mono ?_; rintro e w3 ⟨rfl, R3, g3⟩
          have HS3 := hide (HS.out.both S2 g2 R3 g3)
          clear S2 g2 R2 R3 g3 HS
          generalize dropW k x _ = x3 at *
          go_wp2_with (first | fail)
          refine (next_any b k x3 _ _ (hT.grown HS3.out.grown (by simp)) HS3.out.set).mono ?_; rintro e w' ⟨p, q, rfl, hnx, n4, rfl⟩
          have HS4 := hide (HS3.out.draws n4)
          clear HS3
          go_wp2_with (first | fail)
          refine (rnext_any r k x3 _ _ HS4.out.ref).mono ?_; rintro e w5 ⟨p', q', rfl, hnx', g5⟩
          obtain ⟨rfl, rfl⟩ := nextAns_one hnx hnx'
          have HS5 := hide (HS4.out.more g5)
          clear HS4 g5 hnx hnx'
          go_wp2_with (first | fail)
          refine (has_any b k x3 _ _ HS5.out.set).mono ?_; rintro e w' ⟨rfl, n6, rfl⟩
          have HS6 := hide (HS5.out.draws n6)
          clear HS5
          go_wp2_with (first | fail)
          refine (rhas_any r k x3 _ _ HS6.out.ref).mono ?_; rintro e w' ⟨rfl, hw'⟩
          subst hw'
          go_wp2_with (first | fail)
          refine (all_any b k x3 _ HS6.out.set).mono ?_; rintro e w7 ⟨u7, rfl, o7, g7⟩
          have HS7 := hide (HS6.out.more g7)
          have R7 := hide (reads_own o7)
          clear HS6 g7 o7
          go_wp2_with (first | fail)
          refine (rall_any r k x3 _ HS7.out.ref).mono ?_; rintro e w8 ⟨u8, rfl, o8, g8⟩
          have HS8 := hide (HS7.out.more g8)
          have R8 := hide (R7.out.grown g8)
          have R9 := hide (reads_own o8)
          clear HS7 g8 o8 R7
          go_wp2_with (first | fail)
          refine (same_any u7 u8 (mem x3 k) (by have := mem_length x3 k; omega) _ R8.out R9.out).mono ?_; rintro e w' ⟨rfl, n9, rfl⟩
          have HS9 := hide (HS8.out.draws n9)
          clear HS8 R8 R9
          go_wp2
          go_roundw
          case rel => exact ⟨j + 1, _, by omega, by omega, by go_num, HS9.out⟩
          case measure => simp [intOf]; omega
        · have HS3 := hide HS.out
          clear HS
          go_wp2_with (first | fail)
          refine (next_any b k x _ _ (hT.grown HS3.out.grown (by simp)) HS3.out.set).mono ?_; rintro e w' ⟨p, q, rfl, hnx, n4, rfl⟩
          have HS4 := hide (HS3.out.draws n4)
          clear HS3
          go_wp2_with (first | fail)
          refine (rnext_any r k x _ _ HS4.out.ref).mono ?_; rintro e w5 ⟨p', q', rfl, hnx', g5⟩
          obtain ⟨rfl, rfl⟩ := nextAns_one hnx hnx'
          have HS5 := hide (HS4.out.more g5)
          clear HS4 g5 hnx hnx'
          go_wp2_with (first | fail)
          refine (has_any b k x _ _ HS5.out.set).mono ?_; rintro e w' ⟨rfl, n6, rfl⟩
          have HS6 := hide (HS5.out.draws n6)
          clear HS5
          go_wp2_with (first | fail)
          refine (rhas_any r k x _ _ HS6.out.ref).mono ?_; rintro e w' ⟨rfl, hw'⟩
          subst hw'
          go_wp2_with (first | fail)
          refine (all_any b k x _ HS6.out.set).mono ?_; rintro e w7 ⟨u7, rfl, o7, g7⟩
          have HS7 := hide (HS6.out.more g7)
          have R7 := hide (reads_own o7)
          clear HS6 g7 o7
          go_wp2_with (first | fail)
          refine (rall_any r k x _ HS7.out.ref).mono ?_; rintro e w8 ⟨u8, rfl, o8, g8⟩
          have HS8 := hide (HS7.out.more g8)
          have R8 := hide (R7.out.grown g8)
          have R9 := hide (reads_own o8)
          clear HS7 g8 o8 R7
          go_wp2_with (first | fail)
          refine (same_any u7 u8 (mem x k) (by have := mem_length x k; omega) _ R8.out R9.out).mono ?_; rintro e w' ⟨rfl, n9, rfl⟩
          have HS9 := hide (HS8.out.draws n9)
          clear HS8 R8 R9
          go_wp2
          go_roundw
          case rel => exact ⟨j + 1, _, by omega, by omega, by go_num, HS9.out⟩
          case measure => simp [intOf]; omega
      · have HT := hide (hT.grown hS.grown (by simp))
        have HG := hide hS.grown
        clear hS
        go_wp2_with (first | fail)
        refine (awake_any _ HT.out).mono ?_; rintro e w5 ⟨rfl, g5⟩
        have HG5 := hide (grownBy_trans HG.out g5)
        clear g5
        go_wp2
        go_ret
        exact ⟨rfl, below_of_grown HG5.out⟩
    · have HT := hide (hT.grown hS.grown (by simp))
      have HG := hide hS.grown
      clear hS
      go_wp2_with (first | fail)
      refine (awake_any _ HT.out).mono ?_; rintro e w5 ⟨rfl, g5⟩
      have HG5 := hide (grownBy_trans HG.out g5)
      clear g5
      go_wp2
      go_ret
      exact ⟨rfl, below_of_grown HG5.out⟩
#print axioms acts_yes
end Go.Proofs.YthphkcblifkmeaaDoor

/- The contract of package code's Get, proved over the translation. -/
import Derived.Test.YtdgdoiigcdlpaaaDoorPairs
namespace Go.Proofs.YtdgdoiigcdlpaaaDoor
open Go.RowKit
attribute [local go_sem] alloc_drewN setCell_drewN
attribute [local go_sem ↓] Go.wp_at_zero Go.wp_at_succ

theorem nums_byte (s : ByteArray) (k : Nat) : 0 ≤ (nums s)[k]?.getD 0 ∧ (nums s)[k]?.getD 0 < 256 := by
  rw [nums, List.getElem?_map]
  cases h : s.data.toList[k]? with
  | none => simp
  | some b =>
    have := b.toNat_lt
    simp
    omega
theorem getMay_odd {s : ByteArray} (h : s.size % 2 ≠ 0) : getMay s = false := by unfold getMay; rw [decide_eq_false h]; rfl
theorem getMay_long {s : ByteArray} (h : 128 < s.size) (h2 : s.size % 2 = 0) : getMay s = false := by
  unfold getMay codeMay
  rw [pairs_length, nums_length, decide_eq_false (show ¬ s.size / 2 ≤ 64 by omega)]
  simp
theorem getMay_even {s : ByteArray} (h2 : s.size % 2 = 0) : getMay s = codeMay (pairs (nums s)) := by unfold getMay; rw [decide_eq_true h2]; rfl

set_option maxRecDepth 100000 in
set_option maxHeartbeats 1000000 in
theorem get_not (s : ByteArray) (hs : s.size ≤ 9223372036854775807) (h : s.size % 2 ≠ 0 ∨ 128 < s.size) (w : World) :
    Calls Tryd.prog 10 #[.string s] w fun e w' => e = .returned (.tuple #[.slice none 0 0, .int .i64 400]) ∧ w' = w := by
  generalize hn : s.size = n at *
  by_cases h2 : n % 2 = 0
  · have hr : (n : Int).tmod 2 = 0 := by rw [Int.tmod_eq_emod_of_nonneg (by omega)]; omega
    have hl : 128 < n := by omega
    go_enter Tryd.func10, Tryd.ntmps10
    go_wp2
    go_ret2
    exact ⟨rfl, rfl⟩
  · have hr : (n : Int).tmod 2 = 1 := by rw [Int.tmod_eq_emod_of_nonneg (by omega)]; omega
    go_enter Tryd.func10, Tryd.ntmps10
    go_wp2
    go_ret2
    exact ⟨rfl, rfl⟩

set_option maxRecDepth 100000 in
set_option maxHeartbeats 1000000 in
theorem get_even (s : ByteArray) (h2 : s.size % 2 = 0) (hl : s.size ≤ 128) (w : World) (hT : Tab w) :
    Calls Tryd.prog 10 #[.string s] w fun e w' => ∃ v, e = .returned (.tuple #[v, .int .i64 (errOf (getMay s))]) ∧ PReads w' v (getL s) ∧ w.grownBy w' none := by
  have HT := hide hT
  have hix := fun (k : Nat) (hk : k < s.size) => index_at s k hk
  have HIX := hide hix
  have HNB := hide (nums_byte s)
  have hpl : (pairs (nums s)).length = s.size / 2 := by rw [pairs_length, nums_length]
  have HPL := hide hpl
  have HST := hide (fun j (h : j < s.size / 2) => pairs_step (nums s) j (by rw [nums_length]; exact h))
  have HGM := hide (getMay_even h2)
  clear hT hix hpl
  generalize hn : s.size = n at *
  obtain ⟨N, rfl⟩ : ∃ N, n = 2 * N := ⟨n / 2, by omega⟩
  have hr : (2 * (N : Int)).tmod 2 = 0 := by rw [Int.tmod_eq_emod_of_nonneg (by omega)]; omega
  go_enter Tryd.func10, Tryd.ntmps10
  go_wp2
  go_loopw [4, 5] (fun u i W => ∃ (j cap' : Nat) (a' : Option Addr), j ≤ N ∧ i = .int .i64 (2 * (j : Int)) ∧ u = .slice a' j cap' ∧ Hid (w.grownBy W none) ∧ Hid (W.ownsRow w.heap.size 39 2 u j (cells2 ((pairs (nums s)).take j)))) (fun _ i _ => 2 * N - (intOf i).toNat)
  case atStart =>
    exact ⟨0, 0, none, by omega, rfl, rfl, grownBy_refl _ _, rfl, .inl ⟨rfl, rfl⟩⟩
  case round =>
    obtain ⟨j, cap', a', hj, rfl, rfl, HG, HO⟩ := hrel
    by_cases hlt : j < N
    · have i1 := HIX.out (2 * j) (by omega)
      have i2 := HIX.out (2 * j + 1) (by omega)
      have st := HST.out j (by omega)
      have b1 := HNB.out (2 * j)
      have b2 := HNB.out (2 * j + 1)
      generalize (nums s)[2 * j]?.getD 0 = x at *
      generalize (nums s)[2 * j + 1]?.getD 0 = y at *
      have HS := hide st
      clear st
      have i1' : ∀ W, (Instr.index 9 (.string s) (.int .i64 (2 * (j : Int)))).run Tryd.prog W = .ok (.int .u8 x) W := fun W => by simpa using i1 W
      have i2' : ∀ W, (Instr.index 9 (.string s) (.int .i64 (2 * (j : Int) + 1))).run Tryd.prog W = .ok (.int .u8 y) W := fun W => by simpa using i2 W
      clear i1 i2
      have hw2 : IntKind.i64.wrap (2 * (j : Int) + 1) = 2 * (j : Int) + 1 := by rw [IntKind.wrap_i64]; omega
      have hwx : IntKind.i64.wrap x = x := by rw [IntKind.wrap_i64]; omega
      have hwy : IntKind.i64.wrap y = y := by rw [IntKind.wrap_i64]; omega
      go_wp2
      go_region_held3 (fun _ => True) (trivial)
        ((refine step_ins _ (by rfl) _ _ (by rfl) w.heap.size (.slice a' j cap') j ((pairs (nums s)).take j) (by rfl) ((HO.out.alloc _).drew) ⟨wr.heap.size, 0, none⟩ 1 1 [(x, y)] (by rfl) (by rfl) (fun i hi => by cases i with | zero => simp [Addr.add] | succ i => omega) (by omega) (by omega) (by have := HG.out.size; simp; omega) ?_; intro g2 cap2 w2 hown2 hgrow2))
      all_goals
        have HO2 := hide hown2
        have HG2 := hide (grown_append (m := 1) HG.out (fun g hg => (HO.out.lt g hg).1) hgrow2)
        clear hown2 hgrow2
        go_wp2
        go_roundw
        case rel =>
          refine ⟨j + 1, cap2, _, by omega, by go_num, rfl, HG2, ?_⟩
          have h := HO2.out
          rw [← HS.out] at h
          exact h
        case measure => simp [intOf]; omega
    · have e : j = N := by omega
      subst e
      have hO := HO.out
      rw [show (pairs (nums s)).take j = pairs (nums s) from List.take_of_length_le (by have := HPL.out; omega)] at hO
      have hp : PReads wr (.slice a' j cap') (pairs (nums s)) := preads_own (base := w.heap.size) (by rw [show (pairs (nums s)).length = j by have := HPL.out; omega]; exact hO)
      have C := may_any _ (pairs (nums s)) (by have := HPL.out; omega) wr (HT.out.grown HG.out) hp
      rw [← HGM.out] at C
      have HC := hide C
      have HP := hide hp
      clear hO hp C HIX HST HNB HO
      cases hm : getMay s with
      | false =>
        rw [hm] at HC
        have HL := hide (show getL s = [] from if_neg (by rw [hm]; decide))
        have HE := hide (show errOf (getMay s) = 400 by rw [hm]; rfl)
        clear hm
        go_wp2_with (go_at_call 14; refine HC.out.mono ?_; rintro e w2 ⟨rfl, hg⟩)
        go_ret2
        exact ⟨.slice none 0 0, by rw [HE.out]; rfl, by rw [HL.out]; exact preads_nil _ _ _, grownBy_trans HG.out hg⟩
      | true =>
        rw [hm] at HC
        have HL := hide (show getL s = pairs (nums s) from if_pos hm)
        have HE := hide (show errOf (getMay s) = 0 by rw [hm]; rfl)
        clear hm
        go_wp2_with (go_at_call 14; refine HC.out.mono ?_; rintro e w2 ⟨rfl, hg⟩)
        go_ret2
        exact ⟨.slice a' j cap', by rw [HE.out]; rfl, by rw [HL.out]; exact HP.out.grown hg, grownBy_trans HG.out hg⟩
theorem get_any (s : ByteArray) (hs : s.size ≤ 9223372036854775807) (w : World) (hT : Tab w) :
    Calls Tryd.prog 10 #[.string s] w fun e w' => ∃ v, e = .returned (.tuple #[v, .int .i64 (errOf (getMay s))]) ∧ PReads w' v (getL s) ∧ w.grownBy w' none := by
  by_cases h : s.size % 2 ≠ 0 ∨ 128 < s.size
  · have hm : getMay s = false := by
      rcases Nat.eq_zero_or_pos (s.size % 2) with e | e
      · exact getMay_long (by omega) e
      · exact getMay_odd (by omega)
    refine (get_not s hs h w).mono ?_
    rintro e w' ⟨rfl, rfl⟩
    rw [hm]
    exact ⟨.slice none 0 0, rfl, by rw [show getL s = [] from if_neg (by rw [hm]; decide)]; exact preads_nil _ _ _, grownBy_refl _ _⟩
  · exact get_even s (by omega) (by omega) w hT
#print axioms get_any
end Go.Proofs.YtdgdoiigcdlpaaaDoor

/- The contract of the document's own Reader.Num, proved over the translation: it reads as the program's reader. -/
import Derived.Test.YtgaegggiehhcpaaDoorGet
import Derived.Test.YtgaegggiehhcpaaDoorRefBe
namespace Go.Proofs.YtgaegggiehhcpaaDoor.R5
open Go.RowKit
attribute [local go_sem] alloc_drewN setCell_drewN

/-- A Reader in memory: what is left, and has it ended. -/
def RN (W : World) (b : Nat) (s : ByteArray) (st : St) : Prop := s.size ≤ 65536 ∧ ∃ At : Nat, At ≤ s.size ∧ (nums s).drop At = st.1 ∧ W.heap[b]? = some (.cells #[.string s, .int .i64 At, .bool st.2] 79 (0, 0))
theorem RN.lt {W : World} {b : Nat} {s : ByteArray} {st : St} (h : RN W b s st) : b < W.heap.size := by obtain ⟨_, _, _, _, h⟩ := h; exact box_lt h
theorem RN.kept {W W2 : World} {b : Nat} {s : ByteArray} {st : St} {r : Option Nat} (h : RN W b s st) (hg : W.grownBy W2 r) (hr : r ≠ some b) : RN W2 b s st := by
  obtain ⟨h1, At, h2, h3, h4⟩ := h
  exact ⟨h1, At, h2, h3, box_grown h4 hg hr⟩
theorem index_at (s : ByteArray) (k : Nat) (hk : k < s.size) (W : World) : (Instr.index 9 (.string s) (.int .i64 k)).run Tryd.prog W = .ok (.int .u8 ((nums s)[k]?.getD 0)) W := by
  rw [run_index_string W 9 s .i64 k Tryd.underlying9, dif_pos (by omega)]
  congr 2
  have : k < s.data.size := hk
  rw [nums, List.getElem?_map, Array.getElem?_toList, Array.getElem?_eq_getElem this]
  rfl
theorem val_snoc (l : List Int) (z : Int) : val (l ++ [z]) = val l * 256 + z := by unfold val; rw [List.foldl_append]; rfl

set_option maxRecDepth 100000 in
set_option maxHeartbeats 2000000 in
theorem num_ref (b k : Nat) (hk : k ≤ 2) (s : ByteArray) (st : St) (w : World) (h : RN w b s st) :
    Calls Tryd.prog 35 #[.pointer (some ⟨b, 0, none⟩), .int .i64 k] w fun e w' => e = .returned (.int .i64 (numR k st).1) ∧ RN w' b s (numR k st).2 ∧ w.grownBy w' (some b) := by
  obtain ⟨hsz, At, hA, hd, hb⟩ := h
  obtain ⟨l, bad⟩ := st
  dsimp only at hd hb
  have hlen : l.length = s.size - At := by rw [← hd, List.length_drop, nums_length]
  have HB := hide hb
  have HD := hide hd
  clear hb hd
  obtain ⟨U, hU, V, HF, HC⟩ := class_of w
  have HBV : Hid (∀ u, (V u).heap[b]? = some (.cells #[.string s, .int .i64 At, .bool bad] 79 (0, 0))) := fun u => box_grown HB.out (HF.out u) (by simp)
  have q0 : ∀ u, (V u).cell? ⟨b, 0, none⟩ = some (.string s) := fun u => blk_cell (HBV.out u) 0
  have q1 : ∀ u, (V u).cell? ⟨b, 1, none⟩ = some (.int .i64 At) := fun u => blk_cell (HBV.out u) 1
  have q2 : ∀ u, (V u).cell? ⟨b, 2, none⟩ = some (.bool bad) := fun u => blk_cell (HBV.out u) 2
  have HBAD : Hid (∀ u, RN ((V u).setCell ⟨b, 2, none⟩ (.bool true)) b s (l, true)) := fun u => ⟨hsz, At, hA, HD.out, blk_set (HBV.out u) rfl⟩
  by_cases hs : bad = true ∨ l.length < k
  · have e : numR k (l, bad) = (0, (l, true)) := by unfold numR takeR; rw [if_pos hs]; rfl
    rw [e]
    cases bad with
    | true =>
      go_enter Tryd.func35, Tryd.ntmps35
      go_wp2
      refine wp_region_quiet_in V (by kernel_rfl) (by kernel_rfl) (HC.out _ (drew_grown _)) ?_
      repeat (go_big_quiet_step (fail))
      refine wpQuiet_nil ?_
      intro _ hwq
      obtain ⟨uq, hwq2⟩ := hwq
      subst hwq2
      have c2 := q2 uq
      have cf := blk_free (HBV.out uq)
      go_wp2
      go_ret
      exact ⟨rfl, HBAD.out uq, grownBy_trans (grownBy_any (HF.out uq)) (grownBy_set _ _ _ _)⟩
    | false =>
      have hl : l.length < k := by rcases hs with h | h; · cases h
                                   · exact h
      have hc : decide ((s.size : Int) - (At : Int) < (k : Int)) = true := decide_eq_true (by omega)
      clear hs
      go_enter Tryd.func35, Tryd.ntmps35
      go_wp2
      refine wp_region_quiet_in V (by kernel_rfl) (by kernel_rfl) (HC.out _ (drew_grown _)) ?_
      repeat (go_big_quiet_step (fail))
      refine wpQuiet_nil ?_
      intro _ hwq
      obtain ⟨uq, hwq2⟩ := hwq
      subst hwq2
      have c2 := q2 uq
      have cf := blk_free (HBV.out uq)
      go_wp2
      go_ret
      exact ⟨rfl, HBAD.out uq, grownBy_trans (grownBy_any (HF.out uq)) (grownBy_set _ _ _ _)⟩
  · have hbd : bad = false := by cases bad with
      | true => exact absurd (.inl rfl) hs
      | false => rfl
    subst hbd
    have hl : k ≤ l.length := by rcases Nat.lt_or_ge l.length k with h | h
                                 · exact absurd (.inr h) hs
                                 · exact h
    have e : numR k (l, false) = (val (l.take k), (l.drop k, false)) := by unfold numR takeR; rw [if_neg hs]
    rw [e]
    have hc : decide ((s.size : Int) - (At : Int) < (k : Int)) = false := decide_eq_false (by omega)
    clear hs e HBAD
    have HLB : Hid (∀ j, j < k → At + j < s.size ∧ (nums s)[At + j]?.getD 0 = l[j]?.getD 0 ∧ 0 ≤ (nums s)[At + j]?.getD 0 ∧ (nums s)[At + j]?.getD 0 < 256) := fun j hj => ⟨by omega, by rw [← HD.out, List.getElem?_drop], nums_byte s _⟩
    have HTAKE : Hid (∀ j, j < k → l.take (j + 1) = l.take j ++ [l[j]?.getD 0]) := fun j hj => by
      have hl2 : j < l.length := by omega
      rw [List.take_succ_eq_append_getElem hl2, List.getElem?_eq_getElem hl2]; rfl
    have HYB : Hid (∀ j, j < k → 0 ≤ val (l.take j) ∧ val (l.take j) < 256) := fun j hj => by
      rcases (by omega : j = 0 ∨ j = 1) with rfl | rfl
      · simp [val]
      · have := HLB.out 0 (by omega)
        rw [HTAKE.out 0 (by omega), val_snoc]
        rw [this.2.1] at this
        simp [val]
        omega
    go_enter Tryd.func35, Tryd.ntmps35
    go_wp2
    refine wp_region_quiet_in V (by kernel_rfl) (by kernel_rfl) (HC.out _ (drew_grown _)) ?_
    repeat (go_big_quiet_step (fail))
    refine wpQuiet_nil ?_
    intro _ hwq
    obtain ⟨uq, hwq2⟩ := hwq
    subst hwq2
    have GQ := hide (HF.out uq)
    have HBQ := hide (HBV.out uq)
    generalize V uq = w2 at *
    clear q0 q1 q2 HBV HF HC hU uq V U
    go_wp2
    go_loopw [5, 6] (fun x i W => ∃ (j n : Nat), j ≤ k ∧ i = .int .i64 j ∧ x = .int .i64 (val (l.take j)) ∧ W = w2.drewN n) (fun _ i _ => k - (intOf i).toNat)
    case atStart => exact ⟨0, 0, by omega, rfl, rfl, rfl⟩
    case round =>
      obtain ⟨j, n, hj, rfl, rfl, rfl⟩ := hrel
      have c0 : w2.cell? ⟨b, 0, none⟩ = some (.string s) := blk_cell HBQ.out 0
      have c1 : w2.cell? ⟨b, 1, none⟩ = some (.int .i64 At) := blk_cell HBQ.out 1
      have cf := blk_free HBQ.out
      by_cases hlt : j < k
      · obtain ⟨a1, a2, a3, a4⟩ := HLB.out j hlt
        obtain ⟨y0, y1⟩ := HYB.out j hlt
        have hix := index_at s (At + j) a1
        have HV1 := hide (show val (l.take (j + 1)) = val (l.take j) * 256 + l[j]?.getD 0 by rw [HTAKE.out j hlt, val_snoc])
        rw [a2] at hix a3 a4
        clear a2
        generalize l[j]?.getD 0 = z at *
        generalize val (l.take j) = y at *
        have hor := or_byte y z y0 y1 a3 a4
        have hix2 : ∀ W, (Instr.index 9 (.string s) (.int .i64 ((At : Int) + (j : Int)))).run Tryd.prog W = .ok (.int .u8 z) W := fun W => by have := hix W; rwa [show ((At + j : Nat) : Int) = (At : Int) + j by omega] at this
        clear hix
        go_wp2
        go_quiet (fail)
        go_wp2
        go_roundw
        case rel => exact ⟨j + 1, _, by omega, by go_num, by rw [HV1.out], rfl⟩
        case measure => simp [intOf]; omega
      · have e : j = k := by omega
        subst e
        go_wp2
        go_ret
        refine ⟨rfl, ⟨hsz, At + j, by omega, ?_, ?_⟩, ?_⟩
        · show (nums s).drop (At + j) = l.drop j
          rw [← HD.out, List.drop_drop]
        · have e := blk_set (j := 1) (u := .int .i64 ((At : Int) + (j : Int))) HBQ.out (cs' := #[.string s, .int .i64 ((At : Int) + (j : Int)), .bool false]) rfl
          rw [show ((At + j : Nat) : Int) = (At : Int) + j by omega]
          exact e
        · exact grownBy_trans (grownBy_any GQ.out) (grownBy_trans (grownBy_set w2 b 1 _) (grownBy_draws _ n _))
theorem num_refI (b : Nat) (k : Int) (hk : k = 1 ∨ k = 2) (s : ByteArray) (st : St) (w : World) (h : RN w b s st) :
    Calls Tryd.prog 35 #[.pointer (some ⟨b, 0, none⟩), .int .i64 k] w fun e w' => e = .returned (.int .i64 (numR k.toNat st).1) ∧ RN w' b s (numR k.toNat st).2 ∧ w.grownBy w' (some b) := by
  rcases hk with rfl | rfl
  · exact num_ref b 1 (by omega) s st w h
  · exact num_ref b 2 (by omega) s st w h
#print axioms num_refI
end Go.Proofs.YtgaegggiehhcpaaDoor.R5

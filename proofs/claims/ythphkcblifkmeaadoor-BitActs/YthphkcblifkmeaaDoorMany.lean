/- Contracts of package bits' All and New, proved over the translation. -/
import Derived.Test.YthphkcblifkmeaaDoorAsk
namespace Go.Proofs.YthphkcblifkmeaaDoor
open Go.RowKit
attribute [local go_sem] alloc_drewN setCell_drewN

/-- An append onto a row that was made since w: nothing of w has turned. -/
theorem grown_append {w W W2 : World} {v : Value} {o : Obj} {m : Nat} (h : w.grownBy W none) (hlt : ∀ g, v.ownBlock = some g → w.heap.size ≤ g) (hgrow : ((W.alloc o).drewN m).grownBy W2 v.ownBlock) : w.grownBy W2 none := by
  have h1 : w.grownBy ((W.alloc o).drewN m) none := grownBy_trans (grownBy_trans h (World.grownBy_alloc W o none)) (grownBy_draws _ m _)
  cases hv : v.ownBlock with
  | none => rw [hv] at hgrow; exact grownBy_trans h1 hgrow
  | some g => rw [hv] at hgrow; exact grown_spoil h1 (hlt g hv) hgrow

set_option maxRecDepth 100000 in
set_option maxHeartbeats 2000000 in
theorem all_any (b k x : Nat) (w : World) (h : SetAt w b k x) :
    Calls Tryd.prog 21 #[.pointer (some ⟨b, 0, none⟩)] w fun e w' => ∃ v, e = .returned v ∧ w'.ownsRow w.heap.size 3 1 v (mem x k).length (vals (mem x k)) ∧ w.grownBy w' none := by
  have hb := h.lt
  have h1 := h.size
  have hk := h.most
  have HS := hide h
  clear h
  go_enter Tryd.func21, Tryd.ntmps21
  go_wp2
  go_loopw [3, 11] (fun v c W => ∃ j : Nat, j ≤ k ∧ c = .int .i64 j ∧ W.ownsRow w.heap.size 3 1 v (mem x j).length (vals (mem x j)) ∧ w.grownBy W none) (fun _ c _ => k - (intOf c).toNat)
  case atStart => exact ⟨0, by omega, rfl, World.ownsRow_nil _ _ _ _, grownBy_refl _ _⟩
  case round =>
    obtain ⟨j, hj, rfl, hown, hg⟩ := hrel
    obtain ⟨a', cap', rfl⟩ := own_form hown
    have hlen := mem_length x j
    by_cases hlt : j < k
    · have C := hide (has_any b k x j _ (HS.out.kept (hg.block b hb (by simp))))
      have hh : hasW x (j : Int) = x.testBit j := by simp [hasW]
      rw [hh] at C
      clear hh
      have HO := hide hown
      have HG := hide hg
      have HZ := hide hg.size
      cases hbit : x.testBit j
      · have HM := hide (mem_no hbit)
        rw [hbit] at C
        clear hbit hown hg
        generalize hn : (mem x j).length = n at *
        have HN := hide hn
        clear hn
        go_wp2_with (go_at_call 18; refine C.out.mono ?_; rintro e w' ⟨rfl, n1, rfl⟩)
        go_roundw
        case rel =>
          refine ⟨j + 1, by omega, by go_num, ?_, ?_⟩
          · rw [HM.out, HN.out]; exact own_draws HO.out _
          · exact grownBy_trans HG.out (grownBy_draws _ _ _)
        case measure => simp [intOf]; omega
      · have HM := hide (mem_yes hbit)
        rw [hbit] at C
        clear hbit hown hg
        generalize hn : (mem x j).length = n at *
        have HN := hide hn
        clear hn
        go_wp2_with (first | (go_at_call 18; refine C.out.mono ?_; rintro e w' ⟨rfl, n1, rfl⟩) | (at_builtin; refine app_ints _ rfl _ _ rfl w.heap.size (.slice a' n cap') n (mem x j) rfl ?c0 ⟨wr.heap.size, 0, none⟩ 1 1 [(j : Int)] rfl rfl ?c1 ?c2 ?c3 ?_))
        case c0 => exact own_draws (HO.out.alloc _) _
        case c1 =>
          intro i hi
          match i, hi with
          | 0, _ => simp [Addr.add]
        case c2 => omega
        case c3 => have := HZ.out; simp; omega
        intro a2 cap2 w2 hown2 hgrow2
        have HO2 := hide hown2
        have HG2 := hide (grown_append HG.out (fun g hg => (HO.out.lt g hg).1) hgrow2)
        clear hown2 hgrow2
        go_wp2
        go_roundw
        case rel =>
          refine ⟨j + 1, by omega, by go_num, ?_, HG2.out⟩
          rw [HM.out, show (mem x j ++ [(j : Int)]).length = n + 1 by simp [HN.out]]; exact HO2.out
        case measure => simp [intOf]; omega
    · have e : j = k := by omega
      subst e
      have HO := hide hown
      have HG := hide hg
      clear hown hg
      generalize hn : (mem x j).length = n at *
      have HN := hide hn
      clear hn
      go_wp2
      go_ret
      refine ⟨_, rfl, ?_, HG.out⟩
      rw [HN.out]
      exact HO.out
#print axioms all_any

/-- A row that was there is there still, once memory has grown. -/
theorem Reads.grown {w W : World} {v : Value} {zs : List Int} (h : Reads w v zs) (hg : w.grownBy W none) : Reads W v zs := by
  obtain ⟨a, cap, rfl, ha⟩ := h
  refine ⟨a, cap, rfl, fun h => ?_⟩
  obtain ⟨g, o, rfl, hc⟩ := ha h
  refine ⟨g, o, rfl, fun i hi => ?_⟩
  have hlt : g < w.heap.size := World.block_lt_of_cell? w ⟨g, o + i, none⟩ (hc i hi)
  exact (World.cell?_of_block (a := ⟨g, o + i, none⟩) (hg.block g hlt (by simp))).trans (hc i hi)

set_option maxHeartbeats 400000 in
theorem new_size (l : Int) (v : Value) (h : l < 1 ∨ 64 < l) (w : World) :
    Calls Tryd.prog 7 #[.int .i64 l, v] w fun e w' => e = .returned (.tuple #[.pointer none, .int .i64 300]) ∧ w' = w := by
  rcases h with h | h
  · go_enter Tryd.func7, Tryd.ntmps7
    go_wp2
    go_ret2
    exact ⟨rfl, rfl⟩
  · have h' : 1 ≤ l := by omega
    go_enter Tryd.func7, Tryd.ntmps7
    go_wp2
    go_ret2
    exact ⟨rfl, rfl⟩

theorem drop_at {zs : List Int} {j : Nat} (h : j < zs.length) : zs.drop j = (zs[j]?.getD 0) :: zs.drop (j + 1) := by
  rw [List.drop_eq_getElem_cons h, List.getElem?_eq_getElem h]; rfl

set_option maxRecDepth 100000 in
set_option maxHeartbeats 2000000 in
theorem new_any (k : Nat) (h1 : 1 ≤ k) (h2 : k ≤ 64) (v : Value) (zs : List Int) (hz : zs.length ≤ 9223372036854775807) (w : World) (hv : Reads w v zs) :
    Calls Tryd.prog 7 #[.int .i64 k, v] w fun e w' => w.grownBy w' none ∧ ((∃ x, newW k 0 zs = some x ∧ e = .returned (.tuple #[.pointer (some ⟨w.heap.size, 0, none⟩), .int .i64 0]) ∧ SetAt w' w.heap.size k x) ∨ (newW k 0 zs = none ∧ e = .returned (.tuple #[.pointer none, .int .i64 300]))) := by
  have HR := hide (fun W => hv.grown (W := W))
  obtain ⟨a, cap, rfl, -⟩ := hv
  generalize hN : zs.length = N at *
  have HN := hide hN
  clear hN
  have HK := hide (pow_le h2)
  go_enter Tryd.func7, Tryd.ntmps7
  go_wp2
  go_loopw [21] (fun c W => ∃ (j x : Nat), j ≤ N ∧ c = .int .i64 j ∧ newW k x (zs.drop j) = newW k 0 zs ∧ SetAt W w.heap.size k x ∧ w.grownBy W none) (fun c _ => N - (intOf c).toNat)
  case atStart =>
    refine ⟨0, 0, by omega, rfl, rfl, ⟨h1, h2, Nat.pow_pos (by decide), by simp, by simp, by simp⟩, World.grownBy_alloc _ _ _⟩
  case round =>
    obtain ⟨j, x, hj, rfl, hw, hS, hg⟩ := hrel
    by_cases hlt : j < N
    · obtain ⟨a2, cap2, e2, hc⟩ := HR.out wr hg
      simp only [Value.slice.injEq] at e2
      obtain ⟨rfl, -, rfl⟩ := e2
      obtain ⟨g, o, rfl, hc2⟩ := hc (by rw [HN.out]; omega)
      have hcell := hc2 j (by rw [HN.out]; exact hlt)
      rw [drop_at (by rw [HN.out]; exact hlt)] at hw
      clear hc hc2
      generalize zs[j]?.getD 0 = z at hw hcell
      have C := hide (put_any _ k x z wr hS)
      simp only [newW] at hw
      by_cases hf : Fits k z
      · rw [if_pos hf] at hw
        have ha : ans k z = 0 := by unfold ans; rw [if_pos hf]
        rw [ha] at C
        have HW := hide hw
        have HG := hide hg
        clear hw hg ha hf hS
        go_wp2_with (go_at_call 12; refine C.out.mono ?_; rintro e w' ⟨rfl, hS', hg'⟩)
        have HS := hide hS'
        have HG' := hide hg'
        clear hS' hg'
        go_wp2
        go_roundw
        case rel => exact ⟨j + 1, _, by omega, by go_num, HW.out, HS.out, grown_spoil HG.out (Nat.le_refl _) HG'.out⟩
        case measure => simp [intOf]; omega
      · rw [if_neg hf] at hw
        have ha : ans k z = 300 := by unfold ans; rw [if_neg hf]
        rw [ha] at C
        have HW := hide hw
        have HG := hide hg
        clear hw hg ha hf hS
        go_wp2_with (go_at_call 12; refine C.out.mono ?_; rintro e w' ⟨rfl, -, hg'⟩)
        go_ret2
        exact ⟨grown_spoil HG.out (Nat.le_refl _) hg', .inr ⟨HW.out.symm, rfl⟩⟩
    · rw [List.drop_eq_nil_of_le (by rw [HN.out]; omega)] at hw
      simp only [newW] at hw
      have HW := hide hw
      have HG := hide hg
      have HS := hide hS
      clear hw hg hS
      go_wp2
      go_ret2
      exact ⟨HG.out, .inl ⟨x, HW.out.symm, rfl, HS.out⟩⟩
#print axioms new_any
theorem new_yes (k : Nat) (h1 : 1 ≤ k) (h2 : k ≤ 64) (v : Value) (zs : List Int) (x : Nat) (hx : newW k 0 zs = some x) (hz : zs.length ≤ 9223372036854775807) (w : World) (hv : Reads w v zs) :
    Calls Tryd.prog 7 #[.int .i64 k, v] w fun e w' => ∃ b, w.heap.size ≤ b ∧ e = .returned (.tuple #[.pointer (some ⟨b, 0, none⟩), .int .i64 0]) ∧ SetAt w' b k x ∧ w.grownBy w' none := by
  refine (new_any k h1 h2 v zs hz w hv).mono ?_
  rintro e w' ⟨hg, ⟨y, hy, rfl, hS⟩ | ⟨hn, _⟩⟩
  · rw [hx] at hy; cases hy; exact ⟨_, Nat.le_refl _, rfl, hS, hg⟩
  · rw [hx] at hn; cases hn
theorem new_not (k : Nat) (h1 : 1 ≤ k) (h2 : k ≤ 64) (v : Value) (zs : List Int) (hx : newW k 0 zs = none) (hz : zs.length ≤ 9223372036854775807) (w : World) (hv : Reads w v zs) :
    Calls Tryd.prog 7 #[.int .i64 k, v] w fun e w' => e = .returned (.tuple #[.pointer none, .int .i64 300]) ∧ w.grownBy w' none := by
  refine (new_any k h1 h2 v zs hz w hv).mono ?_
  rintro e w' ⟨hg, ⟨y, hy, rfl, hS⟩ | ⟨hn, rfl⟩⟩
  · rw [hx] at hy; cases hy
  · exact ⟨rfl, hg⟩
end Go.Proofs.YthphkcblifkmeaaDoor

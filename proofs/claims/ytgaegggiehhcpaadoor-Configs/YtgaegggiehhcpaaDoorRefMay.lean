/- Contracts of the document's own instrMay and CodeMay, proved over the translation: CodeMay answers the same function as the program's May. -/
import Derived.Test.YtgaegggiehhcpaaDoorCheck
namespace Go.Proofs.YtgaegggiehhcpaaDoor.R6
open Go.RowKit
attribute [local go_sem] alloc_drewN setCell_drewN

theorem may_bytes {N : Nat} (hN : N ≤ 64) {x y : Int} (h : insMay N (x, y) = true) : 0 ≤ x ∧ x < 12 ∧ 0 ≤ y ∧ y < 256 := by
  unfold insMay isOpB at h
  simp only [Bool.and_eq_true, decide_eq_true_eq] at h
  obtain ⟨⟨h1, h2⟩, h3, h4⟩ := h
  refine ⟨h1, h2, h3, Int.lt_of_lt_of_le h4 ?_⟩
  unfold most
  split
  · omega
  · obtain ⟨k, rfl⟩ : ∃ k : Nat, x = k := ⟨x.toNat, by omega⟩
    have hk : k < 12 := by omega
    rw [Int.toNat_natCast]
    clear h4
    have hall : ((List.range 12).all fun k => decide (opBelow k ≤ 256)) = true := by decide
    exact of_decide_eq_true (List.all_eq_true.1 hall k (List.mem_range.2 hk))
theorem codeMay_true {zs : List Ins} (h : codeMay zs = true) : zs.length ≤ 64 ∧ ∀ j, j < zs.length → insMay zs.length (zs[j]?.getD (0, 0)) = true := by
  unfold codeMay at h
  simp only [Bool.and_eq_true, decide_eq_true_eq, List.all_eq_true] at h
  refine ⟨h.1, fun j hj => h.2 _ ?_⟩
  rw [List.getElem?_eq_getElem hj]
  exact List.getElem_mem hj
/-- May an instruction be, in a program of so many, as the document's own text asks it. -/
def refMay (N : Int) (x : Ins) : Bool := insMay N x && decide (x.2 ≤ 255)
theorem ref_at {N x y b : Int} (hx0 : 0 ≤ x) (hx1 : x ≤ 11) (h0 : 0 ≤ y) (h1 : y ≤ 255) (hm : most x N = b) : refMay N (x, y) = decide (y < b) := by
  unfold refMay insMay isOpB
  dsimp only
  rw [hm, decide_eq_true h0, decide_eq_true h1, decide_eq_true (show 0 ≤ x ∧ x < 12 by omega)]
  simp
theorem ref_not {N x y : Int} (h : ¬ (0 ≤ x ∧ x ≤ 11 ∧ 0 ≤ y ∧ y ≤ 255)) : refMay N (x, y) = false := by
  unfold refMay insMay isOpB
  dsimp only
  cases hr : (decide (0 ≤ x ∧ x < 12) && (decide (0 ≤ y) && decide (y < most x N)) && decide (y ≤ 255)) with
  | false => rfl
  | true =>
    simp only [Bool.and_eq_true, decide_eq_true_eq] at hr
    omega
theorem refMay_le {N : Int} {x : Ins} (h : refMay N x = true) : insMay N x = true := by
  unfold refMay at h
  rw [Bool.and_eq_true] at h
  exact h.1
theorem refMay_not {N : Nat} (hN : N ≤ 64) {x : Ins} (h : refMay N x = false) : insMay N x = false := by
  cases hi : insMay N x with
  | false => rfl
  | true =>
    obtain ⟨a, b⟩ := x
    have := may_bytes hN hi
    unfold refMay at h
    rw [hi, decide_eq_true (show b ≤ 255 by omega)] at h
    cases h

set_option maxRecDepth 100000 in
set_option maxHeartbeats 2000000 in
theorem instr_no (x y N : Int) (h : ¬ (0 ≤ x ∧ x ≤ 11 ∧ 0 ≤ y ∧ y ≤ 255)) (w : World) :
    Calls Tryd.prog 72 #[.agg #[.int .i64 x, .int .i64 y], .int .i64 N] w fun e w' => e = .returned (.bool false) ∧ w.grownBy w' none := by
  by_cases h1 : 0 ≤ x
  · by_cases h2 : x ≤ 11
    · by_cases h3 : 0 ≤ y
      · have h4 : ¬ y ≤ 255 := by omega
        go_enter Tryd.func72, Tryd.ntmps72
        go_wp2
        go_ret
        exact ⟨rfl, World.grownBy_alloc _ _ _⟩
      · go_enter Tryd.func72, Tryd.ntmps72
        go_wp2
        go_ret
        exact ⟨rfl, World.grownBy_alloc _ _ _⟩
    · go_enter Tryd.func72, Tryd.ntmps72
      go_wp2
      go_ret
      exact ⟨rfl, World.grownBy_alloc _ _ _⟩
  · go_enter Tryd.func72, Tryd.ntmps72
    go_wp2
    go_ret
    exact ⟨rfl, World.grownBy_alloc _ _ _⟩

set_option maxRecDepth 100000 in
set_option maxHeartbeats 4000000 in
theorem instr_yes (x y N : Int) (hx0 : 0 ≤ x) (hx1 : x ≤ 11) (h0 : 0 ≤ y) (h1 : y ≤ 255) (w : World) :
    Calls Tryd.prog 72 #[.agg #[.int .i64 x, .int .i64 y], .int .i64 N] w fun e w' => e = .returned (.bool (refMay N (x, y))) ∧ w.grownBy w' none := by
  have hx : x = 0 ∨ x = 1 ∨ x = 2 ∨ x = 3 ∨ x = 4 ∨ x = 5 ∨ x = 6 ∨ x = 7 ∨ x = 8 ∨ x = 9 ∨ x = 10 ∨ x = 11 := by omega
  have hd1 : decide (y < 256) = true := decide_eq_true (by omega)
  have hd0 : decide (y < 1) = (y == 0) := by
    rw [show (y == 0) = decide (y = 0) from rfl]
    exact decide_eq_decide.2 (by omega)
  rcases hx with rfl | rfl | rfl | rfl | rfl | rfl | rfl | rfl | rfl | rfl | rfl | rfl
  · rw [ref_at hx0 hx1 h0 h1 (show most 0 N = 1 from rfl), hd0]
    go_enter Tryd.func72, Tryd.ntmps72
    go_wp2
    go_ret
    exact ⟨rfl, World.grownBy_alloc _ _ _⟩
  · rw [ref_at hx0 hx1 h0 h1 (show most 1 N = 256 from rfl), hd1]
    go_enter Tryd.func72, Tryd.ntmps72
    go_wp2
    go_ret
    exact ⟨rfl, World.grownBy_alloc _ _ _⟩
  · rw [ref_at hx0 hx1 h0 h1 (show most 2 N = 16 from rfl)]
    go_enter Tryd.func72, Tryd.ntmps72
    go_wp2
    go_ret
    exact ⟨rfl, World.grownBy_alloc _ _ _⟩
  · rw [ref_at hx0 hx1 h0 h1 (show most 3 N = 16 from rfl)]
    go_enter Tryd.func72, Tryd.ntmps72
    go_wp2
    go_ret
    exact ⟨rfl, World.grownBy_alloc _ _ _⟩
  · rw [ref_at hx0 hx1 h0 h1 (show most 4 N = 16 from rfl)]
    go_enter Tryd.func72, Tryd.ntmps72
    go_wp2
    go_ret
    exact ⟨rfl, World.grownBy_alloc _ _ _⟩
  · rw [ref_at hx0 hx1 h0 h1 (show most 5 N = 16 from rfl)]
    go_enter Tryd.func72, Tryd.ntmps72
    go_wp2
    go_ret
    exact ⟨rfl, World.grownBy_alloc _ _ _⟩
  · rw [ref_at hx0 hx1 h0 h1 (show most 6 N = N from rfl)]
    go_enter Tryd.func72, Tryd.ntmps72
    go_wp2
    go_ret
    exact ⟨rfl, World.grownBy_alloc _ _ _⟩
  · rw [ref_at hx0 hx1 h0 h1 (show most 7 N = N from rfl)]
    go_enter Tryd.func72, Tryd.ntmps72
    go_wp2
    go_ret
    exact ⟨rfl, World.grownBy_alloc _ _ _⟩
  · rw [ref_at hx0 hx1 h0 h1 (show most 8 N = 1 from rfl), hd0]
    go_enter Tryd.func72, Tryd.ntmps72
    go_wp2
    go_ret
    exact ⟨rfl, World.grownBy_alloc _ _ _⟩
  · rw [ref_at hx0 hx1 h0 h1 (show most 9 N = 8 from rfl)]
    go_enter Tryd.func72, Tryd.ntmps72
    go_wp2
    go_ret
    exact ⟨rfl, World.grownBy_alloc _ _ _⟩
  · rw [ref_at hx0 hx1 h0 h1 (show most 10 N = 8 from rfl)]
    go_enter Tryd.func72, Tryd.ntmps72
    go_wp2
    go_ret
    exact ⟨rfl, World.grownBy_alloc _ _ _⟩
  · rw [ref_at hx0 hx1 h0 h1 (show most 11 N = 1 from rfl), hd0]
    go_enter Tryd.func72, Tryd.ntmps72
    go_wp2
    go_ret
    exact ⟨rfl, World.grownBy_alloc _ _ _⟩
theorem instr_any (x y N : Int) (w : World) :
    Calls Tryd.prog 72 #[.agg #[.int .i64 x, .int .i64 y], .int .i64 N] w fun e w' => e = .returned (.bool (refMay N (x, y))) ∧ w.grownBy w' none := by
  by_cases h : 0 ≤ x ∧ x ≤ 11 ∧ 0 ≤ y ∧ y ≤ 255
  · exact instr_yes x y N h.1 h.2.1 h.2.2.1 h.2.2.2 w
  · rw [ref_not h]
    exact instr_no x y N h w

set_option maxRecDepth 100000 in
set_option maxHeartbeats 1000000 in
theorem codeMay_ref (v : Value) (zs : List Ins) (hz : zs.length ≤ 9223372036854775807) (w : World) (hv : PReads w v zs) :
    Calls Tryd.prog 38 #[v] w fun e w' => e = .returned (.bool (codeMay zs)) ∧ w.grownBy w' none := by
  have HV := hide (fun W => hv.grown (W := W))
  obtain ⟨va, vcap, rfl, -⟩ := hv
  generalize hN : zs.length = N at *
  have HN := hide hN
  clear hN
  go_enter Tryd.func38, Tryd.ntmps38
  go_wp2
  go_loopw [3] (fun i W => ∃ (j : Nat), j ≤ N ∧ i = .int .i64 j ∧ Hid (w.grownBy W none) ∧ Hid (∀ i, i < j → insMay N (zs[i]?.getD (0, 0)) = true)) (fun i _ => N - (intOf i).toNat)
  case atStart => exact ⟨0, by omega, rfl, grownBy_refl _ _, fun i hi => absurd hi (Nat.not_lt_zero _)⟩
  case round =>
    obtain ⟨j, hj, rfl, HG, HP⟩ := hrel
    by_cases hlt : j < N
    · obtain ⟨va', vcap', e, hc⟩ := HV.out wr HG.out
      simp only [Value.slice.injEq] at e
      obtain ⟨rfl, -, rfl⟩ := e
      obtain ⟨g, o, h, hc2⟩ := hc (by rw [HN.out]; omega)
      cases h
      obtain ⟨c1, c2⟩ := hc2 j (by rw [HN.out]; omega)
      have C := instr_any (zs[j]?.getD (0, 0)).1 (zs[j]?.getD (0, 0)).2 N wr
      rw [show ((zs[j]?.getD (0, 0)).1, (zs[j]?.getD (0, 0)).2) = zs[j]?.getD (0, 0) from rfl] at C
      clear hc hc2
      generalize hm : refMay N (zs[j]?.getD (0, 0)) = m at C
      have HM := hide hm
      clear hm
      generalize (zs[j]?.getD (0, 0)).1 = x at *
      generalize (zs[j]?.getD (0, 0)).2 = y at *
      have HC := hide C
      clear C
      cases m with
      | true =>
        go_wp2_with (first | fail)
        refine HC.out.mono ?_; rintro e w2 ⟨rfl, hg⟩
        have HG2 := hide (grownBy_trans HG.out hg)
        clear hg HG
        go_wp2
        go_roundw
        case rel =>
          refine ⟨j + 1, by omega, by go_num, HG2, fun i hi => ?_⟩
          rcases (by omega : i < j ∨ i = j) with h | rfl
          · exact HP.out i h
          · exact refMay_le HM.out
        case measure => simp [intOf]; omega
      | false =>
        go_wp2_with (first | fail)
        refine HC.out.mono ?_; rintro e w2 ⟨rfl, hg⟩
        have HG2 := hide (grownBy_trans HG.out hg)
        clear hg HG
        go_wp2
        go_ret
        refine ⟨?_, HG2.out⟩
        have hf : codeMay zs = false := by
          cases hm : codeMay zs with
          | false => rfl
          | true =>
            obtain ⟨h1, h2⟩ := codeMay_true hm
            have h3 := h2 j (by rw [HN.out]; exact hlt)
            rw [HN.out] at h1 h3
            rw [refMay_not h1 HM.out] at h3
            cases h3
        rw [hf]
        rfl
    · have e : j = N := by omega
      subst e
      go_wp2
      go_ret
      refine ⟨?_, HG.out⟩
      have hf : codeMay zs = decide ((j : Int) ≤ 64) := by
        unfold codeMay
        rw [HN.out, show zs.all (insMay j) = true by
          rw [List.all_eq_true]
          intro x hx
          obtain ⟨i, hi, rfl⟩ := List.getElem_of_mem hx
          have := HP.out i (by have := HN.out; omega)
          rwa [List.getElem?_eq_getElem hi] at this, Bool.and_true]
        exact decide_eq_decide.2 (by omega)
      rw [hf]
      rfl
#print axioms codeMay_ref
end Go.Proofs.YtgaegggiehhcpaaDoor.R6

/- The contract of package ready's Missed, proved over the translation. -/
import Derived.Test.YtlppfocoonnpjaaGreatDoorJPut
namespace Go.Proofs.YtlppfocoonnpjaaGreatDoor.J
open Go.RowKit
attribute [local go_sem] alloc_drewN setCell_drewN

/-- Those that are left of the first so many, and those that are late. -/
def leftK (js : List JobV) (now : Int) (k : Nat) : List JobV := (js.take k).filter (fun x => !decide (x.dead ≤ now))
def lateK (js : List JobV) (now : Int) (k : Nat) : List JobV := (js.take k).filter (fun x => decide (x.dead ≤ now))
theorem take_next {js : List JobV} {k : Nat} (h : k < js.length) : js.take (k + 1) = js.take k ++ [jobAt js k] := by
  rw [List.take_add_one, jobAt_mem h]; rfl
theorem left_late {js : List JobV} {now : Int} {k : Nat} (h : k < js.length) (hd : (jobAt js k).dead ≤ now) : leftK js now (k + 1) = leftK js now k ∧ lateK js now (k + 1) = lateK js now k ++ [jobAt js k] := by
  unfold leftK lateK
  rw [take_next h]
  simp [List.filter_append, hd]
theorem left_left {js : List JobV} {now : Int} {k : Nat} (h : k < js.length) (hd : ¬(jobAt js k).dead ≤ now) : lateK js now (k + 1) = lateK js now k ∧ leftK js now (k + 1) = leftK js now k ++ [jobAt js k] := by
  unfold leftK lateK
  rw [take_next h]
  simp [List.filter_append, hd]
theorem leftK_le (js : List JobV) (now : Int) (k : Nat) : (leftK js now k).length ≤ k := by
  unfold leftK
  exact Nat.le_trans (List.length_filter_le _ _) (by rw [List.length_take]; omega)
theorem lateK_le (js : List JobV) (now : Int) (k : Nat) : (lateK js now k).length ≤ k := by
  unfold lateK
  exact Nat.le_trans (List.length_filter_le _ _) (by rw [List.length_take]; omega)
theorem one_list (x : JobV) : ∀ i y, [x][i]? = some y → ∀ j u, (shJ.f y)[j]? = some u → (jobC x)[i * shJ.k + j]? = some u := by
  intro i y hy j u hu
  cases i with
  | zero =>
    simp only [List.getElem?_cons_zero, Option.some.injEq] at hy
    subst hy
    rw [Nat.zero_mul, Nat.zero_add]
    exact hu
  | succ i => simp at hy
theorem far_app {v v' v2 : Value} {B : Nat} (hb : v'.ownBlock = v.ownBlock ∨ v'.ownBlock = some B) (hf : Far v v2) (h2 : ∀ g, v2.ownBlock = some g → g < B) : Far v' v2 := by
  intro g hg e
  rcases hb with h | h
  · rw [h] at hg; exact hf g hg e
  · rw [h] at hg
    have := h2 g e
    simp only [Option.some.injEq] at hg
    omega
set_option maxRecDepth 100000 in
set_option maxHeartbeats 4000000 in
theorem miss_any {lo : Nat} (v : Value) (js : List JobV) (now : Int) (w : World) (hv : RowAt shJ lo w v js) :
    Calls Tryz.prog 65 #[v, .int .i64 now] w fun e w' => ∃ v1 v2, e = .returned (.tuple #[v1, v2]) ∧ Own w.heap.size w' v1 (leftV js now) ∧ Own w.heap.size w' v2 (lateV js now) ∧ Far v1 v2 ∧ w.grownBy w' none := by
  have CM := hide (fun W (hg : w.grownBy W none) => may_any v js W (hv.grown hg))
  have HV := hide (fun W (hg : w.grownBy W none) => hv.grown hg)
  obtain ⟨hl, a, cap, rfl, -⟩ := hv
  have H16 := hide (fun (h : rowMay js = true) => (rowMay_iff.1 h).1)
  have HE1 := hide (fun (h : rowMay js = true) => (show leftV js now = leftK js now js.length by unfold leftV leftK; rw [if_pos h, List.take_length]))
  have HE2 := hide (fun (h : rowMay js = true) => (show lateV js now = lateK js now js.length by unfold lateV lateK; rw [if_pos h, List.take_length]))
  have HE3 := hide (fun (h : rowMay js = false) => (show leftV js now = [] by unfold leftV; rw [h]; rfl))
  have HE4 := hide (fun (h : rowMay js = false) => (show lateV js now = [] by unfold lateV; rw [h]; rfl))
  have HS1 := hide (fun k (h : k < js.length) (hd : (jobAt js k).dead ≤ now) => left_late h hd)
  have HS2 := hide (fun k (h : k < js.length) (hd : ¬(jobAt js k).dead ≤ now) => left_left h hd)
  have HK1 := hide (leftK_le js now)
  have HK2 := hide (lateK_le js now)
  have HMEM := hide (fun k (h : k < js.length) => jobAt_mem h)
  generalize hN : js.length = N at *
  clear hN
  cases hm : rowMay js with
  | false =>
    rw [HE3.out hm, HE4.out hm]
    rw [hm] at CM
    clear hm HE1 HE2 HE3 HE4 H16
    go_enter Tryz.func65, Tryz.ntmps65
    go_wp2_with (first | fail)
    refine (CM.out _ (grownBy_refl _ _)).mono ?_; rintro e w1 ⟨rfl, hg⟩
    have HG := hide hg
    clear hg CM
    go_wp2
    go_ret2
    exact ⟨_, _, rfl, own_nil _ _, own_nil _ _, far_nil _ _, HG.out⟩
  | true =>
    have h16 := H16.out hm
    rw [HE1.out hm, HE2.out hm]
    rw [hm] at CM
    clear hm HE1 HE2 HE3 HE4 H16
    go_enter Tryz.func65, Tryz.ntmps65
    go_wp2_with (first | fail)
    refine (CM.out _ (grownBy_refl _ _)).mono ?_; rintro e w1 ⟨rfl, hg⟩
    have HG0 := hide hg
    clear hg CM
    go_wp2
    go_loopw [6, 7, 9, 15] (fun l t _ i W => ∃ (k : Nat) (a1 a2 : Option Addr) (c1 c2 : Nat), k ≤ N ∧ i = .int .i64 k ∧ l = .slice a1 (leftK js now k).length c1 ∧ t = .slice a2 (lateK js now k).length c2 ∧ Hid (Own w.heap.size W (.slice a1 (leftK js now k).length c1) (leftK js now k)) ∧ Hid (Own w.heap.size W (.slice a2 (lateK js now k).length c2) (lateK js now k)) ∧ Hid (Far (.slice a1 (leftK js now k).length c1) (.slice a2 (lateK js now k).length c2)) ∧ Hid (w.grownBy W none)) (fun _ _ _ i _ => N - (intOf i).toNat)
    case atStart => exact ⟨0, none, none, 0, 0, by omega, rfl, rfl, rfl, own_nil _ _, own_nil _ _, far_nil _ _, HG0⟩
    case round =>
      obtain ⟨k, a1, a2, c1, c2, hk, rfl, rfl, rfl, HL, HT, HF, HG⟩ := hrel
      by_cases hlt : k < N
      · obtain ⟨g, o, rfl⟩ := row_addr (HV.out wr HG.out) (by omega)
        have hq := HMEM.out k hlt
        have C0 : wr.cell? ⟨g, o + k * 7, none⟩ = some (.int .i64 (jobAt js k).task) := row_cell (S := shJ) (HV.out wr HG.out) hq (k := 0) rfl
        have C1 : wr.cell? ⟨g, o + k * 7 + 1, none⟩ = some (.int .i64 (jobAt js k).seq) := row_cell (S := shJ) (HV.out wr HG.out) hq (k := 1) rfl
        have C2 : wr.cell? ⟨g, o + k * 7 + 2, none⟩ = some (.int .i64 (jobAt js k).prio) := row_cell (S := shJ) (HV.out wr HG.out) hq (k := 2) rfl
        have C3 : wr.cell? ⟨g, o + k * 7 + 3, none⟩ = some (.int .i64 (jobAt js k).rel) := row_cell (S := shJ) (HV.out wr HG.out) hq (k := 3) rfl
        have C4 : wr.cell? ⟨g, o + k * 7 + 4, none⟩ = some (.int .i64 (jobAt js k).dead) := row_cell (S := shJ) (HV.out wr HG.out) hq (k := 4) rfl
        have C5 : wr.cell? ⟨g, o + k * 7 + 5, none⟩ = some (.int .i64 (jobAt js k).dem) := row_cell (S := shJ) (HV.out wr HG.out) hq (k := 5) rfl
        have C6 : wr.cell? ⟨g, o + k * 7 + 6, none⟩ = some (.int .i64 (jobAt js k).used) := row_cell (S := shJ) (HV.out wr HG.out) hq (k := 6) rfl
        have HKL : Hid (k ≤ 16) := hide (by omega)
        have HS1k := hide (HS1.out k hlt)
        have HS2k := hide (HS2.out k hlt)
        have hk1 := HK1.out k
        have hk2 := HK2.out k
        clear hq
        obtain ⟨X, hX⟩ : ∃ X, jobAt js k = X := ⟨_, rfl⟩
        rw [hX] at C0 C1 C2 C3 C4 C5 C6 HS1k HS2k
        clear hX
        obtain ⟨x0, x1, x2, x3, x4, x5, x6⟩ := X
        dsimp only at C0 C1 C2 C3 C4 C5 C6 HS1k HS2k
        by_cases hd : x4 ≤ now
        · obtain ⟨hS1, hS2⟩ := HS1k.out (by omega)
          have HA1 := hide hS1
          have HA2 := hide hS2
          clear hS1 hS2 HS1k HS2k
          have hgg := grownBy_trans (World.grownBy_alloc wr (.cells #[.int .i64 x0, .int .i64 x1, .int .i64 x2, .int .i64 x3, .int .i64 x4, .int .i64 x5, .int .i64 x6] 70) none) (World.grownBy_alloc _ (.cells #[.int .i64 x0, .int .i64 x1, .int .i64 x2, .int .i64 x3, .int .i64 x4, .int .i64 x5, .int .i64 x6] 70) none)
          have HAq := hide (HT.out.grown hgg)
          have HBq := hide (HL.out.grown hgg)
          have HGq := hide (grownBy_trans HG.out hgg)
          have HLIT := hide (alloc_next wr (.cells #[.int .i64 x0, .int .i64 x1, .int .i64 x2, .int .i64 x3, .int .i64 x4, .int .i64 x5, .int .i64 x6] 70) (.cells #[.int .i64 x0, .int .i64 x1, .int .i64 x2, .int .i64 x3, .int .i64 x4, .int .i64 x5, .int .i64 x6] 70))
          have HSZ : Hid (wr.heap.size ≤ ((wr.alloc (.cells #[.int .i64 x0, .int .i64 x1, .int .i64 x2, .int .i64 x3, .int .i64 x4, .int .i64 x5, .int .i64 x6] 70)).alloc (.cells #[.int .i64 x0, .int .i64 x1, .int .i64 x2, .int .i64 x3, .int .i64 x4, .int .i64 x5, .int .i64 x6] 70)).heap.size) := hide hgg.size
          generalize hnT : (lateK js now k).length = nT at *
          generalize hnL : (leftK js now k).length = nL at *
          have HNT := hide hnT
          have HNL := hide hnL
          clear hgg hnT hnL HL HT
          go_wp2_with (first | (at_builtin; refine app_row (S := shJ) _ rfl _ _ 57 70 (.agg #[.int .i64 0, .int .i64 0, .int .i64 0, .int .i64 0, .int .i64 0, .int .i64 0, .int .i64 0]) 56 Tryz.underlying57 infoJ rfl rfl w.heap.size (.slice a2 nT c2) nT (lateK js now k) rfl ?q0 ⟨wr.heap.size + 1, 0, none⟩ 1 1 [⟨x0, x1, x2, x3, x4, x5, x6⟩] rfl rfl ?q1 ?q2 ?q3 ?q4 ?_) | fail)
          case q0 => have := HAq.out; unfold Own at this; rw [HNT.out] at this; exact this
          case q1 =>
            first
              | exact one_at shJ ⟨x0, x1, x2, x3, x4, x5, x6⟩ HLIT.out
              | exact one_list ⟨x0, x1, x2, x3, x4, x5, x6⟩
          case q2 => have := HKL.out; omega
          case q3 => omega
          case q4 => have := HGq.out.size; simp at this ⊢; omega
          intro a3 c3 w3 hown hgrow hb
          have hnn : (lateK js now k ++ [(⟨x0, x1, x2, x3, x4, x5, x6⟩ : JobV)]).length = nT + 1 := by rw [List.length_append, HNT.out]; rfl
          have HOn : Hid (Own w.heap.size w3 (.slice a3 (nT + 1) c3) (lateK js now k ++ [⟨x0, x1, x2, x3, x4, x5, x6⟩])) := hide (by unfold Own; rw [hnn]; exact hown)
          have HBn := hide (HBq.out.far hgrow HF.out)
          have HGn := hide (grown_own HGq.out (fun g hg => by have := HAq.out; exact (World.ownsRow.lt this g hg).1) hgrow)
          have HFn : Hid (Far (.slice a3 (nT + 1) c3) _) := hide (far_app hb (Far.symm HF.out) (fun g hg => by have := (World.ownsRow.lt HBq.out g hg).2; simp at this ⊢; omega))
          clear hown hgrow hb HAq HBq HGq HG hnn HF
          go_wp2
          go_roundw
          case rel => exact ⟨k + 1, a1, a3, c1, c3, by omega, by go_num, by rw [HA1.out, HNL.out], by rw [HA2.out, List.length_append, HNT.out]; rfl, by rw [HA1.out, HNL.out]; exact HBn, by rw [HA2.out, List.length_append, HNT.out]; exact HOn, by rw [HA1.out, HNL.out, HA2.out, List.length_append, HNT.out]; exact hide (Far.symm HFn.out), HGn⟩
          case measure => simp [intOf]; omega
        · obtain ⟨hS1, hS2⟩ := HS2k.out (by omega)
          have HA1 := hide hS1
          have HA2 := hide hS2
          clear hS1 hS2 HS1k HS2k
          have hgg := grownBy_trans (World.grownBy_alloc wr (.cells #[.int .i64 x0, .int .i64 x1, .int .i64 x2, .int .i64 x3, .int .i64 x4, .int .i64 x5, .int .i64 x6] 70) none) (World.grownBy_alloc _ (.cells #[.int .i64 x0, .int .i64 x1, .int .i64 x2, .int .i64 x3, .int .i64 x4, .int .i64 x5, .int .i64 x6] 70) none)
          have HAq := hide (HL.out.grown hgg)
          have HBq := hide (HT.out.grown hgg)
          have HGq := hide (grownBy_trans HG.out hgg)
          have HLIT := hide (alloc_next wr (.cells #[.int .i64 x0, .int .i64 x1, .int .i64 x2, .int .i64 x3, .int .i64 x4, .int .i64 x5, .int .i64 x6] 70) (.cells #[.int .i64 x0, .int .i64 x1, .int .i64 x2, .int .i64 x3, .int .i64 x4, .int .i64 x5, .int .i64 x6] 70))
          have HSZ : Hid (wr.heap.size ≤ ((wr.alloc (.cells #[.int .i64 x0, .int .i64 x1, .int .i64 x2, .int .i64 x3, .int .i64 x4, .int .i64 x5, .int .i64 x6] 70)).alloc (.cells #[.int .i64 x0, .int .i64 x1, .int .i64 x2, .int .i64 x3, .int .i64 x4, .int .i64 x5, .int .i64 x6] 70)).heap.size) := hide hgg.size
          generalize hnT : (lateK js now k).length = nT at *
          generalize hnL : (leftK js now k).length = nL at *
          have HNT := hide hnT
          have HNL := hide hnL
          clear hgg hnT hnL HL HT
          go_wp2_with (first | (at_builtin; refine app_row (S := shJ) _ rfl _ _ 57 70 (.agg #[.int .i64 0, .int .i64 0, .int .i64 0, .int .i64 0, .int .i64 0, .int .i64 0, .int .i64 0]) 56 Tryz.underlying57 infoJ rfl rfl w.heap.size (.slice a1 nL c1) nL (leftK js now k) rfl ?q0 ⟨wr.heap.size + 1, 0, none⟩ 1 1 [⟨x0, x1, x2, x3, x4, x5, x6⟩] rfl rfl ?q1 ?q2 ?q3 ?q4 ?_) | fail)
          case q0 => have := HAq.out; unfold Own at this; rw [HNL.out] at this; exact this
          case q1 =>
            first
              | exact one_at shJ ⟨x0, x1, x2, x3, x4, x5, x6⟩ HLIT.out
              | exact one_list ⟨x0, x1, x2, x3, x4, x5, x6⟩
          case q2 => have := HKL.out; omega
          case q3 => omega
          case q4 => have := HGq.out.size; simp at this ⊢; omega
          intro a3 c3 w3 hown hgrow hb
          have hnn : (leftK js now k ++ [(⟨x0, x1, x2, x3, x4, x5, x6⟩ : JobV)]).length = nL + 1 := by rw [List.length_append, HNL.out]; rfl
          have HOn : Hid (Own w.heap.size w3 (.slice a3 (nL + 1) c3) (leftK js now k ++ [⟨x0, x1, x2, x3, x4, x5, x6⟩])) := hide (by unfold Own; rw [hnn]; exact hown)
          have HBn := hide (HBq.out.far hgrow (Far.symm HF.out))
          have HGn := hide (grown_own HGq.out (fun g hg => by have := HAq.out; exact (World.ownsRow.lt this g hg).1) hgrow)
          have HFn : Hid (Far (.slice a3 (nL + 1) c3) _) := hide (far_app hb HF.out (fun g hg => by have := (World.ownsRow.lt HBq.out g hg).2; simp at this ⊢; omega))
          clear hown hgrow hb HAq HBq HGq HG hnn HF
          go_wp2
          go_roundw
          case rel => exact ⟨k + 1, a3, a2, c3, c2, by omega, by go_num, by rw [HA2.out, List.length_append, HNL.out]; rfl, by rw [HA1.out, HNT.out], by rw [HA2.out, List.length_append, HNL.out]; exact HOn, by rw [HA1.out, HNT.out]; exact HBn, by rw [HA1.out, HNT.out, HA2.out, List.length_append, HNL.out]; exact HFn, HGn⟩
          case measure => simp [intOf]; omega
      · obtain rfl : k = N := by omega
        go_wp2
        go_ret2
        exact ⟨_, _, rfl, HL.out, HT.out, HF.out, HG.out⟩
#print axioms miss_any
end Go.Proofs.YtlppfocoonnpjaaGreatDoor.J

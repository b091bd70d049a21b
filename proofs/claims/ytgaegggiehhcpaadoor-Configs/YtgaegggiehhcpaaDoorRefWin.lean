/- The contract of the document's own windows, proved over the translation: it answers as the program's windowsMay. -/
import Derived.Test.YtgaegggiehhcpaaDoorRefPart
namespace Go.Proofs.YtgaegggiehhcpaaDoor.R6
open Go.RowKit
attribute [local go_sem] alloc_drewN setCell_drewN

theorem winAt_mem' {ws : List WinV} {i : Nat} (h : i < ws.length) : ws[i]? = some (winAt ws i) := by
  unfold winAt; rw [List.getElem?_eq_getElem h]; rfl
theorem end_nonneg {f : Int} {n : Nat} {ws : List WinV} {j : Nat} (h : ∀ i, i < j → winB (endAt ws i) f n (winAt ws i) = true) : 0 ≤ endAt ws j := by
  induction j with
  | zero => exact Int.le_refl _
  | succ j ih =>
    have h1 := ih fun i hi => h i (by omega)
    have h2 := h j (by omega)
    simp only [winB, Bool.and_eq_true, Bool.not_eq_true', decide_eq_false_iff_not] at h2
    show 0 ≤ (winAt ws j).til
    omega

set_option maxRecDepth 100000 in
set_option maxHeartbeats 1000000 in
theorem rwin_any {lo : Nat} (f qt : Int) (pa : Option Addr) (pn pc : Nat) (_hpn : pn ≤ 9223372036854775807) (vw vo : Value) (ws : List WinV) (h3 : ∃ a n c, vo = .slice a n c) (w : World) (hv : RowAt shW lo w vw ws) :
    Calls Tryd.prog 39 #[.agg #[.int .i64 f, .int .i64 qt, .slice pa pn pc, vw, vo]] w fun e w' => e = .returned (.bool (winsB f pn ws)) ∧ w.grownBy w' none := by
  obtain ⟨oa, on, oc, rfl⟩ := h3
  have HV := hide (fun W => hv.grown (W := W))
  obtain ⟨hl, wa, wc, rfl, -⟩ := hv
  have HE : Hid (winsB f pn ws = (decide (ws.length ≤ 32) && allB ws.length (fun i => winB (endAt ws i) f pn (winAt ws i)))) := rfl
  generalize winsB f pn ws = tb at *
  generalize hN : ws.length = N at *
  have HN := hide hN
  clear hN
  have HG0 := hide (World.grownBy_alloc w (.cells #[.int .i64 f, .int .i64 qt, .slice pa pn pc, .slice wa N wc, .slice oa on oc] 26) none)
  have KEEP : Hid (∀ W, (w.alloc (.cells #[.int .i64 f, .int .i64 qt, .slice pa pn pc, .slice wa N wc, .slice oa on oc] 26)).grownBy W none → W.cell? ⟨w.heap.size, 0, none⟩ = some (.int .i64 f) ∧ W.cell? ⟨w.heap.size, 2, none⟩ = some (.slice pa pn pc) ∧ W.cell? ⟨w.heap.size, 3, none⟩ = some (.slice wa N wc)) := by
    intro W hW
    have b := fun k => World.cell?_of_block (a := ⟨w.heap.size, k, none⟩) (hW.block w.heap.size (by simp) (by simp))
    exact ⟨(b 0).trans (by simp), (b 2).trans (by simp), (b 3).trans (by simp)⟩
  go_enter Tryd.func39, Tryd.ntmps39
  go_wp2
  go_loopw [3, 4] (fun s _ W => ∃ (j : Nat), j ≤ N ∧ s = .int .i64 j ∧ Hid ((w.alloc (.cells #[.int .i64 f, .int .i64 qt, .slice pa pn pc, .slice wa N wc, .slice oa on oc] 26)).grownBy W none) ∧ Hid (∀ i, i < j → winB (endAt ws i) f pn (winAt ws i) = true)) (fun s _ _ => N - (intOf s).toNat)
  case atStart => exact ⟨0, by omega, rfl, grownBy_refl _ _, fun i hi => absurd hi (Nat.not_lt_zero _)⟩
  case round =>
    obtain ⟨j, hj, rfl, HG, HALL⟩ := hrel
    obtain ⟨k0, k2, k3⟩ := KEEP.out wr HG.out
    by_cases hlt : j < N
    · obtain ⟨g, o, rfl⟩ := row_addr (HV.out wr (grownBy_trans HG0.out HG.out)) (by omega)
      have HC : Hid (∀ n, n < N → ∀ W, w.grownBy W none → ∀ k u, (winC (winAt ws n))[k]? = some u → W.cell? ⟨g, o + n * 3 + k, none⟩ = some u) := fun n hn W hg k u hu => row_cell (S := shW) (HV.out W hg) (winAt_mem' (by rw [HN.out]; exact hn)) hu
      have hc3 := HC.out j hlt wr (grownBy_trans HG0.out HG.out)
      have c0 : wr.cell? ⟨g, o + j * 3, none⟩ = some (.int .i64 (winAt ws j).fr) := hc3 0 _ rfl
      have c1 : wr.cell? ⟨g, o + j * 3 + 1, none⟩ = some (.int .i64 (winAt ws j).til) := hc3 1 _ rfl
      have c2 : wr.cell? ⟨g, o + j * 3 + 2, none⟩ = some (.int .i64 (winAt ws j).part) := hc3 2 _ rfl
      clear hc3
      have e0 := end_nonneg HALL.out
      have HX : Hid (winB (endAt ws j) f pn (winAt ws j) = (!decide ((winAt ws j).fr < endAt ws j) && (!decide ((winAt ws j).til ≤ (winAt ws j).fr) && (!decide (f < (winAt ws j).til) && (decide (0 ≤ (winAt ws j).part) && decide ((winAt ws j).part < pn)))))) := rfl
      have HNX : Hid (winB (endAt ws j) f pn (winAt ws j) = true → ∀ i, i < j + 1 → winB (endAt ws i) f pn (winAt ws i) = true) := fun h i hi => by
        rcases (by omega : i < j ∨ i = j) with h' | rfl
        · exact HALL.out i h'
        · exact h
      have HFA : Hid (winB (endAt ws j) f pn (winAt ws j) = false → tb = false) := fun h => by rw [HE.out, allB_false (f := fun i => winB (endAt ws i) f pn (winAt ws i)) hlt h, Bool.and_false]
      have HEN0 : Hid (j = 0 → endAt ws j = 0) := fun h => by subst h; rfl
      have HEA : Hid (∀ m, j = m + 1 → endAt ws j = (winAt ws m).til) := fun m h => by subst h; rfl
      generalize winB (endAt ws j) f pn (winAt ws j) = wb at *
      generalize (winAt ws j).fr = x0 at *
      generalize (winAt ws j).til = x1 at *
      generalize (winAt ws j).part = x2 at *
      generalize endAt ws j = en at *
      have HBR : Hid (w.heap.size < wr.heap.size) := World.block_lt_of_cell? wr _ k0
      go_wp2
      generalize hw1 : wr.alloc (Obj.cells #[Value.int IntKind.i64 x0, Value.int IntKind.i64 x1, Value.int IntKind.i64 x2] 59) = w1
      have HW1 := hide (show wr.grownBy w1 none by rw [← hw1]; exact World.grownBy_alloc _ _ _)
      obtain ⟨U, hU, F, HF, HR⟩ := class_of w1
      have HBX := hide (show wr.heap.size < w1.heap.size by rw [← hw1]; simp)
      have b0 := fun u => (World.cell?_of_block (a := ⟨wr.heap.size, 0, none⟩) ((HF.out u).block wr.heap.size HBX.out (by simp))).trans (show w1.cell? ⟨wr.heap.size, 0, none⟩ = some (.int .i64 x0) by rw [← hw1]; simp)
      have b1 := fun u => (World.cell?_of_block (a := ⟨wr.heap.size, 1, none⟩) ((HF.out u).block wr.heap.size HBX.out (by simp))).trans (show w1.cell? ⟨wr.heap.size, 1, none⟩ = some (.int .i64 x1) by rw [← hw1]; simp)
      have b2 := fun u => (World.cell?_of_block (a := ⟨wr.heap.size, 2, none⟩) ((HF.out u).block wr.heap.size HBX.out (by simp))).trans (show w1.cell? ⟨wr.heap.size, 2, none⟩ = some (.int .i64 x2) by rw [← hw1]; simp)
      clear hw1 c0 c1 c2 k0 k2 k3
      have k0 := fun u => (KEEP.out _ (grownBy_trans HG.out (grownBy_trans HW1.out (HF.out u)))).1
      have k2 := fun u => (KEEP.out _ (grownBy_trans HG.out (grownBy_trans HW1.out (HF.out u)))).2.1
      have k3 := fun u => (KEEP.out _ (grownBy_trans HG.out (grownBy_trans HW1.out (HF.out u)))).2.2
      by_cases h1 : x0 < 0
      · have e1 : decide (x0 < 0) = true := decide_eq_true h1
        have HFX := hide (HFA.out (by rw [HX.out]; simp; omega))
        clear HFA HNX HX
        go_wp2
        refine wp_region_quiet_in F (by kernel_rfl) (by kernel_rfl) (HR.out _ (drew_grown _)) ?_
        repeat (go_big_quiet_step (fail))
        refine wpQuiet_nil ?_
        intro _ hw1
        obtain ⟨uq, hw2⟩ := hw1
        subst hw2
        go_wp2
        go_ret
        exact ⟨by rw [HFX.out]; rfl, grownBy_trans HG0.out (grownBy_trans HG.out (grownBy_trans HW1.out (HF.out uq)))⟩
      have e1 : decide (x0 < 0) = false := decide_eq_false h1
      by_cases h2 : x1 ≤ x0
      · have e2 : decide (x1 ≤ x0) = true := decide_eq_true h2
        have HFX := hide (HFA.out (by rw [HX.out]; simp [h2]))
        clear HFA HNX HX
        go_wp2
        refine wp_region_quiet_in F (by kernel_rfl) (by kernel_rfl) (HR.out _ (drew_grown _)) ?_
        repeat (go_big_quiet_step (fail))
        refine wpQuiet_nil ?_
        intro _ hw1
        obtain ⟨uq, hw2⟩ := hw1
        subst hw2
        go_wp2
        go_ret
        exact ⟨by rw [HFX.out]; rfl, grownBy_trans HG0.out (grownBy_trans HG.out (grownBy_trans HW1.out (HF.out uq)))⟩
      have e2 : decide (x1 ≤ x0) = false := decide_eq_false h2
      by_cases h3 : f < x1
      · have e3 : decide (f < x1) = true := decide_eq_true h3
        have HFX := hide (HFA.out (by rw [HX.out]; simp [h3]))
        clear HFA HNX HX
        go_wp2
        refine wp_region_quiet_in F (by kernel_rfl) (by kernel_rfl) (HR.out _ (drew_grown _)) ?_
        repeat (go_big_quiet_step (fail))
        refine wpQuiet_nil ?_
        intro _ hw1
        obtain ⟨uq, hw2⟩ := hw1
        subst hw2
        go_wp2
        go_ret
        exact ⟨by rw [HFX.out]; rfl, grownBy_trans HG0.out (grownBy_trans HG.out (grownBy_trans HW1.out (HF.out uq)))⟩
      have e3 : decide (f < x1) = false := decide_eq_false h3
      by_cases h4 : x2 < 0
      · have e4 : decide (x2 < 0) = true := decide_eq_true h4
        have HFX := hide (HFA.out (by rw [HX.out]; simp; omega))
        clear HFA HNX HX
        go_wp2
        refine wp_region_quiet_in F (by kernel_rfl) (by kernel_rfl) (HR.out _ (drew_grown _)) ?_
        repeat (go_big_quiet_step (fail))
        refine wpQuiet_nil ?_
        intro _ hw1
        obtain ⟨uq, hw2⟩ := hw1
        subst hw2
        go_wp2
        go_ret
        exact ⟨by rw [HFX.out]; rfl, grownBy_trans HG0.out (grownBy_trans HG.out (grownBy_trans HW1.out (HF.out uq)))⟩
      have e4 : decide (x2 < 0) = false := decide_eq_false h4
      by_cases h5 : (pn : Int) ≤ x2
      · have e5 : decide ((pn : Int) ≤ x2) = true := decide_eq_true h5
        have HFX := hide (HFA.out (by rw [HX.out]; simp; omega))
        clear HFA HNX HX
        go_wp2
        refine wp_region_quiet_in F (by kernel_rfl) (by kernel_rfl) (HR.out _ (drew_grown _)) ?_
        repeat (go_big_quiet_step (fail))
        refine wpQuiet_nil ?_
        intro _ hw1
        obtain ⟨uq, hw2⟩ := hw1
        subst hw2
        go_wp2
        go_ret
        exact ⟨by rw [HFX.out]; rfl, grownBy_trans HG0.out (grownBy_trans HG.out (grownBy_trans HW1.out (HF.out uq)))⟩
      have e5 : decide ((pn : Int) ≤ x2) = false := decide_eq_false h5
      cases j with
      | zero =>
        have hen : en = 0 := HEN0.out rfl
        subst hen
        have HQ := hide (HNX.out (by rw [HX.out]; simp; omega))
        clear HFA HNX HX
        go_wp2
        refine wp_region_quiet_in F (by kernel_rfl) (by kernel_rfl) (HR.out _ (drew_grown _)) ?_
        repeat (go_big_quiet_step (fail))
        refine wpQuiet_nil ?_
        intro _ hw1
        obtain ⟨uq, hw2⟩ := hw1
        subst hw2
        go_wp2
        go_roundw
        case rel => exact ⟨0 + 1, by omega, by go_num, hide (grownBy_trans HG.out (grownBy_trans HW1.out (HF.out uq))), HQ⟩
        case measure => simp [intOf]; omega
      | succ m =>
        have hen := HEA.out m rfl
        have p1 : ∀ u, (F u).cell? ⟨g, o + m * 3 + 1, none⟩ = some (.int .i64 en) := fun u => by rw [hen]; exact HC.out m (by omega) _ (grownBy_trans HG0.out (grownBy_trans HG.out (grownBy_trans HW1.out (HF.out u)))) 1 _ rfl
        clear hen
        have e6 : decide (0 < ((m + 1 : Nat) : Int)) = true := decide_eq_true (by omega)
        have e7 : decide (0 < (m : Int) + 1) = true := decide_eq_true (by omega)
        by_cases h6 : x0 < en
        · have e8 : decide (x0 < en) = true := decide_eq_true h6
          have HFX := hide (HFA.out (by rw [HX.out]; simp [h6]))
          clear HFA HNX HX
          go_wp2
          refine wp_region_quiet_in F (by kernel_rfl) (by kernel_rfl) (HR.out _ (drew_grown _)) ?_
          repeat (go_big_quiet_step (fail))
          refine wpQuiet_nil ?_
          intro _ hw1
          obtain ⟨uq, hw2⟩ := hw1
          subst hw2
          go_wp2
          go_ret
          exact ⟨by rw [HFX.out]; rfl, grownBy_trans HG0.out (grownBy_trans HG.out (grownBy_trans HW1.out (HF.out uq)))⟩
        · have e8 : decide (x0 < en) = false := decide_eq_false h6
          have HQ := hide (HNX.out (by rw [HX.out]; simp; omega))
          clear HFA HNX HX
          go_wp2
          refine wp_region_quiet_in F (by kernel_rfl) (by kernel_rfl) (HR.out _ (drew_grown _)) ?_
          repeat (go_big_quiet_step (fail))
          refine wpQuiet_nil ?_
          intro _ hw1
          obtain ⟨uq, hw2⟩ := hw1
          subst hw2
          go_wp2
          go_roundw
          case rel => exact ⟨m + 1 + 1, by omega, by go_num, hide (grownBy_trans HG.out (grownBy_trans HW1.out (HF.out uq))), HQ⟩
          case measure => simp [intOf]; omega
    · have HE2 := hide (show tb = decide (N ≤ 32) by rw [HE.out, allB_true (f := fun i => winB (endAt ws i) f pn (winAt ws i)) (fun i hi => HALL.out i (by omega)), Bool.and_true])
      go_wp2
      go_ret
      exact ⟨by rw [HE2.out]; simp; omega, grownBy_trans HG0.out HG.out⟩
#print axioms rwin_any
end Go.Proofs.YtgaegggiehhcpaaDoor.R6

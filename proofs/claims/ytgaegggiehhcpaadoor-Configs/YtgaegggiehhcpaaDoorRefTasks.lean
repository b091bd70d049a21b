/- Contracts of the document's own TasksMay and partTasks, proved over the translation. -/
import Derived.Test.YtgaegggiehhcpaaDoorRefTask
namespace Go.Proofs.YtgaegggiehhcpaaDoor.R6
open Go.RowKit
attribute [local go_sem] alloc_drewN setCell_drewN

theorem row_addr {α : Type} {S : Shape α} {lo n c : Nat} {W : World} {a : Option Addr} {xs : List α} (h : RowAt S lo W (.slice a n c) xs) (hn : 0 < n) : ∃ g o, a = some ⟨g, o, none⟩ := by
  obtain ⟨-, a2, c2, e, hc⟩ := h
  simp only [Value.slice.injEq] at e
  obtain ⟨rfl, rfl, rfl⟩ := e
  obtain ⟨g, o, rfl, -⟩ := hc hn
  exact ⟨g, o, rfl⟩
theorem row_cell {α : Type} {S : Shape α} {lo n c g o : Nat} {W : World} {xs : List α} (h : RowAt S lo W (.slice (some ⟨g, o, none⟩) n c) xs) {j : Nat} {x : α} (hx : xs[j]? = some x) {k : Nat} {u : Value} (hu : (S.f x)[k]? = some u) : W.cell? ⟨g, o + j * S.k + k, none⟩ = some u := by
  obtain ⟨-, a2, c2, e, hc⟩ := h
  simp only [Value.slice.injEq] at e
  obtain ⟨rfl, rfl, rfl⟩ := e
  obtain ⟨g', o', e, -, hc2⟩ := hc (by have := (List.getElem?_eq_some_iff.1 hx).1; omega)
  simp only [Option.some.injEq, Addr.mk.injEq, and_true] at e
  obtain ⟨rfl, rfl⟩ := e
  exact hc2 j x hx k u hu
theorem taskAt_mem' {ws : List TaskV} {i : Nat} (h : i < ws.length) : ws[i]? = some (taskAt ws i) := by
  unfold taskAt; rw [List.getElem?_eq_getElem h]; rfl
theorem taskAt_take {ts : List TaskV} {i j : Nat} (h : i < j) : taskAt (ts.take j) i = taskAt ts i := by
  unfold taskAt; rw [List.getElem?_take, if_pos h]
theorem anyPrio_no {ts : List TaskV} {j : Nat} (hj : j ≤ ts.length) {p : Int} (h : ∀ i, i < j → (taskAt ts i).prio ≠ p) : anyPrio (ts.take j) p = false := by
  unfold anyPrio
  rw [allB_true, Bool.not_true]
  intro i hi
  rw [List.length_take] at hi
  rw [taskAt_take (by omega), decide_eq_false (h i (by omega)), Bool.not_false]
theorem anyPrio_yes {ts : List TaskV} {j i : Nat} (hj : j ≤ ts.length) (hi : i < j) {p : Int} (h : (taskAt ts i).prio = p) : anyPrio (ts.take j) p = true := by
  unfold anyPrio
  rw [allB_false (i := i) (by rw [List.length_take]; omega) (by rw [taskAt_take hi, decide_eq_true h, Bool.not_true]), Bool.not_false]
def rtaskB (ts : List TaskV) (i : Nat) : Bool := taskMay (taskAt ts i) && !anyPrio (ts.take i) (taskAt ts i).prio
def rtasksB (ts : List TaskV) : Bool := allB ts.length (rtaskB ts)

set_option maxRecDepth 100000 in
set_option maxHeartbeats 2000000 in
theorem rtasks_any {lo : Nat} (v : Value) (ts : List TaskV) (w : World) (hv : RowAt shT lo w v ts) :
    Calls Tryd.prog 71 #[v] w fun e w' => e = .returned (.bool (rtasksB ts)) ∧ w.grownBy w' none := by
  have HV := hide (fun W => hv.grown (W := W))
  obtain ⟨hl, ta, tc, rfl, -⟩ := hv
  unfold rtasksB
  generalize hN : ts.length = N at *
  have HN := hide hN
  clear hN
  have CT := hide (fun t W => rtask_any t W)
  go_enter Tryd.func71, Tryd.ntmps71
  go_wp2
  go_loopw [3] (fun s W => ∃ (j : Nat), j ≤ N ∧ s = .int .i64 j ∧ Hid (w.grownBy W none) ∧ Hid (∀ i, i < j → rtaskB ts i = true)) (fun s _ => N - (intOf s).toNat)
  case atStart => exact ⟨0, by omega, rfl, grownBy_refl _ _, fun i hi => absurd hi (Nat.not_lt_zero _)⟩
  case round =>
    obtain ⟨j, hj, rfl, HG, HALL⟩ := hrel
    by_cases hlt : j < N
    · obtain ⟨g, o, rfl⟩ := row_addr (HV.out wr HG.out) (by omega)
      have hq := taskAt_mem' (ws := ts) (i := j) (by rw [HN.out]; exact hlt)
      have c0 : wr.cell? ⟨g, o + j * 6, none⟩ = some (.int .i64 (taskAt ts j).kind) := row_cell (S := shT) (HV.out wr HG.out) hq (k := 0) rfl
      have c1 : wr.cell? ⟨g, o + j * 6 + 1, none⟩ = some (.int .i64 (taskAt ts j).period) := row_cell (S := shT) (HV.out wr HG.out) hq (k := 1) rfl
      have c2 : wr.cell? ⟨g, o + j * 6 + 2, none⟩ = some (.int .i64 (taskAt ts j).deadline) := row_cell (S := shT) (HV.out wr HG.out) hq (k := 2) rfl
      have c3 : wr.cell? ⟨g, o + j * 6 + 3, none⟩ = some (.int .i64 (taskAt ts j).clow) := row_cell (S := shT) (HV.out wr HG.out) hq (k := 3) rfl
      have c4 : wr.cell? ⟨g, o + j * 6 + 4, none⟩ = some (.int .i64 (taskAt ts j).chigh) := row_cell (S := shT) (HV.out wr HG.out) hq (k := 4) rfl
      have c5 : wr.cell? ⟨g, o + j * 6 + 5, none⟩ = some (.int .i64 (taskAt ts j).prio) := row_cell (S := shT) (HV.out wr HG.out) hq (k := 5) rfl
      have CX := hide (CT.out (taskAt ts j))
      have HC5 : Hid (∀ W, w.grownBy W none → W.cell? ⟨g, o + j * 6 + 5, none⟩ = some (.int .i64 (taskAt ts j).prio)) := fun W hg => row_cell (S := shT) (HV.out W hg) hq (k := 5) rfl
      have HCN : Hid (∀ n, n < N → ∀ W, w.grownBy W none → W.cell? ⟨g, o + n * 6 + 5, none⟩ = some (.int .i64 (taskAt ts n).prio)) := fun n hn W hg => row_cell (S := shT) (HV.out W hg) (taskAt_mem' (by rw [HN.out]; exact hn)) (k := 5) rfl
      have HB : Hid (rtaskB ts j = (taskMay (taskAt ts j) && !anyPrio (ts.take j) (taskAt ts j).prio)) := rfl
      have HNO := hide (fun h => anyPrio_no (ts := ts) (j := j) (by rw [HN.out]; omega) (p := (taskAt ts j).prio) h)
      have HYES := hide (fun i hi h => anyPrio_yes (ts := ts) (j := j) (i := i) (by rw [HN.out]; omega) hi (p := (taskAt ts j).prio) h)
      have HNX : Hid (rtaskB ts j = true → ∀ i, i < j + 1 → rtaskB ts i = true) := fun h i hi => by
        rcases (by omega : i < j ∨ i = j) with h' | rfl
        · exact HALL.out i h'
        · exact h
      have HFA : Hid (rtaskB ts j = false → allB N (rtaskB ts) = false) := fun h => allB_false hlt h
      clear hq
      generalize taskMay (taskAt ts j) = tm at *
      generalize (taskAt ts j).kind = x0 at *
      generalize (taskAt ts j).period = x1 at *
      generalize (taskAt ts j).deadline = x2 at *
      generalize (taskAt ts j).clow = x3 at *
      generalize (taskAt ts j).chigh = x4 at *
      generalize (taskAt ts j).prio = x5 at *
      generalize anyPrio (ts.take j) x5 = ap at *
      generalize rtaskB ts j = rb at *
      cases tm with
      | false =>
        have HF := hide (HFA.out (by rw [HB.out]; rfl))
        clear HFA HNX HNO HYES HB
        go_wp2_with (go_at_call 94; refine (CX.out _).mono ?_; rintro e w1 ⟨rfl, hg⟩; have G1 := hide hg; clear hg)
        go_ret
        exact ⟨by rw [HF.out]; rfl, grownBy_trans HG.out G1.out⟩
      | true =>
        go_wp2_with (go_at_call 94; refine (CX.out _).mono ?_; rintro e w1 ⟨rfl, hg⟩; have G1 := hide (grownBy_trans HG.out hg); clear hg)
        clear c0 c1 c2 c3 c4 c5 CX
        go_loopw [4] (fun s W => ∃ (n : Nat), n ≤ j ∧ s = .int .i64 n ∧ Hid (w.grownBy W none) ∧ Hid (∀ i, i < n → (taskAt ts i).prio ≠ x5)) (fun s _ => j - (intOf s).toNat)
        case atStart => exact ⟨0, by omega, rfl, G1, fun i hi => absurd hi (Nat.not_lt_zero _)⟩
        case round =>
          obtain ⟨n, hn, rfl, HG2, HALL2⟩ := hrel
          by_cases hlt2 : n < j
          · have d1 := HC5.out wr HG2.out
            have d2 := HCN.out n (by omega) wr HG2.out
            have HY := hide (HYES.out n hlt2)
            have HNX2 : Hid ((taskAt ts n).prio ≠ x5 → ∀ i, i < n + 1 → (taskAt ts i).prio ≠ x5) := fun h i hi => by
              rcases (by omega : i < n ∨ i = n) with h' | rfl
              · exact HALL2.out i h'
              · exact h
            generalize (taskAt ts n).prio = y at *
            by_cases hy : y = x5
            · have HF := hide (HFA.out (by rw [HB.out, HY.out hy]; rfl))
              subst hy
              clear HFA HNX HNO HYES HB HNX2 HY
              go_wp2
              go_quiet (fail)
              go_wp2
              go_ret
              exact ⟨by rw [HF.out]; rfl, grownBy_trans HG2.out (grownBy_draws _ _ _)⟩
            · have hy2 : (y == x5) = false := by simp [hy]
              have HQ := hide (HNX2.out hy)
              clear HY HNX2
              go_wp2
              go_quiet (fail)
              go_wp2
              go_roundw
              case rel => exact ⟨n + 1, by omega, by go_num, hide (grownBy_trans HG2.out (grownBy_draws _ _ _)), HQ⟩
              case measure => simp [intOf]; omega
          · have e : n = j := by omega
            subst e
            have HQ := hide (HNX.out (by rw [HB.out, HNO.out HALL2.out]; rfl))
            clear HFA HNX HNO HYES HB
            go_wp2
            go_roundw
            case rel => exact ⟨n + 1, by omega, by go_num, HG2, HQ⟩
            case measure => simp [intOf]; omega
    · go_wp2
      go_ret
      exact ⟨by rw [allB_true (fun i hi => HALL.out i (by omega))]; rfl, HG.out⟩
#print axioms rtasks_any
end Go.Proofs.YtgaegggiehhcpaaDoor.R6

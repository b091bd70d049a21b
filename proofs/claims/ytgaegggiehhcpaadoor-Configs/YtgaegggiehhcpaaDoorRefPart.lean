/- The contract of the document's own partTasks, proved over the translation: it answers as the program's tasksMay. -/
import Derived.Test.YtgaegggiehhcpaaDoorRefTasks
namespace Go.Proofs.YtgaegggiehhcpaaDoor.R6
open Go.RowKit
attribute [local go_sem] alloc_drewN setCell_drewN

def lowB (l : Int) (ts : List TaskV) (i : Nat) : Bool := !(decide (l = 0) && !decide ((taskAt ts i).chigh = (taskAt ts i).clow))
theorem allB_and (n : Nat) (f g : Nat → Bool) : allB n (fun i => f i && g i) = (allB n f && allB n g) := by
  unfold allB
  induction List.range n with
  | nil => rfl
  | cons x xs ih => simp only [List.all_cons, ih]; cases f x <;> cases g x <;> cases xs.all f <;> cases xs.all g <;> rfl
theorem tasksB_eq (p : PartV) : tasksB p = (allB p.tasks.length (lowB p.level p.tasks) && (decide (p.tasks.length ≤ 6) && rtasksB p.tasks)) := by
  have e : (fun i => taskOK p.level p.tasks i) = fun i => lowB p.level p.tasks i && rtaskB p.tasks i := by
    funext i
    unfold taskOK lowB rtaskB
    cases taskMay (taskAt p.tasks i) <;> cases anyPrio (p.tasks.take i) (taskAt p.tasks i).prio <;> simp
  unfold tasksB rtasksB
  rw [show allB p.tasks.length (taskOK p.level p.tasks) = allB p.tasks.length (fun i => taskOK p.level p.tasks i) from rfl, e, allB_and]
  cases decide (p.tasks.length ≤ 6) <;> cases allB p.tasks.length (lowB p.level p.tasks) <;> rfl

set_option maxRecDepth 100000 in
set_option maxHeartbeats 2000000 in
theorem rpart_any {lo : Nat} (q : PartM) (p : PartV) (w : World) (hq : PartIs lo w q p) :
    Calls Tryd.prog 37 #[.agg #[.int .i64 q.level, .slice q.ta q.tn q.tc, .slice q.ca q.cn q.cc]] w fun e w' => e = .returned (.bool (tasksB p)) ∧ w.grownBy w' none := by
  obtain ⟨l, ta, tn, tc, ca, cn, cc⟩ := q
  obtain ⟨l', ts, is⟩ := p
  obtain ⟨rfl, htk, -⟩ := hq
  unfold PartM.tasks at htk
  dsimp only at htk ⊢
  have HE := hide (tasksB_eq ⟨l, ts, is⟩)
  dsimp only at HE
  have HV := hide (fun W => htk.grown (W := W))
  have CT := hide (fun W (hg : w.grownBy W none) => rtasks_any _ ts W (htk.grown hg))
  obtain ⟨hl, a2, c2, e2, -⟩ := htk
  simp only [Value.slice.injEq] at e2
  obtain ⟨rfl, rfl, rfl⟩ := e2
  generalize tasksB ⟨l, ts, is⟩ = tb at *
  generalize rtasksB ts = rt at *
  generalize hN : ts.length = N at *
  have HN := hide hN
  clear hN
  have HG0 := hide (World.grownBy_alloc w (.cells #[.int .i64 l, .slice ta N tc, .slice ca cn cc] 50) none)
  have KEEP : Hid (∀ W, (w.alloc (.cells #[.int .i64 l, .slice ta N tc, .slice ca cn cc] 50)).grownBy W none → W.cell? ⟨w.heap.size, 0, none⟩ = some (.int .i64 l) ∧ W.cell? ⟨w.heap.size, 1, none⟩ = some (.slice ta N tc)) := by
    intro W hW
    have b := fun k => World.cell?_of_block (a := ⟨w.heap.size, k, none⟩) (hW.block w.heap.size (by simp) (by simp))
    exact ⟨(b 0).trans (by simp), (b 1).trans (by simp)⟩
  go_enter Tryd.func37, Tryd.ntmps37
  go_wp2
  go_loopw [3] (fun s W => ∃ (j : Nat), j ≤ N ∧ s = .int .i64 j ∧ Hid ((w.alloc (.cells #[.int .i64 l, .slice ta N tc, .slice ca cn cc] 50)).grownBy W none) ∧ Hid (∀ i, i < j → lowB l ts i = true)) (fun s _ => N - (intOf s).toNat)
  case atStart => exact ⟨0, by omega, rfl, grownBy_refl _ _, fun i hi => absurd hi (Nat.not_lt_zero _)⟩
  case round =>
    obtain ⟨j, hj, rfl, HG, HALL⟩ := hrel
    obtain ⟨k0, k1⟩ := KEEP.out wr HG.out
    by_cases hlt : j < N
    · have HVW := hide (HV.out wr (grownBy_trans HG0.out HG.out))
      obtain ⟨g, o, rfl⟩ := row_addr HVW.out (by omega)
      have hq := taskAt_mem' (ws := ts) (i := j) (by rw [HN.out]; exact hlt)
      have c3 : wr.cell? ⟨g, o + j * 6 + 3, none⟩ = some (.int .i64 (taskAt ts j).clow) := row_cell (S := shT) HVW.out hq (k := 3) rfl
      have c4 : wr.cell? ⟨g, o + j * 6 + 4, none⟩ = some (.int .i64 (taskAt ts j).chigh) := row_cell (S := shT) HVW.out hq (k := 4) rfl
      have HB : Hid (lowB l ts j = !(decide (l = 0) && !decide ((taskAt ts j).chigh = (taskAt ts j).clow))) := rfl
      have HNX : Hid (lowB l ts j = true → ∀ i, i < j + 1 → lowB l ts i = true) := fun h i hi => by
        rcases (by omega : i < j ∨ i = j) with h' | rfl
        · exact HALL.out i h'
        · exact h
      have HFA : Hid (lowB l ts j = false → tb = false) := fun h => by rw [HE.out, allB_false hlt h]; rfl
      clear hq HVW
      generalize lowB l ts j = lb at *
      generalize (taskAt ts j).clow = x3 at *
      generalize (taskAt ts j).chigh = x4 at *
      by_cases hl0 : l = 0
      · subst hl0
        by_cases hx : x4 = x3
        · have HQ := hide (HNX.out (by rw [HB.out]; simp [hx]))
          subst hx
          clear HFA HNX HB
          go_wp2
          go_quiet (fail)
          go_wp2
          go_roundw
          case rel => exact ⟨j + 1, by omega, by go_num, hide (grownBy_trans HG.out (grownBy_draws _ _ _)), HQ⟩
          case measure => simp [intOf]; omega
        · have HF := hide (HFA.out (by rw [HB.out]; simp [hx]))
          have hx2 : (x4 != x3) = true := by simp [hx]
          clear HFA HNX HB
          go_wp2
          go_quiet (fail)
          go_wp2
          go_ret
          exact ⟨by rw [HF.out]; rfl, grownBy_trans HG0.out (grownBy_trans HG.out (grownBy_draws _ _ _))⟩
      · have hl2 : (l == 0) = false := by simp [hl0]
        have HQ := hide (HNX.out (by rw [HB.out]; simp [hl0]))
        clear HFA HNX HB
        go_wp2
        go_quiet (fail)
        go_wp2
        go_roundw
        case rel => exact ⟨j + 1, by omega, by go_num, hide (grownBy_trans HG.out (grownBy_draws _ _ _)), HQ⟩
        case measure => simp [intOf]; omega
    · have HE2 := hide (show tb = (decide (N ≤ 6) && rt) by rw [HE.out, allB_true (fun i hi => HALL.out i (by omega))]; rfl)
      have CTW := hide (CT.out wr (grownBy_trans HG0.out HG.out))
      by_cases h6 : N ≤ 6
      · have HE3 := hide (show tb = rt by rw [HE2.out, decide_eq_true h6]; rfl)
        clear HE HE2
        go_wp2_with (go_at_call 71; refine CTW.out.mono ?_; rintro e w1 ⟨rfl, hg⟩; have G1 := hide hg; clear hg)
        go_ret
        exact ⟨by rw [HE3.out]; rfl, grownBy_trans HG0.out (grownBy_trans HG.out G1.out)⟩
      · have HE3 := hide (show tb = false by rw [HE2.out, decide_eq_false h6]; rfl)
        clear HE HE2
        go_wp2_with (go_at_call 71; refine CTW.out.mono ?_; rintro e w1 ⟨rfl, hg⟩; have G1 := hide hg; clear hg)
        go_ret
        exact ⟨by rw [HE3.out]; rfl, grownBy_trans HG0.out HG.out⟩
#print axioms rpart_any
end Go.Proofs.YtgaegggiehhcpaaDoor.R6

/- The walk of the statement DemandAlone: of the one that goes ahead of all it is its own budget; proved over the translation. -/
import Derived.Test.YtadolobbidpejaaLForms
namespace Go.Proofs.Ytadolobbidpejaa
open Go.RowKit
attribute [local go_sem] alloc_drewN setCell_drewN

theorem and4095 (z : Int) : ∃ c : Int, 0 ≤ c ∧ c ≤ 4095 ∧ bits .and .i64 z 4095 = c := ⟨z % 4096, by omega, by omega, and_low z 12 (by decide) 4095 (by decide)⟩
def firstB (ts : List TaskV) (P : Int) (j : Nat) : Bool := allB j (fun m => decide (P ≤ (taskAt ts m).prio))
theorem first_succ (ts : List TaskV) (P : Int) (j : Nat) : firstB ts P (j + 1) = (firstB ts P j && decide (P ≤ (taskAt ts j).prio)) := by
  unfold firstB allB
  rw [List.range_succ, List.all_append]
  simp
theorem asked_none {ts : List TaskV} {P len : Int} (h : firstB ts P ts.length = true) : ∀ j : Nat, j ≤ ts.length → askedN (ts.take j) P len = 0 := by
  intro j
  induction j with
  | zero => intro _; rfl
  | succ j ih =>
    intro hj
    rw [asked_take (by omega), ih (by omega)]
    have := allB_of h j (by omega)
    rw [decide_eq_true_eq] at this
    unfold addAhead
    rw [if_neg (by omega)]

set_option maxRecDepth 100000 in
set_option maxHeartbeats 4000000 in
theorem alone_any {lo : Nat} (v : Value) (ts : List TaskV) (len : Int) (w : World) (hv : RowAt shT lo w v ts) (hf : Fits ts) (hbig : ts.length ≤ 4398046511104) :
    Calls Try.prog 6 #[v, .int .i64 len] w fun e w' => e = .returned (.bool true) ∧ w.grownBy w' none := by
  have NUM := hide num_any
  obtain ⟨k, hk0, hk1, hk⟩ := and4095 len
  have CB := hide (fun (i : Nat) W (hg : w.grownBy W none) => bound_any v ts i k W (hv.grown hg) hf hbig)
  have HANS : Hid (∀ i : Nat, i < ts.length → (boundE ts i k = 800 ∧ boundV ts i k = 0) ∨ (boundE ts i k = 0 ∧ ∃ A, boundV ts i k = (taskAt ts i).chigh + A ∧ 0 ≤ A ∧ (firstB ts (taskAt ts i).prio ts.length = true → A = 0))) := by
    intro i hi
    rcases okB_cases ts i k with ⟨hok, hm, -⟩ | ⟨hok, -⟩
    · have B := bound_yes hok
      rw [Int.toNat_natCast] at B
      refine .inr ⟨B.2, _, B.1, ?_, fun h => ?_⟩
      · have := (asked_le hm (taskAt ts i).prio hk0 (by omega) ts.length (Nat.le_refl _)).1
        rw [List.take_length] at this
        exact this
      · have := asked_none (len := k) h ts.length (Nat.le_refl _)
        rw [List.take_length] at this
        exact this
    · exact .inl ⟨(bound_no hok).2, (bound_no hok).1⟩
  have HV := hide (fun W => hv.grown (W := W))
  obtain ⟨-, ta, tc, rfl, -⟩ := hv
  clear hf
  generalize hN : ts.length = N at *
  have HN := hide hN
  clear hN
  go_enter Try.func6, Try.ntmps6
  go_wp2_with (first | fail)
  refine (awake_any w).mono ?_; rintro e w0 ⟨rfl, hg⟩
  have G0 := hide hg
  clear hg
  go_wp2
  go_loopw [6] (fun s W => ∃ (i : Nat), i ≤ N ∧ s = .int .i64 i ∧ Hid (w.grownBy W none)) (fun s _ => N - (intOf s).toNat)
  case atStart => exact ⟨0, by omega, rfl, G0⟩
  case round =>
    obtain ⟨i, hi, rfl, HG⟩ := hrel
    by_cases hlt : i < N
    · obtain ⟨g, o, rfl⟩ := row_addr (HV.out wr HG.out) (by omega)
      have hq := taskAt_mem' (ws := ts) (i := i) (by rw [HN.out]; exact hlt)
      have HC4 : Hid (∀ W, w.grownBy W none → W.cell? ⟨g, o + i * 6 + 4, none⟩ = some (.int .i64 (taskAt ts i).chigh)) := fun W hg => row_cell (S := shT) (HV.out W hg) hq (k := 4) rfl
      have HC5 : Hid (∀ W, w.grownBy W none → W.cell? ⟨g, o + i * 6 + 5, none⟩ = some (.int .i64 (taskAt ts i).prio)) := fun W hg => row_cell (S := shT) (HV.out W hg) hq (k := 5) rfl
      have HA := hide (HANS.out i hlt)
      have CBI := hide (CB.out i)
      clear hq
      generalize boundV ts (i : Int) k = bv at *
      generalize boundE ts (i : Int) k = be at *
      generalize (taskAt ts i).chigh = y4 at *
      generalize (taskAt ts i).prio = P at *
      go_wp2
      go_loopw [7, 8] (fun f s W => ∃ (j : Nat), j ≤ N ∧ s = .int .i64 j ∧ f = .bool (firstB ts P j) ∧ Hid (w.grownBy W none)) (fun _ s _ => N - (intOf s).toNat)
      case atStart => exact ⟨0, by omega, rfl, by rfl, HG⟩
      case round =>
        obtain ⟨j, hj, rfl, rfl, HG2⟩ := hrel
        by_cases hlt2 : j < N
        · have hq := taskAt_mem' (ws := ts) (i := j) (by rw [HN.out]; exact hlt2)
          have c5 : Hid (∀ W, w.grownBy W none → W.cell? ⟨g, o + j * 6 + 5, none⟩ = some (.int .i64 (taskAt ts j).prio)) := fun W hg => row_cell (S := shT) (HV.out W hg) hq (k := 5) rfl
          have HS := hide (first_succ ts P j)
          clear hq
          generalize firstB ts P j = fb at *
          generalize (taskAt ts j).prio = x5 at *
          obtain ⟨U, hU, F, HF, HR⟩ := class_of wr
          have f5 := fun u => c5.out _ (grownBy_trans HG2.out (HF.out u))
          have k5 := fun u => HC5.out _ (grownBy_trans HG2.out (HF.out u))
          clear c5
          cases fb with
          | false =>
            go_wp2
            refine wp_region_quiet_in F (by kernel_rfl) (by kernel_rfl) (HR.out _ (drew_grown _)) ?_
            repeat (go_big_quiet_step (fail))
            refine wpQuiet_nil ?_
            intro _ hw1
            obtain ⟨uq, hw2⟩ := hw1
            subst hw2
            clear f5 k5
            go_wp2
            go_roundw
            case rel => exact ⟨j + 1, by omega, by go_num, by rw [HS.out]; rfl, hide (grownBy_trans HG2.out (HF.out uq))⟩
            case measure => simp [intOf]; omega
          | true =>
            go_wp2
            refine wp_region_quiet_in F (by kernel_rfl) (by kernel_rfl) (HR.out _ (drew_grown _)) ?_
            repeat (go_big_quiet_step (fail))
            refine wpQuiet_nil ?_
            intro _ hw1
            obtain ⟨uq, hw2⟩ := hw1
            subst hw2
            clear f5 k5
            go_wp2
            go_roundw
            case rel => exact ⟨j + 1, by omega, by go_num, by rw [HS.out]; rfl, hide (grownBy_trans HG2.out (HF.out uq))⟩
            case measure => simp [intOf]; omega
        · have e : j = N := by omega
          subst e
          have d4 := hide (fun W hg => HC4.out W hg)
          generalize hfb : firstB ts P j = fb at *
          have HFB := hide hfb
          clear hfb
          rcases HA.out with ⟨hb1, hb2⟩ | ⟨hb1, A, hb2, hA0, hA1⟩
          · subst hb1
            subst hb2
            clear HA
            go_wp2_with (first | (go_at_call 9; refine (CBI.out _ HG2.out).mono ?_; rintro e w2 ⟨rfl, hg⟩; have G2 := hide (grownBy_trans HG2.out hg); clear hg) | (go_at_call 11; refine (NUM.out _ _).mono ?_; rintro e w' ⟨rfl, rfl⟩))
            go_ret
            exact ⟨rfl, G2.out⟩
          · subst hb1
            subst hb2
            clear HA
            cases fb with
            | true =>
              have hz := hA1 rfl
              subst hz
              rw [Int.add_zero] at CBI
              clear hA1 hA0 d4
              go_wp2_with (first | (go_at_call 9; refine (CBI.out _ HG2.out).mono ?_; rintro e w2 ⟨rfl, hg⟩; have G2 := hide (grownBy_trans HG2.out hg); clear hg; have q4 := HC4.out w2 G2.out) | (go_at_call 11; refine (NUM.out _ _).mono ?_; rintro e w' ⟨rfl, rfl⟩))
              clear q4
              go_roundw
              case rel => exact ⟨i + 1, by omega, by go_num, G2⟩
              case measure => simp [intOf]; omega
            | false =>
              have hl : decide (y4 + A < y4) = false := decide_eq_false (by omega)
              clear hA1 d4
              generalize hB : y4 + A = B at *
              have HB2 := hide hB
              clear hB hA0
              go_wp2_with (first | (go_at_call 9; refine (CBI.out _ HG2.out).mono ?_; rintro e w2 ⟨rfl, hg⟩; have G2 := hide (grownBy_trans HG2.out hg); clear hg; have q4 := HC4.out w2 G2.out) | (go_at_call 11; refine (NUM.out _ _).mono ?_; rintro e w' ⟨rfl, rfl⟩))
              clear q4 hl
              go_roundw
              case rel => exact ⟨i + 1, by omega, by go_num, G2⟩
              case measure => simp [intOf]; omega
    · go_wp2
      go_ret
      exact ⟨rfl, HG.out⟩
#print axioms alone_any
end Go.Proofs.Ytadolobbidpejaa

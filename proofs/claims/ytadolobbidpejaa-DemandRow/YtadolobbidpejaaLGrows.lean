/- The walk of the statement DemandGrows: of a longer stretch it is not less; proved over the translation. -/
import Derived.Test.YtadolobbidpejaaLForms
namespace Go.Proofs.Ytadolobbidpejaa
open Go.RowKit
attribute [local go_sem] alloc_drewN setCell_drewN

theorem and1023 (z : Int) : ∃ c : Int, 0 ≤ c ∧ c ≤ 1023 ∧ bits .and .i64 z 1023 = c := ⟨z % 1024, by omega, by omega, and_low z 10 (by decide) 1023 (by decide)⟩
theorem jobs_zero {p : Int} (hp : 1 ≤ p) : jobsN p 0 = 0 := by
  unfold jobsN
  exact Int.ediv_eq_zero_of_lt (by omega) (by omega)
theorem jobs_succ {p k : Int} (hp : 1 ≤ p) : jobsN p (k + 1) = jobsN p k + (if k % p = 0 then 1 else 0) := by
  unfold jobsN
  have h1 : (k + 1 + p - 1) / p = k / p + 1 := by
    rw [show k + 1 + p - 1 = k + 1 * p by omega, Int.add_mul_ediv_right _ _ (by omega)]
  have e : k + p - 1 = (k % p + p - 1) + (k / p) * p := by
    have := Int.emod_add_mul_ediv k p
    rw [Int.mul_comm] at this
    omega
  have h2 : (k + p - 1) / p = (k % p + p - 1) / p + k / p := by
    rw [e, Int.add_mul_ediv_right _ _ (by omega)]
  have r0 := Int.emod_nonneg k (show p ≠ 0 by omega)
  have r1 := Int.emod_lt_of_pos k (show 0 < p by omega)
  rw [h1, h2]
  split
  · rename_i hr
    have hz : (k % p + p - 1) / p = 0 := Int.ediv_eq_zero_of_lt (by omega) (by omega)
    rw [hz]
    omega
  · have hz : (k % p - 1) / p = 0 := Int.ediv_eq_zero_of_lt (by omega) (by omega)
    rw [show k % p + p - 1 = (k % p - 1) + 1 * p by omega, Int.add_mul_ediv_right _ _ (by omega), hz]
    omega
def addMore (P k s : Int) (t : TaskV) : Int := if t.prio < P then (if k % t.period = 0 then s + t.chigh else s) else s
def moreN (ts : List TaskV) (P k : Int) : Int := ts.foldl (addMore P k) 0
theorem more_take {ts : List TaskV} {j : Nat} (hj : j < ts.length) (P k : Int) : moreN (ts.take (j + 1)) P k = addMore P k (moreN (ts.take j) P k) (taskAt ts j) := by
  unfold moreN
  rw [List.take_add_one, taskAt_mem' hj]
  simp [List.foldl_append]
theorem more_le {ts : List TaskV} (hm : rtasksB ts = true) (P k : Int) : ∀ j : Nat, j ≤ ts.length → 0 ≤ moreN (ts.take j) P k ∧ moreN (ts.take j) P k ≤ 1024 * j := by
  intro j
  induction j with
  | zero => intro _; unfold moreN; simp
  | succ j ih =>
    intro hj
    obtain ⟨h1, h2⟩ := ih (by omega)
    rw [more_take (by omega)]
    have hp := may_parts (may_of hm (i := j) (by omega))
    unfold addMore
    split
    · split <;> omega
    · omega
theorem asked_zero {ts : List TaskV} (hm : rtasksB ts = true) (P : Int) : ∀ j : Nat, j ≤ ts.length → askedN (ts.take j) P 0 = 0 := by
  intro j
  induction j with
  | zero => intro _; rfl
  | succ j ih =>
    intro hj
    rw [asked_take (by omega), ih (by omega)]
    have hp := may_parts (may_of hm (i := j) (by omega))
    unfold addAhead
    rw [jobs_zero hp.1, Int.mul_zero]
    simp
theorem asked_succ {ts : List TaskV} (hm : rtasksB ts = true) (P k : Int) : ∀ j : Nat, j ≤ ts.length → askedN (ts.take j) P (k + 1) = askedN (ts.take j) P k + moreN (ts.take j) P k := by
  intro j
  induction j with
  | zero => intro _; rfl
  | succ j ih =>
    intro hj
    rw [asked_take (by omega), asked_take (by omega), more_take (by omega), ih (by omega)]
    have hp := may_parts (may_of hm (i := j) (by omega))
    unfold addAhead addMore
    rw [jobs_succ hp.1]
    split
    · split
      · rw [Int.mul_add, Int.mul_one]; omega
      · rw [Int.add_zero]; omega
    · rfl
theorem okB_len {ts : List TaskV} {i a b : Int} (ha : 0 ≤ a ∧ a ≤ 4096) (hb : 0 ≤ b ∧ b ≤ 4096) : okB ts i a = okB ts i b := by
  unfold okB
  have h1 : decide (a < 0) = false := decide_eq_false (by omega)
  have h2 : decide (4096 < a) = false := decide_eq_false (by omega)
  have h3 : decide (b < 0) = false := decide_eq_false (by omega)
  have h4 : decide (4096 < b) = false := decide_eq_false (by omega)
  rw [h1, h2, h3, h4]

set_option maxRecDepth 100000 in
set_option maxHeartbeats 4000000 in
theorem grows_any {lo : Nat} (v : Value) (ts : List TaskV) (i len : Int) (w : World) (hv : RowAt shT lo w v ts) (hf : Fits ts) (hbig : ts.length ≤ 4398046511104) :
    Calls Try.prog 4 #[v, .int .i64 i, .int .i64 len] w fun e w' => e = .returned (.bool true) ∧ w.grownBy w' none := by
  have NUM := hide num_any
  obtain ⟨k, hk0, hk1, hk⟩ := and1023 len
  have CB := hide (fun L W (hg : w.grownBy W none) => bound_any v ts i L W (hv.grown hg) hf hbig)
  rcases okB_cases ts i k with ⟨hok, hm, h1, h2, -, -⟩ | ⟨hok, -⟩
  · have B1 := bound_yes hok
    have B2 := bound_yes ((okB_len (ts := ts) (i := i) (a := k + 1) (b := k) (by omega) (by omega)).trans hok)
    have B3 := bound_yes ((okB_len (ts := ts) (i := i) (a := 0) (b := k) (by omega) (by omega)).trans hok)
    obtain ⟨n, rfl⟩ := Int.eq_ofNat_of_zero_le h1
    rw [Int.toNat_natCast] at B1 B2 B3
    have hn : n < ts.length := by omega
    have z0 := asked_zero hm (taskAt ts n).prio ts.length (Nat.le_refl _)
    have z1 := asked_succ hm (taskAt ts n).prio k ts.length (Nat.le_refl _)
    have z2 := asked_le hm (taskAt ts n).prio hk0 (by omega) ts.length (Nat.le_refl _)
    have z3 := more_le hm (taskAt ts n).prio k ts.length (Nat.le_refl _)
    rw [List.take_length] at z0 z1 z2 z3
    rw [z1] at B2
    rw [z0, Int.add_zero] at B3
    have CB1 := hide (CB.out k)
    have CB2 := hide (CB.out (k + 1))
    have CB3 := hide (CB.out 0)
    rw [B1.1, B1.2] at CB1
    rw [B2.1, B2.2] at CB2
    rw [B3.1, B3.2] at CB3
    clear CB B1 B2 B3 hok z0 z1
    have HV := hide (fun W => hv.grown (W := W))
    have HROW := hide hv
    obtain ⟨-, ta, tc, rfl, -⟩ := hv
    obtain ⟨g, o, rfl⟩ := row_addr HROW.out (by omega)
    have hq := taskAt_mem' (ws := ts) (i := n) hn
    have HC4 : Hid (∀ W, w.grownBy W none → W.cell? ⟨g, o + n * 6 + 4, none⟩ = some (.int .i64 (taskAt ts n).chigh)) := fun W hg => row_cell (S := shT) (HV.out W hg) hq (k := 4) rfl
    have HC5 : Hid (∀ W, w.grownBy W none → W.cell? ⟨g, o + n * 6 + 5, none⟩ = some (.int .i64 (taskAt ts n).prio)) := fun W hg => row_cell (S := shT) (HV.out W hg) hq (k := 5) rfl
    have pn := may_parts (may_of hm hn)
    have HLE := hide (more_le hm (taskAt ts n).prio k)
    have HSTEP := hide (fun j (hj : j < ts.length) => more_take hj (taskAt ts n).prio k)
    have HP := hide (fun j (hj : j < ts.length) => may_parts (may_of hm hj))
    have HEND := hide (show moreN ts (taskAt ts n).prio k = moreN (ts.take ts.length) (taskAt ts n).prio k by rw [List.take_length])
    obtain ⟨-, pn2, pn3, pn4, -, -⟩ := pn
    obtain ⟨z21, z22⟩ := z2
    obtain ⟨z31, z32⟩ := z3
    clear hm hq HROW hf
    generalize askedN ts (taskAt ts n).prio k = A at *
    generalize hM : moreN ts (taskAt ts n).prio k = M at *
    clear hM
    generalize (taskAt ts n).chigh = y4 at *
    generalize (taskAt ts n).prio = P at *
    generalize (taskAt ts n).period = y1 at *
    generalize hN : ts.length = N at *
    have HN := hide hN
    clear hN h1 h2
    go_enter Try.func4, Try.ntmps4
    go_wp2_with (first | fail)
    refine (awake_any w).mono ?_; rintro e w0 ⟨rfl, hg⟩
    have G0 := hide hg
    clear hg
    go_wp2_with (first | fail)
    refine (CB1.out w0 G0.out).mono ?_; rintro e w1 ⟨rfl, hg⟩
    have G1 := hide (grownBy_trans G0.out hg)
    clear hg CB1
    go_wp2_with (first | fail)
    refine (CB2.out w1 G1.out).mono ?_; rintro e w2 ⟨rfl, hg⟩
    have G2 := hide (grownBy_trans G1.out hg)
    clear hg CB2
    go_wp2_with (first | fail)
    refine (CB3.out w2 G2.out).mono ?_; rintro e w3 ⟨rfl, hg⟩
    have G3 := hide (grownBy_trans G2.out hg)
    clear hg CB3
    have nlt : decide (((n : Nat) : Int) < 0) = false := decide_eq_false (by omega)
    go_wp2_with (go_at_call 11; refine (NUM.out _ _).mono ?_; rintro e w' ⟨rfl, rfl⟩)
    go_loopw [14, 15] (fun s i W => ∃ (j : Nat), j ≤ N ∧ i = .int .i64 j ∧ s = .int .i64 (moreN (ts.take j) P k) ∧ Hid (w.grownBy W none)) (fun _ i _ => N - (intOf i).toNat)
    case atStart => exact ⟨0, by omega, rfl, by rfl, G3⟩
    case round =>
      obtain ⟨j, hj, rfl, rfl, HG⟩ := hrel
      by_cases hlt : j < N
      · have hq := taskAt_mem' (ws := ts) (i := j) (by rw [HN.out]; exact hlt)
        have c1 : Hid (∀ W, w.grownBy W none → W.cell? ⟨g, o + j * 6 + 1, none⟩ = some (.int .i64 (taskAt ts j).period)) := fun W hg => row_cell (S := shT) (HV.out W hg) hq (k := 1) rfl
        have c4 : Hid (∀ W, w.grownBy W none → W.cell? ⟨g, o + j * 6 + 4, none⟩ = some (.int .i64 (taskAt ts j).chigh)) := fun W hg => row_cell (S := shT) (HV.out W hg) hq (k := 4) rfl
        have c5 : Hid (∀ W, w.grownBy W none → W.cell? ⟨g, o + j * 6 + 5, none⟩ = some (.int .i64 (taskAt ts j).prio)) := fun W hg => row_cell (S := shT) (HV.out W hg) hq (k := 5) rfl
        have s1 := HLE.out j (by omega)
        have HS := hide (HSTEP.out j (by omega))
        have hp := HP.out j (by omega)
        have hmod : Int.tmod k (taskAt ts j).period = k % (taskAt ts j).period := Int.tmod_eq_emod_of_nonneg hk0
        have r0 := Int.emod_nonneg k (show (taskAt ts j).period ≠ 0 by omega)
        have r1 := Int.emod_lt_of_pos k (show 0 < (taskAt ts j).period by omega)
        unfold addMore at HS
        obtain ⟨s1, s2⟩ := s1
        obtain ⟨p1, p2, p3, p4, p5, p6⟩ := hp
        clear hq
        generalize moreN (ts.take j) P k = S at *
        generalize k % (taskAt ts j).period = r at *
        generalize (taskAt ts j).period = x1 at *
        generalize (taskAt ts j).chigh = x4 at *
        generalize (taskAt ts j).prio = x5 at *
        obtain ⟨U, hU, F, HF, HR⟩ := class_of wr
        have f1 := fun u => c1.out _ (grownBy_trans HG.out (HF.out u))
        have f4 := fun u => c4.out _ (grownBy_trans HG.out (HF.out u))
        have f5 := fun u => c5.out _ (grownBy_trans HG.out (HF.out u))
        have k5 := fun u => HC5.out _ (grownBy_trans HG.out (HF.out u))
        clear c1 c4 c5
        by_cases hx : x5 < P
        · rw [if_pos hx] at HS
          have hd : decide (x5 < P) = true := decide_eq_true hx
          by_cases hr : r = 0
          · rw [if_pos hr] at HS
            subst hr
            go_wp2
            refine wp_region_quiet_in F (by kernel_rfl) (by kernel_rfl) (HR.out _ (drew_grown _)) ?_
            repeat (go_big_quiet_step (fail))
            refine wpQuiet_nil ?_
            intro _ hw1
            obtain ⟨uq, hw2⟩ := hw1
            subst hw2
            have q4 := f4 uq
            go_wp2
            go_roundw
            case rel => exact ⟨j + 1, by omega, by go_num, by rw [HS.out], hide (grownBy_trans HG.out (HF.out uq))⟩
            case measure => simp [intOf]; omega
          · rw [if_neg hr] at HS
            have hr2 : (r == 0) = false := by simp [hr]
            have hr3 : decide (r = 0) = false := decide_eq_false hr
            go_wp2
            refine wp_region_quiet_in F (by kernel_rfl) (by kernel_rfl) (HR.out _ (drew_grown _)) ?_
            repeat (go_big_quiet_step (fail))
            refine wpQuiet_nil ?_
            intro _ hw1
            obtain ⟨uq, hw2⟩ := hw1
            subst hw2
            have q4 := f4 uq
            go_wp2
            go_roundw
            case rel => exact ⟨j + 1, by omega, by go_num, by rw [HS.out], hide (grownBy_trans HG.out (HF.out uq))⟩
            case measure => simp [intOf]; omega
        · rw [if_neg hx] at HS
          have hd : decide (x5 < P) = false := decide_eq_false hx
          clear hmod r0 r1 hx p1 p2 p3 p4 p5 p6
          go_wp2
          refine wp_region_quiet_in F (by kernel_rfl) (by kernel_rfl) (HR.out _ (drew_grown _)) ?_
          repeat (go_big_quiet_step (fail))
          refine wpQuiet_nil ?_
          intro _ hw1
          obtain ⟨uq, hw2⟩ := hw1
          subst hw2
          clear f1 f4 f5 k5
          go_wp2
          go_roundw
          case rel => exact ⟨j + 1, by omega, by go_num, by rw [HS.out], hide (grownBy_trans HG.out (HF.out uq))⟩
          case measure => simp [intOf]; omega
      · have e : j = N := by omega
        subst e
        rw [← HEND.out]
        have d4 := HC4.out wr HG.out
        go_wp2_with (go_at_call 11; refine (NUM.out _ _).mono ?_; rintro e w' ⟨rfl, rfl⟩)
        go_ret
        exact ⟨by simp [Int.add_assoc], HG.out⟩
  · have B1 := bound_no hok
    have B2 := bound_no ((okB_len (ts := ts) (i := i) (a := k + 1) (b := k) (by omega) (by omega)).trans hok)
    have CB1 := hide (CB.out k)
    have CB2 := hide (CB.out (k + 1))
    have CB3 := hide (CB.out 0)
    rw [B1.1, B1.2] at CB1
    rw [B2.1, B2.2] at CB2
    clear CB B1 B2 hok
    obtain ⟨-, ta, tc, rfl, -⟩ := hv
    generalize boundV ts i 0 = z3 at *
    generalize boundE ts i 0 = e3 at *
    generalize ts.length = N at *
    go_enter Try.func4, Try.ntmps4
    go_wp2_with (first | fail)
    refine (awake_any w).mono ?_; rintro e w0 ⟨rfl, hg⟩
    have G0 := hide hg
    clear hg
    go_wp2_with (first | fail)
    refine (CB1.out w0 G0.out).mono ?_; rintro e w1 ⟨rfl, hg⟩
    have G1 := hide (grownBy_trans G0.out hg)
    clear hg CB1
    go_wp2_with (first | fail)
    refine (CB2.out w1 G1.out).mono ?_; rintro e w2 ⟨rfl, hg⟩
    have G2 := hide (grownBy_trans G1.out hg)
    clear hg CB2
    go_wp2_with (first | fail)
    refine (CB3.out w2 G2.out).mono ?_; rintro e w3 ⟨rfl, hg⟩
    have G3 := hide (grownBy_trans G2.out hg)
    clear hg CB3
    go_wp2_with (go_at_call 11; refine (NUM.out _ _).mono ?_; rintro e w' ⟨rfl, rfl⟩)
    go_ret
    exact ⟨rfl, G3.out⟩
#print axioms grows_any
end Go.Proofs.Ytadolobbidpejaa

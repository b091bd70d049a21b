/- The contract of the document's own Bound, proved over the translation: it answers as the program's. -/
import Derived.Test.YtehnklpjkcofcaaDoorBound
import Derived.Test.YtehnklpjkcofcaaDoorRefTasks
namespace Go.Proofs.YtehnklpjkcofcaaDoor
open Go.RowKit R6
attribute [local go_sem] alloc_drewN setCell_drewN

set_option maxRecDepth 100000 in
set_option maxHeartbeats 4000000 in
theorem rsum_any {lo : Nat} (v : Value) (ts : List TaskV) (k : Nat) (len : Int) (w : World) (hv : RowAt shT lo w v ts) (hm : rtasksB ts = true) (hk : k < ts.length) (hl : 0 ≤ len) (hl2 : len ≤ 4096) (hbig : ts.length ≤ 4398046511104) :
    Calls Tryd.prog 34 #[v, .int .i64 k, .int .i64 len] w fun e w' => e = .returned (.int .i64 ((taskAt ts k).chigh + askedN ts (taskAt ts k).prio len)) ∧ w.grownBy w' none := by
  have HV := hide (fun W => hv.grown (W := W))
  have HROW := hide hv
  obtain ⟨-, ta, tc, rfl, -⟩ := hv
  obtain ⟨g, o, rfl⟩ := row_addr HROW.out (by omega)
  have hqk := taskAt_mem' (ws := ts) (i := k) hk
  have HC4 : Hid (∀ W, w.grownBy W none → W.cell? ⟨g, o + k * 6 + 4, none⟩ = some (.int .i64 (taskAt ts k).chigh)) := fun W hg => row_cell (S := shT) (HV.out W hg) hqk (k := 4) rfl
  have HC5 : Hid (∀ W, w.grownBy W none → W.cell? ⟨g, o + k * 6 + 5, none⟩ = some (.int .i64 (taskAt ts k).prio)) := fun W hg => row_cell (S := shT) (HV.out W hg) hqk (k := 5) rfl
  have pk := may_parts (may_of hm hk)
  have HLE := hide (asked_le hm (taskAt ts k).prio hl hl2)
  have HSTEP := hide (fun j (hj : j < ts.length) => asked_take hj (taskAt ts k).prio len)
  have HP := hide (fun j (hj : j < ts.length) => may_parts (may_of hm hj))
  have HEND := hide (show askedN ts (taskAt ts k).prio len = askedN (ts.take ts.length) (taskAt ts k).prio len by rw [List.take_length])
  obtain ⟨-, pk2, pk3, pk4, -, -⟩ := pk
  clear hm hqk HROW
  generalize askedN ts (taskAt ts k).prio len = A at *
  generalize (taskAt ts k).chigh = y4 at *
  generalize (taskAt ts k).prio = P at *
  generalize (taskAt ts k).period = y1 at *
  generalize hN : ts.length = N at *
  have HN := hide hN
  clear hN
  have d4 := HC4.out w (grownBy_refl _ _)
  go_enter Tryd.func34, Tryd.ntmps34
  go_wp2
  clear d4
  go_loopw [7, 8] (fun s i W => ∃ (j : Nat), j ≤ N ∧ i = .int .i64 j ∧ s = .int .i64 (y4 + askedN (ts.take j) P len) ∧ Hid (w.grownBy W none)) (fun _ i _ => N - (intOf i).toNat)
  case atStart => exact ⟨0, by omega, rfl, by rw [show askedN (ts.take 0) P len = 0 from rfl, Int.add_zero], grownBy_refl _ _⟩
  case round =>
    obtain ⟨j, hj, rfl, rfl, HG⟩ := hrel
    by_cases hlt : j < N
    · have hq := taskAt_mem' (ws := ts) (i := j) (by rw [HN.out]; exact hlt)
      have c1 : Hid (∀ W, w.grownBy W none → W.cell? ⟨g, o + j * 6 + 1, none⟩ = some (.int .i64 (taskAt ts j).period)) := fun W hg => row_cell (S := shT) (HV.out W hg) hq (k := 1) rfl
      have c4 : Hid (∀ W, w.grownBy W none → W.cell? ⟨g, o + j * 6 + 4, none⟩ = some (.int .i64 (taskAt ts j).chigh)) := fun W hg => row_cell (S := shT) (HV.out W hg) hq (k := 4) rfl
      have c5 : Hid (∀ W, w.grownBy W none → W.cell? ⟨g, o + j * 6 + 5, none⟩ = some (.int .i64 (taskAt ts j).prio)) := fun W hg => row_cell (S := shT) (HV.out W hg) hq (k := 5) rfl
      have s1 := HLE.out j (by omega)
      have HS := hide (HSTEP.out j (by omega))
      have hp := HP.out j (by omega)
      have hjb := jobs_le (c := (taskAt ts j).chigh) (p := (taskAt ts j).period) (len := len) (by omega) (by omega) (by omega) hl
      have hdiv : Int.tdiv (len + (taskAt ts j).period - 1) (taskAt ts j).period = jobsN (taskAt ts j).period len := Int.tdiv_eq_ediv_of_nonneg (by omega)
      unfold addAhead at HS
      obtain ⟨s1, s2⟩ := s1
      obtain ⟨p1, p2, p3, p4, p5, p6⟩ := hp
      obtain ⟨m0, m1, m2⟩ := hjb
      have m3 := (jobs_le (c := 1) (p := (taskAt ts j).period) (len := len) (by omega) (by omega) (by omega) hl).2.2
      rw [Int.one_mul] at m3
      rw [Int.mul_comm] at m1 m2
      rw [Int.mul_comm] at HS
      clear hq
      generalize askedN (ts.take j) P len = S at *
      generalize jobsN (taskAt ts j).period len = q at *
      generalize (taskAt ts j).period = x1 at *
      generalize (taskAt ts j).chigh = x4 at *
      generalize (taskAt ts j).prio = x5 at *
      generalize hM : q * x4 = M at *
      have HM := hide hM
      clear hM
      obtain ⟨U, hU, F, HF, HR⟩ := class_of wr
      have f1 := fun u => c1.out _ (grownBy_trans HG.out (HF.out u))
      have f4 := fun u => c4.out _ (grownBy_trans HG.out (HF.out u))
      have f5 := fun u => c5.out _ (grownBy_trans HG.out (HF.out u))
      have k5 := fun u => HC5.out _ (grownBy_trans HG.out (HF.out u))
      clear c1 c4 c5
      by_cases hx : x5 < P
      · rw [if_pos hx] at HS
        have hd : decide (x5 < P) = true := decide_eq_true hx
        go_wp2
        refine wp_region_quiet_in F (by kernel_rfl) (by kernel_rfl) (HR.out _ (drew_grown _)) ?_
        repeat (go_big_quiet_step (fail))
        refine wpQuiet_nil ?_
        intro _ hw1
        obtain ⟨uq, hw2⟩ := hw1
        subst hw2
        go_wp2
        refine wp_region_quiet_in F (by kernel_rfl) (by kernel_rfl) (HR.out _ (grownBy_trans (HF.out _) (drew_grown _))) ?_
        repeat (go_big_quiet_step (fail))
        refine wpQuiet_nil ?_
        intro _ hw1
        obtain ⟨ur, hw2⟩ := hw1
        subst hw2
        go_wp2
        go_roundw
        case rel => exact ⟨j + 1, by omega, by go_num, by rw [HS.out, HM.out, wrap64_two (y4 + S) M (by omega) (by omega), Int.add_assoc], hide (grownBy_trans HG.out (HF.out ur))⟩
        case measure => simp [intOf]; omega
      · rw [if_neg hx] at HS
        have hd : decide (x5 < P) = false := decide_eq_false hx
        go_wp2
        refine wp_region_quiet_in F (by kernel_rfl) (by kernel_rfl) (HR.out _ (drew_grown _)) ?_
        repeat (go_big_quiet_step (fail))
        refine wpQuiet_nil ?_
        intro _ hw1
        obtain ⟨uq, hw2⟩ := hw1
        subst hw2
        go_wp2
        go_roundw
        case rel => exact ⟨j + 1, by omega, by go_num, by rw [HS.out], hide (grownBy_trans HG.out (HF.out uq))⟩
        case measure => simp [intOf]; omega
    · have e : j = N := by omega
      subst e
      rw [← HEND.out]
      go_wp2
      go_ret
      exact ⟨rfl, HG.out⟩

set_option maxRecDepth 100000 in
set_option maxHeartbeats 2000000 in
theorem rbound_any {lo : Nat} (v : Value) (ts : List TaskV) (i len : Int) (w : World) (hv : RowAt shT lo w v ts) (hbig : ts.length ≤ 4398046511104) :
    Calls Tryd.prog 18 #[v, .int .i64 i, .int .i64 len] w fun e w' => e = .returned (.tuple #[.int .i64 (boundV ts i len), .int .i64 (boundE ts i len)]) ∧ w.grownBy w' none := by
  rcases okB_cases ts i len with ⟨hok, hm, h1, h2, h3, h4⟩ | ⟨hok, hno⟩
  · rw [(bound_yes hok).1, (bound_yes hok).2]
    have CT := hide (fun W (hg : w.grownBy W none) => rtasks_any v ts W (hv.grown hg))
    rw [hm] at CT
    obtain ⟨k, rfl⟩ := Int.eq_ofNat_of_zero_le h1
    rw [Int.toNat_natCast]
    have CB := hide (fun W (hg : w.grownBy W none) => rsum_any v ts k len W (hv.grown hg) hm (by omega) h3 h4 hbig)
    obtain ⟨-, ta, tc, rfl, -⟩ := hv
    clear hok hm
    generalize (taskAt ts k).chigh + askedN ts (taskAt ts k).prio len = A at *
    generalize ts.length = N at *
    go_enter Tryd.func18, Tryd.ntmps18
    go_wp2_with (first | (go_at_call 33; refine (CT.out _ (grownBy_refl _ _)).mono ?_; rintro e w1 ⟨rfl, hg⟩; have G1 := hide hg; clear hg) | (go_at_call 34; refine (CB.out _ G1.out).mono ?_; rintro e w2 ⟨rfl, hg⟩; have G2 := hide (grownBy_trans G1.out hg); clear hg))
    go_ret2
    exact ⟨rfl, G2.out⟩
  · rw [(bound_no hok).1, (bound_no hok).2]
    have CT := hide (fun W (hg : w.grownBy W none) => rtasks_any v ts W (hv.grown hg))
    obtain ⟨-, ta, tc, rfl, -⟩ := hv
    clear hok
    generalize ts.length = N at *
    generalize rtasksB ts = tm at *
    rcases hno with rfl | ⟨rfl, h1 | ⟨h1, h2 | ⟨h2, h3 | ⟨h3, h4⟩⟩⟩⟩
    ·
      go_enter Tryd.func18, Tryd.ntmps18
      go_wp2_with (go_at_call 33; refine (CT.out _ (grownBy_refl _ _)).mono ?_; rintro e w1 ⟨rfl, hg⟩; have G1 := hide hg; clear hg)
      go_ret2
      exact ⟨rfl, G1.out⟩
    ·
      go_enter Tryd.func18, Tryd.ntmps18
      go_wp2_with (go_at_call 33; refine (CT.out _ (grownBy_refl _ _)).mono ?_; rintro e w1 ⟨rfl, hg⟩; have G1 := hide hg; clear hg)
      go_ret2
      exact ⟨rfl, G1.out⟩
    ·
      go_enter Tryd.func18, Tryd.ntmps18
      go_wp2_with (go_at_call 33; refine (CT.out _ (grownBy_refl _ _)).mono ?_; rintro e w1 ⟨rfl, hg⟩; have G1 := hide hg; clear hg)
      go_ret2
      exact ⟨rfl, G1.out⟩
    ·
      go_enter Tryd.func18, Tryd.ntmps18
      go_wp2_with (go_at_call 33; refine (CT.out _ (grownBy_refl _ _)).mono ?_; rintro e w1 ⟨rfl, hg⟩; have G1 := hide hg; clear hg)
      go_ret2
      exact ⟨rfl, G1.out⟩
    ·
      go_enter Tryd.func18, Tryd.ntmps18
      go_wp2_with (go_at_call 33; refine (CT.out _ (grownBy_refl _ _)).mono ?_; rintro e w1 ⟨rfl, hg⟩; have G1 := hide hg; clear hg)
      go_ret2
      exact ⟨rfl, G1.out⟩
#print axioms rbound_any
end Go.Proofs.YtehnklpjkcofcaaDoor

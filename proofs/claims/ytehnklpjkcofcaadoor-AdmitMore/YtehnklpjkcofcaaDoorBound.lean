/- The contract of package demand's Bound, proved over the translation. -/
import Derived.Test.YtehnklpjkcofcaaDoorDTasks
import Derived.Test.YtehnklpjkcofcaaDoorAsked
namespace Go.Proofs.YtehnklpjkcofcaaDoor
open Go.RowKit R6
attribute [local go_sem] alloc_drewN setCell_drewN

theorem okB_cases (ts : List TaskV) (i len : Int) : (okB ts i len = true ∧ rtasksB ts = true ∧ 0 ≤ i ∧ i < ts.length ∧ 0 ≤ len ∧ len ≤ 4096) ∨
    (okB ts i len = false ∧ (rtasksB ts = false ∨ (rtasksB ts = true ∧ (i < 0 ∨ (0 ≤ i ∧ ((ts.length : Int) ≤ i ∨ (i < ts.length ∧ (len < 0 ∨ (0 ≤ len ∧ 4096 < len))))))))) := by
  cases h : okB ts i len with
  | true => exact .inl ⟨rfl, okB_true.1 h⟩
  | false =>
    refine .inr ⟨rfl, ?_⟩
    cases hm : rtasksB ts with
    | false => exact .inl rfl
    | true =>
      refine .inr ⟨rfl, ?_⟩
      have h2 : ¬ (0 ≤ i ∧ i < ts.length ∧ 0 ≤ len ∧ len ≤ 4096) := fun e => by
        have := okB_true.2 ⟨hm, e⟩
        rw [h] at this
        cases this
      omega
theorem bound_no {ts : List TaskV} {i len : Int} (h : okB ts i len = false) : boundV ts i len = 0 ∧ boundE ts i len = 800 := by
  unfold boundV boundE; rw [h]; exact ⟨rfl, rfl⟩
theorem bound_yes {ts : List TaskV} {i len : Int} (h : okB ts i len = true) : boundV ts i len = (taskAt ts i.toNat).chigh + askedN ts (taskAt ts i.toNat).prio len ∧ boundE ts i len = 0 := by
  unfold boundV boundE; rw [h]; exact ⟨rfl, rfl⟩

set_option maxRecDepth 100000 in
set_option maxHeartbeats 2000000 in
theorem bound_any {lo : Nat} (v : Value) (ts : List TaskV) (i len : Int) (w : World) (hv : RowAt shT lo w v ts) (hf : Fits ts) (hbig : ts.length ≤ 4398046511104) :
    Calls Tryd.prog 43 #[v, .int .i64 i, .int .i64 len] w fun e w' => e = .returned (.tuple #[.int .i64 (boundV ts i len), .int .i64 (boundE ts i len)]) ∧ w.grownBy w' none := by
  rcases okB_cases ts i len with ⟨hok, hm, h1, h2, h3, h4⟩ | ⟨hok, hno⟩
  · rw [(bound_yes hok).1, (bound_yes hok).2]
    have CT := hide (fun W (hg : w.grownBy W none) => dtasks_any v ts W (hv.grown hg) hf)
    rw [hm] at CT
    have HV := hide (fun W => hv.grown (W := W))
    have CA := hide (fun P W (hg : w.grownBy W none) => asked_any v ts P len W (hv.grown hg) hm h3 h4 hbig)
    have HROW := hide hv
    obtain ⟨-, ta, tc, rfl, -⟩ := hv
    obtain ⟨g, o, rfl⟩ := row_addr HROW.out (by omega)
    obtain ⟨k, rfl⟩ := Int.eq_ofNat_of_zero_le h1
    have hp := may_parts (may_of hm (i := k) (by omega))
    have hs := asked_le hm (taskAt ts k).prio h3 h4 ts.length (Nat.le_refl _)
    rw [List.take_length] at hs
    rw [Int.toNat_natCast]
    have hq := taskAt_mem' (ws := ts) (i := k) (by omega)
    have HC4 : Hid (∀ W, w.grownBy W none → W.cell? ⟨g, o + k * 6 + 4, none⟩ = some (.int .i64 (taskAt ts k).chigh)) := fun W hg => row_cell (S := shT) (HV.out W hg) hq (k := 4) rfl
    have HC5 : Hid (∀ W, w.grownBy W none → W.cell? ⟨g, o + k * 6 + 5, none⟩ = some (.int .i64 (taskAt ts k).prio)) := fun W hg => row_cell (S := shT) (HV.out W hg) hq (k := 5) rfl
    have CAK := hide (CA.out (taskAt ts k).prio)
    obtain ⟨s1, s2⟩ := hs
    obtain ⟨-, p2, p3, p4, p5, p6⟩ := hp
    clear hq HROW HV CA hok hm hf
    generalize askedN ts (taskAt ts k).prio len = A at *
    generalize (taskAt ts k).chigh = x4 at *
    generalize (taskAt ts k).prio = x5 at *
    generalize (taskAt ts k).period = x1 at *
    generalize ts.length = N at *
    go_enter Tryd.func43, Tryd.ntmps43
    go_wp2_with (go_at_call 66; refine (CT.out _ (grownBy_refl _ _)).mono ?_; rintro e w1 ⟨rfl, hg⟩; have G1 := hide hg; clear hg)
    obtain ⟨U, hU, F, HF, HR⟩ := class_of w1
    have f4 := fun u => HC4.out _ (grownBy_trans G1.out (HF.out u))
    have f5 := fun u => HC5.out _ (grownBy_trans G1.out (HF.out u))
    refine wp_region_quiet_in F (by kernel_rfl) (by kernel_rfl) (HR.out _ (drew_grown _)) ?_
    repeat (go_big_quiet_step (first | (go_at_call 67; exact calls_in HR (HF.out _) (CAK.out _ (grownBy_trans G1.out (HF.out _))))))
    refine wpQuiet_nil ?_
    intro _ hw1
    obtain ⟨uq, hw2⟩ := hw1
    subst hw2
    go_wp2
    go_ret2
    exact ⟨rfl, grownBy_trans G1.out (HF.out uq)⟩
  · rw [(bound_no hok).1, (bound_no hok).2]
    have CT := hide (fun W (hg : w.grownBy W none) => dtasks_any v ts W (hv.grown hg) hf)
    clear hf
    obtain ⟨-, ta, tc, rfl, -⟩ := hv
    clear hok
    generalize ts.length = N at *
    generalize rtasksB ts = tm at *
    rcases hno with rfl | ⟨rfl, h1 | ⟨h1, h2 | ⟨h2, h3 | ⟨h3, h4⟩⟩⟩⟩
    ·
      go_enter Tryd.func43, Tryd.ntmps43
      go_wp2_with (go_at_call 66; refine (CT.out _ (grownBy_refl _ _)).mono ?_; rintro e w1 ⟨rfl, hg⟩; have G1 := hide hg; clear hg)
      go_ret2
      exact ⟨rfl, G1.out⟩
    ·
      go_enter Tryd.func43, Tryd.ntmps43
      go_wp2_with (go_at_call 66; refine (CT.out _ (grownBy_refl _ _)).mono ?_; rintro e w1 ⟨rfl, hg⟩; have G1 := hide hg; clear hg)
      go_ret2
      exact ⟨rfl, G1.out⟩
    ·
      go_enter Tryd.func43, Tryd.ntmps43
      go_wp2_with (go_at_call 66; refine (CT.out _ (grownBy_refl _ _)).mono ?_; rintro e w1 ⟨rfl, hg⟩; have G1 := hide hg; clear hg)
      go_ret2
      exact ⟨rfl, G1.out⟩
    ·
      go_enter Tryd.func43, Tryd.ntmps43
      go_wp2_with (go_at_call 66; refine (CT.out _ (grownBy_refl _ _)).mono ?_; rintro e w1 ⟨rfl, hg⟩; have G1 := hide hg; clear hg)
      go_ret2
      exact ⟨rfl, G1.out⟩
    ·
      go_enter Tryd.func43, Tryd.ntmps43
      go_wp2_with (go_at_call 66; refine (CT.out _ (grownBy_refl _ _)).mono ?_; rintro e w1 ⟨rfl, hg⟩; have G1 := hide hg; clear hg)
      go_ret2
      exact ⟨rfl, G1.out⟩
#print axioms bound_any
end Go.Proofs.YtehnklpjkcofcaaDoor

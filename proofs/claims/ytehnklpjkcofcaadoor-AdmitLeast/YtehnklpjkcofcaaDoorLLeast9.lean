/- The walk of the statement AdmitLeast: at its response there is enough, and at no lesser length; proved over the translation. -/
import Derived.Test.YtehnklpjkcofcaaDoorAw9
import Derived.Test.YtehnklpjkcofcaaDoorRefLeast
import Derived.Test.YtehnklpjkcofcaaDoorRefBound
namespace Go.Proofs.YtehnklpjkcofcaaDoor.P9
open Go.RowKit R6
attribute [local go_sem] alloc_drewN setCell_drewN

theorem re_cases {C : ConfV} (h0 : checkN C = 0) {P I : Nat} (h1 : P < C.parts.length) (h2 : (partAt C.parts P).level = 1) (h3 : I < (tasksOf C P).length) :
    (reE C P I = 901 ∧ reV C P I = 0 ∧ ∀ k : Nat, 1 ≤ k → (k : Int) ≤ (taskAt (tasksOf C P) I).deadline → leV C P k < boundV (tasksOf C P) I k) ∨
    (∃ r : Nat, reE C P I = 0 ∧ reV C P I = r ∧ 1 ≤ r ∧ (r : Int) ≤ (taskAt (tasksOf C P) I).deadline ∧ boundV (tasksOf C P) I r ≤ leV C P r ∧ ∀ k : Nat, 1 ≤ k → k < r → leV C P k < boundV (tasksOf C P) I k) := by
  obtain ⟨a1, a2⟩ := re_in h0 h1 h2 h3
  have hm := may_all (may_of (tasks_may h0 h1).2 h3)
  have hf : ∀ k : Nat, enoughB C P I k = false → leV C P k < boundV (tasksOf C P) I k := fun k hk => by
    unfold enoughB at hk
    have := of_decide_eq_false hk
    omega
  rcases firstTo_spec (enoughB C P I) (taskAt (tasksOf C P) I).deadline.toNat with ⟨e0, e1⟩ | ⟨e1, e2, e3, e4⟩
  · have e0' : reN C P I = 0 := e0
    rw [e0'] at a1 a2
    refine .inl ⟨a2, a1, fun k k1 k2 => hf k (e1 k k1 (by omega))⟩
  · have e1' : 1 ≤ reN C P I := e1
    rw [if_neg (by omega)] at a2
    refine .inr ⟨reN C P I, a2, a1, e1, ?_, ?_, fun k k1 k2 => hf k (e4 k k1 k2)⟩
    · have : reN C P I ≤ (taskAt (tasksOf C P) I).deadline.toNat := e2
      omega
    · have : enoughB C P I (reN C P I) = true := e3
      unfold enoughB at this
      exact of_decide_eq_true this

set_option maxRecDepth 100000 in
set_option maxHeartbeats 4000000 in
theorem admitLeast_any {lo : Nat} (c : Value) (C : ConfV) (p i : Int) (w : World) (hT : Tab w) (hc : ConfAt lo w c C) :
    Calls Tryd.prog 4 #[c, .int .i64 p, .int .i64 i] w fun e w' => e = .returned (.bool true) ∧ w.grownBy w' none := by
  have NUM : Hid (∀ (e : Int) (W : World), Calls Tryd.prog 13 #[.int .i64 e] W fun r w' => r = .returned (.int .i64 e) ∧ W = w') := fun e W => (num_any e W).mono fun _ _ h => ⟨h.1, h.2.symm⟩
  have CA := hide (fun W (hg : w.grownBy W none) => awake_any W (hT.grown hg))
  have CR := hide (fun W (hg : w.grownBy W none) => resp_any c C p i W (hT.grown hg) (hc.grown hg))
  have CL := hide (fun (k : Nat) W (hg : w.grownBy W none) => R6.rLeast_any c C p k W (hc.grown hg))
  obtain ⟨vp, vw, vo, rfl, hp, ⟨-, wa, wc, rfl, -⟩, ⟨-, oa, oc, rfl, -⟩⟩ := hc
  have HPP := hide hp
  obtain ⟨qs, hlen, ⟨hl, pa, pc, rfl, -⟩, -⟩ := hp
  rw [hlen] at hl CR CL HPP ⊢
  clear hT hlen
  generalize hwb : w.alloc (.cells #[.int .i64 C.frame, .int .i64 C.quiet, .slice pa C.parts.length pc, .slice wa C.wins.length wc, .slice oa C.ports.length oc] 26) = wb
  have HG0 := hide (show w.grownBy wb none by rw [← hwb]; exact World.grownBy_alloc _ _ none)
  have KEEP : Hid (∀ V, wb.grownBy V none → V.cell? ⟨w.heap.size, 0, none⟩ = some (.int .i64 C.frame) ∧ V.cell? ⟨w.heap.size, 1, none⟩ = some (.int .i64 C.quiet) ∧ V.cell? ⟨w.heap.size, 2, none⟩ = some (.slice pa C.parts.length pc) ∧ V.cell? ⟨w.heap.size, 3, none⟩ = some (.slice wa C.wins.length wc) ∧ V.cell? ⟨w.heap.size, 4, none⟩ = some (.slice oa C.ports.length oc)) := by
    intro V hV
    have b := fun k => World.cell?_of_block (a := ⟨w.heap.size, k, none⟩) (hV.block w.heap.size (by rw [← hwb]; simp) (by simp))
    exact ⟨(b 0).trans (by rw [← hwb]; simp), (b 1).trans (by rw [← hwb]; simp), (b 2).trans (by rw [← hwb]; simp), (b 3).trans (by rw [← hwb]; simp), (b 4).trans (by rw [← hwb]; simp)⟩
  cases hok : reOK C p i with
  | false =>
    obtain ⟨rv, re⟩ := re_no hok
    rw [rv, re] at CR
    clear rv re hok HPP CL
    generalize C.frame = fr at *
    generalize C.quiet = qt at *
    generalize C.parts.length = n0 at *
    generalize C.wins.length = n1 at *
    generalize C.ports.length = n2 at *
    go_enter Tryd.func4, Tryd.ntmps4
    go_wp2_with (first | fail)
    have HWB := hide hwb
    clear hwb
    refine (CA.out _ HG0.out).mono ?_; rintro e w1 ⟨rfl, hg⟩
    have G1 := hide hg
    clear hg CA
    obtain ⟨k0, k1, k2, k3, k4⟩ := KEEP.out w1 G1.out
    go_wp2_with (first | fail)
    refine (CR.out _ (grownBy_trans HG0.out G1.out)).mono ?_; rintro e w2 ⟨rfl, hg⟩
    have G2 := hide (grownBy_trans G1.out hg)
    clear hg k0 k1 k2 k3 k4
    go_wp2_with (go_at_call 13; refine (NUM.out _ _).mono ?_; rintro e w' ⟨rfl, rfl⟩)
    go_ret
    exact ⟨rfl, grownBy_trans HG0.out G2.out⟩
  | true =>
    obtain ⟨h0, P, I, rfl, rfl, hP, hlv, hI⟩ := re_yes hok
    obtain ⟨ht6, hm⟩ := tasks_may h0 hP
    have hta := may_all (may_of hm hI)
    have HCS := hide (re_cases h0 hP hlv hI)
    obtain ⟨g, o, ta, tc, ca, cc, rfl, -, HC, HR, hl2⟩ := HPP.out.part (P := P) hP
    have CB := hide (fun (k : Nat) W (hg : w.grownBy W none) => rbound_any _ (tasksOf C P) I k W (HR.out W hg) (by omega))
    have HLE := hide (fun (k : Nat) (hk : k ≤ 4096) => (least_in h0 hP hk).2)
    have HBE := hide (fun (k : Nat) (hk : k ≤ 4096) => (bound_in hm hI hk).2)
    have hq := taskAt_mem' (ws := tasksOf C P) (i := I) hI
    have HA := hide (row_addr (HR.out w (grownBy_refl _ _)) (show 0 < (partAt C.parts P).tasks.length from Nat.lt_of_le_of_lt (Nat.zero_le _) hI))
    obtain ⟨tg, tof, rfl⟩ := HA.out
    have HD : Hid (∀ V, w.grownBy V none → V.cell? ⟨tg, tof + I * 6 + 2, none⟩ = some (.int .i64 (taskAt (tasksOf C P) I).deadline)) := fun V hV => row_cell (S := shT) (HR.out V hV) hq (k := 2) rfl
    obtain ⟨D, hD⟩ : ∃ D : Nat, (taskAt (tasksOf C P) I).deadline = D := ⟨(taskAt (tasksOf C P) I).deadline.toNat, by omega⟩
    have hD1 : D ≤ 1024 := by omega
    rw [hD] at HD HCS
    unfold tasksOf at hI
    change Hid (∀ (k : Nat) W, w.grownBy W none → Calls Tryd.prog 18 #[.slice (some ⟨tg, tof, none⟩) (partAt C.parts P).tasks.length tc, .int .i64 I, .int .i64 k] W fun e w' => e = .returned (.tuple #[.int .i64 (boundV (tasksOf C P) I k), .int .i64 (boundE (tasksOf C P) I k)]) ∧ W.grownBy w' none) at CB
    clear HPP HR hq HA hD hta hm ht6 hlv h0 hok
    generalize (partAt C.parts P).level = lvl at *
    generalize (partAt C.parts P).tasks.length = tn at *
    generalize (partAt C.parts P).code.length = cn at *
    generalize reV C P I = rv at *
    generalize reE C P I = re at *
    generalize boundV (tasksOf C P) I = bv at *
    generalize boundE (tasksOf C P) I = be at *
    generalize leV C P = lv at *
    generalize leE C P = le at *
    generalize C.frame = fr at *
    generalize C.quiet = qt at *
    generalize C.parts.length = n0 at *
    generalize C.wins.length = n1 at *
    generalize C.ports.length = n2 at *
    have hdc1 : decide ((tn : Int) ≤ (I : Int)) = false := decide_eq_false (by omega)
    have hdc2 : decide (tn ≤ I) = false := decide_eq_false (by omega)
    have hdc3 : decide ((n0 : Int) ≤ (P : Int)) = false := decide_eq_false (by omega)
    have hdc4 : decide (n0 ≤ P) = false := decide_eq_false (by omega)
    go_enter Tryd.func4, Tryd.ntmps4
    go_wp2_with (first | fail)
    have HWB := hide hwb
    clear hwb
    refine (CA.out _ HG0.out).mono ?_; rintro e w1 ⟨rfl, hg⟩
    have G1 := hide hg
    clear hg CA
    obtain ⟨k0, k1, k2, k3, k4⟩ := KEEP.out w1 G1.out
    go_wp2_with (first | fail)
    refine (CR.out _ (grownBy_trans HG0.out G1.out)).mono ?_; rintro e w2 ⟨rfl, hg⟩
    have G2 := hide (grownBy_trans G1.out hg)
    clear hg k0 k1 k2 k3 k4 CR
    obtain ⟨k0, k1, k2, k3, k4⟩ := KEEP.out w2 G2.out
    have c1 := (HC.out w2 (grownBy_trans HG0.out G2.out)).2.1
    have d2 := HD.out w2 (grownBy_trans HG0.out G2.out)
    rcases HCS.out with ⟨rfl, rfl, hf⟩ | ⟨r, rfl, rfl, hr1, hr2, hy, hf⟩
    · have HF := hide hf
      clear hf HCS
      go_wp2_with (go_at_call 13; refine (NUM.out _ _).mono ?_; rintro e w' ⟨rfl, rfl⟩)
      clear k0 k1 k2 k3 k4 c1 d2
      go_loopw [11, 12, 13, 14, 15] (fun s _ _ _ _ W => ∃ (k : Nat), 1 ≤ k ∧ k ≤ D + 1 ∧ s = .int .i64 k ∧ Hid (wb.grownBy W none)) (fun s _ _ _ _ _ => D + 1 - (intOf s).toNat)
      case atStart => exact ⟨1, by omega, by omega, rfl, G2⟩
      case round =>
        obtain ⟨k, hk1, hk2, rfl, HG⟩ := hrel
        by_cases hlt : k ≤ D
        · have hk3 : k ≤ 1024 := by omega
          have CLk := hide (CL.out k)
          have CBk := hide (CB.out k)
          rw [HLE.out k (by omega)] at CLk
          rw [HBE.out k (by omega)] at CBk
          obtain ⟨k0, k1, k2, k3, k4⟩ := KEEP.out wr HG.out
          have hf := HF.out k hk1 (by omega)
          generalize lv k = lvk at *
          generalize bv k = bvk at *
          have hge : decide (bvk ≤ lvk) = false := decide_eq_false (by omega)
          go_wp2_with (first | (go_at_call 17; refine (CLk.out _ (grownBy_trans HG0.out HG.out)).mono ?_; rintro e w3 ⟨rfl, hg⟩; have G3 := hide (grownBy_trans HG.out hg); clear hg) | (go_at_call 18; refine (CBk.out _ (grownBy_trans HG0.out G3.out)).mono ?_; rintro e w4 ⟨rfl, hg⟩; have G4 := hide (grownBy_trans G3.out hg); clear hg) | (go_at_call 13; refine (NUM.out _ _).mono ?_; rintro e w' ⟨rfl, rfl⟩))
          go_roundw
          case rel => exact ⟨k + 1, by omega, by omega, by go_num, G4⟩
          case measure => simp [intOf]; omega
        · have hdk : decide ((k : Int) ≤ (D : Int)) = false := decide_eq_false (by omega)
          have hdk2 : decide (k ≤ D) = false := decide_eq_false (by omega)
          have d2 := HD.out wr (grownBy_trans HG0.out HG.out)
          go_wp2_with (go_at_call 13; refine (NUM.out _ _).mono ?_; rintro e w' ⟨rfl, rfl⟩)
          go_ret
          exact ⟨rfl, grownBy_trans HG0.out HG.out⟩
    · have HF := hide hf
      have HY := hide hy
      clear hf hy HCS
      have hrD : r ≤ D := by omega
      go_wp2_with (go_at_call 13; refine (NUM.out _ _).mono ?_; rintro e w' ⟨rfl, rfl⟩)
      clear k0 k1 k2 k3 k4 c1 d2
      go_loopw [11, 12, 13, 14, 15] (fun s _ _ _ _ W => ∃ (k : Nat), 1 ≤ k ∧ k ≤ r + 1 ∧ s = .int .i64 k ∧ Hid (wb.grownBy W none)) (fun s _ _ _ _ _ => r + 1 - (intOf s).toNat)
      case atStart => exact ⟨1, by omega, by omega, rfl, G2⟩
      case round =>
        obtain ⟨k, hk1, hk2, rfl, HG⟩ := hrel
        by_cases hlt : k ≤ r
        · have hk3 : k ≤ 1024 := by omega
          have CLk := hide (CL.out k)
          have CBk := hide (CB.out k)
          rw [HLE.out k (by omega)] at CLk
          rw [HBE.out k (by omega)] at CBk
          obtain ⟨k0, k1, k2, k3, k4⟩ := KEEP.out wr HG.out
          by_cases hkr : k = r
          · subst hkr
            have hf := HY.out
            generalize lv k = lvk at *
            generalize bv k = bvk at *
            have hge : decide (bvk ≤ lvk) = true := decide_eq_true (by omega)
            go_wp2_with (first | (go_at_call 17; refine (CLk.out _ (grownBy_trans HG0.out HG.out)).mono ?_; rintro e w3 ⟨rfl, hg⟩; have G3 := hide (grownBy_trans HG.out hg); clear hg) | (go_at_call 18; refine (CBk.out _ (grownBy_trans HG0.out G3.out)).mono ?_; rintro e w4 ⟨rfl, hg⟩; have G4 := hide (grownBy_trans G3.out hg); clear hg) | (go_at_call 13; refine (NUM.out _ _).mono ?_; rintro e w' ⟨rfl, rfl⟩))
            go_roundw
            case rel => exact ⟨k + 1, by omega, by omega, by go_num, G4⟩
            case measure => simp [intOf]
          · have hf := HF.out k hk1 (by omega)
            have hne : ((k : Int) == (r : Int)) = false := by simp; omega
            have hne2 : (k == r) = false := by simp [hkr]
            generalize lv k = lvk at *
            generalize bv k = bvk at *
            have hge : decide (bvk ≤ lvk) = false := decide_eq_false (by omega)
            go_wp2_with (first | (go_at_call 17; refine (CLk.out _ (grownBy_trans HG0.out HG.out)).mono ?_; rintro e w3 ⟨rfl, hg⟩; have G3 := hide (grownBy_trans HG.out hg); clear hg) | (go_at_call 18; refine (CBk.out _ (grownBy_trans HG0.out G3.out)).mono ?_; rintro e w4 ⟨rfl, hg⟩; have G4 := hide (grownBy_trans G3.out hg); clear hg) | (go_at_call 13; refine (NUM.out _ _).mono ?_; rintro e w' ⟨rfl, rfl⟩))
            go_roundw
            case rel => exact ⟨k + 1, by omega, by omega, by go_num, G4⟩
            case measure => simp [intOf]; omega
        · have hdk : decide ((k : Int) ≤ (r : Int)) = false := decide_eq_false (by omega)
          have hdk2 : decide (k ≤ r) = false := decide_eq_false (by omega)
          have d2 := HD.out wr (grownBy_trans HG0.out HG.out)
          go_wp2_with (go_at_call 13; refine (NUM.out _ _).mono ?_; rintro e w' ⟨rfl, rfl⟩)
          go_ret
          exact ⟨rfl, grownBy_trans HG0.out HG.out⟩
#print axioms admitLeast_any
end Go.Proofs.YtehnklpjkcofcaaDoor.P9

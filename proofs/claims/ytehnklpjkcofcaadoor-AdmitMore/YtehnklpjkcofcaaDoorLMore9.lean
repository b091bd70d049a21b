/- The walk of the statement AdmitMore: with a longer window nothing comes later, with a greater budget nothing sooner; proved over the translation. -/
import Derived.Test.YtehnklpjkcofcaaDoorAw9
import Derived.Test.YtehnklpjkcofcaaDoorBits
import Derived.Test.YtehnklpjkcofcaaDoorMoremath
import Derived.Test.YtehnklpjkcofcaaDoorUp6
import Derived.Lib.MinMax
namespace Go.Proofs.YtehnklpjkcofcaaDoor.P9
open Go.RowKit R6
attribute [local go_sem] alloc_drewN setCell_drewN

theorem re_two {C : ConfV} (h0 : checkN C = 0) {P I : Nat} (h1 : P < C.parts.length) (h2 : (partAt C.parts P).level = 1) (h3 : I < (tasksOf C P).length) : reE C P I = 901 ∨ reE C P I = 0 := by
  rw [(re_in h0 h1 h2 h3).2]
  by_cases h : reN C P I = 0
  · exact .inl (if_pos h)
  · exact .inr (if_neg h)
theorem cd_form {base : Nat} {W : World} {v : Value} {ps : List PartV} (h : Cd.POwn base W v ps) : ∃ a n c, v = .slice a n c := by
  obtain ⟨qs, -, h1, -⟩ := h
  obtain ⟨a, c, rfl⟩ := own_form h1
  exact ⟨_, _, _, rfl⟩
/-- A window of an owned row written over: its end and its part. -/
theorem own_win {W : World} {base g n cap j : Nat} {ws : List WinV} {x : WinV} (h : W.ownsRow base 47 3 (.slice (some ⟨g, 0, none⟩) n cap) n (shW.cells ws)) (hx : ws[j]? = some x) : (∀ e, (W.setCell ⟨g, j * 3 + 1, none⟩ (.int .i64 e)).ownsRow base 47 3 (.slice (some ⟨g, 0, none⟩) n cap) n (shW.cells (ws.set j ⟨x.fr, e, x.part⟩))) ∧ (∀ p, (W.setCell ⟨g, j * 3 + 2, none⟩ (.int .i64 p)).ownsRow base 47 3 (.slice (some ⟨g, 0, none⟩) n cap) n (shW.cells (ws.set j ⟨x.fr, x.til, p⟩))) :=
  ⟨fun _ => own_set (S := shW) h hx (i := 1) (by decide) rfl, fun _ => own_set (S := shW) h hx (i := 2) (by decide) rfl⟩
theorem box_at9 (W : World) (o : Obj) : (W.alloc o).heap[W.heap.size]? = some o := heap_at _ _ _ rfl

set_option maxRecDepth 100000 in
set_option maxHeartbeats 16000000 in
theorem admitMore_any {lo : Nat} (c : Value) (C : ConfV) (hbig : Big C) (i x2 : Int) (w : World) (hT : Tab w) (hc : ConfAt lo w c C) :
    Calls Tryd.prog 6 #[c, .int .i64 i, .int .i64 x2] w fun e w' => e = .returned (.bool true) ∧ w.grownBy w' none := by
  have NUM : Hid (∀ (e : Int) (W : World), Calls Tryd.prog 13 #[.int .i64 e] W fun r w' => r = .returned (.int .i64 e) ∧ W = w') := fun e W => (num_any e W).mono fun _ _ h => ⟨h.1, h.2.symm⟩
  have CA := hide (fun W (hg : w.grownBy W none) => awake_any W (hT.grown hg))
  have CC := hide (fun W (hg : w.grownBy W none) => Cd.copy_any c C hbig W (hc.grown hg))
  have CR := hide (fun W (hg : w.grownBy W none) => resp_any c C 0 i W (hT.grown hg) (hc.grown hg))
  have XR := hide (fun (base : Nat) (X : ConfV) c' W (hg : w.grownBy W none) (h : ConfAt base W c' X) => resp_any c' X 0 i W (hT.grown hg) h)
  obtain ⟨mm, hmm, hm2⟩ := and2 x2
  obtain ⟨vp, vw, vo, rfl, ⟨qs, hlen, ⟨hl, pa, pc, rfl, -⟩, -⟩, ⟨-, wa, wc, rfl, -⟩, ⟨-, oa, oc, rfl, -⟩⟩ := hc
  rw [hlen] at hl CC CR ⊢
  clear hT hlen hbig
  generalize hN1 : C.wins.length = n1 at *
  have HN1 := hide hN1
  clear hN1
  generalize hN0 : C.parts.length = n0 at *
  have HN0 := hide hN0
  clear hN0
  generalize hN2 : C.ports.length = n2 at *
  have HN2 := hide hN2
  clear hN2
  generalize hwb : w.alloc (.cells #[.int .i64 C.frame, .int .i64 C.quiet, .slice pa n0 pc, .slice wa n1 wc, .slice oa n2 oc] 26) = wb
  have HG0 := hide (show w.grownBy wb none by rw [← hwb]; exact World.grownBy_alloc _ _ none)
  have B0 := hide (show wb.heap[w.heap.size]? = some (.cells #[.int .i64 C.frame, .int .i64 C.quiet, .slice pa n0 pc, .slice wa n1 wc, .slice oa n2 oc] 26 (0, 0)) by rw [← hwb]; exact box_at9 _ _)
  have KEEP : Hid (∀ V, wb.grownBy V none → V.cell? ⟨w.heap.size, 0, none⟩ = some (.int .i64 C.frame) ∧ V.cell? ⟨w.heap.size, 1, none⟩ = some (.int .i64 C.quiet) ∧ V.cell? ⟨w.heap.size, 2, none⟩ = some (.slice pa n0 pc) ∧ V.cell? ⟨w.heap.size, 3, none⟩ = some (.slice wa n1 wc) ∧ V.cell? ⟨w.heap.size, 4, none⟩ = some (.slice oa n2 oc)) := fun V hV => by
    have b := box_grown B0.out hV (by simp)
    exact ⟨blk_cell b 0, blk_cell b 1, blk_cell b 2, blk_cell b 3, blk_cell b 4⟩
  cases hok : reOK C 0 i with
  | false =>
    obtain ⟨rv, re⟩ := re_no hok
    rw [rv, re] at CR
    clear rv re hok CC XR hm2
    go_enter Tryd.func6, Tryd.ntmps6
    go_wp2_with (first | fail)
    clear hwb
    refine (CA.out _ HG0.out).mono ?_; rintro e w1 ⟨rfl, hg⟩
    have G1 := hide hg
    clear hg CA
    obtain ⟨k0, k1, k2, k3, k4⟩ := KEEP.out w1 G1.out
    go_wp2_with (first | fail)
    refine (CR.out _ (grownBy_trans HG0.out G1.out)).mono ?_; rintro e w2 ⟨rfl, hg⟩
    have G2 := hide (grownBy_trans G1.out hg)
    clear hg k0 k1 k2 k3 k4
    go_wp2_with (go_at_call 13; refine (NUM.out _ _).mono ?_; rintro e w' ⟨rfl, rfl⟩)
    go_ret
    exact ⟨rfl, grownBy_trans HG0.out G2.out⟩
  | true =>
    obtain ⟨h0, P, I, hP0, rfl, hP, hlv, hI⟩ := re_yes hok
    obtain rfl : P = 0 := by omega
    clear hP0 hok
    have HTW := hide (re_two h0 hP hlv hI)
    have HFI := hide (fine_of h0)
    obtain ⟨ht6, hm⟩ := tasks_may h0 hP
    have hta := may_all (may_of hm hI)
    have HLR := hide (fun (hn : 0 < C.wins.length) h => long_re (C := C) (i := (I : Int)) hn h)
    have HUR := hide (fun (h : Int) h1 h2 => up_re (h := h) h0 hP hlv hI h1 h2)
    have HTW2 : Hid (reE C 0 I = 901 ∨ reE C 0 I = 0) := HTW.out
    clear HTW hm ht6 h0 hlv
    by_cases hn : n1 = 0
    · subst hn
      obtain hre | hre := HTW2.out
      · rw [hre] at CR
        clear hre CC XR HTW2 HLR HUR hm2 hta
        generalize reV C 0 I = rv at *
        go_enter Tryd.func6, Tryd.ntmps6
        go_wp2_with (first | fail)
        clear hwb
        refine (CA.out _ HG0.out).mono ?_; rintro e w1 ⟨rfl, hg⟩
        have G1 := hide hg
        clear hg CA
        obtain ⟨k0, k1, k2, k3, k4⟩ := KEEP.out w1 G1.out
        go_wp2_with (first | fail)
        refine (CR.out _ (grownBy_trans HG0.out G1.out)).mono ?_; rintro e w2 ⟨rfl, hg⟩
        have G2 := hide (grownBy_trans G1.out hg)
        clear hg k0 k1 k2 k3 k4
        obtain ⟨k0, k1, k2, k3, k4⟩ := KEEP.out w2 G2.out
        go_wp2_with (go_at_call 13; refine (NUM.out _ _).mono ?_; rintro e w' ⟨rfl, rfl⟩)
        go_ret
        exact ⟨rfl, grownBy_trans HG0.out G2.out⟩
      · rw [hre] at CR
        clear hre CC XR HTW2 HLR HUR hm2 hta
        generalize reV C 0 I = rv at *
        go_enter Tryd.func6, Tryd.ntmps6
        go_wp2_with (first | fail)
        clear hwb
        refine (CA.out _ HG0.out).mono ?_; rintro e w1 ⟨rfl, hg⟩
        have G1 := hide hg
        clear hg CA
        obtain ⟨k0, k1, k2, k3, k4⟩ := KEEP.out w1 G1.out
        go_wp2_with (first | fail)
        refine (CR.out _ (grownBy_trans HG0.out G1.out)).mono ?_; rintro e w2 ⟨rfl, hg⟩
        have G2 := hide (grownBy_trans G1.out hg)
        clear hg k0 k1 k2 k3 k4
        obtain ⟨k0, k1, k2, k3, k4⟩ := KEEP.out w2 G2.out
        go_wp2_with (go_at_call 13; refine (NUM.out _ _).mono ?_; rintro e w' ⟨rfl, rfl⟩)
        go_ret
        exact ⟨rfl, grownBy_trans HG0.out G2.out⟩
    · obtain ⟨j, rfl⟩ : ∃ j, n1 = j + 1 := ⟨n1 - 1, by omega⟩
      clear hn
      have HLR2 := hide (HLR.out (by rw [HN1.out]; omega))
      clear HLR
      have HWX := hide (winAt_mem (ws := C.wins) (i := j) (by rw [HN1.out]; omega))
      have hwf := HFI.out.win j (by rw [HN1.out]; omega)
      have w32 : j + 1 ≤ 32 := by have := HFI.out.w1; rw [HN1.out] at this; exact this
      have HLC : Hid (longC C = ⟨C.frame, C.quiet, C.parts, C.wins.set j ⟨(winAt C.wins j).fr, C.frame, 0⟩, C.ports⟩) := hide (by
        unfold longC lastW
        rw [show C.wins.length - 1 = j by rw [HN1.out]; omega])
      have HSL : Hid (∀ x, (C.wins.set j x).length = j + 1) := fun x => by rw [List.length_set]; exact HN1.out
      obtain ⟨-, hw1, hw2, hw3, hw4⟩ := hwf
      have hnz : (((j + 1 : Nat) : Int) == 0) = false := by simp; omega
      generalize hre : reE C 0 I = re at *
      have HRE := hide hre
      clear hre
      generalize reV C 0 I = rv at *
      have hb9 : (re == 900) = false := by rcases HTW2.out with rfl | rfl <;> rfl
      go_enter Tryd.func6, Tryd.ntmps6
      go_wp2_with (first | fail)
      have HWB := hide hwb
      clear hwb HWB
      refine (CA.out _ HG0.out).mono ?_; rintro e w1 ⟨rfl, hg⟩
      have G1 := hide hg
      clear hg CA
      obtain ⟨k0, k1, k2, k3, k4⟩ := KEEP.out w1 G1.out
      go_wp2_with (first | fail)
      refine (CR.out _ (grownBy_trans HG0.out G1.out)).mono ?_; rintro e w2 ⟨rfl, hg⟩
      have G2 := hide (grownBy_trans G1.out hg)
      clear hg k0 k1 k2 k3 k4 CR
      obtain ⟨k0, k1, k2, k3, k4⟩ := KEEP.out w2 G2.out
      go_upto_region 6 with (go_at_call 13; refine (NUM.out _ _).mono ?_; rintro e w' ⟨rfl, rfl⟩)
      go_wp2_with (first | fail)
      refine (CC.out _ (grownBy_trans HG0.out G2.out)).mono ?_; rintro e w3 ⟨c', rfl, ⟨vp1, vw1, vo1, rfl, hp1, hwn1, ho1⟩, hg⟩
      have G3 := hide (grownBy_trans HG0.out (grownBy_trans G2.out hg))
      have B3 := hide (box_grown B0.out (grownBy_trans G2.out hg) (by simp))
      have HBA := hide (show w.heap.size ≤ w2.heap.size from Nat.le_trans HG0.out.size G2.out.size)
      rw [HN1.out] at hwn1
      rw [HN2.out] at ho1
      obtain ⟨pa1, pn1, pc1, rfl⟩ := cd_form hp1
      obtain ⟨oa1, oc1, rfl⟩ := own_form ho1
      obtain ⟨wa1, c5, rfl⟩ := own_form hwn1
      obtain ⟨g, rfl, hgb, -, -⟩ := own_cap hwn1 (by omega)
      have HP3 := hide hp1
      have HW3 := hide hwn1
      have HO3 := hide ho1
      clear hg hp1 hwn1 ho1 k0 k1 k2 k3 k4 KEEP G1 G2 HG0 B0
      generalize w2.heap.size = base at *
      go_upto_region 7 with fail
      have A4 := hide (World.grownBy_alloc w3 (.cells #[.int .i64 C.frame, .int .i64 C.quiet, .slice pa1 pn1 pc1, .slice (some ⟨g, 0, none⟩) (j + 1) c5, .slice oa1 n2 oc1] 26) none)
      have D4 := hide (box_at9 w3 (.cells #[.int .i64 C.frame, .int .i64 C.quiet, .slice pa1 pn1 pc1, .slice (some ⟨g, 0, none⟩) (j + 1) c5, .slice oa1 n2 oc1] 26))
      generalize w3.alloc (.cells #[.int .i64 C.frame, .int .i64 C.quiet, .slice pa1 pn1 pc1, .slice (some ⟨g, 0, none⟩) (j + 1) c5, .slice oa1 n2 oc1] 26) = w4 at *
      generalize w3.heap.size = X at *
      have G4 := hide (grownBy_trans G3.out A4.out)
      have B4 := hide (box_grown B3.out A4.out (by simp))
      have HP4 := hide (HP3.out.grown A4.out)
      have HW4 := hide (own_kept HW3.out A4.out)
      have HO4 := hide (own_kept HO3.out A4.out)
      clear HP3 HW3 HO3 B3 G3 A4
      have x3 : w4.cell? ⟨X, 3, none⟩ = some (.slice (some ⟨g, 0, none⟩) (j + 1) c5) := blk_cell D4.out 3
      go_upto_region 8 with fail
      clear x3
      obtain ⟨U, hU, F, HF, HR⟩ := class_of w4
      have u3 := fun u => (show (F u).cell? ⟨X, 3, none⟩ = some (.slice (some ⟨g, 0, none⟩) (j + 1) c5) from blk_cell (box_grown D4.out (HF.out u) (by simp)) 3)
      have u0 := fun u => (show (F u).cell? ⟨X, 0, none⟩ = some (.int .i64 C.frame) from blk_cell (box_grown D4.out (HF.out u) (by simp)) 0)
      have u1 := fun u => (show (F u).cell? ⟨g, j * 3 + 1, none⟩ = some (.int .i64 (winAt C.wins j).til) from own_cell (S := shW) (own_kept HW4.out (HF.out u)) HWX.out (i := 1) rfl)
      by_cases htil : (winAt C.wins j).til < C.frame
      · have hdt : decide ((winAt C.wins j).til < C.frame) = true := decide_eq_true htil
        go_wp2
        refine wp_region_quiet_in F (by kernel_rfl) (by kernel_rfl) (HR.out _ (drew_grown _)) ?_
        repeat (go_big_quiet_step (fail))
        refine wpQuiet_nil ?_
        intro _ hwq
        obtain ⟨uq, hwq2⟩ := hwq
        subst hwq2
        have I5 := hide (HF.out uq)
        generalize F uq = w5 at *
        have G5 := hide (grownBy_trans G4.out I5.out)
        have D5 := hide (box_grown D4.out I5.out (by simp))
        have B5 := hide (box_grown B4.out I5.out (by simp))
        have HP5 := hide (HP4.out.grown I5.out)
        have HW5 := hide (own_kept HW4.out I5.out)
        have HO5 := hide (own_kept HO4.out I5.out)
        clear u0 u1 u3 HF HR hU D4 B4 HP4 HW4 HO4 G4 I5
        have x3 : w5.cell? ⟨X, 3, none⟩ = some (.slice (some ⟨g, 0, none⟩) (j + 1) c5) := blk_cell D5.out 3
        have x0 : w5.cell? ⟨X, 0, none⟩ = some (.int .i64 C.frame) := blk_cell D5.out 0
        have y1 : w5.cell? ⟨g, j * 3 + 1, none⟩ = some (.int .i64 (winAt C.wins j).til) := own_cell (S := shW) HW5.out HWX.out (i := 1) rfl
        have yf : w5.frozen? ⟨g, j * 3 + 1, none⟩ = false := own_free HW5.out _
        have T5 := hide (type_own HW5.out)
        have hgs := grownBy_set w5 g (j * 3 + 1) (.int .i64 C.frame)
        have G6 := hide (grown_spoil G5.out (by have := HBA.out; omega) hgs)
        have D6 := hide (box_type D5.out hgs T5.out (by decide))
        have B6 := hide (box_type B5.out hgs T5.out (by decide))
        have HP6 := hide (HP5.out.type hgs T5.out (by decide) (by decide) (by decide))
        have HO6 := hide (own_type HO5.out hgs T5.out (by decide))
        have HW6 := hide ((own_win HW5.out HWX.out).1 C.frame)
        clear hgs
        go_upto_region 10 with fail
        generalize w5.setCell ⟨g, j * 3 + 1, none⟩ (.int .i64 C.frame) = w6 at *
        clear x3 x0 y1 yf T5 G5 D5 B5 HP5 HO5 HW5
        have HWY := hide (show (C.wins.set j ⟨(winAt C.wins j).fr, C.frame, (winAt C.wins j).part⟩)[j]? = some ⟨(winAt C.wins j).fr, C.frame, (winAt C.wins j).part⟩ from List.getElem?_set_self (by rw [HN1.out]; omega))
        have x3 : w6.cell? ⟨X, 3, none⟩ = some (.slice (some ⟨g, 0, none⟩) (j + 1) c5) := blk_cell D6.out 3
        have x0 : w6.cell? ⟨X, 0, none⟩ = some (.int .i64 C.frame) := blk_cell D6.out 0
        have y1 : w6.cell? ⟨g, j * 3 + 2, none⟩ = some (.int .i64 (winAt C.wins j).part) := own_cell (S := shW) HW6.out HWY.out (i := 2) rfl
        have yf : w6.frozen? ⟨g, j * 3 + 2, none⟩ = false := own_free HW6.out _
        have T6 := hide (type_own HW6.out)
        have hgs := grownBy_set w6 g (j * 3 + 2) (.int .i64 0)
        have G7 := hide (grown_spoil G6.out (by have := HBA.out; omega) hgs)
        have D7 := hide (box_type D6.out hgs T6.out (by decide))
        have B7 := hide (box_type B6.out hgs T6.out (by decide))
        have HP7 := hide (HP6.out.type hgs T6.out (by decide) (by decide) (by decide))
        have HO7 := hide (own_type HO6.out hgs T6.out (by decide))
        have HW7 := hide ((own_win HW6.out HWY.out).2 0)
        clear hgs
        go_upto_region 11 with fail
        generalize w6.setCell ⟨g, j * 3 + 2, none⟩ (.int .i64 0) = w7 at *
        clear x3 x0 y1 yf T6 G6 D6 B6 HP6 HO6 HW6
        have HW7' : Hid (w7.ownsRow base 47 3 (.slice (some ⟨g, 0, none⟩) (j + 1) c5) (j + 1) (shW.cells (C.wins.set j ⟨(winAt C.wins j).fr, C.frame, 0⟩))) := by
          have := HW7.out
          rw [List.set_set] at this
          exact this
        clear HW7 HWY
        have CF7 : Hid (ConfAt base w7 (.agg #[.int .i64 C.frame, .int .i64 C.quiet, .slice pa1 pn1 pc1, .slice (some ⟨g, 0, none⟩) (j + 1) c5, .slice oa1 n2 oc1]) (longC C)) := by
          rw [HLC.out]
          refine ⟨_, _, _, rfl, HP7.out.at, rowAt_own (S := shW) (e := 47) ?_, rowAt_own (S := shO) (e := 60) ?_⟩
          · show World.ownsRow _ _ _ _ _ (C.wins.set j _).length _
            rw [HSL.out]
            exact HW7'.out
          · show World.ownsRow _ _ _ _ _ C.ports.length _
            rw [HN2.out]
            exact HO7.out
        have x0 : w7.cell? ⟨X, 0, none⟩ = some (.int .i64 C.frame) := blk_cell D7.out 0
        have x1 : w7.cell? ⟨X, 1, none⟩ = some (.int .i64 C.quiet) := blk_cell D7.out 1
        have x2' : w7.cell? ⟨X, 2, none⟩ = some (.slice pa1 pn1 pc1) := blk_cell D7.out 2
        have x3 : w7.cell? ⟨X, 3, none⟩ = some (.slice (some ⟨g, 0, none⟩) (j + 1) c5) := blk_cell D7.out 3
        have x4 : w7.cell? ⟨X, 4, none⟩ = some (.slice oa1 n2 oc1) := blk_cell D7.out 4
        go_wp2_with (first | fail)
        refine (XR.out base (longC C) _ _ G7.out CF7.out).mono ?_; rintro e w8 ⟨rfl, hg⟩
        have G8 := hide (grownBy_trans G7.out hg)
        have B8 := hide (box_grown B7.out hg (by simp))
        clear hg x0 x1 x2' x3 x4 CF7 D7 B7 HP7 HO7 HW7' G7
        generalize reE (longC C) 0 I = re2 at *
        generalize reV (longC C) 0 I = rv2 at *
        obtain hre | hre := HTW2.out
        · subst hre
          clear HLR2
          go_upto_region 14 with (go_at_call 13; refine (NUM.out _ _).mono ?_; rintro e w' ⟨rfl, rfl⟩)
          have k0 : w8.cell? ⟨w.heap.size, 0, none⟩ = some (.int .i64 C.frame) := blk_cell B8.out 0
          have k1 : w8.cell? ⟨w.heap.size, 1, none⟩ = some (.int .i64 C.quiet) := blk_cell B8.out 1
          have k2 : w8.cell? ⟨w.heap.size, 2, none⟩ = some (.slice pa n0 pc) := blk_cell B8.out 2
          have k3 : w8.cell? ⟨w.heap.size, 3, none⟩ = some (.slice wa (j + 1) wc) := blk_cell B8.out 3
          have k4 : w8.cell? ⟨w.heap.size, 4, none⟩ = some (.slice oa n2 oc) := blk_cell B8.out 4
          go_wp2_with (first | fail)
          refine (CC.out _ G8.out).mono ?_; rintro e w9 ⟨c', rfl, ⟨vp2, vw2, vo2, rfl, hp2, hwn2, ho2⟩, hg⟩
          have G9 := hide (grownBy_trans G8.out hg)
          have HBA2 := hide (show w.heap.size ≤ w8.heap.size from G8.out.size)
          rw [HN1.out] at hwn2
          rw [HN2.out] at ho2
          obtain ⟨wa2, wc2, rfl⟩ := own_form hwn2
          obtain ⟨oa2, oc2, rfl⟩ := own_form ho2
          obtain ⟨g2, c2, tg, tc, rfl, htb, HC1, HCK, HFZ, HTY, HPT⟩ := cd_up hp2 (show 0 < C.parts.length from hP) (I := I) hI
          rw [HN0.out]
          have HW9 := hide hwn2
          have HO9 := hide ho2
          clear hg hp2 hwn2 ho2 k0 k1 k2 k3 k4 B8 G8
          generalize w8.heap.size = base2 at *
          have hIt : I < (partAt C.parts 0).tasks.length := hI
          have hP0n : 0 < n0 := by rw [← HN0.out]; exact hP
          have hup0 := HUR.out (min (taskAt (tasksOf C 0) I).deadline ((taskAt (tasksOf C 0) I).chigh + mm)) (by omega) (by omega)
          have HUP := hide hup0
          clear hup0
          go_upto_region 15 with fail
          have A10 := hide (World.grownBy_alloc w9 (.cells #[.int .i64 C.frame, .int .i64 C.quiet, .slice (some ⟨g2, 0, none⟩) n0 c2, .slice wa2 (j + 1) wc2, .slice oa2 n2 oc2] 26) none)
          have Y10 := hide (box_at9 w9 (.cells #[.int .i64 C.frame, .int .i64 C.quiet, .slice (some ⟨g2, 0, none⟩) n0 c2, .slice wa2 (j + 1) wc2, .slice oa2 n2 oc2] 26))
          generalize w9.alloc (.cells #[.int .i64 C.frame, .int .i64 C.quiet, .slice (some ⟨g2, 0, none⟩) n0 c2, .slice wa2 (j + 1) wc2, .slice oa2 n2 oc2] 26) = w10 at *
          generalize w9.heap.size = Y at *
          have G10 := hide (grownBy_trans G9.out A10.out)
          have y2 : w10.cell? ⟨Y, 2, none⟩ = some (.slice (some ⟨g2, 0, none⟩) n0 c2) := blk_cell Y10.out 2
          have q1 := HC1.out w10 A10.out
          have t0 : w10.cell? ⟨tg, I * 6, none⟩ = some (.int .i64 (taskAt (tasksOf C 0) I).kind) := HCK.out w10 A10.out 0 _ rfl
          have t1 : w10.cell? ⟨tg, I * 6 + 1, none⟩ = some (.int .i64 (taskAt (tasksOf C 0) I).period) := HCK.out w10 A10.out 1 _ rfl
          have t2 : w10.cell? ⟨tg, I * 6 + 2, none⟩ = some (.int .i64 (taskAt (tasksOf C 0) I).deadline) := HCK.out w10 A10.out 2 _ rfl
          have t3 : w10.cell? ⟨tg, I * 6 + 3, none⟩ = some (.int .i64 (taskAt (tasksOf C 0) I).clow) := HCK.out w10 A10.out 3 _ rfl
          have t4 : w10.cell? ⟨tg, I * 6 + 4, none⟩ = some (.int .i64 (taskAt (tasksOf C 0) I).chigh) := HCK.out w10 A10.out 4 _ rfl
          have t5 : w10.cell? ⟨tg, I * 6 + 5, none⟩ = some (.int .i64 (taskAt (tasksOf C 0) I).prio) := HCK.out w10 A10.out 5 _ rfl
          have hlt2 : (partAt C.parts 0).tasks.length ≤ 9223372036854775807 := by have := HFI.out.per 0 hP; omega
          have HTN : Hid ((tasksOf C 0).length = (partAt C.parts 0).tasks.length) := rfl
          go_upto_region 19 with fail
          clear y2 q1 t0 t1 t2 t3 t4 t5
          have A11 := hide (grownBy_trans A10.out (World.grownBy_alloc w10 (.cells #[.int .i64 (taskAt (tasksOf C 0) I).kind, .int .i64 (taskAt (tasksOf C 0) I).period, .int .i64 (taskAt (tasksOf C 0) I).deadline, .int .i64 (taskAt (tasksOf C 0) I).clow, .int .i64 (min (taskAt (tasksOf C 0) I).deadline ((taskAt (tasksOf C 0) I).chigh + mm)), .int .i64 (taskAt (tasksOf C 0) I).prio] 44) none))
          have A11' := hide (World.grownBy_alloc w10 (.cells #[.int .i64 (taskAt (tasksOf C 0) I).kind, .int .i64 (taskAt (tasksOf C 0) I).period, .int .i64 (taskAt (tasksOf C 0) I).deadline, .int .i64 (taskAt (tasksOf C 0) I).clow, .int .i64 (min (taskAt (tasksOf C 0) I).deadline ((taskAt (tasksOf C 0) I).chigh + mm)), .int .i64 (taskAt (tasksOf C 0) I).prio] 44) none)
          have Z11 := hide (box_at9 w10 (.cells #[.int .i64 (taskAt (tasksOf C 0) I).kind, .int .i64 (taskAt (tasksOf C 0) I).period, .int .i64 (taskAt (tasksOf C 0) I).deadline, .int .i64 (taskAt (tasksOf C 0) I).clow, .int .i64 (min (taskAt (tasksOf C 0) I).deadline ((taskAt (tasksOf C 0) I).chigh + mm)), .int .i64 (taskAt (tasksOf C 0) I).prio] 44))
          generalize w10.alloc (.cells #[.int .i64 (taskAt (tasksOf C 0) I).kind, .int .i64 (taskAt (tasksOf C 0) I).period, .int .i64 (taskAt (tasksOf C 0) I).deadline, .int .i64 (taskAt (tasksOf C 0) I).clow, .int .i64 (min (taskAt (tasksOf C 0) I).deadline ((taskAt (tasksOf C 0) I).chigh + mm)), .int .i64 (taskAt (tasksOf C 0) I).prio] 44) = w11 at *
          generalize w10.heap.size = Z at *
          have G11 := hide (grownBy_trans G10.out A11'.out)
          have Y11 := hide (box_grown Y10.out A11'.out (by simp))
          have y2 : w11.cell? ⟨Y, 2, none⟩ = some (.slice (some ⟨g2, 0, none⟩) n0 c2) := blk_cell Y11.out 2
          have q1 := HC1.out w11 A11.out
          have z0 : w11.cell? ⟨Z, 0, none⟩ = some (.int .i64 (taskAt (tasksOf C 0) I).kind) := blk_cell Z11.out 0
          have z1 : w11.cell? ⟨Z, 1, none⟩ = some (.int .i64 (taskAt (tasksOf C 0) I).period) := blk_cell Z11.out 1
          have z2 : w11.cell? ⟨Z, 2, none⟩ = some (.int .i64 (taskAt (tasksOf C 0) I).deadline) := blk_cell Z11.out 2
          have z3 : w11.cell? ⟨Z, 3, none⟩ = some (.int .i64 (taskAt (tasksOf C 0) I).clow) := blk_cell Z11.out 3
          have z4 : w11.cell? ⟨Z, 4, none⟩ = some (.int .i64 (min (taskAt (tasksOf C 0) I).deadline ((taskAt (tasksOf C 0) I).chigh + mm))) := blk_cell Z11.out 4
          have z5 : w11.cell? ⟨Z, 5, none⟩ = some (.int .i64 (taskAt (tasksOf C 0) I).prio) := blk_cell Z11.out 5
          have t0 : w11.cell? ⟨tg, I * 6, none⟩ = some (.int .i64 (taskAt (tasksOf C 0) I).kind) := HCK.out w11 A11.out 0 _ rfl
          have t1 : w11.cell? ⟨tg, I * 6 + 1, none⟩ = some (.int .i64 (taskAt (tasksOf C 0) I).period) := HCK.out w11 A11.out 1 _ rfl
          have t2 : w11.cell? ⟨tg, I * 6 + 2, none⟩ = some (.int .i64 (taskAt (tasksOf C 0) I).deadline) := HCK.out w11 A11.out 2 _ rfl
          have t3 : w11.cell? ⟨tg, I * 6 + 3, none⟩ = some (.int .i64 (taskAt (tasksOf C 0) I).clow) := HCK.out w11 A11.out 3 _ rfl
          have t4 : w11.cell? ⟨tg, I * 6 + 4, none⟩ = some (.int .i64 (taskAt (tasksOf C 0) I).chigh) := HCK.out w11 A11.out 4 _ rfl
          have t5 : w11.cell? ⟨tg, I * 6 + 5, none⟩ = some (.int .i64 (taskAt (tasksOf C 0) I).prio) := HCK.out w11 A11.out 5 _ rfl
          have f0 := HFZ.out w11 A11.out (I * 6)
          have f1 := HFZ.out w11 A11.out (I * 6 + 1)
          have f2 := HFZ.out w11 A11.out (I * 6 + 2)
          have f3 := HFZ.out w11 A11.out (I * 6 + 3)
          have f4 := HFZ.out w11 A11.out (I * 6 + 4)
          have f5 := HFZ.out w11 A11.out (I * 6 + 5)
          have hgp := put6_grown w11 tg (I * 6) (upT (taskAt (tasksOf C 0) I) (min (taskAt (tasksOf C 0) I).deadline ((taskAt (tasksOf C 0) I).chigh + mm)))
          have TT := HTY.out w11 A11.out
          have Y12 : Hid (((((((w11.setCell ⟨tg, I * 6, none⟩ (.int .i64 (taskAt (tasksOf C 0) I).kind)).setCell ⟨tg, I * 6 + 1, none⟩ (.int .i64 (taskAt (tasksOf C 0) I).period)).setCell ⟨tg, I * 6 + 2, none⟩ (.int .i64 (taskAt (tasksOf C 0) I).deadline)).setCell ⟨tg, I * 6 + 3, none⟩ (.int .i64 (taskAt (tasksOf C 0) I).clow)).setCell ⟨tg, I * 6 + 4, none⟩ (.int .i64 (min (taskAt (tasksOf C 0) I).deadline ((taskAt (tasksOf C 0) I).chigh + mm)))).setCell ⟨tg, I * 6 + 5, none⟩ (.int .i64 (taskAt (tasksOf C 0) I).prio)).heap[Y]? = some (.cells #[.int .i64 C.frame, .int .i64 C.quiet, .slice (some ⟨g2, 0, none⟩) n0 c2, .slice wa2 (j + 1) wc2, .slice oa2 n2 oc2] 26 (0, 0))) := box_type Y11.out hgp TT (by decide)
          have G12 : Hid (w.grownBy ((((((w11.setCell ⟨tg, I * 6, none⟩ (.int .i64 (taskAt (tasksOf C 0) I).kind)).setCell ⟨tg, I * 6 + 1, none⟩ (.int .i64 (taskAt (tasksOf C 0) I).period)).setCell ⟨tg, I * 6 + 2, none⟩ (.int .i64 (taskAt (tasksOf C 0) I).deadline)).setCell ⟨tg, I * 6 + 3, none⟩ (.int .i64 (taskAt (tasksOf C 0) I).clow)).setCell ⟨tg, I * 6 + 4, none⟩ (.int .i64 (min (taskAt (tasksOf C 0) I).deadline ((taskAt (tasksOf C 0) I).chigh + mm)))).setCell ⟨tg, I * 6 + 5, none⟩ (.int .i64 (taskAt (tasksOf C 0) I).prio)) none) := grown_spoil G11.out (by have := HBA2.out; omega) hgp
          rw [HN0.out] at HPT
          have CF12 : Hid (ConfAt base2 ((((((w11.setCell ⟨tg, I * 6, none⟩ (.int .i64 (taskAt (tasksOf C 0) I).kind)).setCell ⟨tg, I * 6 + 1, none⟩ (.int .i64 (taskAt (tasksOf C 0) I).period)).setCell ⟨tg, I * 6 + 2, none⟩ (.int .i64 (taskAt (tasksOf C 0) I).deadline)).setCell ⟨tg, I * 6 + 3, none⟩ (.int .i64 (taskAt (tasksOf C 0) I).clow)).setCell ⟨tg, I * 6 + 4, none⟩ (.int .i64 (min (taskAt (tasksOf C 0) I).deadline ((taskAt (tasksOf C 0) I).chigh + mm)))).setCell ⟨tg, I * 6 + 5, none⟩ (.int .i64 (taskAt (tasksOf C 0) I).prio)) (.agg #[.int .i64 C.frame, .int .i64 C.quiet, .slice (some ⟨g2, 0, none⟩) n0 c2, .slice wa2 (j + 1) wc2, .slice oa2 n2 oc2]) (upC C I (min (taskAt (tasksOf C 0) I).deadline ((taskAt (tasksOf C 0) I).chigh + mm)))) := by
            refine ⟨_, _, _, rfl, HPT.out w11 A11.out (upT (taskAt (tasksOf C 0) I) (min (taskAt (tasksOf C 0) I).deadline ((taskAt (tasksOf C 0) I).chigh + mm))), rowAt_own (S := shW) (e := 47) ?_, rowAt_own (S := shO) (e := 60) ?_⟩
            · show World.ownsRow _ _ _ _ _ C.wins.length _
              rw [HN1.out]
              exact own_type (own_kept HW9.out A11.out) hgp TT (by decide)
            · show World.ownsRow _ _ _ _ _ C.ports.length _
              rw [HN2.out]
              exact own_type (own_kept HO9.out A11.out) hgp TT (by decide)
          clear hgp TT HTY HFZ HCK HC1 HPT HW9 HO9 A10 A11 A11' Z11 Y10 Y11 G10
          go_region
          all_goals
            generalize ((((((w11.setCell ⟨tg, I * 6, none⟩ (.int .i64 (taskAt (tasksOf C 0) I).kind)).setCell ⟨tg, I * 6 + 1, none⟩ (.int .i64 (taskAt (tasksOf C 0) I).period)).setCell ⟨tg, I * 6 + 2, none⟩ (.int .i64 (taskAt (tasksOf C 0) I).deadline)).setCell ⟨tg, I * 6 + 3, none⟩ (.int .i64 (taskAt (tasksOf C 0) I).clow)).setCell ⟨tg, I * 6 + 4, none⟩ (.int .i64 (min (taskAt (tasksOf C 0) I).deadline ((taskAt (tasksOf C 0) I).chigh + mm)))).setCell ⟨tg, I * 6 + 5, none⟩ (.int .i64 (taskAt (tasksOf C 0) I).prio)) = w12 at *
            clear y2 q1 z0 z1 z2 z3 z4 z5 t0 t1 t2 t3 t4 t5 f0 f1 f2 f3 f4 f5
            have e0 : w12.cell? ⟨Y, 0, none⟩ = some (.int .i64 C.frame) := blk_cell Y12.out 0
            have e1 : w12.cell? ⟨Y, 1, none⟩ = some (.int .i64 C.quiet) := blk_cell Y12.out 1
            have e2 : w12.cell? ⟨Y, 2, none⟩ = some (.slice (some ⟨g2, 0, none⟩) n0 c2) := blk_cell Y12.out 2
            have e3 : w12.cell? ⟨Y, 3, none⟩ = some (.slice wa2 (j + 1) wc2) := blk_cell Y12.out 3
            have e4 : w12.cell? ⟨Y, 4, none⟩ = some (.slice oa2 n2 oc2) := blk_cell Y12.out 4
            have XR2 := hide (fun W (hg : w12.grownBy W none) => XR.out base2 (upC C I (min (taskAt (tasksOf C 0) I).deadline ((taskAt (tasksOf C 0) I).chigh + mm))) _ W (grownBy_trans G12.out hg) (CF12.out.grown hg))
            generalize reE (upC C I (min (taskAt (tasksOf C 0) I).deadline ((taskAt (tasksOf C 0) I).chigh + mm))) 0 I = re3 at *
            generalize reV (upC C I (min (taskAt (tasksOf C 0) I).deadline ((taskAt (tasksOf C 0) I).chigh + mm))) 0 I = rv3 at *
            go_wp2_with (go_at_call 10; refine (XR2.out _ (grownBy_draws _ 1 none)).mono ?_; rintro e w14 ⟨rfl, hg⟩; have G14 := hide (grownBy_trans G12.out (grownBy_trans (grownBy_draws w12 1 none) hg)); clear hg)
            have hup := HUP.out
            clear HUP
            rcases hup with rfl | ⟨-, h, -⟩
            · go_wp2_with (go_at_call 13; refine (NUM.out _ _).mono ?_; rintro e w' ⟨rfl, rfl⟩)
              go_ret
              exact ⟨rfl, G14.out⟩
            · exact absurd h (by decide)
        · subst hre
          obtain ⟨rfl, hle⟩ := HLR2.out rfl
          clear HLR2
          have hdl : decide (rv < rv2) = false := decide_eq_false (by omega)
          go_upto_region 14 with (go_at_call 13; refine (NUM.out _ _).mono ?_; rintro e w' ⟨rfl, rfl⟩)
          clear hdl hle
          have k0 : w8.cell? ⟨w.heap.size, 0, none⟩ = some (.int .i64 C.frame) := blk_cell B8.out 0
          have k1 : w8.cell? ⟨w.heap.size, 1, none⟩ = some (.int .i64 C.quiet) := blk_cell B8.out 1
          have k2 : w8.cell? ⟨w.heap.size, 2, none⟩ = some (.slice pa n0 pc) := blk_cell B8.out 2
          have k3 : w8.cell? ⟨w.heap.size, 3, none⟩ = some (.slice wa (j + 1) wc) := blk_cell B8.out 3
          have k4 : w8.cell? ⟨w.heap.size, 4, none⟩ = some (.slice oa n2 oc) := blk_cell B8.out 4
          go_wp2_with (first | fail)
          refine (CC.out _ G8.out).mono ?_; rintro e w9 ⟨c', rfl, ⟨vp2, vw2, vo2, rfl, hp2, hwn2, ho2⟩, hg⟩
          have G9 := hide (grownBy_trans G8.out hg)
          have HBA2 := hide (show w.heap.size ≤ w8.heap.size from G8.out.size)
          rw [HN1.out] at hwn2
          rw [HN2.out] at ho2
          obtain ⟨wa2, wc2, rfl⟩ := own_form hwn2
          obtain ⟨oa2, oc2, rfl⟩ := own_form ho2
          obtain ⟨g2, c2, tg, tc, rfl, htb, HC1, HCK, HFZ, HTY, HPT⟩ := cd_up hp2 (show 0 < C.parts.length from hP) (I := I) hI
          rw [HN0.out]
          have HW9 := hide hwn2
          have HO9 := hide ho2
          clear hg hp2 hwn2 ho2 k0 k1 k2 k3 k4 B8 G8
          generalize w8.heap.size = base2 at *
          have hIt : I < (partAt C.parts 0).tasks.length := hI
          have hP0n : 0 < n0 := by rw [← HN0.out]; exact hP
          have hup0 := HUR.out (min (taskAt (tasksOf C 0) I).deadline ((taskAt (tasksOf C 0) I).chigh + mm)) (by omega) (by omega)
          have HUP := hide hup0
          clear hup0
          go_upto_region 15 with fail
          have A10 := hide (World.grownBy_alloc w9 (.cells #[.int .i64 C.frame, .int .i64 C.quiet, .slice (some ⟨g2, 0, none⟩) n0 c2, .slice wa2 (j + 1) wc2, .slice oa2 n2 oc2] 26) none)
          have Y10 := hide (box_at9 w9 (.cells #[.int .i64 C.frame, .int .i64 C.quiet, .slice (some ⟨g2, 0, none⟩) n0 c2, .slice wa2 (j + 1) wc2, .slice oa2 n2 oc2] 26))
          generalize w9.alloc (.cells #[.int .i64 C.frame, .int .i64 C.quiet, .slice (some ⟨g2, 0, none⟩) n0 c2, .slice wa2 (j + 1) wc2, .slice oa2 n2 oc2] 26) = w10 at *
          generalize w9.heap.size = Y at *
          have G10 := hide (grownBy_trans G9.out A10.out)
          have y2 : w10.cell? ⟨Y, 2, none⟩ = some (.slice (some ⟨g2, 0, none⟩) n0 c2) := blk_cell Y10.out 2
          have q1 := HC1.out w10 A10.out
          have t0 : w10.cell? ⟨tg, I * 6, none⟩ = some (.int .i64 (taskAt (tasksOf C 0) I).kind) := HCK.out w10 A10.out 0 _ rfl
          have t1 : w10.cell? ⟨tg, I * 6 + 1, none⟩ = some (.int .i64 (taskAt (tasksOf C 0) I).period) := HCK.out w10 A10.out 1 _ rfl
          have t2 : w10.cell? ⟨tg, I * 6 + 2, none⟩ = some (.int .i64 (taskAt (tasksOf C 0) I).deadline) := HCK.out w10 A10.out 2 _ rfl
          have t3 : w10.cell? ⟨tg, I * 6 + 3, none⟩ = some (.int .i64 (taskAt (tasksOf C 0) I).clow) := HCK.out w10 A10.out 3 _ rfl
          have t4 : w10.cell? ⟨tg, I * 6 + 4, none⟩ = some (.int .i64 (taskAt (tasksOf C 0) I).chigh) := HCK.out w10 A10.out 4 _ rfl
          have t5 : w10.cell? ⟨tg, I * 6 + 5, none⟩ = some (.int .i64 (taskAt (tasksOf C 0) I).prio) := HCK.out w10 A10.out 5 _ rfl
          have hlt2 : (partAt C.parts 0).tasks.length ≤ 9223372036854775807 := by have := HFI.out.per 0 hP; omega
          have HTN : Hid ((tasksOf C 0).length = (partAt C.parts 0).tasks.length) := rfl
          go_upto_region 19 with fail
          clear y2 q1 t0 t1 t2 t3 t4 t5
          have A11 := hide (grownBy_trans A10.out (World.grownBy_alloc w10 (.cells #[.int .i64 (taskAt (tasksOf C 0) I).kind, .int .i64 (taskAt (tasksOf C 0) I).period, .int .i64 (taskAt (tasksOf C 0) I).deadline, .int .i64 (taskAt (tasksOf C 0) I).clow, .int .i64 (min (taskAt (tasksOf C 0) I).deadline ((taskAt (tasksOf C 0) I).chigh + mm)), .int .i64 (taskAt (tasksOf C 0) I).prio] 44) none))
          have A11' := hide (World.grownBy_alloc w10 (.cells #[.int .i64 (taskAt (tasksOf C 0) I).kind, .int .i64 (taskAt (tasksOf C 0) I).period, .int .i64 (taskAt (tasksOf C 0) I).deadline, .int .i64 (taskAt (tasksOf C 0) I).clow, .int .i64 (min (taskAt (tasksOf C 0) I).deadline ((taskAt (tasksOf C 0) I).chigh + mm)), .int .i64 (taskAt (tasksOf C 0) I).prio] 44) none)
          have Z11 := hide (box_at9 w10 (.cells #[.int .i64 (taskAt (tasksOf C 0) I).kind, .int .i64 (taskAt (tasksOf C 0) I).period, .int .i64 (taskAt (tasksOf C 0) I).deadline, .int .i64 (taskAt (tasksOf C 0) I).clow, .int .i64 (min (taskAt (tasksOf C 0) I).deadline ((taskAt (tasksOf C 0) I).chigh + mm)), .int .i64 (taskAt (tasksOf C 0) I).prio] 44))
          generalize w10.alloc (.cells #[.int .i64 (taskAt (tasksOf C 0) I).kind, .int .i64 (taskAt (tasksOf C 0) I).period, .int .i64 (taskAt (tasksOf C 0) I).deadline, .int .i64 (taskAt (tasksOf C 0) I).clow, .int .i64 (min (taskAt (tasksOf C 0) I).deadline ((taskAt (tasksOf C 0) I).chigh + mm)), .int .i64 (taskAt (tasksOf C 0) I).prio] 44) = w11 at *
          generalize w10.heap.size = Z at *
          have G11 := hide (grownBy_trans G10.out A11'.out)
          have Y11 := hide (box_grown Y10.out A11'.out (by simp))
          have y2 : w11.cell? ⟨Y, 2, none⟩ = some (.slice (some ⟨g2, 0, none⟩) n0 c2) := blk_cell Y11.out 2
          have q1 := HC1.out w11 A11.out
          have z0 : w11.cell? ⟨Z, 0, none⟩ = some (.int .i64 (taskAt (tasksOf C 0) I).kind) := blk_cell Z11.out 0
          have z1 : w11.cell? ⟨Z, 1, none⟩ = some (.int .i64 (taskAt (tasksOf C 0) I).period) := blk_cell Z11.out 1
          have z2 : w11.cell? ⟨Z, 2, none⟩ = some (.int .i64 (taskAt (tasksOf C 0) I).deadline) := blk_cell Z11.out 2
          have z3 : w11.cell? ⟨Z, 3, none⟩ = some (.int .i64 (taskAt (tasksOf C 0) I).clow) := blk_cell Z11.out 3
          have z4 : w11.cell? ⟨Z, 4, none⟩ = some (.int .i64 (min (taskAt (tasksOf C 0) I).deadline ((taskAt (tasksOf C 0) I).chigh + mm))) := blk_cell Z11.out 4
          have z5 : w11.cell? ⟨Z, 5, none⟩ = some (.int .i64 (taskAt (tasksOf C 0) I).prio) := blk_cell Z11.out 5
          have t0 : w11.cell? ⟨tg, I * 6, none⟩ = some (.int .i64 (taskAt (tasksOf C 0) I).kind) := HCK.out w11 A11.out 0 _ rfl
          have t1 : w11.cell? ⟨tg, I * 6 + 1, none⟩ = some (.int .i64 (taskAt (tasksOf C 0) I).period) := HCK.out w11 A11.out 1 _ rfl
          have t2 : w11.cell? ⟨tg, I * 6 + 2, none⟩ = some (.int .i64 (taskAt (tasksOf C 0) I).deadline) := HCK.out w11 A11.out 2 _ rfl
          have t3 : w11.cell? ⟨tg, I * 6 + 3, none⟩ = some (.int .i64 (taskAt (tasksOf C 0) I).clow) := HCK.out w11 A11.out 3 _ rfl
          have t4 : w11.cell? ⟨tg, I * 6 + 4, none⟩ = some (.int .i64 (taskAt (tasksOf C 0) I).chigh) := HCK.out w11 A11.out 4 _ rfl
          have t5 : w11.cell? ⟨tg, I * 6 + 5, none⟩ = some (.int .i64 (taskAt (tasksOf C 0) I).prio) := HCK.out w11 A11.out 5 _ rfl
          have f0 := HFZ.out w11 A11.out (I * 6)
          have f1 := HFZ.out w11 A11.out (I * 6 + 1)
          have f2 := HFZ.out w11 A11.out (I * 6 + 2)
          have f3 := HFZ.out w11 A11.out (I * 6 + 3)
          have f4 := HFZ.out w11 A11.out (I * 6 + 4)
          have f5 := HFZ.out w11 A11.out (I * 6 + 5)
          have hgp := put6_grown w11 tg (I * 6) (upT (taskAt (tasksOf C 0) I) (min (taskAt (tasksOf C 0) I).deadline ((taskAt (tasksOf C 0) I).chigh + mm)))
          have TT := HTY.out w11 A11.out
          have Y12 : Hid (((((((w11.setCell ⟨tg, I * 6, none⟩ (.int .i64 (taskAt (tasksOf C 0) I).kind)).setCell ⟨tg, I * 6 + 1, none⟩ (.int .i64 (taskAt (tasksOf C 0) I).period)).setCell ⟨tg, I * 6 + 2, none⟩ (.int .i64 (taskAt (tasksOf C 0) I).deadline)).setCell ⟨tg, I * 6 + 3, none⟩ (.int .i64 (taskAt (tasksOf C 0) I).clow)).setCell ⟨tg, I * 6 + 4, none⟩ (.int .i64 (min (taskAt (tasksOf C 0) I).deadline ((taskAt (tasksOf C 0) I).chigh + mm)))).setCell ⟨tg, I * 6 + 5, none⟩ (.int .i64 (taskAt (tasksOf C 0) I).prio)).heap[Y]? = some (.cells #[.int .i64 C.frame, .int .i64 C.quiet, .slice (some ⟨g2, 0, none⟩) n0 c2, .slice wa2 (j + 1) wc2, .slice oa2 n2 oc2] 26 (0, 0))) := box_type Y11.out hgp TT (by decide)
          have G12 : Hid (w.grownBy ((((((w11.setCell ⟨tg, I * 6, none⟩ (.int .i64 (taskAt (tasksOf C 0) I).kind)).setCell ⟨tg, I * 6 + 1, none⟩ (.int .i64 (taskAt (tasksOf C 0) I).period)).setCell ⟨tg, I * 6 + 2, none⟩ (.int .i64 (taskAt (tasksOf C 0) I).deadline)).setCell ⟨tg, I * 6 + 3, none⟩ (.int .i64 (taskAt (tasksOf C 0) I).clow)).setCell ⟨tg, I * 6 + 4, none⟩ (.int .i64 (min (taskAt (tasksOf C 0) I).deadline ((taskAt (tasksOf C 0) I).chigh + mm)))).setCell ⟨tg, I * 6 + 5, none⟩ (.int .i64 (taskAt (tasksOf C 0) I).prio)) none) := grown_spoil G11.out (by have := HBA2.out; omega) hgp
          rw [HN0.out] at HPT
          have CF12 : Hid (ConfAt base2 ((((((w11.setCell ⟨tg, I * 6, none⟩ (.int .i64 (taskAt (tasksOf C 0) I).kind)).setCell ⟨tg, I * 6 + 1, none⟩ (.int .i64 (taskAt (tasksOf C 0) I).period)).setCell ⟨tg, I * 6 + 2, none⟩ (.int .i64 (taskAt (tasksOf C 0) I).deadline)).setCell ⟨tg, I * 6 + 3, none⟩ (.int .i64 (taskAt (tasksOf C 0) I).clow)).setCell ⟨tg, I * 6 + 4, none⟩ (.int .i64 (min (taskAt (tasksOf C 0) I).deadline ((taskAt (tasksOf C 0) I).chigh + mm)))).setCell ⟨tg, I * 6 + 5, none⟩ (.int .i64 (taskAt (tasksOf C 0) I).prio)) (.agg #[.int .i64 C.frame, .int .i64 C.quiet, .slice (some ⟨g2, 0, none⟩) n0 c2, .slice wa2 (j + 1) wc2, .slice oa2 n2 oc2]) (upC C I (min (taskAt (tasksOf C 0) I).deadline ((taskAt (tasksOf C 0) I).chigh + mm)))) := by
            refine ⟨_, _, _, rfl, HPT.out w11 A11.out (upT (taskAt (tasksOf C 0) I) (min (taskAt (tasksOf C 0) I).deadline ((taskAt (tasksOf C 0) I).chigh + mm))), rowAt_own (S := shW) (e := 47) ?_, rowAt_own (S := shO) (e := 60) ?_⟩
            · show World.ownsRow _ _ _ _ _ C.wins.length _
              rw [HN1.out]
              exact own_type (own_kept HW9.out A11.out) hgp TT (by decide)
            · show World.ownsRow _ _ _ _ _ C.ports.length _
              rw [HN2.out]
              exact own_type (own_kept HO9.out A11.out) hgp TT (by decide)
          clear hgp TT HTY HFZ HCK HC1 HPT HW9 HO9 A10 A11 A11' Z11 Y10 Y11 G10
          go_region
          all_goals
            generalize ((((((w11.setCell ⟨tg, I * 6, none⟩ (.int .i64 (taskAt (tasksOf C 0) I).kind)).setCell ⟨tg, I * 6 + 1, none⟩ (.int .i64 (taskAt (tasksOf C 0) I).period)).setCell ⟨tg, I * 6 + 2, none⟩ (.int .i64 (taskAt (tasksOf C 0) I).deadline)).setCell ⟨tg, I * 6 + 3, none⟩ (.int .i64 (taskAt (tasksOf C 0) I).clow)).setCell ⟨tg, I * 6 + 4, none⟩ (.int .i64 (min (taskAt (tasksOf C 0) I).deadline ((taskAt (tasksOf C 0) I).chigh + mm)))).setCell ⟨tg, I * 6 + 5, none⟩ (.int .i64 (taskAt (tasksOf C 0) I).prio)) = w12 at *
            clear y2 q1 z0 z1 z2 z3 z4 z5 t0 t1 t2 t3 t4 t5 f0 f1 f2 f3 f4 f5
            have e0 : w12.cell? ⟨Y, 0, none⟩ = some (.int .i64 C.frame) := blk_cell Y12.out 0
            have e1 : w12.cell? ⟨Y, 1, none⟩ = some (.int .i64 C.quiet) := blk_cell Y12.out 1
            have e2 : w12.cell? ⟨Y, 2, none⟩ = some (.slice (some ⟨g2, 0, none⟩) n0 c2) := blk_cell Y12.out 2
            have e3 : w12.cell? ⟨Y, 3, none⟩ = some (.slice wa2 (j + 1) wc2) := blk_cell Y12.out 3
            have e4 : w12.cell? ⟨Y, 4, none⟩ = some (.slice oa2 n2 oc2) := blk_cell Y12.out 4
            have XR2 := hide (fun W (hg : w12.grownBy W none) => XR.out base2 (upC C I (min (taskAt (tasksOf C 0) I).deadline ((taskAt (tasksOf C 0) I).chigh + mm))) _ W (grownBy_trans G12.out hg) (CF12.out.grown hg))
            generalize reE (upC C I (min (taskAt (tasksOf C 0) I).deadline ((taskAt (tasksOf C 0) I).chigh + mm))) 0 I = re3 at *
            generalize reV (upC C I (min (taskAt (tasksOf C 0) I).deadline ((taskAt (tasksOf C 0) I).chigh + mm))) 0 I = rv3 at *
            go_wp2_with (go_at_call 10; refine (XR2.out _ (grownBy_draws _ 1 none)).mono ?_; rintro e w14 ⟨rfl, hg⟩; have G14 := hide (grownBy_trans G12.out (grownBy_trans (grownBy_draws w12 1 none) hg)); clear hg)
            have hup := HUP.out
            clear HUP
            rcases hup with rfl | ⟨rfl, -, hge⟩
            · go_wp2_with (go_at_call 13; refine (NUM.out _ _).mono ?_; rintro e w' ⟨rfl, rfl⟩)
              go_ret
              exact ⟨rfl, G14.out⟩
            · have hdg : decide (rv ≤ rv3) = true := decide_eq_true hge
              go_wp2_with (go_at_call 13; refine (NUM.out _ _).mono ?_; rintro e w' ⟨rfl, rfl⟩)
              go_ret
              exact ⟨rfl, G14.out⟩
      · have hdt : decide ((winAt C.wins j).til < C.frame) = false := decide_eq_false htil
        have htf : (winAt C.wins j).til = C.frame := by omega
        go_wp2
        refine wp_region_quiet_in F (by kernel_rfl) (by kernel_rfl) (HR.out _ (drew_grown _)) ?_
        repeat (go_big_quiet_step (fail))
        refine wpQuiet_nil ?_
        intro _ hwq
        obtain ⟨uq, hwq2⟩ := hwq
        subst hwq2
        have I5 := hide (HF.out uq)
        generalize F uq = w5 at *
        have G5 := hide (grownBy_trans G4.out I5.out)
        have D5 := hide (box_grown D4.out I5.out (by simp))
        have B5 := hide (box_grown B4.out I5.out (by simp))
        have HP5 := hide (HP4.out.grown I5.out)
        have HW5 := hide (own_kept HW4.out I5.out)
        have HO5 := hide (own_kept HO4.out I5.out)
        clear u0 u1 u3 HF HR hU D4 B4 HP4 HW4 HO4 G4 I5
        have x3 : w5.cell? ⟨X, 3, none⟩ = some (.slice (some ⟨g, 0, none⟩) (j + 1) c5) := blk_cell D5.out 3
        have x0 : w5.cell? ⟨X, 0, none⟩ = some (.int .i64 C.frame) := blk_cell D5.out 0
        have y1 : w5.cell? ⟨g, j * 3 + 2, none⟩ = some (.int .i64 (winAt C.wins j).part) := own_cell (S := shW) HW5.out HWX.out (i := 2) rfl
        have yf : w5.frozen? ⟨g, j * 3 + 2, none⟩ = false := own_free HW5.out _
        have T5 := hide (type_own HW5.out)
        have hgs := grownBy_set w5 g (j * 3 + 2) (.int .i64 0)
        have G7 := hide (grown_spoil G5.out (by have := HBA.out; omega) hgs)
        have D7 := hide (box_type D5.out hgs T5.out (by decide))
        have B7 := hide (box_type B5.out hgs T5.out (by decide))
        have HP7 := hide (HP5.out.type hgs T5.out (by decide) (by decide) (by decide))
        have HO7 := hide (own_type HO5.out hgs T5.out (by decide))
        have HW7 := hide ((own_win HW5.out HWX.out).2 0)
        clear hgs
        go_upto_region 11 with fail
        generalize w5.setCell ⟨g, j * 3 + 2, none⟩ (.int .i64 0) = w7 at *
        clear x3 x0 y1 yf T5 G5 D5 B5 HP5 HO5 HW5
        have HW7' : Hid (w7.ownsRow base 47 3 (.slice (some ⟨g, 0, none⟩) (j + 1) c5) (j + 1) (shW.cells (C.wins.set j ⟨(winAt C.wins j).fr, C.frame, 0⟩))) := by
          have := HW7.out
          rw [htf] at this
          exact this
        clear HW7
        have CF7 : Hid (ConfAt base w7 (.agg #[.int .i64 C.frame, .int .i64 C.quiet, .slice pa1 pn1 pc1, .slice (some ⟨g, 0, none⟩) (j + 1) c5, .slice oa1 n2 oc1]) (longC C)) := by
          rw [HLC.out]
          refine ⟨_, _, _, rfl, HP7.out.at, rowAt_own (S := shW) (e := 47) ?_, rowAt_own (S := shO) (e := 60) ?_⟩
          · show World.ownsRow _ _ _ _ _ (C.wins.set j _).length _
            rw [HSL.out]
            exact HW7'.out
          · show World.ownsRow _ _ _ _ _ C.ports.length _
            rw [HN2.out]
            exact HO7.out
        have x0 : w7.cell? ⟨X, 0, none⟩ = some (.int .i64 C.frame) := blk_cell D7.out 0
        have x1 : w7.cell? ⟨X, 1, none⟩ = some (.int .i64 C.quiet) := blk_cell D7.out 1
        have x2' : w7.cell? ⟨X, 2, none⟩ = some (.slice pa1 pn1 pc1) := blk_cell D7.out 2
        have x3 : w7.cell? ⟨X, 3, none⟩ = some (.slice (some ⟨g, 0, none⟩) (j + 1) c5) := blk_cell D7.out 3
        have x4 : w7.cell? ⟨X, 4, none⟩ = some (.slice oa1 n2 oc1) := blk_cell D7.out 4
        go_wp2_with (first | fail)
        refine (XR.out base (longC C) _ _ G7.out CF7.out).mono ?_; rintro e w8 ⟨rfl, hg⟩
        have G8 := hide (grownBy_trans G7.out hg)
        have B8 := hide (box_grown B7.out hg (by simp))
        clear hg x0 x1 x2' x3 x4 CF7 D7 B7 HP7 HO7 HW7' G7
        generalize reE (longC C) 0 I = re2 at *
        generalize reV (longC C) 0 I = rv2 at *
        obtain hre | hre := HTW2.out
        · subst hre
          clear HLR2
          go_upto_region 14 with (go_at_call 13; refine (NUM.out _ _).mono ?_; rintro e w' ⟨rfl, rfl⟩)
          have k0 : w8.cell? ⟨w.heap.size, 0, none⟩ = some (.int .i64 C.frame) := blk_cell B8.out 0
          have k1 : w8.cell? ⟨w.heap.size, 1, none⟩ = some (.int .i64 C.quiet) := blk_cell B8.out 1
          have k2 : w8.cell? ⟨w.heap.size, 2, none⟩ = some (.slice pa n0 pc) := blk_cell B8.out 2
          have k3 : w8.cell? ⟨w.heap.size, 3, none⟩ = some (.slice wa (j + 1) wc) := blk_cell B8.out 3
          have k4 : w8.cell? ⟨w.heap.size, 4, none⟩ = some (.slice oa n2 oc) := blk_cell B8.out 4
          go_wp2_with (first | fail)
          refine (CC.out _ G8.out).mono ?_; rintro e w9 ⟨c', rfl, ⟨vp2, vw2, vo2, rfl, hp2, hwn2, ho2⟩, hg⟩
          have G9 := hide (grownBy_trans G8.out hg)
          have HBA2 := hide (show w.heap.size ≤ w8.heap.size from G8.out.size)
          rw [HN1.out] at hwn2
          rw [HN2.out] at ho2
          obtain ⟨wa2, wc2, rfl⟩ := own_form hwn2
          obtain ⟨oa2, oc2, rfl⟩ := own_form ho2
          obtain ⟨g2, c2, tg, tc, rfl, htb, HC1, HCK, HFZ, HTY, HPT⟩ := cd_up hp2 (show 0 < C.parts.length from hP) (I := I) hI
          rw [HN0.out]
          have HW9 := hide hwn2
          have HO9 := hide ho2
          clear hg hp2 hwn2 ho2 k0 k1 k2 k3 k4 B8 G8
          generalize w8.heap.size = base2 at *
          have hIt : I < (partAt C.parts 0).tasks.length := hI
          have hP0n : 0 < n0 := by rw [← HN0.out]; exact hP
          have hup0 := HUR.out (min (taskAt (tasksOf C 0) I).deadline ((taskAt (tasksOf C 0) I).chigh + mm)) (by omega) (by omega)
          have HUP := hide hup0
          clear hup0
          go_upto_region 15 with fail
          have A10 := hide (World.grownBy_alloc w9 (.cells #[.int .i64 C.frame, .int .i64 C.quiet, .slice (some ⟨g2, 0, none⟩) n0 c2, .slice wa2 (j + 1) wc2, .slice oa2 n2 oc2] 26) none)
          have Y10 := hide (box_at9 w9 (.cells #[.int .i64 C.frame, .int .i64 C.quiet, .slice (some ⟨g2, 0, none⟩) n0 c2, .slice wa2 (j + 1) wc2, .slice oa2 n2 oc2] 26))
          generalize w9.alloc (.cells #[.int .i64 C.frame, .int .i64 C.quiet, .slice (some ⟨g2, 0, none⟩) n0 c2, .slice wa2 (j + 1) wc2, .slice oa2 n2 oc2] 26) = w10 at *
          generalize w9.heap.size = Y at *
          have G10 := hide (grownBy_trans G9.out A10.out)
          have y2 : w10.cell? ⟨Y, 2, none⟩ = some (.slice (some ⟨g2, 0, none⟩) n0 c2) := blk_cell Y10.out 2
          have q1 := HC1.out w10 A10.out
          have t0 : w10.cell? ⟨tg, I * 6, none⟩ = some (.int .i64 (taskAt (tasksOf C 0) I).kind) := HCK.out w10 A10.out 0 _ rfl
          have t1 : w10.cell? ⟨tg, I * 6 + 1, none⟩ = some (.int .i64 (taskAt (tasksOf C 0) I).period) := HCK.out w10 A10.out 1 _ rfl
          have t2 : w10.cell? ⟨tg, I * 6 + 2, none⟩ = some (.int .i64 (taskAt (tasksOf C 0) I).deadline) := HCK.out w10 A10.out 2 _ rfl
          have t3 : w10.cell? ⟨tg, I * 6 + 3, none⟩ = some (.int .i64 (taskAt (tasksOf C 0) I).clow) := HCK.out w10 A10.out 3 _ rfl
          have t4 : w10.cell? ⟨tg, I * 6 + 4, none⟩ = some (.int .i64 (taskAt (tasksOf C 0) I).chigh) := HCK.out w10 A10.out 4 _ rfl
          have t5 : w10.cell? ⟨tg, I * 6 + 5, none⟩ = some (.int .i64 (taskAt (tasksOf C 0) I).prio) := HCK.out w10 A10.out 5 _ rfl
          have hlt2 : (partAt C.parts 0).tasks.length ≤ 9223372036854775807 := by have := HFI.out.per 0 hP; omega
          have HTN : Hid ((tasksOf C 0).length = (partAt C.parts 0).tasks.length) := rfl
          go_upto_region 19 with fail
          clear y2 q1 t0 t1 t2 t3 t4 t5
          have A11 := hide (grownBy_trans A10.out (World.grownBy_alloc w10 (.cells #[.int .i64 (taskAt (tasksOf C 0) I).kind, .int .i64 (taskAt (tasksOf C 0) I).period, .int .i64 (taskAt (tasksOf C 0) I).deadline, .int .i64 (taskAt (tasksOf C 0) I).clow, .int .i64 (min (taskAt (tasksOf C 0) I).deadline ((taskAt (tasksOf C 0) I).chigh + mm)), .int .i64 (taskAt (tasksOf C 0) I).prio] 44) none))
          have A11' := hide (World.grownBy_alloc w10 (.cells #[.int .i64 (taskAt (tasksOf C 0) I).kind, .int .i64 (taskAt (tasksOf C 0) I).period, .int .i64 (taskAt (tasksOf C 0) I).deadline, .int .i64 (taskAt (tasksOf C 0) I).clow, .int .i64 (min (taskAt (tasksOf C 0) I).deadline ((taskAt (tasksOf C 0) I).chigh + mm)), .int .i64 (taskAt (tasksOf C 0) I).prio] 44) none)
          have Z11 := hide (box_at9 w10 (.cells #[.int .i64 (taskAt (tasksOf C 0) I).kind, .int .i64 (taskAt (tasksOf C 0) I).period, .int .i64 (taskAt (tasksOf C 0) I).deadline, .int .i64 (taskAt (tasksOf C 0) I).clow, .int .i64 (min (taskAt (tasksOf C 0) I).deadline ((taskAt (tasksOf C 0) I).chigh + mm)), .int .i64 (taskAt (tasksOf C 0) I).prio] 44))
          generalize w10.alloc (.cells #[.int .i64 (taskAt (tasksOf C 0) I).kind, .int .i64 (taskAt (tasksOf C 0) I).period, .int .i64 (taskAt (tasksOf C 0) I).deadline, .int .i64 (taskAt (tasksOf C 0) I).clow, .int .i64 (min (taskAt (tasksOf C 0) I).deadline ((taskAt (tasksOf C 0) I).chigh + mm)), .int .i64 (taskAt (tasksOf C 0) I).prio] 44) = w11 at *
          generalize w10.heap.size = Z at *
          have G11 := hide (grownBy_trans G10.out A11'.out)
          have Y11 := hide (box_grown Y10.out A11'.out (by simp))
          have y2 : w11.cell? ⟨Y, 2, none⟩ = some (.slice (some ⟨g2, 0, none⟩) n0 c2) := blk_cell Y11.out 2
          have q1 := HC1.out w11 A11.out
          have z0 : w11.cell? ⟨Z, 0, none⟩ = some (.int .i64 (taskAt (tasksOf C 0) I).kind) := blk_cell Z11.out 0
          have z1 : w11.cell? ⟨Z, 1, none⟩ = some (.int .i64 (taskAt (tasksOf C 0) I).period) := blk_cell Z11.out 1
          have z2 : w11.cell? ⟨Z, 2, none⟩ = some (.int .i64 (taskAt (tasksOf C 0) I).deadline) := blk_cell Z11.out 2
          have z3 : w11.cell? ⟨Z, 3, none⟩ = some (.int .i64 (taskAt (tasksOf C 0) I).clow) := blk_cell Z11.out 3
          have z4 : w11.cell? ⟨Z, 4, none⟩ = some (.int .i64 (min (taskAt (tasksOf C 0) I).deadline ((taskAt (tasksOf C 0) I).chigh + mm))) := blk_cell Z11.out 4
          have z5 : w11.cell? ⟨Z, 5, none⟩ = some (.int .i64 (taskAt (tasksOf C 0) I).prio) := blk_cell Z11.out 5
          have t0 : w11.cell? ⟨tg, I * 6, none⟩ = some (.int .i64 (taskAt (tasksOf C 0) I).kind) := HCK.out w11 A11.out 0 _ rfl
          have t1 : w11.cell? ⟨tg, I * 6 + 1, none⟩ = some (.int .i64 (taskAt (tasksOf C 0) I).period) := HCK.out w11 A11.out 1 _ rfl
          have t2 : w11.cell? ⟨tg, I * 6 + 2, none⟩ = some (.int .i64 (taskAt (tasksOf C 0) I).deadline) := HCK.out w11 A11.out 2 _ rfl
          have t3 : w11.cell? ⟨tg, I * 6 + 3, none⟩ = some (.int .i64 (taskAt (tasksOf C 0) I).clow) := HCK.out w11 A11.out 3 _ rfl
          have t4 : w11.cell? ⟨tg, I * 6 + 4, none⟩ = some (.int .i64 (taskAt (tasksOf C 0) I).chigh) := HCK.out w11 A11.out 4 _ rfl
          have t5 : w11.cell? ⟨tg, I * 6 + 5, none⟩ = some (.int .i64 (taskAt (tasksOf C 0) I).prio) := HCK.out w11 A11.out 5 _ rfl
          have f0 := HFZ.out w11 A11.out (I * 6)
          have f1 := HFZ.out w11 A11.out (I * 6 + 1)
          have f2 := HFZ.out w11 A11.out (I * 6 + 2)
          have f3 := HFZ.out w11 A11.out (I * 6 + 3)
          have f4 := HFZ.out w11 A11.out (I * 6 + 4)
          have f5 := HFZ.out w11 A11.out (I * 6 + 5)
          have hgp := put6_grown w11 tg (I * 6) (upT (taskAt (tasksOf C 0) I) (min (taskAt (tasksOf C 0) I).deadline ((taskAt (tasksOf C 0) I).chigh + mm)))
          have TT := HTY.out w11 A11.out
          have Y12 : Hid (((((((w11.setCell ⟨tg, I * 6, none⟩ (.int .i64 (taskAt (tasksOf C 0) I).kind)).setCell ⟨tg, I * 6 + 1, none⟩ (.int .i64 (taskAt (tasksOf C 0) I).period)).setCell ⟨tg, I * 6 + 2, none⟩ (.int .i64 (taskAt (tasksOf C 0) I).deadline)).setCell ⟨tg, I * 6 + 3, none⟩ (.int .i64 (taskAt (tasksOf C 0) I).clow)).setCell ⟨tg, I * 6 + 4, none⟩ (.int .i64 (min (taskAt (tasksOf C 0) I).deadline ((taskAt (tasksOf C 0) I).chigh + mm)))).setCell ⟨tg, I * 6 + 5, none⟩ (.int .i64 (taskAt (tasksOf C 0) I).prio)).heap[Y]? = some (.cells #[.int .i64 C.frame, .int .i64 C.quiet, .slice (some ⟨g2, 0, none⟩) n0 c2, .slice wa2 (j + 1) wc2, .slice oa2 n2 oc2] 26 (0, 0))) := box_type Y11.out hgp TT (by decide)
          have G12 : Hid (w.grownBy ((((((w11.setCell ⟨tg, I * 6, none⟩ (.int .i64 (taskAt (tasksOf C 0) I).kind)).setCell ⟨tg, I * 6 + 1, none⟩ (.int .i64 (taskAt (tasksOf C 0) I).period)).setCell ⟨tg, I * 6 + 2, none⟩ (.int .i64 (taskAt (tasksOf C 0) I).deadline)).setCell ⟨tg, I * 6 + 3, none⟩ (.int .i64 (taskAt (tasksOf C 0) I).clow)).setCell ⟨tg, I * 6 + 4, none⟩ (.int .i64 (min (taskAt (tasksOf C 0) I).deadline ((taskAt (tasksOf C 0) I).chigh + mm)))).setCell ⟨tg, I * 6 + 5, none⟩ (.int .i64 (taskAt (tasksOf C 0) I).prio)) none) := grown_spoil G11.out (by have := HBA2.out; omega) hgp
          rw [HN0.out] at HPT
          have CF12 : Hid (ConfAt base2 ((((((w11.setCell ⟨tg, I * 6, none⟩ (.int .i64 (taskAt (tasksOf C 0) I).kind)).setCell ⟨tg, I * 6 + 1, none⟩ (.int .i64 (taskAt (tasksOf C 0) I).period)).setCell ⟨tg, I * 6 + 2, none⟩ (.int .i64 (taskAt (tasksOf C 0) I).deadline)).setCell ⟨tg, I * 6 + 3, none⟩ (.int .i64 (taskAt (tasksOf C 0) I).clow)).setCell ⟨tg, I * 6 + 4, none⟩ (.int .i64 (min (taskAt (tasksOf C 0) I).deadline ((taskAt (tasksOf C 0) I).chigh + mm)))).setCell ⟨tg, I * 6 + 5, none⟩ (.int .i64 (taskAt (tasksOf C 0) I).prio)) (.agg #[.int .i64 C.frame, .int .i64 C.quiet, .slice (some ⟨g2, 0, none⟩) n0 c2, .slice wa2 (j + 1) wc2, .slice oa2 n2 oc2]) (upC C I (min (taskAt (tasksOf C 0) I).deadline ((taskAt (tasksOf C 0) I).chigh + mm)))) := by
            refine ⟨_, _, _, rfl, HPT.out w11 A11.out (upT (taskAt (tasksOf C 0) I) (min (taskAt (tasksOf C 0) I).deadline ((taskAt (tasksOf C 0) I).chigh + mm))), rowAt_own (S := shW) (e := 47) ?_, rowAt_own (S := shO) (e := 60) ?_⟩
            · show World.ownsRow _ _ _ _ _ C.wins.length _
              rw [HN1.out]
              exact own_type (own_kept HW9.out A11.out) hgp TT (by decide)
            · show World.ownsRow _ _ _ _ _ C.ports.length _
              rw [HN2.out]
              exact own_type (own_kept HO9.out A11.out) hgp TT (by decide)
          clear hgp TT HTY HFZ HCK HC1 HPT HW9 HO9 A10 A11 A11' Z11 Y10 Y11 G10
          go_region
          all_goals
            generalize ((((((w11.setCell ⟨tg, I * 6, none⟩ (.int .i64 (taskAt (tasksOf C 0) I).kind)).setCell ⟨tg, I * 6 + 1, none⟩ (.int .i64 (taskAt (tasksOf C 0) I).period)).setCell ⟨tg, I * 6 + 2, none⟩ (.int .i64 (taskAt (tasksOf C 0) I).deadline)).setCell ⟨tg, I * 6 + 3, none⟩ (.int .i64 (taskAt (tasksOf C 0) I).clow)).setCell ⟨tg, I * 6 + 4, none⟩ (.int .i64 (min (taskAt (tasksOf C 0) I).deadline ((taskAt (tasksOf C 0) I).chigh + mm)))).setCell ⟨tg, I * 6 + 5, none⟩ (.int .i64 (taskAt (tasksOf C 0) I).prio)) = w12 at *
            clear y2 q1 z0 z1 z2 z3 z4 z5 t0 t1 t2 t3 t4 t5 f0 f1 f2 f3 f4 f5
            have e0 : w12.cell? ⟨Y, 0, none⟩ = some (.int .i64 C.frame) := blk_cell Y12.out 0
            have e1 : w12.cell? ⟨Y, 1, none⟩ = some (.int .i64 C.quiet) := blk_cell Y12.out 1
            have e2 : w12.cell? ⟨Y, 2, none⟩ = some (.slice (some ⟨g2, 0, none⟩) n0 c2) := blk_cell Y12.out 2
            have e3 : w12.cell? ⟨Y, 3, none⟩ = some (.slice wa2 (j + 1) wc2) := blk_cell Y12.out 3
            have e4 : w12.cell? ⟨Y, 4, none⟩ = some (.slice oa2 n2 oc2) := blk_cell Y12.out 4
            have XR2 := hide (fun W (hg : w12.grownBy W none) => XR.out base2 (upC C I (min (taskAt (tasksOf C 0) I).deadline ((taskAt (tasksOf C 0) I).chigh + mm))) _ W (grownBy_trans G12.out hg) (CF12.out.grown hg))
            generalize reE (upC C I (min (taskAt (tasksOf C 0) I).deadline ((taskAt (tasksOf C 0) I).chigh + mm))) 0 I = re3 at *
            generalize reV (upC C I (min (taskAt (tasksOf C 0) I).deadline ((taskAt (tasksOf C 0) I).chigh + mm))) 0 I = rv3 at *
            go_wp2_with (go_at_call 10; refine (XR2.out _ (grownBy_draws _ 1 none)).mono ?_; rintro e w14 ⟨rfl, hg⟩; have G14 := hide (grownBy_trans G12.out (grownBy_trans (grownBy_draws w12 1 none) hg)); clear hg)
            have hup := HUP.out
            clear HUP
            rcases hup with rfl | ⟨-, h, -⟩
            · go_wp2_with (go_at_call 13; refine (NUM.out _ _).mono ?_; rintro e w' ⟨rfl, rfl⟩)
              go_ret
              exact ⟨rfl, G14.out⟩
            · exact absurd h (by decide)
        · subst hre
          obtain ⟨rfl, hle⟩ := HLR2.out rfl
          clear HLR2
          have hdl : decide (rv < rv2) = false := decide_eq_false (by omega)
          go_upto_region 14 with (go_at_call 13; refine (NUM.out _ _).mono ?_; rintro e w' ⟨rfl, rfl⟩)
          clear hdl hle
          have k0 : w8.cell? ⟨w.heap.size, 0, none⟩ = some (.int .i64 C.frame) := blk_cell B8.out 0
          have k1 : w8.cell? ⟨w.heap.size, 1, none⟩ = some (.int .i64 C.quiet) := blk_cell B8.out 1
          have k2 : w8.cell? ⟨w.heap.size, 2, none⟩ = some (.slice pa n0 pc) := blk_cell B8.out 2
          have k3 : w8.cell? ⟨w.heap.size, 3, none⟩ = some (.slice wa (j + 1) wc) := blk_cell B8.out 3
          have k4 : w8.cell? ⟨w.heap.size, 4, none⟩ = some (.slice oa n2 oc) := blk_cell B8.out 4
          go_wp2_with (first | fail)
          refine (CC.out _ G8.out).mono ?_; rintro e w9 ⟨c', rfl, ⟨vp2, vw2, vo2, rfl, hp2, hwn2, ho2⟩, hg⟩
          have G9 := hide (grownBy_trans G8.out hg)
          have HBA2 := hide (show w.heap.size ≤ w8.heap.size from G8.out.size)
          rw [HN1.out] at hwn2
          rw [HN2.out] at ho2
          obtain ⟨wa2, wc2, rfl⟩ := own_form hwn2
          obtain ⟨oa2, oc2, rfl⟩ := own_form ho2
          obtain ⟨g2, c2, tg, tc, rfl, htb, HC1, HCK, HFZ, HTY, HPT⟩ := cd_up hp2 (show 0 < C.parts.length from hP) (I := I) hI
          rw [HN0.out]
          have HW9 := hide hwn2
          have HO9 := hide ho2
          clear hg hp2 hwn2 ho2 k0 k1 k2 k3 k4 B8 G8
          generalize w8.heap.size = base2 at *
          have hIt : I < (partAt C.parts 0).tasks.length := hI
          have hP0n : 0 < n0 := by rw [← HN0.out]; exact hP
          have hup0 := HUR.out (min (taskAt (tasksOf C 0) I).deadline ((taskAt (tasksOf C 0) I).chigh + mm)) (by omega) (by omega)
          have HUP := hide hup0
          clear hup0
          go_upto_region 15 with fail
          have A10 := hide (World.grownBy_alloc w9 (.cells #[.int .i64 C.frame, .int .i64 C.quiet, .slice (some ⟨g2, 0, none⟩) n0 c2, .slice wa2 (j + 1) wc2, .slice oa2 n2 oc2] 26) none)
          have Y10 := hide (box_at9 w9 (.cells #[.int .i64 C.frame, .int .i64 C.quiet, .slice (some ⟨g2, 0, none⟩) n0 c2, .slice wa2 (j + 1) wc2, .slice oa2 n2 oc2] 26))
          generalize w9.alloc (.cells #[.int .i64 C.frame, .int .i64 C.quiet, .slice (some ⟨g2, 0, none⟩) n0 c2, .slice wa2 (j + 1) wc2, .slice oa2 n2 oc2] 26) = w10 at *
          generalize w9.heap.size = Y at *
          have G10 := hide (grownBy_trans G9.out A10.out)
          have y2 : w10.cell? ⟨Y, 2, none⟩ = some (.slice (some ⟨g2, 0, none⟩) n0 c2) := blk_cell Y10.out 2
          have q1 := HC1.out w10 A10.out
          have t0 : w10.cell? ⟨tg, I * 6, none⟩ = some (.int .i64 (taskAt (tasksOf C 0) I).kind) := HCK.out w10 A10.out 0 _ rfl
          have t1 : w10.cell? ⟨tg, I * 6 + 1, none⟩ = some (.int .i64 (taskAt (tasksOf C 0) I).period) := HCK.out w10 A10.out 1 _ rfl
          have t2 : w10.cell? ⟨tg, I * 6 + 2, none⟩ = some (.int .i64 (taskAt (tasksOf C 0) I).deadline) := HCK.out w10 A10.out 2 _ rfl
          have t3 : w10.cell? ⟨tg, I * 6 + 3, none⟩ = some (.int .i64 (taskAt (tasksOf C 0) I).clow) := HCK.out w10 A10.out 3 _ rfl
          have t4 : w10.cell? ⟨tg, I * 6 + 4, none⟩ = some (.int .i64 (taskAt (tasksOf C 0) I).chigh) := HCK.out w10 A10.out 4 _ rfl
          have t5 : w10.cell? ⟨tg, I * 6 + 5, none⟩ = some (.int .i64 (taskAt (tasksOf C 0) I).prio) := HCK.out w10 A10.out 5 _ rfl
          have hlt2 : (partAt C.parts 0).tasks.length ≤ 9223372036854775807 := by have := HFI.out.per 0 hP; omega
          have HTN : Hid ((tasksOf C 0).length = (partAt C.parts 0).tasks.length) := rfl
          go_upto_region 19 with fail
          clear y2 q1 t0 t1 t2 t3 t4 t5
          have A11 := hide (grownBy_trans A10.out (World.grownBy_alloc w10 (.cells #[.int .i64 (taskAt (tasksOf C 0) I).kind, .int .i64 (taskAt (tasksOf C 0) I).period, .int .i64 (taskAt (tasksOf C 0) I).deadline, .int .i64 (taskAt (tasksOf C 0) I).clow, .int .i64 (min (taskAt (tasksOf C 0) I).deadline ((taskAt (tasksOf C 0) I).chigh + mm)), .int .i64 (taskAt (tasksOf C 0) I).prio] 44) none))
          have A11' := hide (World.grownBy_alloc w10 (.cells #[.int .i64 (taskAt (tasksOf C 0) I).kind, .int .i64 (taskAt (tasksOf C 0) I).period, .int .i64 (taskAt (tasksOf C 0) I).deadline, .int .i64 (taskAt (tasksOf C 0) I).clow, .int .i64 (min (taskAt (tasksOf C 0) I).deadline ((taskAt (tasksOf C 0) I).chigh + mm)), .int .i64 (taskAt (tasksOf C 0) I).prio] 44) none)
          have Z11 := hide (box_at9 w10 (.cells #[.int .i64 (taskAt (tasksOf C 0) I).kind, .int .i64 (taskAt (tasksOf C 0) I).period, .int .i64 (taskAt (tasksOf C 0) I).deadline, .int .i64 (taskAt (tasksOf C 0) I).clow, .int .i64 (min (taskAt (tasksOf C 0) I).deadline ((taskAt (tasksOf C 0) I).chigh + mm)), .int .i64 (taskAt (tasksOf C 0) I).prio] 44))
          generalize w10.alloc (.cells #[.int .i64 (taskAt (tasksOf C 0) I).kind, .int .i64 (taskAt (tasksOf C 0) I).period, .int .i64 (taskAt (tasksOf C 0) I).deadline, .int .i64 (taskAt (tasksOf C 0) I).clow, .int .i64 (min (taskAt (tasksOf C 0) I).deadline ((taskAt (tasksOf C 0) I).chigh + mm)), .int .i64 (taskAt (tasksOf C 0) I).prio] 44) = w11 at *
          generalize w10.heap.size = Z at *
          have G11 := hide (grownBy_trans G10.out A11'.out)
          have Y11 := hide (box_grown Y10.out A11'.out (by simp))
          have y2 : w11.cell? ⟨Y, 2, none⟩ = some (.slice (some ⟨g2, 0, none⟩) n0 c2) := blk_cell Y11.out 2
          have q1 := HC1.out w11 A11.out
          have z0 : w11.cell? ⟨Z, 0, none⟩ = some (.int .i64 (taskAt (tasksOf C 0) I).kind) := blk_cell Z11.out 0
          have z1 : w11.cell? ⟨Z, 1, none⟩ = some (.int .i64 (taskAt (tasksOf C 0) I).period) := blk_cell Z11.out 1
          have z2 : w11.cell? ⟨Z, 2, none⟩ = some (.int .i64 (taskAt (tasksOf C 0) I).deadline) := blk_cell Z11.out 2
          have z3 : w11.cell? ⟨Z, 3, none⟩ = some (.int .i64 (taskAt (tasksOf C 0) I).clow) := blk_cell Z11.out 3
          have z4 : w11.cell? ⟨Z, 4, none⟩ = some (.int .i64 (min (taskAt (tasksOf C 0) I).deadline ((taskAt (tasksOf C 0) I).chigh + mm))) := blk_cell Z11.out 4
          have z5 : w11.cell? ⟨Z, 5, none⟩ = some (.int .i64 (taskAt (tasksOf C 0) I).prio) := blk_cell Z11.out 5
          have t0 : w11.cell? ⟨tg, I * 6, none⟩ = some (.int .i64 (taskAt (tasksOf C 0) I).kind) := HCK.out w11 A11.out 0 _ rfl
          have t1 : w11.cell? ⟨tg, I * 6 + 1, none⟩ = some (.int .i64 (taskAt (tasksOf C 0) I).period) := HCK.out w11 A11.out 1 _ rfl
          have t2 : w11.cell? ⟨tg, I * 6 + 2, none⟩ = some (.int .i64 (taskAt (tasksOf C 0) I).deadline) := HCK.out w11 A11.out 2 _ rfl
          have t3 : w11.cell? ⟨tg, I * 6 + 3, none⟩ = some (.int .i64 (taskAt (tasksOf C 0) I).clow) := HCK.out w11 A11.out 3 _ rfl
          have t4 : w11.cell? ⟨tg, I * 6 + 4, none⟩ = some (.int .i64 (taskAt (tasksOf C 0) I).chigh) := HCK.out w11 A11.out 4 _ rfl
          have t5 : w11.cell? ⟨tg, I * 6 + 5, none⟩ = some (.int .i64 (taskAt (tasksOf C 0) I).prio) := HCK.out w11 A11.out 5 _ rfl
          have f0 := HFZ.out w11 A11.out (I * 6)
          have f1 := HFZ.out w11 A11.out (I * 6 + 1)
          have f2 := HFZ.out w11 A11.out (I * 6 + 2)
          have f3 := HFZ.out w11 A11.out (I * 6 + 3)
          have f4 := HFZ.out w11 A11.out (I * 6 + 4)
          have f5 := HFZ.out w11 A11.out (I * 6 + 5)
          have hgp := put6_grown w11 tg (I * 6) (upT (taskAt (tasksOf C 0) I) (min (taskAt (tasksOf C 0) I).deadline ((taskAt (tasksOf C 0) I).chigh + mm)))
          have TT := HTY.out w11 A11.out
          have Y12 : Hid (((((((w11.setCell ⟨tg, I * 6, none⟩ (.int .i64 (taskAt (tasksOf C 0) I).kind)).setCell ⟨tg, I * 6 + 1, none⟩ (.int .i64 (taskAt (tasksOf C 0) I).period)).setCell ⟨tg, I * 6 + 2, none⟩ (.int .i64 (taskAt (tasksOf C 0) I).deadline)).setCell ⟨tg, I * 6 + 3, none⟩ (.int .i64 (taskAt (tasksOf C 0) I).clow)).setCell ⟨tg, I * 6 + 4, none⟩ (.int .i64 (min (taskAt (tasksOf C 0) I).deadline ((taskAt (tasksOf C 0) I).chigh + mm)))).setCell ⟨tg, I * 6 + 5, none⟩ (.int .i64 (taskAt (tasksOf C 0) I).prio)).heap[Y]? = some (.cells #[.int .i64 C.frame, .int .i64 C.quiet, .slice (some ⟨g2, 0, none⟩) n0 c2, .slice wa2 (j + 1) wc2, .slice oa2 n2 oc2] 26 (0, 0))) := box_type Y11.out hgp TT (by decide)
          have G12 : Hid (w.grownBy ((((((w11.setCell ⟨tg, I * 6, none⟩ (.int .i64 (taskAt (tasksOf C 0) I).kind)).setCell ⟨tg, I * 6 + 1, none⟩ (.int .i64 (taskAt (tasksOf C 0) I).period)).setCell ⟨tg, I * 6 + 2, none⟩ (.int .i64 (taskAt (tasksOf C 0) I).deadline)).setCell ⟨tg, I * 6 + 3, none⟩ (.int .i64 (taskAt (tasksOf C 0) I).clow)).setCell ⟨tg, I * 6 + 4, none⟩ (.int .i64 (min (taskAt (tasksOf C 0) I).deadline ((taskAt (tasksOf C 0) I).chigh + mm)))).setCell ⟨tg, I * 6 + 5, none⟩ (.int .i64 (taskAt (tasksOf C 0) I).prio)) none) := grown_spoil G11.out (by have := HBA2.out; omega) hgp
          rw [HN0.out] at HPT
          have CF12 : Hid (ConfAt base2 ((((((w11.setCell ⟨tg, I * 6, none⟩ (.int .i64 (taskAt (tasksOf C 0) I).kind)).setCell ⟨tg, I * 6 + 1, none⟩ (.int .i64 (taskAt (tasksOf C 0) I).period)).setCell ⟨tg, I * 6 + 2, none⟩ (.int .i64 (taskAt (tasksOf C 0) I).deadline)).setCell ⟨tg, I * 6 + 3, none⟩ (.int .i64 (taskAt (tasksOf C 0) I).clow)).setCell ⟨tg, I * 6 + 4, none⟩ (.int .i64 (min (taskAt (tasksOf C 0) I).deadline ((taskAt (tasksOf C 0) I).chigh + mm)))).setCell ⟨tg, I * 6 + 5, none⟩ (.int .i64 (taskAt (tasksOf C 0) I).prio)) (.agg #[.int .i64 C.frame, .int .i64 C.quiet, .slice (some ⟨g2, 0, none⟩) n0 c2, .slice wa2 (j + 1) wc2, .slice oa2 n2 oc2]) (upC C I (min (taskAt (tasksOf C 0) I).deadline ((taskAt (tasksOf C 0) I).chigh + mm)))) := by
            refine ⟨_, _, _, rfl, HPT.out w11 A11.out (upT (taskAt (tasksOf C 0) I) (min (taskAt (tasksOf C 0) I).deadline ((taskAt (tasksOf C 0) I).chigh + mm))), rowAt_own (S := shW) (e := 47) ?_, rowAt_own (S := shO) (e := 60) ?_⟩
            · show World.ownsRow _ _ _ _ _ C.wins.length _
              rw [HN1.out]
              exact own_type (own_kept HW9.out A11.out) hgp TT (by decide)
            · show World.ownsRow _ _ _ _ _ C.ports.length _
              rw [HN2.out]
              exact own_type (own_kept HO9.out A11.out) hgp TT (by decide)
          clear hgp TT HTY HFZ HCK HC1 HPT HW9 HO9 A10 A11 A11' Z11 Y10 Y11 G10
          go_region
          all_goals
            generalize ((((((w11.setCell ⟨tg, I * 6, none⟩ (.int .i64 (taskAt (tasksOf C 0) I).kind)).setCell ⟨tg, I * 6 + 1, none⟩ (.int .i64 (taskAt (tasksOf C 0) I).period)).setCell ⟨tg, I * 6 + 2, none⟩ (.int .i64 (taskAt (tasksOf C 0) I).deadline)).setCell ⟨tg, I * 6 + 3, none⟩ (.int .i64 (taskAt (tasksOf C 0) I).clow)).setCell ⟨tg, I * 6 + 4, none⟩ (.int .i64 (min (taskAt (tasksOf C 0) I).deadline ((taskAt (tasksOf C 0) I).chigh + mm)))).setCell ⟨tg, I * 6 + 5, none⟩ (.int .i64 (taskAt (tasksOf C 0) I).prio)) = w12 at *
            clear y2 q1 z0 z1 z2 z3 z4 z5 t0 t1 t2 t3 t4 t5 f0 f1 f2 f3 f4 f5
            have e0 : w12.cell? ⟨Y, 0, none⟩ = some (.int .i64 C.frame) := blk_cell Y12.out 0
            have e1 : w12.cell? ⟨Y, 1, none⟩ = some (.int .i64 C.quiet) := blk_cell Y12.out 1
            have e2 : w12.cell? ⟨Y, 2, none⟩ = some (.slice (some ⟨g2, 0, none⟩) n0 c2) := blk_cell Y12.out 2
            have e3 : w12.cell? ⟨Y, 3, none⟩ = some (.slice wa2 (j + 1) wc2) := blk_cell Y12.out 3
            have e4 : w12.cell? ⟨Y, 4, none⟩ = some (.slice oa2 n2 oc2) := blk_cell Y12.out 4
            have XR2 := hide (fun W (hg : w12.grownBy W none) => XR.out base2 (upC C I (min (taskAt (tasksOf C 0) I).deadline ((taskAt (tasksOf C 0) I).chigh + mm))) _ W (grownBy_trans G12.out hg) (CF12.out.grown hg))
            generalize reE (upC C I (min (taskAt (tasksOf C 0) I).deadline ((taskAt (tasksOf C 0) I).chigh + mm))) 0 I = re3 at *
            generalize reV (upC C I (min (taskAt (tasksOf C 0) I).deadline ((taskAt (tasksOf C 0) I).chigh + mm))) 0 I = rv3 at *
            go_wp2_with (go_at_call 10; refine (XR2.out _ (grownBy_draws _ 1 none)).mono ?_; rintro e w14 ⟨rfl, hg⟩; have G14 := hide (grownBy_trans G12.out (grownBy_trans (grownBy_draws w12 1 none) hg)); clear hg)
            have hup := HUP.out
            clear HUP
            rcases hup with rfl | ⟨rfl, -, hge⟩
            · go_wp2_with (go_at_call 13; refine (NUM.out _ _).mono ?_; rintro e w' ⟨rfl, rfl⟩)
              go_ret
              exact ⟨rfl, G14.out⟩
            · have hdg : decide (rv ≤ rv3) = true := decide_eq_true hge
              go_wp2_with (go_at_call 13; refine (NUM.out _ _).mono ?_; rintro e w' ⟨rfl, rfl⟩)
              go_ret
              exact ⟨rfl, G14.out⟩
#print axioms admitMore_any
end Go.Proofs.YtehnklpjkcofcaaDoor.P9

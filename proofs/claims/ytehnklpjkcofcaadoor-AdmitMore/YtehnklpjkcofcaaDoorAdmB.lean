/- The contract of package admit's Response, proved over the translation. -/
import Derived.Test.YtehnklpjkcofcaaDoorAdmA
namespace Go.Proofs.YtehnklpjkcofcaaDoor
open Go.RowKit R6
attribute [local go_sem] alloc_drewN setCell_drewN

theorem reOK_high {C : ConfV} {p i : Int} (h : reOK C p i = true) : highB C.parts p = true := by
  unfold reOK at h
  simp only [Bool.and_eq_true, decide_eq_true_eq] at h
  unfold highB
  simp only [Bool.and_eq_true, decide_eq_true_eq]
  exact ⟨h.2.1, h.2.2.1, h.2.2.2.1⟩
theorem reOK_not {C : ConfV} {p i : Int} (h : reOK C p i = false) : checkN C ≠ 0 ∨ (checkN C = 0 ∧ (highB C.parts p = false ∨ (highB C.parts p = true ∧ ∃ P : Nat, p = P ∧ P < C.parts.length ∧ (i < 0 ∨ (0 ≤ i ∧ ((tasksOf C P).length : Int) ≤ i))))) := by
  by_cases h0 : checkN C = 0
  · refine .inr ⟨h0, ?_⟩
    cases hh : highB C.parts p with
    | false => exact .inl rfl
    | true =>
      refine .inr ⟨rfl, ?_⟩
      unfold highB at hh
      simp only [Bool.and_eq_true, decide_eq_true_eq] at hh
      obtain ⟨a1, a2, a3⟩ := hh
      refine ⟨p.toNat, by omega, by omega, ?_⟩
      have : ¬ (0 ≤ i ∧ i < (tasksOf C p.toNat).length) := fun e => by
        have : reOK C p i = true := by
          unfold reOK
          simp only [Bool.and_eq_true, decide_eq_true_eq]
          exact ⟨h0, a1, a2, a3, e.1, e.2⟩
        rw [h] at this
        cases this
      omega
  · exact .inl h0
theorem ret_re {C : ConfV} {p i v e : Int} (h : reV C p i = v ∧ reE C p i = e) : Ending.returned (.tuple #[.int .i64 v, .int .i64 e]) = .returned (.tuple #[.int .i64 (reV C p i), .int .i64 (reE C p i)]) := by rw [h.1, h.2]

set_option maxRecDepth 100000 in
set_option maxHeartbeats 4000000 in
theorem resp_any {lo : Nat} (c : Value) (C : ConfV) (p i : Int) (w : World) (hT : Tab w) (hc : ConfAt lo w c C) :
    Calls Tryd.prog 10 #[c, .int .i64 p, .int .i64 i] w fun e w' => e = .returned (.tuple #[.int .i64 (reV C p i), .int .i64 (reE C p i)]) ∧ w.grownBy w' none := by
  have C1 := hide (fun W (hg : w.grownBy W none) => check_any c C W (hT.grown hg) (hc.grown hg))
  have CM := hide (fun (P I k : Nat) (hck : checkN C = 0) (hP : P < C.parts.length) (hI : I < (tasksOf C P).length) (hk : k ≤ 4096) W (hg : w.grownBy W none) => missing_any c C P I k hck hP hI hk W (hT.grown hg) (hc.grown hg))
  obtain ⟨vp, vw, vo, rfl, hp, ⟨-, wa, wc, rfl, -⟩, ⟨-, oa, oc, rfl, -⟩⟩ := hc
  have HPP := hide hp
  have CH := hide (fun W (hg : w.grownBy W none) => high_any vp C.parts p W (hp.grown hg))
  obtain ⟨qs, hlen, ⟨hl, pa, pc, rfl, -⟩, -⟩ := hp
  rw [hlen] at hl C1 CM CH HPP ⊢
  clear hT hlen
  generalize hwb : w.alloc (.cells #[.int .i64 C.frame, .int .i64 C.quiet, .slice pa C.parts.length pc, .slice wa C.wins.length wc, .slice oa C.ports.length oc] 26) = wb
  have HG0 := hide (show w.grownBy wb none by rw [← hwb]; exact World.grownBy_alloc _ _ none)
  have KEEP : Hid (∀ V, wb.grownBy V none → V.cell? ⟨w.heap.size, 0, none⟩ = some (.int .i64 C.frame) ∧ V.cell? ⟨w.heap.size, 1, none⟩ = some (.int .i64 C.quiet) ∧ V.cell? ⟨w.heap.size, 2, none⟩ = some (.slice pa C.parts.length pc) ∧ V.cell? ⟨w.heap.size, 3, none⟩ = some (.slice wa C.wins.length wc) ∧ V.cell? ⟨w.heap.size, 4, none⟩ = some (.slice oa C.ports.length oc)) := by
    intro V hV
    have b := fun k => World.cell?_of_block (a := ⟨w.heap.size, k, none⟩) (hV.block w.heap.size (by rw [← hwb]; simp) (by simp))
    exact ⟨(b 0).trans (by rw [← hwb]; simp), (b 1).trans (by rw [← hwb]; simp), (b 2).trans (by rw [← hwb]; simp), (b 3).trans (by rw [← hwb]; simp), (b 4).trans (by rw [← hwb]; simp)⟩
  cases hok : reOK C p i with
  | false =>
    have HANS := hide (re_no hok)
    rcases reOK_not hok with h0 | ⟨h0, h1 | ⟨h1, P, rfl, hP, h2⟩⟩
    · clear hok
      have HRE := hide (ret_re HANS.out)
      clear CH CM HANS HPP
      generalize C.frame = fr at *
      generalize C.quiet = qt at *
      generalize C.parts.length = n0 at *
      generalize C.wins.length = n1 at *
      generalize C.ports.length = n2 at *
      generalize checkN C = ce at *
      have hd : (ce != 0) = true := by simp [h0]
      obtain ⟨k0, k1, k2, k3, k4⟩ := KEEP.out wb (grownBy_refl _ _)
      go_enter Tryd.func10, Tryd.ntmps10
      go_wp2_with (first | fail)
      clear hwb k0 k1 k2 k3 k4
      refine (C1.out _ HG0.out).mono ?_; rintro e w1 ⟨rfl, hg⟩
      have G1 := hide hg
      clear hg C1
      go_wp2
      go_ret2
      exact ⟨HRE.out, grownBy_trans HG0.out G1.out⟩
    · clear hok
      have HRE := hide (ret_re HANS.out)
      rw [h0] at C1
      rw [h1] at CH
      clear CM HANS HPP h0 h1
      generalize C.frame = fr at *
      generalize C.quiet = qt at *
      generalize C.parts.length = n0 at *
      generalize C.wins.length = n1 at *
      generalize C.ports.length = n2 at *
      obtain ⟨k0, k1, k2, k3, k4⟩ := KEEP.out wb (grownBy_refl _ _)
      go_enter Tryd.func10, Tryd.ntmps10
      go_wp2_with (first | fail)
      clear hwb k0 k1 k2 k3 k4
      refine (C1.out _ HG0.out).mono ?_; rintro e w1 ⟨rfl, hg⟩
      have G1 := hide hg
      clear hg C1
      obtain ⟨k0, k1, k2, k3, k4⟩ := KEEP.out w1 G1.out
      go_wp2_with (go_at_call 23; refine (CH.out _ (grownBy_trans HG0.out G1.out)).mono ?_; rintro e w2 ⟨rfl, hg⟩; have G2 := hide (grownBy_trans G1.out hg); clear hg)
      go_ret2
      exact ⟨HRE.out, grownBy_trans HG0.out G2.out⟩
    · clear hok
      have HRE := hide (ret_re HANS.out)
      rw [h0] at C1
      rw [h1] at CH
      clear CM HANS h0 h1
      obtain ⟨g, o, ta, tc, ca, cc, rfl, -, HC, -, hl2⟩ := HPP.out.part (P := P) hP
      clear HPP
      unfold tasksOf at h2
      generalize (partAt C.parts P).level = lvl at *
      generalize (partAt C.parts P).tasks.length = tn at *
      generalize (partAt C.parts P).code.length = cn at *
      generalize C.frame = fr at *
      generalize C.quiet = qt at *
      generalize C.parts.length = n0 at *
      generalize C.wins.length = n1 at *
      generalize C.ports.length = n2 at *
      rcases h2 with h2 | ⟨h2, h3⟩
      · obtain ⟨k0, k1, k2, k3, k4⟩ := KEEP.out wb (grownBy_refl _ _)
        go_enter Tryd.func10, Tryd.ntmps10
        go_wp2_with (first | fail)
        clear hwb k0 k1 k2 k3 k4
        refine (C1.out _ HG0.out).mono ?_; rintro e w1 ⟨rfl, hg⟩
        have G1 := hide hg
        clear hg C1
        obtain ⟨k0, k1, k2, k3, k4⟩ := KEEP.out w1 G1.out
        go_wp2_with (go_at_call 23; refine (CH.out _ (grownBy_trans HG0.out G1.out)).mono ?_; rintro e w2 ⟨rfl, hg⟩; have G2 := hide (grownBy_trans G1.out hg); clear hg)
        go_ret2
        exact ⟨HRE.out, grownBy_trans HG0.out G2.out⟩
      · obtain ⟨k0, k1, k2, k3, k4⟩ := KEEP.out wb (grownBy_refl _ _)
        go_enter Tryd.func10, Tryd.ntmps10
        go_wp2_with (first | fail)
        clear hwb k0 k1 k2 k3 k4
        refine (C1.out _ HG0.out).mono ?_; rintro e w1 ⟨rfl, hg⟩
        have G1 := hide hg
        clear hg C1
        obtain ⟨k0, k1, k2, k3, k4⟩ := KEEP.out w1 G1.out
        go_wp2_with (go_at_call 23; refine (CH.out _ (grownBy_trans HG0.out G1.out)).mono ?_; rintro e w2 ⟨rfl, hg⟩; have G2 := hide (grownBy_trans G1.out hg); clear hg k0 k1 k2 k3 k4; obtain ⟨k0, k1, k2, k3, k4⟩ := KEEP.out w2 G2.out; have c1 := (HC.out w2 (grownBy_trans HG0.out G2.out)).2.1)
        go_ret2
        exact ⟨HRE.out, grownBy_trans HG0.out G2.out⟩
  | true =>
    have HH := hide (reOK_high hok)
    obtain ⟨h0, P, I, rfl, rfl, hP, hlv, hI⟩ := re_yes hok
    obtain ⟨ht6, hm⟩ := tasks_may h0 hP
    have hta := may_all (may_of hm hI)
    have HRI := hide (re_in h0 hP hlv hI)
    have HRN : Hid (reN C P I = firstTo (enoughB C P I) (taskAt (tasksOf C P) I).deadline.toNat) := rfl
    have HEN := hide (fun (k j : Nat) h1 hj hs => short_on h0 hP hI (k := k) (j := j) h1 hj hs)
    have HEY : Hid (∀ k : Nat, boundV (tasksOf C P) I k - leV C P k ≤ 0 → enoughB C P I k = true) := fun k hk => by unfold enoughB; rw [decide_eq_true]; omega
    have CM2 := hide (fun (k : Nat) (hk : k ≤ 4096) W (hg : w.grownBy W none) => CM.out P I k h0 hP hI hk W hg)
    have HBB := hide (fun (k : Nat) (hk : k ≤ 4096) => And.intro (bound_bd hm ht6 hI hk) (least_bd h0 hP hk))
    obtain ⟨g, o, ta, tc, ca, cc, rfl, -, HC, HR, hl2⟩ := HPP.out.part (P := P) hP
    have hq := taskAt_mem' (ws := tasksOf C P) (i := I) hI
    have HA := hide (row_addr (HR.out w (grownBy_refl _ _)) (show 0 < (partAt C.parts P).tasks.length from Nat.lt_of_le_of_lt (Nat.zero_le _) hI))
    obtain ⟨tg, tof, rfl⟩ := HA.out
    have HD : Hid (∀ V, w.grownBy V none → V.cell? ⟨tg, tof + I * 6 + 2, none⟩ = some (.int .i64 (taskAt (tasksOf C P) I).deadline)) := fun V hV => row_cell (S := shT) (HR.out V hV) hq (k := 2) rfl
    rw [h0] at C1
    rw [HH.out] at CH
    obtain ⟨D, hD⟩ : ∃ D : Nat, (taskAt (tasksOf C P) I).deadline = D := ⟨(taskAt (tasksOf C P) I).deadline.toNat, by omega⟩
    have hD1 : D ≤ 1024 := by omega
    have hD0 : 1 ≤ D := by omega
    rw [hD] at HRN HD
    rw [Int.toNat_natCast] at HRN
    unfold tasksOf at hI
    clear CM HPP HR hq HA hD hta hm ht6 hlv h0 hok HH
    generalize (partAt C.parts P).level = lvl at *
    generalize (partAt C.parts P).tasks.length = tn at *
    generalize (partAt C.parts P).code.length = cn at *
    generalize enoughB C P I = en at *
    generalize reN C P I = rn at *
    generalize reV C P I = rv at *
    generalize reE C P I = re at *
    generalize boundV (tasksOf C P) I = bv at *
    generalize leV C P = lv at *
    generalize C.frame = fr at *
    generalize C.quiet = qt at *
    generalize C.parts.length = n0 at *
    generalize C.wins.length = n1 at *
    generalize C.ports.length = n2 at *
    have hdc1 : decide ((tn : Int) ≤ (I : Int)) = false := decide_eq_false (by omega)
    have hdc2 : decide (tn ≤ I) = false := decide_eq_false (by omega)
    obtain ⟨k0, k1, k2, k3, k4⟩ := KEEP.out wb (grownBy_refl _ _)
    go_enter Tryd.func10, Tryd.ntmps10
    go_wp2_with (first | fail)
    clear hwb k0 k1 k2 k3 k4
    refine (C1.out _ HG0.out).mono ?_; rintro e w1 ⟨rfl, hg⟩
    have G1 := hide hg
    clear hg C1
    obtain ⟨k0, k1, k2, k3, k4⟩ := KEEP.out w1 G1.out
    go_wp2_with (go_at_call 23; refine (CH.out _ (grownBy_trans HG0.out G1.out)).mono ?_; rintro e w2 ⟨rfl, hg⟩; have G2 := hide (grownBy_trans G1.out hg); clear hg k0 k1 k2 k3 k4; obtain ⟨k0, k1, k2, k3, k4⟩ := KEEP.out w2 G2.out; have c1 := (HC.out w2 (grownBy_trans HG0.out G2.out)).2.1; have d2 := HD.out w2 (grownBy_trans HG0.out G2.out))
    clear k0 k1 k2 k3 k4 c1 d2 CH HC HD
    go_loopw [9, 10] (fun s _ W => ∃ (k : Nat), 1 ≤ k ∧ k ≤ 42000 ∧ s = .int .i64 k ∧ Hid (wb.grownBy W none) ∧ Hid (∀ j, 1 ≤ j → j < k → j ≤ D → en j = false)) (fun s _ _ => D + 1 - (intOf s).toNat)
    case atStart => exact ⟨1, by omega, by omega, rfl, G2, fun j h1 h2 => by omega⟩
    case round =>
      obtain ⟨k, hk1, hk2, rfl, HG, HB⟩ := hrel
      by_cases hlt : k ≤ D
      · obtain ⟨⟨b1, b2⟩, l1, l2⟩ := HBB.out k (by omega)
        have HE2 := hide (HEN.out k)
        have HY2 := hide (HEY.out k)
        have CM3 := hide (CM2.out k (by omega) wr (grownBy_trans HG0.out HG.out))
        obtain ⟨k0, k1, k2, k3, k4⟩ := KEEP.out wr HG.out
        generalize hgp : bv k - lv k = gp at *
        have g1 : gp ≤ 40000 := by omega
        have g2 : -4096 ≤ gp := by omega
        clear hgp b1 b2 l1 l2
        by_cases hg0 : gp ≤ 0
        · have HF := hide (firstTo_yes hk1 hlt (HY2.out hg0) fun j j1 j2 => HB.out j j1 j2 (by omega))
          go_wp2_with (go_at_call 24; refine CM3.out.mono ?_; rintro e w3 ⟨rfl, hg⟩; have G3 := hide (grownBy_trans HG.out hg); clear hg)
          go_ret2
          exact ⟨by rw [HRI.out.1, HRI.out.2, HRN.out, HF.out, if_neg (by omega)]; rfl, grownBy_trans HG0.out G3.out⟩
        · obtain ⟨G, rfl⟩ : ∃ G : Nat, gp = G := ⟨gp.toNat, by omega⟩
          have HB2 : Hid (∀ j, 1 ≤ j → j < k + G → j ≤ D → en j = false) := fun j j1 j2 j3 => by
            rcases Nat.lt_or_ge j k with h | h
            · exact HB.out j j1 h j3
            · exact HE2.out j h (by omega) (by omega)
          go_wp2_with (go_at_call 24; refine CM3.out.mono ?_; rintro e w3 ⟨rfl, hg⟩; have G3 := hide (grownBy_trans HG.out hg); clear hg)
          go_roundw
          case rel => exact ⟨k + G, by omega, by omega, by go_num, G3, HB2⟩
          case measure => simp [intOf]; omega
      · have HF := hide (firstTo_no (f := en) (n := D) fun j j1 j2 => HB.out j j1 (by omega) j2)
        go_wp2
        go_ret2
        exact ⟨by rw [HRI.out.1, HRI.out.2, HRN.out, HF.out]; rfl, grownBy_trans HG0.out HG.out⟩
#print axioms resp_any
end Go.Proofs.YtehnklpjkcofcaaDoor

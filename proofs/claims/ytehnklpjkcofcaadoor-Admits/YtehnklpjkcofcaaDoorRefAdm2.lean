/- Contracts of the document's own response, Response and Admit, proved over the translation: they answer as the program's Response and Check. -/
import Derived.Test.YtehnklpjkcofcaaDoorAdmC
import Derived.Test.YtehnklpjkcofcaaDoorRefLeast
import Derived.Test.YtehnklpjkcofcaaDoorRefBound
namespace Go.Proofs.YtehnklpjkcofcaaDoor
open Go.RowKit R6
attribute [local go_sem] alloc_drewN setCell_drewN

set_option maxRecDepth 100000 in
set_option maxHeartbeats 4000000 in
theorem rresp_any {lo : Nat} (c : Value) (C : ConfV) (P I : Nat) (h0 : checkN C = 0) (hP : P < C.parts.length) (hI : I < (tasksOf C P).length) (w : World) (hc : ConfAt lo w c C) :
    Calls Tryd.prog 27 #[c, .int .i64 P, .int .i64 I] w fun e w' => e = .returned (.tuple #[.int .i64 (reN C P I : Nat), .int .i64 (if reN C P I = 0 then 901 else 0)]) ∧ w.grownBy w' none := by
  obtain ⟨ht6, hm⟩ := tasks_may h0 hP
  have hFI := fine_of h0
  obtain ⟨F, hF⟩ : ∃ F : Nat, (F : Int) = C.frame := ⟨C.frame.toNat, by have := hFI.f0; omega⟩
  have CL : Hid (∀ (k : Nat), k ≤ 4096 → ∀ W, w.grownBy W none → Calls Tryd.prog 32 #[c, .int .i64 P, .int .i64 k] W fun e w' => e = .returned (.int .i64 (leV C P k)) ∧ W.grownBy w' none) := fun k hk W hg => by
    rw [(le_in h0 P F k hP hF hk).1]
    exact rleast_any c C P F k hF hFI hk W (hc.grown hg)
  obtain ⟨vp, vw, vo, rfl, hp, ⟨-, wa, wc, rfl, -⟩, ⟨-, oa, oc, rfl, -⟩⟩ := hc
  have HPP := hide hp
  obtain ⟨qs, hlen, ⟨hl, pa, pc, rfl, -⟩, -⟩ := hp
  rw [hlen] at hl CL HPP ⊢
  obtain ⟨g, o, ta, tc, ca, cc, rfl, -, HC, HR, hl2⟩ := HPP.out.part (P := P) hP
  have hta := may_all (may_of hm hI)
  have hq := taskAt_mem' (ws := tasksOf C P) (i := I) hI
  have HA := hide (row_addr (HR.out w (grownBy_refl _ _)) (show 0 < (partAt C.parts P).tasks.length from Nat.lt_of_le_of_lt (Nat.zero_le _) hI))
  obtain ⟨tg, tof, rfl⟩ := HA.out
  have CB : Hid (∀ (k : Nat), k ≤ 4096 → ∀ W, w.grownBy W none → Calls Tryd.prog 34 #[.slice (some ⟨tg, tof, none⟩) (partAt C.parts P).tasks.length tc, .int .i64 I, .int .i64 k] W fun e w' => e = .returned (.int .i64 (boundV (tasksOf C P) I k)) ∧ W.grownBy w' none) := fun k hk W hg => by
    rw [(bound_in hm hI hk).1]
    exact rsum_any _ (tasksOf C P) I k W (HR.out W hg) hm hI (by omega) (by omega) (by omega)
  have HD : Hid (∀ V, w.grownBy V none → V.cell? ⟨tg, tof + I * 6 + 2, none⟩ = some (.int .i64 (taskAt (tasksOf C P) I).deadline)) := fun V hV => row_cell (S := shT) (HR.out V hV) hq (k := 2) rfl
  have HRN : Hid (reN C P I = firstTo (enoughB C P I) (taskAt (tasksOf C P) I).deadline.toNat) := rfl
  have HEN : Hid (∀ k : Nat, enoughB C P I k = decide (boundV (tasksOf C P) I k ≤ leV C P k)) := fun k => rfl
  obtain ⟨D, hD⟩ : ∃ D : Nat, (taskAt (tasksOf C P) I).deadline = D := ⟨(taskAt (tasksOf C P) I).deadline.toNat, by omega⟩
  have hD1 : D ≤ 1024 := by omega
  have hD0 : 1 ≤ D := by omega
  rw [hD] at HRN HD
  rw [Int.toNat_natCast] at HRN
  unfold tasksOf at hI
  clear HPP HR hq HA hD hta hm ht6 h0 hF hFI hlen
  generalize (partAt C.parts P).level = lvl at *
  generalize (partAt C.parts P).tasks.length = tn at *
  generalize (partAt C.parts P).code.length = cn at *
  generalize enoughB C P I = en at *
  generalize reN C P I = rn at *
  generalize hae : (if rn = 0 then (901 : Int) else 0) = ae
  have HAE := hide hae
  clear hae
  generalize boundV (tasksOf C P) I = bv at *
  generalize leV C P = lv at *
  generalize C.frame = fr at *
  generalize C.quiet = qt at *
  generalize C.parts.length = n0 at *
  generalize C.wins.length = n1 at *
  generalize C.ports.length = n2 at *
  generalize hwb : w.alloc (.cells #[.int .i64 fr, .int .i64 qt, .slice (some ⟨g, o, none⟩) n0 pc, .slice wa n1 wc, .slice oa n2 oc] 26) = wb
  have HG0 := hide (show w.grownBy wb none by rw [← hwb]; exact World.grownBy_alloc _ _ none)
  have KEEP : Hid (∀ V, wb.grownBy V none → V.cell? ⟨w.heap.size, 0, none⟩ = some (.int .i64 fr) ∧ V.cell? ⟨w.heap.size, 1, none⟩ = some (.int .i64 qt) ∧ V.cell? ⟨w.heap.size, 2, none⟩ = some (.slice (some ⟨g, o, none⟩) n0 pc) ∧ V.cell? ⟨w.heap.size, 3, none⟩ = some (.slice wa n1 wc) ∧ V.cell? ⟨w.heap.size, 4, none⟩ = some (.slice oa n2 oc)) := by
    intro V hV
    have b := fun k => World.cell?_of_block (a := ⟨w.heap.size, k, none⟩) (hV.block w.heap.size (by rw [← hwb]; simp) (by simp))
    exact ⟨(b 0).trans (by rw [← hwb]; simp), (b 1).trans (by rw [← hwb]; simp), (b 2).trans (by rw [← hwb]; simp), (b 3).trans (by rw [← hwb]; simp), (b 4).trans (by rw [← hwb]; simp)⟩
  obtain ⟨k0, k1, k2, k3, k4⟩ := KEEP.out wb (grownBy_refl _ _)
  have c1 := (HC.out wb HG0.out).2.1
  go_enter Tryd.func27, Tryd.ntmps27
  go_wp2
  have HWB := hide hwb
  clear hwb k0 k1 k2 k3 k4 c1
  go_loopw [9] (fun s W => ∃ (k : Nat), 1 ≤ k ∧ k ≤ D + 1 ∧ s = .int .i64 k ∧ Hid (wb.grownBy W none) ∧ Hid (∀ j, 1 ≤ j → j < k → en j = false)) (fun s _ => D + 1 - (intOf s).toNat)
  case atStart => exact ⟨1, by omega, by omega, rfl, grownBy_refl _ _, fun j h1 h2 => by omega⟩
  case round =>
    obtain ⟨k, hk1, hk2, rfl, HG, HB⟩ := hrel
    have d2 := HD.out wr (grownBy_trans HG0.out HG.out)
    by_cases hlt : k ≤ D
    · have CLk := hide (CL.out k (by omega))
      have CBk := hide (CB.out k (by omega))
      have HEk := hide (HEN.out k)
      obtain ⟨k0, k1, k2, k3, k4⟩ := KEEP.out wr HG.out
      have hdk : decide ((k : Int) ≤ (D : Int)) = true := decide_eq_true (by omega)
      have hdk2 : decide (k ≤ D) = true := decide_eq_true (by omega)
      generalize lv k = lvk at *
      generalize bv k = bvk at *
      by_cases he : bvk ≤ lvk
      · have HF := hide (firstTo_yes hk1 hlt (HEk.out.trans (decide_eq_true he)) fun j j1 j2 => HB.out j j1 j2)
        have hge : decide (bvk ≤ lvk) = true := decide_eq_true he
        go_wp2_with (first | (go_at_call 32; refine (CLk.out _ (grownBy_trans HG0.out HG.out)).mono ?_; rintro e w3 ⟨rfl, hg⟩; have G3 := hide (grownBy_trans HG.out hg); clear hg) | (go_at_call 34; refine (CBk.out _ (grownBy_trans HG0.out G3.out)).mono ?_; rintro e w4 ⟨rfl, hg⟩; have G4 := hide (grownBy_trans G3.out hg); clear hg))
        go_ret2
        exact ⟨by rw [← HAE.out, HRN.out, HF.out, if_neg (by omega)]; rfl, grownBy_trans HG0.out G4.out⟩
      · have HB2 : Hid (∀ j, 1 ≤ j → j < k + 1 → en j = false) := fun j j1 j2 => by
          rcases (by omega : j < k ∨ j = k) with h | rfl
          · exact HB.out j j1 h
          · exact HEk.out.trans (decide_eq_false he)
        have hge : decide (bvk ≤ lvk) = false := decide_eq_false he
        go_wp2_with (first | (go_at_call 32; refine (CLk.out _ (grownBy_trans HG0.out HG.out)).mono ?_; rintro e w3 ⟨rfl, hg⟩; have G3 := hide (grownBy_trans HG.out hg); clear hg) | (go_at_call 34; refine (CBk.out _ (grownBy_trans HG0.out G3.out)).mono ?_; rintro e w4 ⟨rfl, hg⟩; have G4 := hide (grownBy_trans G3.out hg); clear hg))
        go_roundw
        case rel => exact ⟨k + 1, by omega, by omega, by go_num, G4, HB2⟩
        case measure => simp [intOf]; omega
    · have HF := hide (firstTo_no (f := en) (n := D) fun j j1 j2 => HB.out j j1 (by omega))
      have hdk : decide ((k : Int) ≤ (D : Int)) = false := decide_eq_false (by omega)
      have hdk2 : decide (k ≤ D) = false := decide_eq_false (by omega)
      go_wp2
      go_ret2
      exact ⟨by rw [← HAE.out, HRN.out, HF.out]; rfl, grownBy_trans HG0.out HG.out⟩

theorem levN_high (ps : List PartV) (p : Int) : (levN (ps.map PartV.level) p = 1) ↔ highB ps p = true := by
  unfold levN highB partAt
  by_cases h0 : 0 ≤ p ∧ p < ps.length
  · simp [h0.1, h0.2]
  · rcases (by omega : ¬ 0 ≤ p ∨ ¬ p < ps.length) with h | h <;> simp [h]

set_option maxRecDepth 100000 in
set_option maxHeartbeats 4000000 in
theorem rResp_any {lo : Nat} (c : Value) (C : ConfV) (p i : Int) (w : World) (hc : ConfAt lo w c C) :
    Calls Tryd.prog 11 #[c, .int .i64 p, .int .i64 i] w fun e w' => e = .returned (.tuple #[.int .i64 (reV C p i), .int .i64 (reE C p i)]) ∧ w.grownBy w' none := by
  have C1 := hide (fun W (hg : w.grownBy W none) => rcheck_any c C W (hc.grown hg))
  have CM := hide (fun (P I : Nat) (hck : checkN C = 0) (hP : P < C.parts.length) (hI : I < (tasksOf C P).length) W (hg : w.grownBy W none) => rresp_any c C P I hck hP hI W (hc.grown hg))
  obtain ⟨vp, vw, vo, rfl, hp, ⟨-, wa, wc, rfl, -⟩, ⟨-, oa, oc, rfl, -⟩⟩ := hc
  have HPP := hide hp
  obtain ⟨qs, hlen, hrow, hel⟩ := hp
  have HROW := hide (fun W (hg : w.grownBy W none) => hrow.grown hg)
  have HLS := hide (levels_of hlen hel)
  obtain ⟨hl, pa, pc, rfl, -⟩ := hrow
  have CH := hide (fun W (hg : w.grownBy W none) => rlevel_any C.frame C.quiet pa qs.length pc (.slice wa C.wins.length wc) (.slice oa C.ports.length oc) qs _ HLS.out p ⟨_, _, _, rfl⟩ ⟨_, _, _, rfl⟩ W (HROW.out W hg))
  have HLV := hide (levN_high C.parts p)
  rw [hlen] at hl C1 CM CH HPP ⊢
  clear hlen HROW HLS hel
  generalize levN (C.parts.map PartV.level) p = lvn at *
  generalize hwb : w.alloc (.cells #[.int .i64 C.frame, .int .i64 C.quiet, .slice pa C.parts.length pc, .slice wa C.wins.length wc, .slice oa C.ports.length oc] 26) = wb
  have HG0 := hide (show w.grownBy wb none by rw [← hwb]; exact World.grownBy_alloc _ _ none)
  have KEEP : Hid (∀ V, wb.grownBy V none → V.cell? ⟨w.heap.size, 0, none⟩ = some (.int .i64 C.frame) ∧ V.cell? ⟨w.heap.size, 1, none⟩ = some (.int .i64 C.quiet) ∧ V.cell? ⟨w.heap.size, 2, none⟩ = some (.slice pa C.parts.length pc) ∧ V.cell? ⟨w.heap.size, 3, none⟩ = some (.slice wa C.wins.length wc) ∧ V.cell? ⟨w.heap.size, 4, none⟩ = some (.slice oa C.ports.length oc)) := by
    intro V hV
    have b := fun k => World.cell?_of_block (a := ⟨w.heap.size, k, none⟩) (hV.block w.heap.size (by rw [← hwb]; simp) (by simp))
    exact ⟨(b 0).trans (by rw [← hwb]; simp), (b 1).trans (by rw [← hwb]; simp), (b 2).trans (by rw [← hwb]; simp), (b 3).trans (by rw [← hwb]; simp), (b 4).trans (by rw [← hwb]; simp)⟩
  cases hok : reOK C p i with
  | false =>
    have HANS := hide (re_no hok)
    rcases reOK_not hok with h0 | ⟨h0, h1 | ⟨h1, P, rfl, hP, h2⟩⟩
    · clear hok
      have HRE := hide (ret_re HANS.out)
      clear CH CM HANS HPP HLV
      generalize C.frame = fr at *
      generalize C.quiet = qt at *
      generalize C.parts.length = n0 at *
      generalize C.wins.length = n1 at *
      generalize C.ports.length = n2 at *
      generalize checkN C = ce at *
      have hd : (ce != 0) = true := by simp [h0]
      obtain ⟨k0, k1, k2, k3, k4⟩ := KEEP.out wb (grownBy_refl _ _)
      go_enter Tryd.func11, Tryd.ntmps11
      go_wp2_with (first | fail)
      clear hwb k0 k1 k2 k3 k4
      refine (C1.out _ HG0.out).mono ?_; rintro e w1 ⟨rfl, hg⟩
      have G1 := hide hg
      clear hg C1
      go_wp2
      go_ret2
      exact ⟨HRE.out, grownBy_trans HG0.out G1.out⟩
    · clear hok
      have HRE := hide (ret_re HANS.out)
      rw [h0] at C1
      have hne : (lvn != 1) = true := by
        have : ¬ lvn = 1 := fun e => by have := HLV.out.1 e; rw [h1] at this; cases this
        simp [this]
      clear CM HANS HPP h0 h1 HLV
      generalize C.frame = fr at *
      generalize C.quiet = qt at *
      generalize C.parts.length = n0 at *
      generalize C.wins.length = n1 at *
      generalize C.ports.length = n2 at *
      obtain ⟨k0, k1, k2, k3, k4⟩ := KEEP.out wb (grownBy_refl _ _)
      go_enter Tryd.func11, Tryd.ntmps11
      go_wp2_with (first | fail)
      clear hwb k0 k1 k2 k3 k4
      refine (C1.out _ HG0.out).mono ?_; rintro e w1 ⟨rfl, hg⟩
      have G1 := hide hg
      clear hg C1
      obtain ⟨k0, k1, k2, k3, k4⟩ := KEEP.out w1 G1.out
      go_wp2_with (go_at_call 26; refine (CH.out _ (grownBy_trans HG0.out G1.out)).mono ?_; rintro e w2 ⟨rfl, hg⟩; have G2 := hide (grownBy_trans G1.out hg); clear hg)
      go_ret2
      exact ⟨HRE.out, grownBy_trans HG0.out G2.out⟩
    · clear hok
      have HRE := hide (ret_re HANS.out)
      rw [h0] at C1
      obtain rfl := HLV.out.2 h1
      clear CM HANS h0 h1 HLV
      obtain ⟨g, o, ta, tc, ca, cc, rfl, -, HC, -, hl2⟩ := HPP.out.part (P := P) hP
      clear HPP
      unfold tasksOf at h2
      generalize (partAt C.parts P).level = lvl at *
      generalize (partAt C.parts P).tasks.length = tn at *
      generalize (partAt C.parts P).code.length = cn at *
      generalize C.frame = fr at *
      generalize C.quiet = qt at *
      generalize C.parts.length = n0 at *
      generalize C.wins.length = n1 at *
      generalize C.ports.length = n2 at *
      rcases h2 with h2 | ⟨h2, h3⟩
      · obtain ⟨k0, k1, k2, k3, k4⟩ := KEEP.out wb (grownBy_refl _ _)
        go_enter Tryd.func11, Tryd.ntmps11
        go_wp2_with (first | fail)
        clear hwb k0 k1 k2 k3 k4
        refine (C1.out _ HG0.out).mono ?_; rintro e w1 ⟨rfl, hg⟩
        have G1 := hide hg
        clear hg C1
        obtain ⟨k0, k1, k2, k3, k4⟩ := KEEP.out w1 G1.out
        go_wp2_with (go_at_call 26; refine (CH.out _ (grownBy_trans HG0.out G1.out)).mono ?_; rintro e w2 ⟨rfl, hg⟩; have G2 := hide (grownBy_trans G1.out hg); clear hg)
        go_ret2
        exact ⟨HRE.out, grownBy_trans HG0.out G2.out⟩
      · obtain ⟨k0, k1, k2, k3, k4⟩ := KEEP.out wb (grownBy_refl _ _)
        go_enter Tryd.func11, Tryd.ntmps11
        go_wp2_with (first | fail)
        clear hwb k0 k1 k2 k3 k4
        refine (C1.out _ HG0.out).mono ?_; rintro e w1 ⟨rfl, hg⟩
        have G1 := hide hg
        clear hg C1
        obtain ⟨k0, k1, k2, k3, k4⟩ := KEEP.out w1 G1.out
        go_wp2_with (go_at_call 26; refine (CH.out _ (grownBy_trans HG0.out G1.out)).mono ?_; rintro e w2 ⟨rfl, hg⟩; have G2 := hide (grownBy_trans G1.out hg); clear hg k0 k1 k2 k3 k4; obtain ⟨k0, k1, k2, k3, k4⟩ := KEEP.out w2 G2.out; have c1 := (HC.out w2 (grownBy_trans HG0.out G2.out)).2.1)
        go_ret2
        exact ⟨HRE.out, grownBy_trans HG0.out G2.out⟩
  | true =>
    have HH := hide (reOK_high hok)
    obtain ⟨h0, P, I, rfl, rfl, hP, hlv, hI⟩ := re_yes hok
    have HRI := hide (re_in h0 hP hlv hI)
    have CM2 := hide (fun W (hg : w.grownBy W none) => CM.out P I h0 hP hI W hg)
    rw [← HRI.out.1, ← HRI.out.2] at CM2
    obtain ⟨g, o, ta, tc, ca, cc, rfl, -, HC, -, hl2⟩ := HPP.out.part (P := P) hP
    rw [h0] at C1
    obtain rfl := HLV.out.2 HH.out
    unfold tasksOf at hI
    clear CM HPP hlv h0 hok HH HLV HRI
    generalize (partAt C.parts P).level = lvl at *
    generalize (partAt C.parts P).tasks.length = tn at *
    generalize (partAt C.parts P).code.length = cn at *
    generalize reV C P I = rv at *
    generalize reE C P I = re at *
    generalize C.frame = fr at *
    generalize C.quiet = qt at *
    generalize C.parts.length = n0 at *
    generalize C.wins.length = n1 at *
    generalize C.ports.length = n2 at *
    have hdc1 : decide ((tn : Int) ≤ (I : Int)) = false := decide_eq_false (by omega)
    have hdc2 : decide (tn ≤ I) = false := decide_eq_false (by omega)
    obtain ⟨k0, k1, k2, k3, k4⟩ := KEEP.out wb (grownBy_refl _ _)
    go_enter Tryd.func11, Tryd.ntmps11
    go_wp2_with (first | fail)
    clear hwb k0 k1 k2 k3 k4
    refine (C1.out _ HG0.out).mono ?_; rintro e w1 ⟨rfl, hg⟩
    have G1 := hide hg
    clear hg C1
    obtain ⟨k0, k1, k2, k3, k4⟩ := KEEP.out w1 G1.out
    go_wp2_with (first | (go_at_call 26; refine (CH.out _ (grownBy_trans HG0.out G1.out)).mono ?_; rintro e w2 ⟨rfl, hg⟩; have G2 := hide (grownBy_trans G1.out hg); clear hg k0 k1 k2 k3 k4; obtain ⟨k0, k1, k2, k3, k4⟩ := KEEP.out w2 G2.out; have c1 := (HC.out w2 (grownBy_trans HG0.out G2.out)).2.1) | (go_at_call 27; refine (CM2.out _ (grownBy_trans HG0.out G2.out)).mono ?_; rintro e w3 ⟨rfl, hg⟩; have G3 := hide (grownBy_trans G2.out hg); clear hg))
    go_ret2
    exact ⟨rfl, grownBy_trans HG0.out G3.out⟩
theorem sh_of {C : ConfV} (hc : checkN C = 0) {p : Nat} (hp : p < C.parts.length) : shV C p = ticksN C.wins p := by
  unfold shV
  rw [if_pos]
  unfold shOK
  rw [hc]
  simp
  omega
theorem low_time {C : ConfV} {p : Nat} (h : (partAt C.parts p).level = 0) : inTime C p = true := by
  refine allB_true fun i hi => ?_
  have : reE C p i = 900 := (re_no (by
    cases h2 : reOK C p i with
    | false => rfl
    | true =>
      obtain ⟨-, P, I, e1, -, -, h3, -⟩ := re_yes h2
      obtain rfl : p = P := by omega
      omega)).2
  rw [this]
  rfl

set_option maxRecDepth 100000 in
set_option maxHeartbeats 4000000 in
theorem rAdmit_any {lo : Nat} (c : Value) (C : ConfV) (w : World) (hc : ConfAt lo w c C) :
    Calls Tryd.prog 14 #[c] w fun e w' => e = .returned (.int .i64 (adN C)) ∧ w.grownBy w' none := by
  have C1 := hide (fun W (hg : w.grownBy W none) => rcheck_any c C W (hc.grown hg))
  have CM := hide (fun (P I : Nat) (hck : checkN C = 0) (hP : P < C.parts.length) (hI : I < (tasksOf C P).length) W (hg : w.grownBy W none) => rresp_any c C P I hck hP hI W (hc.grown hg))
  have CS := hide (fun (P : Nat) (hck : checkN C = 0) W (hg : w.grownBy W none) => rshare_any c C (fine_of hck) P W (hc.grown hg))
  obtain ⟨vp, vw, vo, rfl, hp, ⟨-, wa, wc, rfl, -⟩, ⟨-, oa, oc, rfl, -⟩⟩ := hc
  have HPP := hide hp
  obtain ⟨qs, hlen, ⟨hl, pa, pc, rfl, -⟩, -⟩ := hp
  have HPA := hide (fun (j : Nat) (hj : j < C.parts.length) => HPP.out.part hj)
  rw [hlen] at hl C1 CM CS ⊢
  clear HPP
  have HPB : Hid (∀ (j : Nat), j < C.parts.length → ∃ g o ta tc ca cc, pa = some ⟨g, o, none⟩ ∧ Hid (∀ V, w.grownBy V none → V.cell? ⟨g, o + j * 3, none⟩ = some (.int .i64 (partAt C.parts j).level) ∧ V.cell? ⟨g, o + j * 3 + 1, none⟩ = some (.slice ta (tasksOf C j).length tc) ∧ V.cell? ⟨g, o + j * 3 + 2, none⟩ = some (.slice ca (partAt C.parts j).code.length cc)) ∧ (tasksOf C j).length ≤ 9223372036854775807) := fun j hj => by
    obtain ⟨g, o, ta, tc, ca, cc, h1, -, h2, -, h3⟩ := HPA.out j hj
    exact ⟨g, o, ta, tc, ca, cc, h1, h2, h3⟩
  clear HPA hlen
  generalize hwb : w.alloc (.cells #[.int .i64 C.frame, .int .i64 C.quiet, .slice pa C.parts.length pc, .slice wa C.wins.length wc, .slice oa C.ports.length oc] 26) = wb
  have HG0 := hide (show w.grownBy wb none by rw [← hwb]; exact World.grownBy_alloc _ _ none)
  have KEEP : Hid (∀ V, wb.grownBy V none → V.cell? ⟨w.heap.size, 0, none⟩ = some (.int .i64 C.frame) ∧ V.cell? ⟨w.heap.size, 1, none⟩ = some (.int .i64 C.quiet) ∧ V.cell? ⟨w.heap.size, 2, none⟩ = some (.slice pa C.parts.length pc) ∧ V.cell? ⟨w.heap.size, 3, none⟩ = some (.slice wa C.wins.length wc) ∧ V.cell? ⟨w.heap.size, 4, none⟩ = some (.slice oa C.ports.length oc)) := by
    intro V hV
    have b := fun k => World.cell?_of_block (a := ⟨w.heap.size, k, none⟩) (hV.block w.heap.size (by rw [← hwb]; simp) (by simp))
    exact ⟨(b 0).trans (by rw [← hwb]; simp), (b 1).trans (by rw [← hwb]; simp), (b 2).trans (by rw [← hwb]; simp), (b 3).trans (by rw [← hwb]; simp), (b 4).trans (by rw [← hwb]; simp)⟩
  have HAN : Hid (adN C = if checkN C = 0 then (if lateB C = true then 901 else if bareB C = true then 902 else 0) else checkN C) := rfl
  by_cases h0 : checkN C = 0
  · have HA1 : Hid (lateB C = true → adN C = 901) := fun h => by rw [HAN.out, if_pos h0, if_pos h]
    have HA2 : Hid (lateB C = false → bareB C = true → adN C = 902) := fun h h2 => by rw [HAN.out, if_pos h0, if_neg (by rw [h]; simp), if_pos h2]
    have HA3 : Hid (lateB C = false → bareB C = false → adN C = 0) := fun h h2 => by rw [HAN.out, if_pos h0, if_neg (by rw [h]; simp), if_neg (by rw [h2]; simp)]
    have HLM := hide (fun (j : Nat) (hj : j < C.parts.length) => level_may h0 hj)
    have HLO := hide (fun (j : Nat) (h : (partAt C.parts j).level = 0) => low_time h)
    have CM2 : Hid (∀ (P I : Nat), P < C.parts.length → I < (tasksOf C P).length → (partAt C.parts P).level = 1 → ∀ W, w.grownBy W none → Calls Tryd.prog 27 #[.agg #[.int .i64 C.frame, .int .i64 C.quiet, .slice pa C.parts.length pc, .slice wa C.wins.length wc, .slice oa C.ports.length oc], .int .i64 P, .int .i64 I] W fun e w' => e = .returned (.tuple #[.int .i64 (reV C P I), .int .i64 (reE C P I)]) ∧ W.grownBy w' none) := fun P I hP hI hlv W hg => by
      rw [(re_in h0 hP hlv hI).1, (re_in h0 hP hlv hI).2]
      exact CM.out P I h0 hP hI W hg
    have HEE : Hid (∀ (P I : Nat), P < C.parts.length → I < (tasksOf C P).length → (partAt C.parts P).level = 1 → reE C P I = 901 ∨ reE C P I = 0) := fun P I hP hI hlv => by
      rw [(re_in h0 hP hlv hI).2]
      by_cases h : reN C P I = 0
      · exact .inl (if_pos h)
      · exact .inr (if_neg h)
    have CS2 : Hid (∀ (P : Nat), P < C.parts.length → ∀ W, w.grownBy W none → Calls Tryd.prog 30 #[.agg #[.int .i64 C.frame, .int .i64 C.quiet, .slice pa C.parts.length pc, .slice wa C.wins.length wc, .slice oa C.ports.length oc], .int .i64 P] W fun e w' => e = .returned (.int .i64 (shV C P)) ∧ W.grownBy w' none) := fun P hP W hg => by
      rw [sh_of h0 hP]
      exact CS.out P h0 W hg
    have HL0 : Hid (∀ j, j < C.parts.length → ∀ i, i < (tasksOf C j).length → reE C j i = 901 → lateB C = true) := fun j hj i hi h => by
      rw [lateB_eq, allB_false hj (allB_false hi (by rw [h]; rfl))]; rfl
    have HL1 : Hid (∀ j, (∀ i, i < (tasksOf C j).length → reE C j i ≠ 901) → inTime C j = true) := fun j h => allB_true fun i hi => by rw [decide_eq_false (h i hi)]; rfl
    have HL2 : Hid ((∀ j, j < C.parts.length → inTime C j = true) → lateB C = false) := fun h => by rw [lateB_eq, allB_true h]; rfl
    have HB0 : Hid (bareB C = !allB C.parts.length (fedB C)) := rfl
    have HBS : Hid (∀ j, (!allB (j + 1) (fedB C)) = (!allB j (fedB C) || !fedB C j)) := fun j => by rw [allB_succ]; cases allB j (fedB C) <;> cases fedB C j <;> rfl
    have HBI : Hid ((!allB 0 (fedB C)) = false) := rfl
    have HFH : Hid (∀ j, (partAt C.parts j).level = 1 → fedB C j = true) := fun j h => by unfold fedB; rw [h]; rfl
    have HFL : Hid (∀ j, (partAt C.parts j).level = 0 → fedB C j = !decide (shV C j = 0)) := fun j h => by unfold fedB; rw [h]; rfl
    rw [h0] at C1
    clear CM CS HAN h0
    generalize adN C = an at *
    generalize lateB C = lb at *
    generalize bareB C = bb at *
    generalize inTime C = tm at *
    generalize fedB C = fd at *
    generalize hT : (fun j => (tasksOf C j).length) = tl at *
    have HTL : Hid (∀ j, (tasksOf C j).length = tl j) := fun j => by rw [← hT]
    generalize hL : (fun j => (partAt C.parts j).level) = lv at *
    have HLV : Hid (∀ j, (partAt C.parts j).level = lv j) := fun j => by rw [← hL]
    generalize hK : (fun j => (partAt C.parts j).code.length) = cl at *
    have HKL : Hid (∀ j, (partAt C.parts j).code.length = cl j) := fun j => by rw [← hK]
    clear hT hL hK
    simp only [HTL.out, HLV.out, HKL.out] at HPB
    simp only [HTL.out] at HL0 HL1
    simp only [HLV.out] at HLM HLO HFH HFL
    simp only [HTL.out, HLV.out] at CM2 HEE
    clear HTL HLV HKL
    generalize reV C = rv at *
    generalize reE C = re at *
    generalize shV C = sv at *
    generalize C.frame = fr at *
    generalize C.quiet = qt at *
    generalize C.parts.length = N at *
    generalize C.wins.length = n1 at *
    generalize C.ports.length = n2 at *
    obtain ⟨k0, k1, k2, k3, k4⟩ := KEEP.out wb (grownBy_refl _ _)
    go_enter Tryd.func14, Tryd.ntmps14
    go_wp2_with (first | fail)
    have HWB := hide hwb
    clear hwb k0 k1 k2 k3 k4
    refine (C1.out _ HG0.out).mono ?_; rintro e w1 ⟨rfl, hg⟩
    have G1 := hide hg
    clear hg C1
    go_wp2
    go_loopw [4, 5, 6, 7, 8] (fun lw s _ _ _ W => ∃ (j : Nat) (b : Bool), j ≤ N ∧ s = .int .i64 j ∧ lw = .bool b ∧ Hid (b = !allB j fd) ∧ Hid (wb.grownBy W none) ∧ Hid (∀ i, i < j → tm i = true)) (fun _ s _ _ _ _ => N - (intOf s).toNat)
    case atStart => exact ⟨0, false, by omega, rfl, rfl, HBI.out.symm, G1, fun i hi => by omega⟩
    case round =>
      obtain ⟨j, b, hj, rfl, rfl, Hb, HG, HB⟩ := hrel
      obtain ⟨k0, k1, k2, k3, k4⟩ := KEEP.out wr HG.out
      by_cases hlt : j < N
      · obtain ⟨g, o, ta, tc, ca, cc, rfl, HC, ht1⟩ := HPB.out j hlt
        obtain ⟨c0, c1, c2⟩ := HC.out wr (grownBy_trans HG0.out HG.out)
        have HLj := hide (fun i hi h => HL0.out j hlt i hi h)
        have HTj := hide (HL1.out j)
        have CRj := hide (fun I hI h W hg => CM2.out j I hlt hI h W hg)
        have HEj := hide (fun I hI h => HEE.out j I hlt hI h)
        have CSj := hide (CS2.out j hlt)
        have HBj := hide (HBS.out j)
        have HFHj := hide (HFH.out j)
        have HFLj := hide (HFL.out j)
        have HLOj := hide (HLO.out j)
        have hlm := HLM.out j hlt
        have HB2 : Hid (tm j = true → ∀ x, x < j + 1 → tm x = true) := fun h x hx => by
          rcases (by omega : x < j ∨ x = j) with h' | rfl
          · exact HB.out x h'
          · exact h
        generalize tl j = tn at *
        generalize lv j = l at *
        generalize cl j = cn at *
        rcases hlm with rfl | rfl
        · have HX := hide (HB2.out (HLOj.out rfl))
          have HF := hide (HFLj.out rfl)
          generalize sv j = s1 at *
          clear HLj HTj CRj HEj HFHj HFLj HLOj HB2 HC c2
          cases b with
          | true =>
            have HBN : Hid (true = !allB (j + 1) fd) := by rw [HBj.out, ← Hb.out]; rfl
            go_wp2
            go_roundw
            case rel => exact ⟨j + 1, true, by omega, by go_num, rfl, HBN, HG, HX⟩
            case measure => simp [intOf]; omega
          | false =>
            by_cases hs : s1 = 0
            · subst hs
              have HBN : Hid (true = !allB (j + 1) fd) := by rw [HBj.out, ← Hb.out, HF.out]; rfl
              go_wp2_with (go_at_call 30; refine (CSj.out _ (grownBy_trans HG0.out HG.out)).mono ?_; rintro e w3 ⟨rfl, hg⟩; have G3 := hide (grownBy_trans HG.out hg); clear hg)
              go_roundw
              case rel => exact ⟨j + 1, true, by omega, by go_num, rfl, HBN, G3, HX⟩
              case measure => simp [intOf]; omega
            · have hb : (s1 == 0) = false := by simp [hs]
              have HBN : Hid (false = !allB (j + 1) fd) := by rw [HBj.out, ← Hb.out, HF.out, decide_eq_false hs]; rfl
              go_wp2_with (go_at_call 30; refine (CSj.out _ (grownBy_trans HG0.out HG.out)).mono ?_; rintro e w3 ⟨rfl, hg⟩; have G3 := hide (grownBy_trans HG.out hg); clear hg)
              go_roundw
              case rel => exact ⟨j + 1, false, by omega, by go_num, rfl, HBN, G3, HX⟩
              case measure => simp [intOf]; omega
        · have HBN : Hid (b = !allB (j + 1) fd) := by rw [HBj.out, ← Hb.out, HFHj.out rfl]; cases b <;> rfl
          have CRk := hide (fun I hI W hg => CRj.out I hI rfl W hg)
          have HEk := hide (fun I hI => HEj.out I hI rfl)
          clear HFHj HFLj HLOj HBj CSj CRj HEj
          go_wp2
          clear k0 k1 k2 k3 k4 c0 c1 c2
          go_loopw [6, 7, 8] (fun s _ _ W => ∃ (i : Nat), i ≤ tn ∧ s = .int .i64 i ∧ Hid (wb.grownBy W none) ∧ Hid (∀ x : Nat, x < i → re j x ≠ 901)) (fun s _ _ _ => tn - (intOf s).toNat)
          case atStart => exact ⟨0, by omega, rfl, HG, fun x hx => by omega⟩
          case round =>
            obtain ⟨i, hi, rfl, HI, HN⟩ := hrel
            obtain ⟨k0, k1, k2, k3, k4⟩ := KEEP.out wr HI.out
            obtain ⟨c0, c1, c2⟩ := HC.out wr (grownBy_trans HG0.out HI.out)
            by_cases hlt2 : i < tn
            · have CX := hide (CRk.out i hlt2 wr (grownBy_trans HG0.out HI.out))
              have HLi := hide (HLj.out i hlt2)
              have hee := HEk.out i hlt2
              have HNX : Hid (re j i ≠ 901 → ∀ x : Nat, x < i + 1 → re j x ≠ 901) := fun h x hx => by
                rcases (by omega : x < i ∨ x = i) with h' | rfl
                · exact HN.out x h'
                · exact h
              generalize hre : re j i = e1 at *
              clear hre
              generalize rv j i = v1 at *
              rcases hee with rfl | rfl
              · have HLL := hide (HA1.out (HLi.out rfl))
                clear HLi HNX
                go_wp2_with (go_at_call 27; refine CX.out.mono ?_; rintro e w3 ⟨rfl, hg⟩; have G3 := hide (grownBy_trans HI.out hg); clear hg)
                go_ret
                exact ⟨by rw [HLL.out]; rfl, grownBy_trans HG0.out G3.out⟩
              · have HN2 := hide (HNX.out (by omega))
                clear HLi HNX
                go_wp2_with (go_at_call 27; refine CX.out.mono ?_; rintro e w3 ⟨rfl, hg⟩; have G3 := hide (grownBy_trans HI.out hg); clear hg)
                go_roundw
                case rel => exact ⟨i + 1, by omega, by go_num, G3, HN2⟩
                case measure => simp [intOf]; omega
            · have HX := hide (HB2.out (HTj.out fun y hy => HN.out y (by omega)))
              go_wp2
              go_roundw
              case rel => exact ⟨j + 1, b, by omega, by go_num, rfl, HBN, HI, HX⟩
              case measure => simp [intOf]; omega
      · have e : j = N := by omega
        have HF := hide (HL2.out fun x hx => HB.out x (by omega))
        have HBB : Hid (bb = b) := HB0.out.trans (by rw [← e]; exact Hb.out.symm)
        cases b with
        | true =>
          have HZ := hide (HA2.out HF.out HBB.out)
          go_wp2
          go_ret
          exact ⟨by rw [HZ.out]; rfl, grownBy_trans HG0.out HG.out⟩
        | false =>
          have HZ := hide (HA3.out HF.out HBB.out)
          go_wp2
          go_ret
          exact ⟨by rw [HZ.out]; rfl, grownBy_trans HG0.out HG.out⟩
  · have HZ := hide (HAN.out.trans (if_neg h0))
    clear CM CS HPB HAN
    generalize adN C = an at *
    generalize checkN C = ce at *
    generalize C.frame = fr at *
    generalize C.quiet = qt at *
    generalize C.parts.length = N at *
    generalize C.wins.length = n1 at *
    generalize C.ports.length = n2 at *
    have hd : (ce != 0) = true := by simp [h0]
    obtain ⟨k0, k1, k2, k3, k4⟩ := KEEP.out wb (grownBy_refl _ _)
    go_enter Tryd.func14, Tryd.ntmps14
    go_wp2_with (first | fail)
    have HWB := hide hwb
    clear hwb k0 k1 k2 k3 k4
    refine (C1.out _ HG0.out).mono ?_; rintro e w1 ⟨rfl, hg⟩
    have G1 := hide hg
    clear hg C1
    go_wp2
    go_ret
    exact ⟨by rw [HZ.out]; rfl, grownBy_trans HG0.out G1.out⟩
#print axioms rAdmit_any
end Go.Proofs.YtehnklpjkcofcaaDoor

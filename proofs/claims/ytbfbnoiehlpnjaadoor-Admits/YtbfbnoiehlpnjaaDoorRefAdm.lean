/- Contracts of the document's own response and Response, proved over the translation: they answer as the program's. -/
import Derived.Test.YtbfbnoiehlpnjaaDoorAdmB
import Derived.Test.YtbfbnoiehlpnjaaDoorRefLeast
import Derived.Test.YtbfbnoiehlpnjaaDoorRefBound
namespace Go.Proofs.YtbfbnoiehlpnjaaDoor
open Go.RowKit R6
attribute [local go_sem] alloc_drewN setCell_drewN

set_option maxRecDepth 100000 in
set_option maxHeartbeats 4000000 in
theorem rresp_any {lo : Nat} (c : Value) (C : ConfV) (P I : Nat) (h0 : checkN C = 0) (hP : P < C.parts.length) (hI : I < (tasksOf C P).length) (w : World) (hc : ConfAt lo w c C) :
    Calls Tryd.prog 27 #[c, .int .i64 P, .int .i64 I] w fun e w' => e = .returned (.tuple #[.int .i64 (reN C P I : Nat), .int .i64 (if reN C P I = 0 then 901 else 0)]) ∧ w.grownBy w' none := by
  obtain ⟨ht6, hm⟩ := tasks_may h0 hP
  have hFI := fine_of h0
  obtain ⟨F, hF⟩ : ∃ F : Nat, (F : Int) = C.frame := ⟨C.frame.toNat, by have := hFI.f0; omega⟩
  have CL : Hid (∀ (k : Nat), k ≤ 4096 → ∀ W, w.grownBy W none → Calls Tryd.prog 32 #[c, .int .i64 P, .int .i64 k] W fun e w' => e = .returned (.int .i64 (leV C P k)) ∧ W.grownBy w' none) := fun k hk W hg => by
    rw [(le_in h0 P F k hP hF hk).1]
    exact rleast_any c C P F k hF hFI hk W (hc.grown hg)
  obtain ⟨vp, vw, vo, rfl, hp, ⟨-, wa, wc, rfl, -⟩, ⟨-, oa, oc, rfl, -⟩⟩ := hc
  have HPP := hide hp
  obtain ⟨qs, hlen, ⟨hl, pa, pc, rfl, -⟩, -⟩ := hp
  rw [hlen] at hl CL HPP ⊢
  obtain ⟨g, o, ta, tc, ca, cc, rfl, -, HC, HR, hl2⟩ := HPP.out.part (P := P) hP
  have hta := may_all (may_of hm hI)
  have hq := taskAt_mem' (ws := tasksOf C P) (i := I) hI
  have HA := hide (row_addr (HR.out w (grownBy_refl _ _)) (show 0 < (partAt C.parts P).tasks.length from Nat.lt_of_le_of_lt (Nat.zero_le _) hI))
  obtain ⟨tg, tof, rfl⟩ := HA.out
  have CB : Hid (∀ (k : Nat), k ≤ 4096 → ∀ W, w.grownBy W none → Calls Tryd.prog 34 #[.slice (some ⟨tg, tof, none⟩) (partAt C.parts P).tasks.length tc, .int .i64 I, .int .i64 k] W fun e w' => e = .returned (.int .i64 (boundV (tasksOf C P) I k)) ∧ W.grownBy w' none) := fun k hk W hg => by
    rw [(bound_in hm hI hk).1]
    exact rsum_any _ (tasksOf C P) I k W (HR.out W hg) hm hI (by omega) (by omega) (by omega)
  have HD : Hid (∀ V, w.grownBy V none → V.cell? ⟨tg, tof + I * 6 + 2, none⟩ = some (.int .i64 (taskAt (tasksOf C P) I).deadline)) := fun V hV => row_cell (S := shT) (HR.out V hV) hq (k := 2) rfl
  have HRN : Hid (reN C P I = firstTo (enoughB C P I) (taskAt (tasksOf C P) I).deadline.toNat) := rfl
  have HEN : Hid (∀ k : Nat, enoughB C P I k = decide (boundV (tasksOf C P) I k ≤ leV C P k)) := fun k => rfl
  obtain ⟨D, hD⟩ : ∃ D : Nat, (taskAt (tasksOf C P) I).deadline = D := ⟨(taskAt (tasksOf C P) I).deadline.toNat, by omega⟩
  have hD1 : D ≤ 1024 := by omega
  have hD0 : 1 ≤ D := by omega
  rw [hD] at HRN HD
  rw [Int.toNat_natCast] at HRN
  unfold tasksOf at hI
  clear HPP HR hq HA hD hta hm ht6 h0 hF hFI hlen
  generalize (partAt C.parts P).level = lvl at *
  generalize (partAt C.parts P).tasks.length = tn at *
  generalize (partAt C.parts P).code.length = cn at *
  generalize enoughB C P I = en at *
  generalize reN C P I = rn at *
  generalize hae : (if rn = 0 then (901 : Int) else 0) = ae
  have HAE := hide hae
  clear hae
  generalize boundV (tasksOf C P) I = bv at *
  generalize leV C P = lv at *
  generalize C.frame = fr at *
  generalize C.quiet = qt at *
  generalize C.parts.length = n0 at *
  generalize C.wins.length = n1 at *
  generalize C.ports.length = n2 at *
  generalize hwb : w.alloc (.cells #[.int .i64 fr, .int .i64 qt, .slice (some ⟨g, o, none⟩) n0 pc, .slice wa n1 wc, .slice oa n2 oc] 26) = wb
  have HG0 := hide (show w.grownBy wb none by rw [← hwb]; exact World.grownBy_alloc _ _ none)
  have KEEP : Hid (∀ V, wb.grownBy V none → V.cell? ⟨w.heap.size, 0, none⟩ = some (.int .i64 fr) ∧ V.cell? ⟨w.heap.size, 1, none⟩ = some (.int .i64 qt) ∧ V.cell? ⟨w.heap.size, 2, none⟩ = some (.slice (some ⟨g, o, none⟩) n0 pc) ∧ V.cell? ⟨w.heap.size, 3, none⟩ = some (.slice wa n1 wc) ∧ V.cell? ⟨w.heap.size, 4, none⟩ = some (.slice oa n2 oc)) := by
    intro V hV
    have b := fun k => World.cell?_of_block (a := ⟨w.heap.size, k, none⟩) (hV.block w.heap.size (by rw [← hwb]; simp) (by simp))
    exact ⟨(b 0).trans (by rw [← hwb]; simp), (b 1).trans (by rw [← hwb]; simp), (b 2).trans (by rw [← hwb]; simp), (b 3).trans (by rw [← hwb]; simp), (b 4).trans (by rw [← hwb]; simp)⟩
  obtain ⟨k0, k1, k2, k3, k4⟩ := KEEP.out wb (grownBy_refl _ _)
  have c1 := (HC.out wb HG0.out).2.1
  go_enter Tryd.func27, Tryd.ntmps27
  go_wp2
  have HWB := hide hwb
  clear hwb k0 k1 k2 k3 k4 c1
  go_loopw [9] (fun s W => ∃ (k : Nat), 1 ≤ k ∧ k ≤ D + 1 ∧ s = .int .i64 k ∧ Hid (wb.grownBy W none) ∧ Hid (∀ j, 1 ≤ j → j < k → en j = false)) (fun s _ => D + 1 - (intOf s).toNat)
  case atStart => exact ⟨1, by omega, by omega, rfl, grownBy_refl _ _, fun j h1 h2 => by omega⟩
  case round =>
    obtain ⟨k, hk1, hk2, rfl, HG, HB⟩ := hrel
    have d2 := HD.out wr (grownBy_trans HG0.out HG.out)
    by_cases hlt : k ≤ D
    · have CLk := hide (CL.out k (by omega))
      have CBk := hide (CB.out k (by omega))
      have HEk := hide (HEN.out k)
      obtain ⟨k0, k1, k2, k3, k4⟩ := KEEP.out wr HG.out
      have hdk : decide ((k : Int) ≤ (D : Int)) = true := decide_eq_true (by omega)
      have hdk2 : decide (k ≤ D) = true := decide_eq_true (by omega)
      generalize lv k = lvk at *
      generalize bv k = bvk at *
      by_cases he : bvk ≤ lvk
      · have HF := hide (firstTo_yes hk1 hlt (HEk.out.trans (decide_eq_true he)) fun j j1 j2 => HB.out j j1 j2)
        have hge : decide (bvk ≤ lvk) = true := decide_eq_true he
        go_wp2_with (first | (go_at_call 32; refine (CLk.out _ (grownBy_trans HG0.out HG.out)).mono ?_; rintro e w3 ⟨rfl, hg⟩; have G3 := hide (grownBy_trans HG.out hg); clear hg) | (go_at_call 34; refine (CBk.out _ (grownBy_trans HG0.out G3.out)).mono ?_; rintro e w4 ⟨rfl, hg⟩; have G4 := hide (grownBy_trans G3.out hg); clear hg))
        go_ret2
        exact ⟨by rw [← HAE.out, HRN.out, HF.out, if_neg (by omega)]; rfl, grownBy_trans HG0.out G4.out⟩
      · have HB2 : Hid (∀ j, 1 ≤ j → j < k + 1 → en j = false) := fun j j1 j2 => by
          rcases (by omega : j < k ∨ j = k) with h | rfl
          · exact HB.out j j1 h
          · exact HEk.out.trans (decide_eq_false he)
        have hge : decide (bvk ≤ lvk) = false := decide_eq_false he
        go_wp2_with (first | (go_at_call 32; refine (CLk.out _ (grownBy_trans HG0.out HG.out)).mono ?_; rintro e w3 ⟨rfl, hg⟩; have G3 := hide (grownBy_trans HG.out hg); clear hg) | (go_at_call 34; refine (CBk.out _ (grownBy_trans HG0.out G3.out)).mono ?_; rintro e w4 ⟨rfl, hg⟩; have G4 := hide (grownBy_trans G3.out hg); clear hg))
        go_roundw
        case rel => exact ⟨k + 1, by omega, by omega, by go_num, G4, HB2⟩
        case measure => simp [intOf]; omega
    · have HF := hide (firstTo_no (f := en) (n := D) fun j j1 j2 => HB.out j j1 (by omega))
      have hdk : decide ((k : Int) ≤ (D : Int)) = false := decide_eq_false (by omega)
      have hdk2 : decide (k ≤ D) = false := decide_eq_false (by omega)
      go_wp2
      go_ret2
      exact ⟨by rw [← HAE.out, HRN.out, HF.out]; rfl, grownBy_trans HG0.out HG.out⟩

theorem levN_high (ps : List PartV) (p : Int) : (levN (ps.map PartV.level) p = 1) ↔ highB ps p = true := by
  unfold levN highB partAt
  by_cases h0 : 0 ≤ p ∧ p < ps.length
  · simp [h0.1, h0.2]
  · rcases (by omega : ¬ 0 ≤ p ∨ ¬ p < ps.length) with h | h <;> simp [h]

set_option maxRecDepth 100000 in
set_option maxHeartbeats 4000000 in
theorem rResp_any {lo : Nat} (c : Value) (C : ConfV) (p i : Int) (w : World) (hc : ConfAt lo w c C) :
    Calls Tryd.prog 11 #[c, .int .i64 p, .int .i64 i] w fun e w' => e = .returned (.tuple #[.int .i64 (reV C p i), .int .i64 (reE C p i)]) ∧ w.grownBy w' none := by
  have C1 := hide (fun W (hg : w.grownBy W none) => rcheck_any c C W (hc.grown hg))
  have CM := hide (fun (P I : Nat) (hck : checkN C = 0) (hP : P < C.parts.length) (hI : I < (tasksOf C P).length) W (hg : w.grownBy W none) => rresp_any c C P I hck hP hI W (hc.grown hg))
  obtain ⟨vp, vw, vo, rfl, hp, ⟨-, wa, wc, rfl, -⟩, ⟨-, oa, oc, rfl, -⟩⟩ := hc
  have HPP := hide hp
  obtain ⟨qs, hlen, hrow, hel⟩ := hp
  have HROW := hide (fun W (hg : w.grownBy W none) => hrow.grown hg)
  have HLS := hide (levels_of hlen hel)
  obtain ⟨hl, pa, pc, rfl, -⟩ := hrow
  have CH := hide (fun W (hg : w.grownBy W none) => rlevel_any C.frame C.quiet pa qs.length pc (.slice wa C.wins.length wc) (.slice oa C.ports.length oc) qs _ HLS.out p ⟨_, _, _, rfl⟩ ⟨_, _, _, rfl⟩ W (HROW.out W hg))
  have HLV := hide (levN_high C.parts p)
  rw [hlen] at hl C1 CM CH HPP ⊢
  clear hlen HROW HLS hel
  generalize levN (C.parts.map PartV.level) p = lvn at *
  generalize hwb : w.alloc (.cells #[.int .i64 C.frame, .int .i64 C.quiet, .slice pa C.parts.length pc, .slice wa C.wins.length wc, .slice oa C.ports.length oc] 26) = wb
  have HG0 := hide (show w.grownBy wb none by rw [← hwb]; exact World.grownBy_alloc _ _ none)
  have KEEP : Hid (∀ V, wb.grownBy V none → V.cell? ⟨w.heap.size, 0, none⟩ = some (.int .i64 C.frame) ∧ V.cell? ⟨w.heap.size, 1, none⟩ = some (.int .i64 C.quiet) ∧ V.cell? ⟨w.heap.size, 2, none⟩ = some (.slice pa C.parts.length pc) ∧ V.cell? ⟨w.heap.size, 3, none⟩ = some (.slice wa C.wins.length wc) ∧ V.cell? ⟨w.heap.size, 4, none⟩ = some (.slice oa C.ports.length oc)) := by
    intro V hV
    have b := fun k => World.cell?_of_block (a := ⟨w.heap.size, k, none⟩) (hV.block w.heap.size (by rw [← hwb]; simp) (by simp))
    exact ⟨(b 0).trans (by rw [← hwb]; simp), (b 1).trans (by rw [← hwb]; simp), (b 2).trans (by rw [← hwb]; simp), (b 3).trans (by rw [← hwb]; simp), (b 4).trans (by rw [← hwb]; simp)⟩
  cases hok : reOK C p i with
  | false =>
    have HANS := hide (re_no hok)
    rcases reOK_not hok with h0 | ⟨h0, h1 | ⟨h1, P, rfl, hP, h2⟩⟩
    · clear hok
      have HRE := hide (ret_re HANS.out)
      clear CH CM HANS HPP HLV
      generalize C.frame = fr at *
      generalize C.quiet = qt at *
      generalize C.parts.length = n0 at *
      generalize C.wins.length = n1 at *
      generalize C.ports.length = n2 at *
      generalize checkN C = ce at *
      have hd : (ce != 0) = true := by simp [h0]
      obtain ⟨k0, k1, k2, k3, k4⟩ := KEEP.out wb (grownBy_refl _ _)
      go_enter Tryd.func11, Tryd.ntmps11
      go_wp2_with (first | fail)
      clear hwb k0 k1 k2 k3 k4
      refine (C1.out _ HG0.out).mono ?_; rintro e w1 ⟨rfl, hg⟩
      have G1 := hide hg
      clear hg C1
      go_wp2
      go_ret2
      exact ⟨HRE.out, grownBy_trans HG0.out G1.out⟩
    · clear hok
      have HRE := hide (ret_re HANS.out)
      rw [h0] at C1
      have hne : (lvn != 1) = true := by
        have : ¬ lvn = 1 := fun e => by have := HLV.out.1 e; rw [h1] at this; cases this
        simp [this]
      clear CM HANS HPP h0 h1 HLV
      generalize C.frame = fr at *
      generalize C.quiet = qt at *
      generalize C.parts.length = n0 at *
      generalize C.wins.length = n1 at *
      generalize C.ports.length = n2 at *
      obtain ⟨k0, k1, k2, k3, k4⟩ := KEEP.out wb (grownBy_refl _ _)
      go_enter Tryd.func11, Tryd.ntmps11
      go_wp2_with (first | fail)
      clear hwb k0 k1 k2 k3 k4
      refine (C1.out _ HG0.out).mono ?_; rintro e w1 ⟨rfl, hg⟩
      have G1 := hide hg
      clear hg C1
      obtain ⟨k0, k1, k2, k3, k4⟩ := KEEP.out w1 G1.out
      go_wp2_with (go_at_call 26; refine (CH.out _ (grownBy_trans HG0.out G1.out)).mono ?_; rintro e w2 ⟨rfl, hg⟩; have G2 := hide (grownBy_trans G1.out hg); clear hg)
      go_ret2
      exact ⟨HRE.out, grownBy_trans HG0.out G2.out⟩
    · clear hok
      have HRE := hide (ret_re HANS.out)
      rw [h0] at C1
      obtain rfl := HLV.out.2 h1
      clear CM HANS h0 h1 HLV
      obtain ⟨g, o, ta, tc, ca, cc, rfl, -, HC, -, hl2⟩ := HPP.out.part (P := P) hP
      clear HPP
      unfold tasksOf at h2
      generalize (partAt C.parts P).level = lvl at *
      generalize (partAt C.parts P).tasks.length = tn at *
      generalize (partAt C.parts P).code.length = cn at *
      generalize C.frame = fr at *
      generalize C.quiet = qt at *
      generalize C.parts.length = n0 at *
      generalize C.wins.length = n1 at *
      generalize C.ports.length = n2 at *
      rcases h2 with h2 | ⟨h2, h3⟩
      · obtain ⟨k0, k1, k2, k3, k4⟩ := KEEP.out wb (grownBy_refl _ _)
        go_enter Tryd.func11, Tryd.ntmps11
        go_wp2_with (first | fail)
        clear hwb k0 k1 k2 k3 k4
        refine (C1.out _ HG0.out).mono ?_; rintro e w1 ⟨rfl, hg⟩
        have G1 := hide hg
        clear hg C1
        obtain ⟨k0, k1, k2, k3, k4⟩ := KEEP.out w1 G1.out
        go_wp2_with (go_at_call 26; refine (CH.out _ (grownBy_trans HG0.out G1.out)).mono ?_; rintro e w2 ⟨rfl, hg⟩; have G2 := hide (grownBy_trans G1.out hg); clear hg)
        go_ret2
        exact ⟨HRE.out, grownBy_trans HG0.out G2.out⟩
      · obtain ⟨k0, k1, k2, k3, k4⟩ := KEEP.out wb (grownBy_refl _ _)
        go_enter Tryd.func11, Tryd.ntmps11
        go_wp2_with (first | fail)
        clear hwb k0 k1 k2 k3 k4
        refine (C1.out _ HG0.out).mono ?_; rintro e w1 ⟨rfl, hg⟩
        have G1 := hide hg
        clear hg C1
        obtain ⟨k0, k1, k2, k3, k4⟩ := KEEP.out w1 G1.out
        go_wp2_with (go_at_call 26; refine (CH.out _ (grownBy_trans HG0.out G1.out)).mono ?_; rintro e w2 ⟨rfl, hg⟩; have G2 := hide (grownBy_trans G1.out hg); clear hg k0 k1 k2 k3 k4; obtain ⟨k0, k1, k2, k3, k4⟩ := KEEP.out w2 G2.out; have c1 := (HC.out w2 (grownBy_trans HG0.out G2.out)).2.1)
        go_ret2
        exact ⟨HRE.out, grownBy_trans HG0.out G2.out⟩
  | true =>
    have HH := hide (reOK_high hok)
    obtain ⟨h0, P, I, rfl, rfl, hP, hlv, hI⟩ := re_yes hok
    have HRI := hide (re_in h0 hP hlv hI)
    have CM2 := hide (fun W (hg : w.grownBy W none) => CM.out P I h0 hP hI W hg)
    rw [← HRI.out.1, ← HRI.out.2] at CM2
    obtain ⟨g, o, ta, tc, ca, cc, rfl, -, HC, -, hl2⟩ := HPP.out.part (P := P) hP
    rw [h0] at C1
    obtain rfl := HLV.out.2 HH.out
    unfold tasksOf at hI
    clear CM HPP hlv h0 hok HH HLV HRI
    generalize (partAt C.parts P).level = lvl at *
    generalize (partAt C.parts P).tasks.length = tn at *
    generalize (partAt C.parts P).code.length = cn at *
    generalize reV C P I = rv at *
    generalize reE C P I = re at *
    generalize C.frame = fr at *
    generalize C.quiet = qt at *
    generalize C.parts.length = n0 at *
    generalize C.wins.length = n1 at *
    generalize C.ports.length = n2 at *
    have hdc1 : decide ((tn : Int) ≤ (I : Int)) = false := decide_eq_false (by omega)
    have hdc2 : decide (tn ≤ I) = false := decide_eq_false (by omega)
    obtain ⟨k0, k1, k2, k3, k4⟩ := KEEP.out wb (grownBy_refl _ _)
    go_enter Tryd.func11, Tryd.ntmps11
    go_wp2_with (first | fail)
    clear hwb k0 k1 k2 k3 k4
    refine (C1.out _ HG0.out).mono ?_; rintro e w1 ⟨rfl, hg⟩
    have G1 := hide hg
    clear hg C1
    obtain ⟨k0, k1, k2, k3, k4⟩ := KEEP.out w1 G1.out
    go_wp2_with (first | (go_at_call 26; refine (CH.out _ (grownBy_trans HG0.out G1.out)).mono ?_; rintro e w2 ⟨rfl, hg⟩; have G2 := hide (grownBy_trans G1.out hg); clear hg k0 k1 k2 k3 k4; obtain ⟨k0, k1, k2, k3, k4⟩ := KEEP.out w2 G2.out; have c1 := (HC.out w2 (grownBy_trans HG0.out G2.out)).2.1) | (go_at_call 27; refine (CM2.out _ (grownBy_trans HG0.out G2.out)).mono ?_; rintro e w3 ⟨rfl, hg⟩; have G3 := hide (grownBy_trans G2.out hg); clear hg))
    go_ret2
    exact ⟨rfl, grownBy_trans HG0.out G3.out⟩
#print axioms rresp_any
#print axioms rResp_any
end Go.Proofs.YtbfbnoiehlpnjaaDoor

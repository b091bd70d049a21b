/- The contract of the document's own CheckConfig, proved over the translation: it answers as the program's Check. -/
import Derived.Test.YtgaegggiehhcpaaDoorRefPort
import Derived.Test.YtgaegggiehhcpaaDoorRefMay
namespace Go.Proofs.YtgaegggiehhcpaaDoor.R6
open Go.RowKit
attribute [local go_sem] alloc_drewN setCell_drewN

theorem allB_succ (n : Nat) (f : Nat → Bool) : allB (n + 1) f = (allB n f && f n) := by unfold allB; rw [List.range_succ]; simp
theorem checkN_frame {C : ConfV} (h : frameB C.frame C.quiet = false) : checkN C = 501 := by simp [checkN, h]
theorem checkN_of {C : ConfV} (h : frameB C.frame C.quiet = true) : checkN C = if (decide (C.parts.length < 1) || (decide (8 < C.parts.length) || !allB C.parts.length (fun i => levelB (partAt C.parts i).level))) = true then 502 else if allB C.parts.length (fun i => tasksB (partAt C.parts i)) = false then 503 else if winsB C.frame C.parts.length C.wins = false then 504 else if portsB (C.parts.map PartV.level) C.ports = false then 505 else if allB C.parts.length (fun i => codeMay (partAt C.parts i).code) = false then 506 else 0 := by
  unfold checkN
  rw [if_neg (by simp [h])]
  have e : (partsB C.parts = false) = ((decide (C.parts.length < 1) || (decide (8 < C.parts.length) || !allB C.parts.length (fun i => levelB (partAt C.parts i).level))) = true) := by
    unfold partsB
    generalize allB C.parts.length (fun i => levelB (partAt C.parts i).level) = b
    generalize C.parts.length = n
    apply propext
    cases b with
    | false => simp
    | true =>
      simp
      omega
  simp only [e]

set_option maxRecDepth 100000 in
set_option maxHeartbeats 8000000 in
theorem rcheck_any {lo : Nat} (c : Value) (C : ConfV) (w : World) (hc : ConfAt lo w c C) :
    Calls Tryd.prog 16 #[c] w fun e w' => e = .returned (.int .i64 (checkN C)) ∧ w.grownBy w' none := by
  obtain ⟨vp, vw, vo, rfl, ⟨qs, hlen, hrow, hel⟩, hw, ho⟩ := hc
  have HRP := hide (fun W => hrow.grown (W := W))
  have HEL := hide (fun W (hg : w.grownBy W none) i q p hq hp => (hel i q p hq hp).kept (keep_grown hg))
  have hls := levels_of hlen hel
  have sw : ∃ a n c, vw = .slice a n c := by obtain ⟨_, a, cap, rfl, _⟩ := hw; exact ⟨_, _, _, rfl⟩
  have so : ∃ a n c, vo = .slice a n c := by obtain ⟨_, a, cap, rfl, _⟩ := ho; exact ⟨_, _, _, rfl⟩
  have hrow2 := hrow
  obtain ⟨hln, pa, pc, rfl, -⟩ := hrow
  have C4 := hide (fun W (hg : w.grownBy W none) => rwin_any C.frame C.quiet pa qs.length pc hln vw vo C.wins so W (hw.grown hg))
  have C5 := hide (fun W (hg : w.grownBy W none) => rports_any C.frame C.quiet pa qs.length pc vw vo qs (C.parts.map PartV.level) hls C.ports sw W (hrow2.grown hg) (ho.grown hg))
  rw [hlen] at C4 C5 HRP hln ⊢
  obtain ⟨wa, wn, wc, rfl⟩ := sw
  obtain ⟨oa, on, oc, rfl⟩ := so
  have HP : Hid (∀ j, j < C.parts.length → ∃ q, qs[j]? = some q ∧ q.level = (partAt C.parts j).level ∧ (∀ W, w.grownBy W none → Calls Tryd.prog 37 #[.agg #[.int .i64 q.level, .slice q.ta q.tn q.tc, .slice q.ca q.cn q.cc]] W fun e w' => e = .returned (.bool (tasksB (partAt C.parts j))) ∧ W.grownBy w' none) ∧ (∀ W, w.grownBy W none → Calls Tryd.prog 38 #[.slice q.ca q.cn q.cc] W fun e w' => e = .returned (.bool (codeMay (partAt C.parts j).code)) ∧ W.grownBy w' none)) := by
    intro j hj
    obtain ⟨q, hq⟩ : ∃ q, qs[j]? = some q := ⟨_, List.getElem?_eq_getElem (by omega)⟩
    obtain ⟨p, hp⟩ := part_of hlen hq
    rw [partAt_of hp]
    exact ⟨q, hq, (hel j q p hq hp).1, fun W hg => rpart_any q p W (HEL.out W hg j q p hq hp), fun W hg => codeMay_ref _ p.code (HEL.out W hg j q p hq hp).2.2.1 W (preads_row (HEL.out W hg j q p hq hp).2.2)⟩
  have HLQ := hide hlen
  clear hlen hel hls hrow2 hw ho
  by_cases hfb : frameB C.frame C.quiet = true
  case neg =>
    have HC := hide (checkN_frame (C := C) (by simpa using hfb))
    have hfb2 : ¬ (1 ≤ C.frame ∧ C.frame ≤ 256 ∧ 1 ≤ C.quiet ∧ C.quiet ≤ 16) := by
      intro h; apply hfb; simp only [frameB, Bool.and_eq_true, decide_eq_true_eq]; exact h
    clear hfb
    generalize checkN C = ce at *
    generalize C.parts.length = N at *
    generalize C.frame = fr at *
    generalize C.quiet = qt at *
    have HG0 := hide (World.grownBy_alloc w (.cells #[.int .i64 fr, .int .i64 qt, .slice pa N pc, .slice wa wn wc, .slice oa on oc] 26) none)
    by_cases h1 : fr < 1
    · go_enter Tryd.func16, Tryd.ntmps16
      go_wp2
      go_ret
      exact ⟨by rw [HC.out]; rfl, HG0.out⟩
    by_cases h2 : 256 < fr
    · go_enter Tryd.func16, Tryd.ntmps16
      go_wp2
      go_ret
      exact ⟨by rw [HC.out]; rfl, HG0.out⟩
    by_cases h3 : qt < 1
    · go_enter Tryd.func16, Tryd.ntmps16
      go_wp2
      go_ret
      exact ⟨by rw [HC.out]; rfl, HG0.out⟩
    have h4 : 16 < qt := by omega
    go_enter Tryd.func16, Tryd.ntmps16
    go_wp2
    go_ret
    exact ⟨by rw [HC.out]; rfl, HG0.out⟩
  have HC := hide (checkN_of hfb)
  have hfb2 : 1 ≤ C.frame ∧ C.frame ≤ 256 ∧ 1 ≤ C.quiet ∧ C.quiet ≤ 16 := by simpa only [frameB, Bool.and_eq_true, decide_eq_true_eq] using hfb
  clear hfb
  obtain ⟨hf1, hf2, hf3, hf4⟩ := hfb2
  have HSL := hide (fun j => allB_succ j (fun i => levelB (partAt C.parts i).level))
  have HST := hide (fun j => allB_succ j (fun i => tasksB (partAt C.parts i)))
  have HSC := hide (fun j => allB_succ j (fun i => codeMay (partAt C.parts i).code))
  have HZL : Hid (allB 0 (fun i => levelB (partAt C.parts i).level) = true) := rfl
  have HZT : Hid (allB 0 (fun i => tasksB (partAt C.parts i)) = true) := rfl
  have HZC : Hid (allB 0 (fun i => codeMay (partAt C.parts i).code) = true) := rfl
  generalize checkN C = ce at *
  generalize winsB C.frame C.parts.length C.wins = b4 at *
  generalize portsB (C.parts.map PartV.level) C.ports = b5 at *
  have HLV : Hid (∀ l, levelB l = (decide (l = 0) || decide (l = 1))) := fun l => rfl
  generalize C.parts.length = N at *
  generalize C.frame = fr at *
  generalize C.quiet = qt at *
  generalize hAL : (fun n => allB n (fun i => levelB (partAt C.parts i).level)) = AL at *
  generalize hwb : w.alloc (.cells #[.int .i64 fr, .int .i64 qt, .slice pa N pc, .slice wa wn wc, .slice oa on oc] 26) = wb
  have HG0 := hide (show w.grownBy wb none by rw [← hwb]; exact World.grownBy_alloc _ _ none)
  have KEEP : Hid (∀ V, wb.grownBy V none → V.cell? ⟨w.heap.size, 0, none⟩ = some (.int .i64 fr) ∧ V.cell? ⟨w.heap.size, 1, none⟩ = some (.int .i64 qt) ∧ V.cell? ⟨w.heap.size, 2, none⟩ = some (.slice pa N pc) ∧ V.cell? ⟨w.heap.size, 3, none⟩ = some (.slice wa wn wc) ∧ V.cell? ⟨w.heap.size, 4, none⟩ = some (.slice oa on oc)) := by
    intro V hV
    have b := fun k => World.cell?_of_block (a := ⟨w.heap.size, k, none⟩) (hV.block w.heap.size (by rw [← hwb]; simp) (by simp))
    exact ⟨(b 0).trans (by rw [← hwb]; simp), (b 1).trans (by rw [← hwb]; simp), (b 2).trans (by rw [← hwb]; simp), (b 3).trans (by rw [← hwb]; simp), (b 4).trans (by rw [← hwb]; simp)⟩
  go_enter Tryd.func16, Tryd.ntmps16
  go_upto_region 1 with fail
  have HWB := hide hwb
  clear hwb hAL
  obtain ⟨k0, k1, k2, k3, k4⟩ := KEEP.out wb (grownBy_refl _ _)
  go_wp2
  clear k0 k1 k2 k3 k4
  go_loopw [3, 4, 5, 6] (fun t3 t4 t5 s V => ∃ (j : Nat) (x3 x4 x5 : Bool), j ≤ N ∧ s = .int .i64 j ∧ t3 = .bool x3 ∧ t4 = .bool x4 ∧ t5 = .bool x5 ∧ Hid (x3 = allB j (fun i => tasksB (partAt C.parts i))) ∧ Hid (x4 = allB j (fun i => codeMay (partAt C.parts i).code)) ∧ Hid (x5 = allB j (fun i => levelB (partAt C.parts i).level)) ∧ Hid (wb.grownBy V none)) (fun _ _ _ s _ => N - (intOf s).toNat)
  case atStart => exact ⟨0, true, true, true, by omega, rfl, rfl, rfl, rfl, HZT.out.symm, HZC.out.symm, HZL.out.symm, grownBy_refl _ _⟩
  case round =>
    obtain ⟨j, x3, x4, x5, hj, rfl, rfl, rfl, rfl, HX3, HX4, HX5, HG⟩ := hrel
    obtain ⟨k0, k1, k2, k3, k4⟩ := KEEP.out wr HG.out
    by_cases hlt : j < N
    · obtain ⟨q, hq, hql, CT, CC⟩ := HP.out j hlt
      have HQ := hide hq
      have HCT := hide CT
      have HCC := hide CC
      obtain ⟨g, o, rfl⟩ := row_addr (HRP.out wr (grownBy_trans HG0.out HG.out)) (by omega)
      have HCL : Hid (∀ V, wb.grownBy V none → V.cell? ⟨g, o + j * 3, none⟩ = some (.int .i64 q.level) ∧ V.cell? ⟨g, o + j * 3 + 1, none⟩ = some (.slice q.ta q.tn q.tc) ∧ V.cell? ⟨g, o + j * 3 + 2, none⟩ = some (.slice q.ca q.cn q.cc)) := fun V hV => ⟨row_cell (S := shP) (HRP.out V (grownBy_trans HG0.out hV)) HQ.out (k := 0) rfl, row_cell (S := shP) (HRP.out V (grownBy_trans HG0.out hV)) HQ.out (k := 1) rfl, row_cell (S := shP) (HRP.out V (grownBy_trans HG0.out hV)) HQ.out (k := 2) rfl⟩
      have N3 := hide (show allB (j + 1) (fun i => tasksB (partAt C.parts i)) = (x3 && tasksB (partAt C.parts j)) by rw [HST.out, HX3.out])
      have N4 := hide (show allB (j + 1) (fun i => codeMay (partAt C.parts i).code) = (x4 && codeMay (partAt C.parts j).code) by rw [HSC.out, HX4.out])
      have N5 := hide (show allB (j + 1) (fun i => levelB (partAt C.parts i).level) = (x5 && (decide (q.level = 0) || decide (q.level = 1))) by rw [HSL.out, HX5.out, hql]; rfl)
      clear hq hql CT CC
      generalize tasksB (partAt C.parts j) = tk at *
      generalize codeMay (partAt C.parts j).code = cd at *
      obtain ⟨ql, qta, qtn, qtc, qca, qcn, qcc⟩ := q
      dsimp only at HCT HCC HCL N5
      obtain ⟨c0, c1, c2⟩ := HCL.out wr HG.out
      cases x5 with
      | false =>
        cases x3 with
        | true =>
          go_wp2_with (first | fail)
          refine (HCT.out _ (grownBy_trans HG0.out HG.out)).mono ?_; rintro e w1 ⟨rfl, hg⟩
          have G1 := hide (grownBy_trans HG.out hg)
          clear hg k0 k1 k2 k3 k4 c0 c1 c2
          obtain ⟨k0, k1, k2, k3, k4⟩ := KEEP.out w1 G1.out
          obtain ⟨c0, c1, c2⟩ := HCL.out w1 G1.out
          cases x4 with
          | true =>
            go_wp2_with (first | fail)
            refine (HCC.out _ (grownBy_trans HG0.out G1.out)).mono ?_; rintro e w2 ⟨rfl, hg⟩
            have G2 := hide (grownBy_trans G1.out hg)
            clear hg
            go_wp2
            go_roundw
            case rel => exact ⟨j + 1, _, _, _, by omega, by go_num, rfl, rfl, rfl, hide (by rw [N3.out]; simp), hide (by rw [N4.out]; simp), hide (by rw [N5.out]; simp), G2⟩
            case measure => simp [intOf]; omega
          | false =>
            have G2 := G1
            go_wp2
            go_roundw
            case rel => exact ⟨j + 1, _, _, _, by omega, by go_num, rfl, rfl, rfl, hide (by rw [N3.out]; simp), hide (by rw [N4.out]; simp), hide (by rw [N5.out]; simp), G2⟩
            case measure => simp [intOf]; omega
        | false =>
          have G1 := HG
          cases x4 with
          | true =>
            go_wp2_with (first | fail)
            refine (HCC.out _ (grownBy_trans HG0.out G1.out)).mono ?_; rintro e w2 ⟨rfl, hg⟩
            have G2 := hide (grownBy_trans G1.out hg)
            clear hg
            go_wp2
            go_roundw
            case rel => exact ⟨j + 1, _, _, _, by omega, by go_num, rfl, rfl, rfl, hide (by rw [N3.out]; simp), hide (by rw [N4.out]; simp), hide (by rw [N5.out]; simp), G2⟩
            case measure => simp [intOf]; omega
          | false =>
            have G2 := G1
            go_wp2
            go_roundw
            case rel => exact ⟨j + 1, _, _, _, by omega, by go_num, rfl, rfl, rfl, hide (by rw [N3.out]; simp), hide (by rw [N4.out]; simp), hide (by rw [N5.out]; simp), G2⟩
            case measure => simp [intOf]; omega
      | true =>
        by_cases h0 : ql = 0
        · subst h0
          cases x3 with
          | true =>
            go_wp2_with (first | fail)
            refine (HCT.out _ (grownBy_trans HG0.out HG.out)).mono ?_; rintro e w1 ⟨rfl, hg⟩
            have G1 := hide (grownBy_trans HG.out hg)
            clear hg k0 k1 k2 k3 k4 c0 c1 c2
            obtain ⟨k0, k1, k2, k3, k4⟩ := KEEP.out w1 G1.out
            obtain ⟨c0, c1, c2⟩ := HCL.out w1 G1.out
            cases x4 with
            | true =>
              go_wp2_with (first | fail)
              refine (HCC.out _ (grownBy_trans HG0.out G1.out)).mono ?_; rintro e w2 ⟨rfl, hg⟩
              have G2 := hide (grownBy_trans G1.out hg)
              clear hg
              go_wp2
              go_roundw
              case rel => exact ⟨j + 1, _, _, _, by omega, by go_num, rfl, rfl, rfl, hide (by rw [N3.out]; simp), hide (by rw [N4.out]; simp), hide (by rw [N5.out]; simp), G2⟩
              case measure => simp [intOf]; omega
            | false =>
              have G2 := G1
              go_wp2
              go_roundw
              case rel => exact ⟨j + 1, _, _, _, by omega, by go_num, rfl, rfl, rfl, hide (by rw [N3.out]; simp), hide (by rw [N4.out]; simp), hide (by rw [N5.out]; simp), G2⟩
              case measure => simp [intOf]; omega
          | false =>
            have G1 := HG
            cases x4 with
            | true =>
              go_wp2_with (first | fail)
              refine (HCC.out _ (grownBy_trans HG0.out G1.out)).mono ?_; rintro e w2 ⟨rfl, hg⟩
              have G2 := hide (grownBy_trans G1.out hg)
              clear hg
              go_wp2
              go_roundw
              case rel => exact ⟨j + 1, _, _, _, by omega, by go_num, rfl, rfl, rfl, hide (by rw [N3.out]; simp), hide (by rw [N4.out]; simp), hide (by rw [N5.out]; simp), G2⟩
              case measure => simp [intOf]; omega
            | false =>
              have G2 := G1
              go_wp2
              go_roundw
              case rel => exact ⟨j + 1, _, _, _, by omega, by go_num, rfl, rfl, rfl, hide (by rw [N3.out]; simp), hide (by rw [N4.out]; simp), hide (by rw [N5.out]; simp), G2⟩
              case measure => simp [intOf]; omega
        have e0 : (ql == 0) = false := by simp [h0]
        by_cases h1 : ql = 1
        · subst h1
          cases x3 with
          | true =>
            go_wp2_with (first | fail)
            refine (HCT.out _ (grownBy_trans HG0.out HG.out)).mono ?_; rintro e w1 ⟨rfl, hg⟩
            have G1 := hide (grownBy_trans HG.out hg)
            clear hg k0 k1 k2 k3 k4 c0 c1 c2
            obtain ⟨k0, k1, k2, k3, k4⟩ := KEEP.out w1 G1.out
            obtain ⟨c0, c1, c2⟩ := HCL.out w1 G1.out
            cases x4 with
            | true =>
              go_wp2_with (first | fail)
              refine (HCC.out _ (grownBy_trans HG0.out G1.out)).mono ?_; rintro e w2 ⟨rfl, hg⟩
              have G2 := hide (grownBy_trans G1.out hg)
              clear hg
              go_wp2
              go_roundw
              case rel => exact ⟨j + 1, _, _, _, by omega, by go_num, rfl, rfl, rfl, hide (by rw [N3.out]; simp), hide (by rw [N4.out]; simp), hide (by rw [N5.out]; simp), G2⟩
              case measure => simp [intOf]; omega
            | false =>
              have G2 := G1
              go_wp2
              go_roundw
              case rel => exact ⟨j + 1, _, _, _, by omega, by go_num, rfl, rfl, rfl, hide (by rw [N3.out]; simp), hide (by rw [N4.out]; simp), hide (by rw [N5.out]; simp), G2⟩
              case measure => simp [intOf]; omega
          | false =>
            have G1 := HG
            cases x4 with
            | true =>
              go_wp2_with (first | fail)
              refine (HCC.out _ (grownBy_trans HG0.out G1.out)).mono ?_; rintro e w2 ⟨rfl, hg⟩
              have G2 := hide (grownBy_trans G1.out hg)
              clear hg
              go_wp2
              go_roundw
              case rel => exact ⟨j + 1, _, _, _, by omega, by go_num, rfl, rfl, rfl, hide (by rw [N3.out]; simp), hide (by rw [N4.out]; simp), hide (by rw [N5.out]; simp), G2⟩
              case measure => simp [intOf]; omega
            | false =>
              have G2 := G1
              go_wp2
              go_roundw
              case rel => exact ⟨j + 1, _, _, _, by omega, by go_num, rfl, rfl, rfl, hide (by rw [N3.out]; simp), hide (by rw [N4.out]; simp), hide (by rw [N5.out]; simp), G2⟩
              case measure => simp [intOf]; omega
        have e1 : (ql == 1) = false := by simp [h1]
        cases x3 with
        | true =>
          go_wp2_with (first | fail)
          refine (HCT.out _ (grownBy_trans HG0.out HG.out)).mono ?_; rintro e w1 ⟨rfl, hg⟩
          have G1 := hide (grownBy_trans HG.out hg)
          clear hg k0 k1 k2 k3 k4 c0 c1 c2
          obtain ⟨k0, k1, k2, k3, k4⟩ := KEEP.out w1 G1.out
          obtain ⟨c0, c1, c2⟩ := HCL.out w1 G1.out
          cases x4 with
          | true =>
            go_wp2_with (first | fail)
            refine (HCC.out _ (grownBy_trans HG0.out G1.out)).mono ?_; rintro e w2 ⟨rfl, hg⟩
            have G2 := hide (grownBy_trans G1.out hg)
            clear hg
            go_wp2
            go_roundw
            case rel => exact ⟨j + 1, _, _, _, by omega, by go_num, rfl, rfl, rfl, hide (by rw [N3.out]; simp), hide (by rw [N4.out]; simp), hide (by rw [N5.out]; simp [h0, h1]), G2⟩
            case measure => simp [intOf]; omega
          | false =>
            have G2 := G1
            go_wp2
            go_roundw
            case rel => exact ⟨j + 1, _, _, _, by omega, by go_num, rfl, rfl, rfl, hide (by rw [N3.out]; simp), hide (by rw [N4.out]; simp), hide (by rw [N5.out]; simp [h0, h1]), G2⟩
            case measure => simp [intOf]; omega
        | false =>
          have G1 := HG
          cases x4 with
          | true =>
            go_wp2_with (first | fail)
            refine (HCC.out _ (grownBy_trans HG0.out G1.out)).mono ?_; rintro e w2 ⟨rfl, hg⟩
            have G2 := hide (grownBy_trans G1.out hg)
            clear hg
            go_wp2
            go_roundw
            case rel => exact ⟨j + 1, _, _, _, by omega, by go_num, rfl, rfl, rfl, hide (by rw [N3.out]; simp), hide (by rw [N4.out]; simp), hide (by rw [N5.out]; simp [h0, h1]), G2⟩
            case measure => simp [intOf]; omega
          | false =>
            have G2 := G1
            go_wp2
            go_roundw
            case rel => exact ⟨j + 1, _, _, _, by omega, by go_num, rfl, rfl, rfl, hide (by rw [N3.out]; simp), hide (by rw [N4.out]; simp), hide (by rw [N5.out]; simp [h0, h1]), G2⟩
            case measure => simp [intOf]; omega
    · have e : j = N := by omega
      subst e
      rw [← HX3.out, ← HX4.out, ← HX5.out] at HC
      clear HX3 HX4 HX5
      have C4W := hide (fun W h => C4.out W (grownBy_trans HG0.out h))
      have C5W := hide (fun W h => C5.out W (grownBy_trans HG0.out h))
      by_cases h1 : j < 1
      · have HR := hide (HC.out.trans (show _ = 502 by simp [h1]))
        go_wp2
        go_ret
        exact ⟨by rw [HR.out]; rfl, grownBy_trans HG0.out HG.out⟩
      by_cases h8 : 8 < j
      · have HR := hide (HC.out.trans (show _ = 502 by simp [h8]))
        go_wp2
        go_ret
        exact ⟨by rw [HR.out]; rfl, grownBy_trans HG0.out HG.out⟩
      have h1d : decide (j < 1) = false := decide_eq_false h1
      have h8d : decide (8 < j) = false := decide_eq_false h8
      rw [h1d, h8d] at HC
      simp only [Bool.false_or] at HC
      cases x5 with
      | false =>
        have HR := hide (HC.out.trans (show _ = 502 by simp))
        go_wp2
        go_ret
        exact ⟨by rw [HR.out]; rfl, grownBy_trans HG0.out HG.out⟩
      | true =>
        cases x3 with
        | false =>
          have HR := hide (HC.out.trans (show _ = 503 by simp))
          go_wp2
          go_ret
          exact ⟨by rw [HR.out]; rfl, grownBy_trans HG0.out HG.out⟩
        | true =>
          go_wp2_with (first | fail)
          refine (C4W.out _ HG.out).mono ?_; rintro e w1 ⟨rfl, hg⟩
          have G1 := hide (grownBy_trans HG.out hg)
          clear hg k0 k1 k2 k3 k4
          obtain ⟨k0, k1, k2, k3, k4⟩ := KEEP.out w1 G1.out
          cases b4 with
          | false =>
            have HR := hide (HC.out.trans (show _ = 504 by simp))
            go_wp2
            go_ret
            exact ⟨by rw [HR.out]; rfl, grownBy_trans HG0.out G1.out⟩
          | true =>
            go_wp2_with (first | fail)
            refine (C5W.out _ G1.out).mono ?_; rintro e w2 ⟨rfl, hg⟩
            have G2 := hide (grownBy_trans G1.out hg)
            clear hg
            cases b5 with
            | false =>
              have HR := hide (HC.out.trans (show _ = 505 by simp))
              go_wp2
              go_ret
              exact ⟨by rw [HR.out]; rfl, grownBy_trans HG0.out G2.out⟩
            | true =>
              cases x4 with
              | false =>
                have HR := hide (HC.out.trans (show _ = 506 by simp))
                go_wp2
                go_ret
                exact ⟨by rw [HR.out]; rfl, grownBy_trans HG0.out G2.out⟩
              | true =>
                have HR := hide (HC.out.trans (show _ = 0 by simp))
                go_wp2
                go_ret
                exact ⟨by rw [HR.out]; rfl, grownBy_trans HG0.out G2.out⟩
#print axioms rcheck_any
end Go.Proofs.YtgaegggiehhcpaaDoor.R6

/- Contract of the document's stepMay, proved over the translation: it answers as the program's own checks. -/
import Derived.Test.YthdpdnibgmjdaaaDoorRefVm
namespace Go.Proofs.YthdpdnibgmjdaaaDoor
open Go.RowKit
attribute [local go_sem] alloc_drewN setCell_drewN

set_option maxRecDepth 100000 in
set_option maxHeartbeats 8000000 in
theorem mayRef_any {lo : Nat} (pv : Value) (zs : List Ins) (v : VmS) (inn outs : Int) (gv : Value) (gs : List Int) (w : World) (hz : zs.length ≤ 9223372036854775807) (hp : PReads w pv zs) (hv : RowAt shN lo w gv gs) :
    Calls Tryd.prog 24 #[pv, vmV v, .int .i64 inn, .int .i64 outs, gv] w fun e w' => e = .returned (.bool (stepMay zs v inn outs gs)) ∧ w.grownBy w' none := by
  have CC := hide (fun W (hg : w.grownBy W none) => R6.codeMay_ref pv zs hz W (hp.grown hg))
  have CW := hide word_any
  have CV := hide (fun W => vmRef_any v zs.length W)
  have HR := hide (fun W (hg : w.grownBy W none) => hv.grown hg)
  obtain ⟨pa, pcap, rfl, -⟩ := hp
  obtain ⟨hl, ga, gcap, rfl, -⟩ := hv
  obtain ⟨A, hA⟩ : ∃ A, stepMay zs v inn outs gs = A := ⟨_, rfl⟩
  rw [hA]
  have HNO := hide (fun (i : Nat) (hi : i < gs.length) (h : getMay (gs[i]?.getD 0) = false) => (show A = false by
    have h2 : gs.all getMay = false := by
      rw [List.all_eq_false]; refine ⟨gs[i], List.getElem_mem hi, ?_⟩
      rw [List.getElem?_eq_getElem hi] at h
      simp only [Option.getD_some] at h
      rw [h]; simp
    rw [← hA]; unfold stepMay getsMay; rw [h2]; simp))
  have HYES := hide (fun (h : ∀ i, i < gs.length → getMay (gs[i]?.getD 0) = true) => (show A = (codeMay zs && (vmMay zs.length v && (isW inn && (decide (0 ≤ outs) && (decide (outs ≤ 255) && decide (gs.length ≤ 8)))))) by
    have h2 : gs.all getMay = true := by
      rw [List.all_eq_true]; intro x hx
      obtain ⟨i, hi, rfl⟩ := List.getElem_of_mem hx
      have := h i hi
      rwa [List.getElem?_eq_getElem hi] at this
    rw [← hA]; unfold stepMay getsMay; rw [h2]; simp))
  clear hA
  obtain ⟨pc, acc, m⟩ := v
  have CI := hide (fun W => word_any inn W)
  generalize codeMay zs = b1 at CC HYES
  generalize vmMay zs.length ⟨pc, acc, m⟩ = b2 at CV HYES
  generalize isW inn = b3 at CI HYES
  generalize zs.length = N at *
  generalize hM : gs.length = M at *
  have HM := hide hM
  clear hM
  dsimp only [vmV] at CV ⊢
  go_enter Tryd.func24, Tryd.ntmps24
  go_upto_region 1 with fail
  have HV := hide (World.heap_alloc_new w (.cells #[.int .i64 pc, .int .i64 acc, .int .i64 (m 0), .int .i64 (m 1), .int .i64 (m 2), .int .i64 (m 3), .int .i64 (m 4), .int .i64 (m 5), .int .i64 (m 6), .int .i64 (m 7), .int .i64 (m 8), .int .i64 (m 9), .int .i64 (m 10), .int .i64 (m 11), .int .i64 (m 12), .int .i64 (m 13), .int .i64 (m 14), .int .i64 (m 15)] 25))
  have HG := hide (World.grownBy_alloc w (.cells #[.int .i64 pc, .int .i64 acc, .int .i64 (m 0), .int .i64 (m 1), .int .i64 (m 2), .int .i64 (m 3), .int .i64 (m 4), .int .i64 (m 5), .int .i64 (m 6), .int .i64 (m 7), .int .i64 (m 8), .int .i64 (m 9), .int .i64 (m 10), .int .i64 (m 11), .int .i64 (m 12), .int .i64 (m 13), .int .i64 (m 14), .int .i64 (m 15)] 25) none)
  generalize hw1 : w.alloc (.cells #[.int .i64 pc, .int .i64 acc, .int .i64 (m 0), .int .i64 (m 1), .int .i64 (m 2), .int .i64 (m 3), .int .i64 (m 4), .int .i64 (m 5), .int .i64 (m 6), .int .i64 (m 7), .int .i64 (m 8), .int .i64 (m 9), .int .i64 (m 10), .int .i64 (m 11), .int .i64 (m 12), .int .i64 (m 13), .int .i64 (m 14), .int .i64 (m 15)] 25) = w1 at *
  generalize hB : w.heap.size = B at *
  clear hw1 hB
  go_wp2
  go_loopw [11] (fun i W => ∃ (j : Nat), j ≤ M ∧ i = .int .i64 j ∧ W = w1 ∧ Hid (∀ i, i < j → getMay (gs[i]?.getD 0) = true)) (fun i _ => M - (intOf i).toNat)
  case atStart => exact ⟨0, by omega, rfl, rfl, fun i hi => absurd hi (Nat.not_lt_zero _)⟩
  case round =>
    obtain ⟨j, hj, rfl, rfl, HP⟩ := hrel
    by_cases hlt : j < M
    · obtain ⟨-, a', cap', e, ha⟩ := HR.out wr HG.out
      simp only [Value.slice.injEq] at e
      obtain ⟨rfl, -, rfl⟩ := e
      obtain ⟨g, o, rfl, -, hc⟩ := ha (by have := HM.out; omega)
      have hq : gs[j]? = some (gs[j]?.getD 0) := by rw [List.getElem?_eq_getElem (by rw [HM.out]; exact hlt)]; rfl
      have c1 : wr.cell? ⟨g, o + j * 1, none⟩ = some (.int .i64 (gs[j]?.getD 0)) := hc j _ hq 0 _ rfl
      rw [Nat.mul_one] at c1
      clear hc hq ha
      have HB0 := hide (fun (h : getMay (gs[j]?.getD 0) = true) => (fun (i : Nat) (hi : i < j + 1) => (show getMay (gs[i]?.getD 0) = true by
        rcases (by omega : i < j ∨ i = j) with h' | rfl
        · exact HP.out i h'
        · exact h)))
      have HB1 := hide (HNO.out j (by have := HM.out; omega))
      generalize gs[j]?.getD 0 = x at *
      by_cases h1 : x = -1
      · subst h1
        go_wp2
        go_roundw
        case rel => exact ⟨j + 1, by omega, by go_num, by first | rfl | trivial, HB0.out rfl⟩
        case measure => simp [intOf]; omega
      · have hne : (x != -1) = true := by simpa using h1
        have hgm : getMay x = isW x := by unfold getMay; rw [decide_eq_false h1]; simp
        rw [hgm] at HB0 HB1
        have C := hide (CW.out x wr)
        clear hgm h1
        cases hb : isW x with
        | true =>
          rw [hb] at C HB0
          clear hb HB1
          have HB2 := hide (HB0.out rfl)
          clear HB0
          go_wp2_with (first | fail)
          refine C.out.mono ?_; rintro e w' ⟨rfl, rfl⟩
          clear C c1
          go_wp2
          go_roundw
          case rel => exact ⟨j + 1, by omega, by go_num, by first | rfl | trivial, HB2.out⟩
          case measure => simp [intOf]; omega
        | false =>
          rw [hb] at C HB1
          clear hb HB0
          have HB2 := hide (HB1.out rfl)
          clear HB1
          go_wp2_with (first | fail)
          refine C.out.mono ?_; rintro e w' ⟨rfl, rfl⟩
          clear C c1
          go_wp2
          go_ret
          refine ⟨?_, HG.out⟩
          rw [HB2.out]; rfl
    · obtain rfl : j = M := by omega
      have HA := hide (HYES.out HP.out)
      clear HP HR HM HNO HYES
      go_wp2_with (first | fail)
      refine (CC.out wr HG.out).mono ?_; rintro e w2 ⟨rfl, hg⟩
      have HV := hide (box_grown HV.out hg (by simp))
      have HG := hide (grownBy_trans HG.out hg)
      clear hg CC
      cases b1 with
      | false =>
        go_wp2
        go_ret
        refine ⟨?_, HG.out⟩
        rw [HA.out]; simp
      | true =>
        go_wp2_with (first | ((with_reducible refine list_load 25 (.tmp 6) (B) 25 #[.int .i64 pc, .int .i64 acc, .int .i64 (m 0), .int .i64 (m 1), .int .i64 (m 2), .int .i64 (m 3), .int .i64 (m 4), .int .i64 (m 5), .int .i64 (m 6), .int .i64 (m 7), .int .i64 (m 8), .int .i64 (m 9), .int .i64 (m 10), .int .i64 (m 11), .int .i64 (m 12), .int .i64 (m 13), .int .i64 (m 14), .int .i64 (m 15)] (0, 0) _ ?hw ?hx ?hg Tryd.underlying25 ?hd ?hi ?_); (case hw => kernel_rfl); (case hx => rfl); (case hg => exact HV.out); (case hd => rfl); (case hi => exact sizeVm)) | fail)
        refine (CV.out _).mono ?_; rintro e w3 ⟨rfl, hg⟩
        have HG := hide (grownBy_trans HG.out hg)
        clear hg CV
        cases b2 with
        | false =>
          go_wp2
          go_ret
          refine ⟨?_, HG.out⟩
          rw [HA.out]; simp
        | true =>
          go_wp2_with (first | fail)
          refine (CI.out _).mono ?_; rintro e w4 ⟨rfl, rfl⟩
          clear CI
          cases b3 with
          | false =>
            go_wp2
            go_ret
            refine ⟨?_, HG.out⟩
            rw [HA.out]; simp
          | true =>
            by_cases h0 : 0 ≤ outs
            · by_cases h1 : outs ≤ 255
              · by_cases h2 : j ≤ 8
                · go_wp2
                  go_ret
                  refine ⟨?_, HG.out⟩
                  rw [HA.out, decide_eq_true h0, decide_eq_true h1, decide_eq_true h2]; simp; omega
                · go_wp2
                  go_ret
                  refine ⟨?_, HG.out⟩
                  rw [HA.out, decide_eq_false (show ¬ j ≤ 8 by omega)]; simp; omega
              · go_wp2
                go_ret
                refine ⟨?_, HG.out⟩
                rw [HA.out, decide_eq_false (show ¬ outs ≤ 255 by omega)]; simp
            · go_wp2
              go_ret
              refine ⟨?_, HG.out⟩
              rw [HA.out, decide_eq_false (show ¬ 0 ≤ outs by omega)]; simp
#print axioms mayRef_any
end Go.Proofs.YthdpdnibgmjdaaaDoor

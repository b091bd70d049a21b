/- The walk of the statement FrameHyper: all periods and the frame divide it, and it divides what they all divide; proved over the translation. -/
import Derived.Test.YtgaegggiehhcpabDoorAw6
import Derived.Test.YtgaegggiehhcpabDoorHmath
namespace Go.Proofs.YtgaegggiehhcpabDoor.P6
open Go.RowKit
attribute [local go_sem] alloc_drewN setCell_drewN

theorem part_cells {lo : Nat} {W : World} {g o N pc : Nat} {ps : List PartV} (h : PartsAt lo W (.slice (some ⟨g, o, none⟩) N pc) ps) {i : Nat} (hi : i < N) : ∃ ta tc, W.cell? ⟨g, o + i * 3 + 1, none⟩ = some (.slice ta (partAt ps i).tasks.length tc) ∧ RowAt shT lo W (.slice ta (partAt ps i).tasks.length tc) (partAt ps i).tasks := by
  obtain ⟨qs, hlen, ⟨-, a2, cap2, e2, hc⟩, hel⟩ := h
  simp only [Value.slice.injEq] at e2
  obtain ⟨rfl, rfl, rfl⟩ := e2
  obtain ⟨g', o', e3, -, hc2⟩ := hc (by omega)
  simp only [Option.some.injEq, Addr.mk.injEq, and_true] at e3
  obtain ⟨rfl, rfl⟩ := e3
  obtain ⟨q, hq⟩ : ∃ q, qs[i]? = some q := ⟨_, List.getElem?_eq_getElem hi⟩
  have hpt := partAt_mem (ws := ps) (i := i) (by omega)
  obtain ⟨-, htk, -⟩ := hel i q _ hq hpt
  have hc3 : W.cell? ⟨g, o + i * 3 + 1, none⟩ = some (.slice q.ta q.tn q.tc) := hc2 i q hq 1 _ rfl
  unfold PartM.tasks at htk
  obtain ⟨hl, a3, c3, e3, hx⟩ := htk
  simp only [Value.slice.injEq] at e3
  obtain ⟨e4, e5, e6⟩ := e3
  refine ⟨a3, c3, by rw [hc3, e4, e5, e6], hl, a3, c3, rfl, hx⟩
theorem task_cells {lo : Nat} {W : World} {ta : Option Addr} {tc : Nat} {ts : List TaskV} (h : RowAt shT lo W (.slice ta ts.length tc) ts) {j : Nat} (hj : j < ts.length) : ∃ g o, ta = some ⟨g, o, none⟩ ∧ W.cell? ⟨g, o + j * 6 + 1, none⟩ = some (.int .i64 (taskAt ts j).period) := by
  obtain ⟨-, a2, cap2, e2, hc⟩ := h
  simp only [Value.slice.injEq] at e2
  obtain ⟨rfl, -, rfl⟩ := e2
  obtain ⟨g, o, rfl, -, hc2⟩ := hc (by omega)
  exact ⟨g, o, rfl, hc2 j _ (taskAt_mem hj) 1 _ rfl⟩

set_option maxRecDepth 100000 in
set_option maxHeartbeats 4000000 in
theorem frameHyper_any {lo : Nat} (c : Value) (C : ConfV) (w : World) (hT : Tab w) (hc : ConfAt lo w c C) :
    Calls Tryd.prog 5 #[c] w fun e w' => e = .returned (.bool true) ∧ w.grownBy w' none := by
  have NUM := hide num_any
  have CA := hide (fun W (hg : w.grownBy W none) => awake_any W (hT.grown hg))
  have CH := hide (fun W (hg : w.grownBy W none) => hyper_any c C W (hT.grown hg) (hc.grown hg))
  have HCC := hc
  obtain ⟨vp, vw, vo, rfl, hp, -, -⟩ := hc
  have HPA := hide (fun W (hg : w.grownBy W none) => hp.grown hg)
  obtain ⟨vp', vw', vo', e, ⟨qs, hlen, ⟨hl, pa, pc, rfl, hpa⟩, -⟩, ⟨-, wa, wc, rfl, -⟩, ⟨-, oa, oc, rfl, -⟩⟩ := HCC
  simp only [Value.agg.injEq, Array.mk.injEq, List.cons.injEq, and_true, true_and] at e
  obtain ⟨rfl, rfl, rfl⟩ := e
  clear hT hp
  have HOK := hide (fun h : hyE C = 0 => hyper_ok h)
  have HNO := hide (fun h : hyE C ≠ 0 => hyper_no h)
  rw [hlen] at hl hpa HPA CH ⊢
  clear hlen
  generalize hyE C = HE at *
  generalize hyV C = HV at *
  by_cases hE : HE = 0
  · subst hE
    have OK := hide (HOK.out rfl)
    clear HOK HNO
    obtain ⟨g, o, rfl, -, -⟩ := hpa OK.out.fine.p0
    clear hpa
    have h0 := OK.out.h0
    have h1 := OK.out.h1
    have h00 : (HV == 0) = false := by simp; omega
    have f0 := OK.out.fine.f0
    have f1 := OK.out.fine.f1
    have hfr := OK.out.fr
    have HPER := hide (fun i hi j hj => And.intro ((OK.out.fine.per i hi).2 j hj) (OK.out.per i hi j hj))
    have HLEN := hide (fun i hi => (OK.out.fine.per i hi).1)
    have HLEAST := hide OK.out.least
    clear OK
    generalize C.parts = ps at *
    generalize C.quiet = qt at *
    generalize C.wins.length = n1 at *
    generalize C.ports.length = n2 at *
    generalize hN : ps.length = N at *
    have HN := hide hN
    clear hN
    generalize C.frame = fr at *
    have HG0 := hide (World.grownBy_alloc w (.cells #[.int .i64 fr, .int .i64 qt, .slice (some ⟨g, o, none⟩) N pc, .slice wa n1 wc, .slice oa n2 oc] 26) none)
    have KEEP : Hid (∀ W, (w.alloc (.cells #[.int .i64 fr, .int .i64 qt, .slice (some ⟨g, o, none⟩) N pc, .slice wa n1 wc, .slice oa n2 oc] 26)).grownBy W none → W.cell? ⟨w.heap.size, 0, none⟩ = some (.int .i64 fr) ∧ W.cell? ⟨w.heap.size, 1, none⟩ = some (.int .i64 qt) ∧ W.cell? ⟨w.heap.size, 2, none⟩ = some (.slice (some ⟨g, o, none⟩) N pc) ∧ W.cell? ⟨w.heap.size, 3, none⟩ = some (.slice wa n1 wc) ∧ W.cell? ⟨w.heap.size, 4, none⟩ = some (.slice oa n2 oc)) := by
      intro W hW
      have b := fun k => World.cell?_of_block (a := ⟨w.heap.size, k, none⟩) (hW.block w.heap.size (by simp) (by simp))
      exact ⟨(b 0).trans (by simp), (b 1).trans (by simp), (b 2).trans (by simp), (b 3).trans (by simp), (b 4).trans (by simp)⟩
    go_enter Tryd.func5, Tryd.ntmps5
    go_wp2_with (first | fail)
    refine (CA.out _ HG0.out).mono ?_; rintro e w1 ⟨rfl, hg⟩
    have G1 := hide hg
    clear hg CA
    obtain ⟨k0, k1, k2, k3, k4⟩ := KEEP.out w1 G1.out
    go_wp2_with (first | fail)
    refine (CH.out _ (grownBy_trans HG0.out G1.out)).mono ?_; rintro e w2 ⟨rfl, hg⟩
    have G2 := hide (grownBy_trans G1.out hg)
    clear hg CH k0 k1 k2 k3 k4
    obtain ⟨k0, -, -, -, -⟩ := KEEP.out w2 G2.out
    go_wp2_with (go_at_call 15; refine (NUM.out _ _).mono ?_; rintro e w' ⟨rfl, rfl⟩)
    go_loopw [5] (fun s W => ∃ a : Nat, a ≤ N ∧ s = .int .i64 a ∧ Hid ((w.alloc (.cells #[.int .i64 fr, .int .i64 qt, .slice (some ⟨g, o, none⟩) N pc, .slice wa n1 wc, .slice oa n2 oc] 26)).grownBy W none)) (fun s _ => N - (intOf s).toNat)
    case atStart => exact ⟨0, by omega, rfl, G2⟩
    case round =>
      obtain ⟨a, ha, rfl, HA⟩ := hrel
      obtain ⟨-, -, k2, -, -⟩ := KEEP.out wr HA.out
      by_cases hlt : a < N
      · have hM := HLEN.out a hlt
        have HPT := hide (fun W (hg : (w.alloc (.cells #[.int .i64 fr, .int .i64 qt, .slice (some ⟨g, o, none⟩) N pc, .slice wa n1 wc, .slice oa n2 oc] 26)).grownBy W none) => part_cells (HPA.out W (grownBy_trans HG0.out hg)) hlt)
        have HPJ := hide (fun j hj => HPER.out a hlt j hj)
        generalize (partAt ps a).tasks = ts at *
        generalize hM2 : ts.length = M at *
        have HM := hide hM2
        clear hM2
        go_wp2
        go_loopw [6] (fun s W => ∃ b : Nat, b ≤ M ∧ s = .int .i64 b ∧ Hid ((w.alloc (.cells #[.int .i64 fr, .int .i64 qt, .slice (some ⟨g, o, none⟩) N pc, .slice wa n1 wc, .slice oa n2 oc] 26)).grownBy W none)) (fun s _ => M - (intOf s).toNat)
        case atStart => exact ⟨0, by omega, rfl, HA⟩
        case round =>
          obtain ⟨b, hb, rfl, HB⟩ := hrel
          obtain ⟨-, -, k2, -, -⟩ := KEEP.out wr HB.out
          obtain ⟨ta, tc, p1, hrow⟩ := HPT.out wr HB.out
          by_cases hlt2 : b < M
          · rw [← HM.out] at hrow
            obtain ⟨g2, o2, rfl, p2⟩ := task_cells hrow (by rw [HM.out]; exact hlt2)
            obtain ⟨⟨y0, y1⟩, y2⟩ := HPJ.out b hlt2
            clear hrow
            generalize (taskAt ts b).period = y at *
            go_wp2
            go_roundw
            case rel => exact ⟨b + 1, by omega, by go_num, HB⟩
            case measure => simp [intOf]; omega
          · clear hrow
            go_wp2
            go_roundw
            case rel => exact ⟨a + 1, by omega, by go_num, HB⟩
            case measure => simp [intOf]; omega
      · clear hfr
        go_wp2
        go_loopw [8] (fun s W => ∃ D : Int, 2 ≤ D ∧ D ≤ 40 ∧ s = .int .u64 D ∧ Hid ((w.alloc (.cells #[.int .i64 fr, .int .i64 qt, .slice (some ⟨g, o, none⟩) N pc, .slice wa n1 wc, .slice oa n2 oc] 26)).grownBy W none)) (fun s _ => 40 - (intOf s).toNat)
        case atStart => exact ⟨2, by omega, by omega, rfl, HA⟩
        case round =>
          obtain ⟨D, d0, d1, rfl, HD⟩ := hrel
          obtain ⟨k0, -, -, -, -⟩ := KEEP.out wr HD.out
          by_cases hd : D < 40
          · by_cases hm : HV % D = 0
            · have HL := hide (HLEAST.out D d0 hm)
              have q0 : 0 ≤ HV / D := Int.ediv_nonneg (by omega) (by omega)
              have q1 : HV / D ≤ 18446744073709551615 := Int.le_trans (Int.ediv_le_self _ (by omega)) h1
              have HB0 : Hid ((HV / D % fr == 0) = true → HV / D % fr = 0) := fun h => by simpa using h
              have hne : fr ≠ 0 := by omega
              have hm2 : (HV % D != 0) = false := by simp [hm]
              clear hm
              go_wp2
              go_quiet (fail)
              generalize (HV / D % fr == 0) = b0 at *
              go_wp2
              go_loopw [9, 10] (fun x s W => ∃ (a : Nat) (b : Bool), a ≤ N ∧ s = .int .i64 a ∧ x = .bool b ∧ Hid (b = true → HV / D % fr = 0 ∧ ∀ i, i < a → ∀ j, j < (partAt ps i).tasks.length → HV / D % (taskAt (partAt ps i).tasks j).period = 0) ∧ Hid ((w.alloc (.cells #[.int .i64 fr, .int .i64 qt, .slice (some ⟨g, o, none⟩) N pc, .slice wa n1 wc, .slice oa n2 oc] 26)).grownBy W none)) (fun _ s _ => N - (intOf s).toNat)
              case atStart => exact ⟨0, b0, by omega, rfl, rfl, fun h => ⟨HB0.out h, fun i hi => absurd hi (Nat.not_lt_zero _)⟩, grownBy_trans HD.out (grownBy_draws _ _ _)⟩
              case round =>
                obtain ⟨a, b1, ha, rfl, rfl, HB1, HA⟩ := hrel
                obtain ⟨-, -, k2, -, -⟩ := KEEP.out wr HA.out
                by_cases hlt : a < N
                · have hM := HLEN.out a hlt
                  have HPT := hide (fun W (hg : (w.alloc (.cells #[.int .i64 fr, .int .i64 qt, .slice (some ⟨g, o, none⟩) N pc, .slice wa n1 wc, .slice oa n2 oc] 26)).grownBy W none) => part_cells (HPA.out W (grownBy_trans HG0.out hg)) hlt)
                  have HPJ := hide (fun j hj => HPER.out a hlt j hj)
                  have HUP : Hid (∀ b : Bool, (b = true → (HV / D % fr = 0 ∧ ∀ i, i < a → ∀ j, j < (partAt ps i).tasks.length → HV / D % (taskAt (partAt ps i).tasks j).period = 0) ∧ ∀ j, j < (partAt ps a).tasks.length → HV / D % (taskAt (partAt ps a).tasks j).period = 0) → (b = true → HV / D % fr = 0 ∧ ∀ i, i < a + 1 → ∀ j, j < (partAt ps i).tasks.length → HV / D % (taskAt (partAt ps i).tasks j).period = 0)) := by
                    intro b h hb
                    obtain ⟨⟨h1, h2⟩, h3⟩ := h hb
                    refine ⟨h1, fun i hi j hj => ?_⟩
                    rcases (by omega : i < a ∨ i = a) with h' | rfl
                    · exact h2 i h' j hj
                    · exact h3 j hj
                  generalize hts : (partAt ps a).tasks = ts at HPT HPJ HUP hM
                  clear hts
                  generalize hM2 : ts.length = M at *
                  have HM := hide hM2
                  clear hM2
                  go_wp2
                  go_loopw [9, 11] (fun x s W => ∃ (n : Nat) (b : Bool), n ≤ M ∧ s = .int .i64 n ∧ x = .bool b ∧ Hid (b = true → (HV / D % fr = 0 ∧ ∀ i, i < a → ∀ j, j < (partAt ps i).tasks.length → HV / D % (taskAt (partAt ps i).tasks j).period = 0) ∧ ∀ j, j < n → HV / D % (taskAt ts j).period = 0) ∧ Hid ((w.alloc (.cells #[.int .i64 fr, .int .i64 qt, .slice (some ⟨g, o, none⟩) N pc, .slice wa n1 wc, .slice oa n2 oc] 26)).grownBy W none)) (fun _ s _ => M - (intOf s).toNat)
                  case atStart => exact ⟨0, b1, by omega, rfl, rfl, fun h => ⟨HB1.out h, fun i hi => absurd hi (Nat.not_lt_zero _)⟩, HA⟩
                  case round =>
                    obtain ⟨n, b2, hn, rfl, rfl, HB2, HB⟩ := hrel
                    obtain ⟨-, -, k2, -, -⟩ := KEEP.out wr HB.out
                    obtain ⟨ta, tc, p1, hrow⟩ := HPT.out wr HB.out
                    by_cases hlt2 : n < M
                    · rw [← HM.out] at hrow
                      obtain ⟨g2, o2, rfl, p2⟩ := task_cells hrow (by rw [HM.out]; exact hlt2)
                      rw [HM.out] at hrow
                      obtain ⟨⟨y0, y1⟩, -⟩ := HPJ.out n hlt2
                      clear hrow
                      have HNX : Hid (∀ b : Bool, (b = true → b2 = true ∧ HV / D % (taskAt ts n).period = 0) → (b = true → (HV / D % fr = 0 ∧ ∀ i, i < a → ∀ j, j < (partAt ps i).tasks.length → HV / D % (taskAt (partAt ps i).tasks j).period = 0) ∧ ∀ j, j < n + 1 → HV / D % (taskAt ts j).period = 0)) := by
                        intro b h hb
                        obtain ⟨e1, e2⟩ := h hb
                        obtain ⟨e3, e4⟩ := HB2.out e1
                        refine ⟨e3, fun j hj => ?_⟩
                        rcases (by omega : j < n ∨ j = n) with h' | rfl
                        · exact e4 j h'
                        · exact e2
                      generalize (taskAt ts n).period = y at *
                      have hne2 : y ≠ 0 := by omega
                      have HB3 : Hid ((HV / D % y == 0) = true → HV / D % y = 0) := fun h => by simpa using h
                      cases b2 with
                      | false =>
                        go_wp2
                        go_quiet (fail)
                        go_wp2
                        go_roundw
                        case rel => exact ⟨n + 1, false, by omega, by go_num, rfl, hide (HNX.out false (fun h => by cases h)), hide (grownBy_trans HB.out (grownBy_draws _ _ _))⟩
                        case measure => simp [intOf]; omega
                      | true =>
                        go_wp2
                        go_quiet (fail)
                        generalize hbq : (HV / D % y == 0) = b3
                        have HB5 : Hid (b3 = true → HV / D % y = 0) := by rw [← hbq]; exact HB3
                        clear hbq HB3
                        go_wp2
                        go_roundw
                        case rel => exact ⟨n + 1, b3, by omega, by go_num, rfl, hide (HNX.out b3 (fun h => ⟨by simp, HB5.out h⟩)), hide (grownBy_trans HB.out (grownBy_draws _ _ _))⟩
                        case measure => simp [intOf]; omega
                    · have e : n = M := by omega
                      have HB4 := hide (HUP.out b2 (by rw [← e]; exact HB2.out))
                      clear hrow
                      go_wp2
                      go_roundw
                      case rel => exact ⟨a + 1, b2, by omega, by go_num, rfl, HB4, HB⟩
                      case measure => simp [intOf]; omega
                · have hb : b1 = false := by
                    cases b1 with
                    | false => rfl
                    | true =>
                      obtain ⟨e1, e2⟩ := HB1.out rfl
                      exact (HL.out e1 (fun i hi => e2 i (by omega))).elim
                  subst hb
                  go_wp2
                  go_roundw
                  case rel => exact ⟨D + 1, by omega, by omega, by go_num, HA⟩
                  case measure => simp [intOf]; omega
            · have hm2 : (HV % D != 0) = true := by simp [hm]
              go_wp2
              go_roundw
              case rel => exact ⟨D + 1, by omega, by omega, by go_num, HD⟩
              case measure => simp [intOf]; omega
          · go_wp2
            go_ret
            exact ⟨rfl, grownBy_trans HG0.out HD.out⟩
  · have hz := HNO.out hE
    subst hz
    have hE2 : (HE != 0) = true := by simp [hE]
    clear HOK HNO hpa HPA
    generalize C.parts.length = N at *
    generalize C.quiet = qt at *
    generalize C.wins.length = n1 at *
    generalize C.ports.length = n2 at *
    generalize C.frame = fr at *
    have HG0 := hide (World.grownBy_alloc w (.cells #[.int .i64 fr, .int .i64 qt, .slice pa N pc, .slice wa n1 wc, .slice oa n2 oc] 26) none)
    have KEEP : Hid (∀ W, (w.alloc (.cells #[.int .i64 fr, .int .i64 qt, .slice pa N pc, .slice wa n1 wc, .slice oa n2 oc] 26)).grownBy W none → W.cell? ⟨w.heap.size, 0, none⟩ = some (.int .i64 fr) ∧ W.cell? ⟨w.heap.size, 1, none⟩ = some (.int .i64 qt) ∧ W.cell? ⟨w.heap.size, 2, none⟩ = some (.slice pa N pc) ∧ W.cell? ⟨w.heap.size, 3, none⟩ = some (.slice wa n1 wc) ∧ W.cell? ⟨w.heap.size, 4, none⟩ = some (.slice oa n2 oc)) := by
      intro W hW
      have b := fun k => World.cell?_of_block (a := ⟨w.heap.size, k, none⟩) (hW.block w.heap.size (by simp) (by simp))
      exact ⟨(b 0).trans (by simp), (b 1).trans (by simp), (b 2).trans (by simp), (b 3).trans (by simp), (b 4).trans (by simp)⟩
    go_enter Tryd.func5, Tryd.ntmps5
    go_wp2_with (first | fail)
    refine (CA.out _ HG0.out).mono ?_; rintro e w1 ⟨rfl, hg⟩
    have G1 := hide hg
    clear hg CA
    obtain ⟨k0, k1, k2, k3, k4⟩ := KEEP.out w1 G1.out
    go_wp2_with (first | fail)
    refine (CH.out _ (grownBy_trans HG0.out G1.out)).mono ?_; rintro e w2 ⟨rfl, hg⟩
    have G2 := hide (grownBy_trans G1.out hg)
    clear hg CH k0 k1 k2 k3 k4
    go_wp2_with (go_at_call 15; refine (NUM.out _ _).mono ?_; rintro e w' ⟨rfl, rfl⟩)
    go_ret
    exact ⟨rfl, grownBy_trans HG0.out G2.out⟩
#print axioms frameHyper_any
end Go.Proofs.YtgaegggiehhcpabDoor.P6

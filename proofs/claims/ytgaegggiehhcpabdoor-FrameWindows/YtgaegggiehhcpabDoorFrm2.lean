/- Contracts of package frame's Share and Hyper, proved over the translation. -/
import Derived.Test.YtgaegggiehhcpabDoorFrm
namespace Go.Proofs.YtgaegggiehhcpabDoor
open Go.RowKit
attribute [local go_sem] alloc_drewN setCell_drewN

set_option maxRecDepth 100000 in
set_option maxHeartbeats 2000000 in
theorem share_any {lo : Nat} (c : Value) (C : ConfV) (p : Int) (w : World) (hT : Tab w) (hc : ConfAt lo w c C) :
    Calls Tryd.prog 11 #[c, .int .i64 p] w fun e w' => e = .returned (.tuple #[.int .i64 (shV C p), .int .i64 (shE C p)]) ∧ w.grownBy w' none := by
  have C1 := hide (fun W (hg : w.grownBy W none) => cmay_any c C W (hT.grown hg) (hc.grown hg))
  have HCC := hc
  obtain ⟨vp, vw, vo, rfl, -, hw, -⟩ := hc
  have C2 := hide (fun W (hg : w.grownBy W none) (h : checkN C = 0) => ticks_any vw C (fine_of h) p W (hw.grown hg))
  obtain ⟨vp', vw', vo', e, ⟨qs, hlen, ⟨hl, pa, pc, rfl, -⟩, -⟩, ⟨-, wa, wc, rfl, -⟩, ⟨-, oa, oc, rfl, -⟩⟩ := HCC
  simp only [Value.agg.injEq, Array.mk.injEq, List.cons.injEq, and_true, true_and] at e
  obtain ⟨rfl, rfl, rfl⟩ := e
  have HV : Hid (shV C p = if shOK C p = true then ticksN C.wins p else 0) := rfl
  have HE : Hid (shE C p = if shOK C p = true then 0 else 600) := rfl
  have HOK : Hid (shOK C p = (decide (checkN C = 0) && (decide (0 ≤ p) && decide (p < C.parts.length)))) := rfl
  rw [← hlen] at HOK
  clear hT hw hlen
  generalize shV C p = av at *
  generalize shE C p = ae at *
  generalize shOK C p = ok at *
  generalize ticksN C.wins p = ow at *
  generalize checkN C = ce at *
  generalize C.frame = fr at *
  generalize C.quiet = qt at *
  generalize qs.length = n0 at *
  generalize C.wins.length = n1 at *
  generalize C.ports.length = n2 at *
  have HG0 := hide (World.grownBy_alloc w (.cells #[.int .i64 fr, .int .i64 qt, .slice pa n0 pc, .slice wa n1 wc, .slice oa n2 oc] 26) none)
  have KEEP : Hid (∀ W, (w.alloc (.cells #[.int .i64 fr, .int .i64 qt, .slice pa n0 pc, .slice wa n1 wc, .slice oa n2 oc] 26)).grownBy W none → W.cell? ⟨w.heap.size, 2, none⟩ = some (.slice pa n0 pc) ∧ W.cell? ⟨w.heap.size, 3, none⟩ = some (.slice wa n1 wc)) := by
    intro W hW
    have b := fun k => World.cell?_of_block (a := ⟨w.heap.size, k, none⟩) (hW.block w.heap.size (by simp) (by simp))
    exact ⟨(b 2).trans (by simp), (b 3).trans (by simp)⟩
  go_enter Tryd.func11, Tryd.ntmps11
  go_wp2_with (first | fail)
  refine (C1.out _ HG0.out).mono ?_; rintro e w1 ⟨rfl, hg⟩
  have G1 := hide hg
  clear hg C1
  obtain ⟨f2, f3⟩ := KEEP.out w1 G1.out
  by_cases h : ce = 0
  · subst h
    by_cases h0 : p < 0
    · have HO := hide (HOK.out.trans (show _ = false by simp; omega))
      go_wp2
      go_ret2
      exact ⟨by rw [HV.out, HE.out, HO.out]; rfl, grownBy_trans HG0.out G1.out⟩
    · by_cases h1 : (n0 : Int) ≤ p
      · have HO := hide (HOK.out.trans (show _ = false by simp; omega))
        go_wp2
        go_ret2
        exact ⟨by rw [HV.out, HE.out, HO.out]; rfl, grownBy_trans HG0.out G1.out⟩
      · have HO := hide (HOK.out.trans (show _ = true by simp; omega))
        have C3 := hide (C2.out w1 (grownBy_trans HG0.out G1.out) rfl)
        go_wp2_with (go_at_call 26; refine C3.out.mono ?_; rintro e w2 ⟨rfl, hg⟩; have G2 := hide hg; clear hg)
        go_ret2
        exact ⟨by rw [HV.out, HE.out, HO.out]; rfl, grownBy_trans HG0.out (grownBy_trans G1.out G2.out)⟩
  · have HO := hide (HOK.out.trans (show _ = false by simp [h]))
    have hd : decide (ce = 0) = false := by simp [h]
    rw [hd]
    go_wp2
    go_ret2
    exact ⟨by rw [HV.out, HE.out, HO.out]; rfl, grownBy_trans HG0.out G1.out⟩

theorem grown_draws {w w' : World} (h : ∃ n, w' = w.drewN n) : w.grownBy w' none := by obtain ⟨n, rfl⟩ := h; exact grownBy_draws _ _ _
theorem drop_cons {α : Type} {xs : List α} {j : Nat} {x : α} (h : xs[j]? = some x) : xs.drop j = x :: xs.drop (j + 1) := by
  obtain ⟨hj, e⟩ := List.getElem?_eq_some_iff.1 h
  rw [← e]
  exact List.drop_eq_getElem_cons hj
theorem taskAt_mem {ws : List TaskV} {i : Nat} (h : i < ws.length) : ws[i]? = some (taskAt ws i) := by
  unfold taskAt; rw [List.getElem?_eq_getElem h]; rfl
theorem partAt_mem {ws : List PartV} {i : Nat} (h : i < ws.length) : ws[i]? = some (partAt ws i) := by
  unfold partAt; rw [List.getElem?_eq_getElem h]; rfl

set_option maxRecDepth 100000 in
set_option maxHeartbeats 2000000 in
theorem common_any {lo : Nat} (x : Int) (x0 : 1 ≤ x) (x1 : x ≤ 18446744073709551615) (vt : Value) (ts : List TaskV) (hp : ∀ j, j < ts.length → 1 ≤ (taskAt ts j).period ∧ (taskAt ts j).period ≤ 1024) (w : World) (hv : RowAt shT lo w vt ts) :
    Calls Tryd.prog 28 #[.int .u64 x, vt] w fun e w' => e = .returned (.tuple #[.int .u64 (hypT x ts).1, .int .i64 (hypT x ts).2]) ∧ w.grownBy w' none := by
  have HV := hide (fun W => hv.grown (W := W))
  obtain ⟨hl, ta, tc, rfl, -⟩ := hv
  have HP := hide hp
  have CL := hide (fun a a0 a1 b b0 b1 W => lcm_def a b a0 a1 b0 b1 W)
  clear hp
  generalize hN : ts.length = N at *
  have HN := hide hN
  clear hN
  go_enter Tryd.func28, Tryd.ntmps28
  go_wp2
  go_loopw [0, 7, 8, 9, 12] (fun s _ _ _ i W => ∃ (j : Nat) (X : Int), j ≤ N ∧ 1 ≤ X ∧ X ≤ 18446744073709551615 ∧ i = .int .i64 j ∧ s = .int .u64 X ∧ Hid (hypT X (ts.drop j) = hypT x ts) ∧ Hid (w.grownBy W none)) (fun _ _ _ _ i _ => N - (intOf i).toNat)
  case atStart => exact ⟨0, x, by omega, x0, x1, rfl, rfl, rfl, grownBy_refl _ _⟩
  case round =>
    obtain ⟨j, X, hj, X0, X1, rfl, rfl, HX, HG⟩ := hrel
    by_cases hlt : j < N
    · obtain ⟨-, a2, cap2, e2, hc⟩ := HV.out wr HG.out
      simp only [Value.slice.injEq] at e2
      obtain ⟨rfl, -, rfl⟩ := e2
      obtain ⟨g, o, rfl, -, hc2⟩ := hc (by rw [HN.out]; omega)
      have hq := taskAt_mem (ws := ts) (i := j) (by rw [HN.out]; exact hlt)
      have hc3 := hc2 j _ hq
      have pb := HP.out j hlt
      have HX2 := hide ((drop_cons hq ▸ HX.out : hypT X (taskAt ts j :: ts.drop (j + 1)) = hypT x ts))
      have HX3 := hide ((hypT_cons X (taskAt ts j) (ts.drop (j + 1))).symm.trans HX2.out)
      have c0 : wr.cell? ⟨g, o + j * 6, none⟩ = some (.int .i64 (taskAt ts j).kind) := hc3 0 _ rfl
      have c1 : wr.cell? ⟨g, o + j * 6 + 1, none⟩ = some (.int .i64 (taskAt ts j).period) := hc3 1 _ rfl
      have c2 : wr.cell? ⟨g, o + j * 6 + 2, none⟩ = some (.int .i64 (taskAt ts j).deadline) := hc3 2 _ rfl
      have c3 : wr.cell? ⟨g, o + j * 6 + 3, none⟩ = some (.int .i64 (taskAt ts j).clow) := hc3 3 _ rfl
      have c4 : wr.cell? ⟨g, o + j * 6 + 4, none⟩ = some (.int .i64 (taskAt ts j).chigh) := hc3 4 _ rfl
      have c5 : wr.cell? ⟨g, o + j * 6 + 5, none⟩ = some (.int .i64 (taskAt ts j).prio) := hc3 5 _ rfl
      clear hc hc2 hc3 hq HX2
      have CX := hide (fun W => (CL.out X (by omega) X1 (taskAt ts j).period (by omega) (by omega) W))
      have HFIT := hide (fun h => lcm_fits (x := X) (y := (taskAt ts j).period) X0 pb.1 h)
      generalize (taskAt ts j).kind = y0 at *
      generalize (taskAt ts j).period = y1 at *
      generalize (taskAt ts j).deadline = y2 at *
      generalize (taskAt ts j).clow = y3 at *
      generalize (taskAt ts j).chigh = y4 at *
      generalize (taskAt ts j).prio = y5 at *
      generalize lcmV X y1 = LV at *
      generalize lcmE X y1 = LE at *
      obtain ⟨p0, p1⟩ := pb
      by_cases hE : LE = 0
      · subst hE
        obtain ⟨v0, v1⟩ := HFIT.out rfl
        have HX4 := hide (((if_pos rfl).symm : hypT LV (ts.drop (j + 1)) = _).trans HX3.out)
        clear HX3 HX HFIT
        go_wp2_with (go_at_call 36; refine (CX.out _).mono ?_; rintro e w2 ⟨rfl, hg⟩; have G2 := hide (grown_draws hg); clear hg)
        go_roundw
        case rel => exact ⟨j + 1, LV, by omega, v0, v1, by go_num, rfl, HX4, hide (grownBy_trans HG.out (grownBy_trans (World.grownBy_alloc _ _ _) G2.out))⟩
        case measure => simp [intOf]; omega
      · have hb : (LE != 0) = true := by simp [hE]
        have HX4 := hide (((if_neg hE).symm : ((0, LE) : Int × Int) = _).trans HX3.out)
        clear HX3 HX HFIT
        go_wp2_with (go_at_call 36; refine (CX.out _).mono ?_; rintro e w2 ⟨rfl, hg⟩; have G2 := hide (grown_draws hg); clear hg)
        go_ret2
        exact ⟨by rw [← HX4.out]; rfl, grownBy_trans HG.out (grownBy_trans (World.grownBy_alloc _ _ _) G2.out)⟩
    · have HX2 := hide (show hypT X [] = hypT x ts by rw [← HX.out, List.drop_of_length_le (by rw [HN.out]; omega)])
      go_wp2
      go_ret2
      exact ⟨by rw [← HX2.out]; rfl, HG.out⟩
#print axioms common_any
end Go.Proofs.YtgaegggiehhcpabDoor

/- Contracts of package frame's At and Share, proved over the translation. -/
import Derived.Test.YtehnklpjkcofcaaDoorFmath
namespace Go.Proofs.YtehnklpjkcofcaaDoor
open Go.RowKit
attribute [local go_sem] alloc_drewN setCell_drewN

set_option maxRecDepth 100000 in
set_option maxHeartbeats 1000000 in
theorem cmay_any {lo : Nat} (c : Value) (C : ConfV) (w : World) (hT : Tab w) (hc : ConfAt lo w c C) :
    Calls Tryd.prog 69 #[c] w fun e w' => e = .returned (.bool (decide (checkN C = 0))) ∧ w.grownBy w' none := by
  have C1 := hide (fun W (hg : w.grownBy W none) => check_any c C W (hT.grown hg) (hc.grown hg))
  obtain ⟨vp, vw, vo, rfl, ⟨qs, -, ⟨-, pa, pc, rfl, -⟩, -⟩, ⟨-, wa, wc, rfl, -⟩, ⟨-, oa, oc, rfl, -⟩⟩ := hc
  have HG0 := hide (World.grownBy_alloc w (.cells #[.int .i64 C.frame, .int .i64 C.quiet, .slice pa qs.length pc, .slice wa C.wins.length wc, .slice oa C.ports.length oc] 26) none)
  clear hT
  generalize checkN C = ce at *
  generalize C.frame = fr at *
  generalize C.quiet = qt at *
  generalize qs.length = n0 at *
  generalize C.wins.length = n1 at *
  generalize C.ports.length = n2 at *
  go_enter Tryd.func69, Tryd.ntmps69
  go_wp2_with (first | fail)
  refine (C1.out _ HG0.out).mono ?_; rintro e w1 ⟨rfl, hg⟩
  have G1 := hide hg
  clear hg C1
  by_cases h : ce = 0
  · subst h
    go_wp2
    go_ret
    exact ⟨rfl, grownBy_trans HG0.out G1.out⟩
  · have h2 : (ce == 0) = false := by simp [h]
    go_wp2
    go_ret
    exact ⟨by simp [h], grownBy_trans HG0.out G1.out⟩

set_option maxRecDepth 100000 in
set_option maxHeartbeats 2000000 in
theorem ticks_any {lo : Nat} (vw : Value) (C : ConfV) (hF : Fine C) (p : Int) (w : World) (hv : RowAt shW lo w vw C.wins) :
    Calls Tryd.prog 70 #[vw, .int .i64 p] w fun e w' => e = .returned (.int .i64 (ticksN C.wins p)) ∧ w.grownBy w' none := by
  have HV := hide (fun W => hv.grown (W := W))
  obtain ⟨hl, wa, wc, rfl, -⟩ := hv
  have HTO := hide (hF.to p)
  have HON := hide (hF.one p)
  have HBD := hide (fun i hi => And.intro (hF.fr0 i hi) (hF.win i hi).2.2.1)
  have HF1 := hide hF.f1
  have hw1 := hF.w1
  have HTN := hide (show ticksN C.wins p = tickTo C.wins p C.wins.length from rfl)
  clear hF
  generalize C.frame = fr at *
  generalize C.wins = ws at *
  generalize hN : ws.length = N at *
  have HN := hide hN
  clear hN
  go_enter Tryd.func70, Tryd.ntmps70
  go_wp2
  go_loopw [5, 7, 10] (fun s _ i W => ∃ (j : Nat), j ≤ N ∧ i = .int .i64 j ∧ s = .int .i64 (tickTo ws p j) ∧ Hid (w.grownBy W none)) (fun _ _ i _ => N - (intOf i).toNat)
  case atStart => exact ⟨0, by omega, rfl, rfl, grownBy_refl _ _⟩
  case round =>
    obtain ⟨j, hj, rfl, rfl, HG⟩ := hrel
    by_cases hlt : j < N
    · obtain ⟨-, a2, cap2, e2, hc⟩ := HV.out wr HG.out
      simp only [Value.slice.injEq] at e2
      obtain ⟨rfl, -, rfl⟩ := e2
      obtain ⟨g, o, rfl, -, hc2⟩ := hc (by rw [HN.out]; omega)
      have hq := winAt_mem (ws := ws) (i := j) (by rw [HN.out]; exact hlt)
      have hc3 := hc2 j _ hq
      have t0 := HTO.out j (by omega)
      have b0 := HBD.out j (by omega)
      have f1 := HF1.out
      have HS := hide (show tickTo ws p (j + 1) = tickTo ws p j + (if (winAt ws j).part = p then (winAt ws j).til - (winAt ws j).fr else 0) from rfl)
      have o0 := HON.out j (by omega)
      unfold tickOne at o0
      have c0 : wr.cell? ⟨g, o + j * 3, none⟩ = some (.int .i64 (winAt ws j).fr) := hc3 0 _ rfl
      have c1 : wr.cell? ⟨g, o + j * 3 + 1, none⟩ = some (.int .i64 (winAt ws j).til) := hc3 1 _ rfl
      have c2 : wr.cell? ⟨g, o + j * 3 + 2, none⟩ = some (.int .i64 (winAt ws j).part) := hc3 2 _ rfl
      clear hc hc2 hc3 hq
      generalize (winAt ws j).fr = x0 at *
      generalize (winAt ws j).til = x1 at *
      generalize (winAt ws j).part = x2 at *
      generalize tickTo ws p j = T at *
      by_cases h1 : x2 = p
      · subst h1
        rw [if_pos rfl] at o0
        have HS2 := hide (HS.out.trans (by rw [if_pos rfl]))
        clear HS
        go_wp2
        go_roundw
        case rel => exact ⟨j + 1, by omega, by go_num, by rw [HS2.out], hide (grownBy_trans HG.out (World.grownBy_alloc _ _ _))⟩
        case measure => simp [intOf]; omega
      · have h2 : (x2 == p) = false := by simp [h1]
        have HS2 := hide (HS.out.trans (by rw [if_neg h1, Int.add_zero]))
        clear HS
        go_wp2
        go_roundw
        case rel => exact ⟨j + 1, by omega, by go_num, by rw [HS2.out], hide (grownBy_trans HG.out (World.grownBy_alloc _ _ _))⟩
        case measure => simp [intOf]; omega
    · have e : j = N := by omega
      go_wp2
      go_ret
      exact ⟨ret_int (by rw [HTN.out, e]), HG.out⟩

#print axioms ticks_any
end Go.Proofs.YtehnklpjkcofcaaDoor

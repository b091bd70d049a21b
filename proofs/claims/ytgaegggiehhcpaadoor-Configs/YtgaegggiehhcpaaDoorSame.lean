/- Contracts of the statements' own Num, SameTasks, SameInstrs, SamePart and SameConfig where the two are alike, proved over the translation. -/
import Derived.Test.YtgaegggiehhcpaaDoorCheck
namespace Go.Proofs.YtgaegggiehhcpaaDoor
open Go.RowKit
attribute [local go_sem] alloc_drewN setCell_drewN

theorem num_any (e : Int) (w : World) :
    Calls Tryd.prog 15 #[.int .i64 e] w fun r w' => r = .returned (.int .i64 e) ∧ w' = w := by
  go_enter Tryd.func15, Tryd.ntmps15
  go_wp2
  go_ret
  exact ⟨rfl, rfl⟩

set_option maxRecDepth 100000 in
set_option maxHeartbeats 1000000 in
theorem same_T {lo lo' : Nat} (u v : Value) (zs : List TaskV) (w : World) (hu : RowAt shT lo w u zs) (hv : RowAt shT lo' w v zs) :
    Calls Tryd.prog 74 #[u, v] w fun e w' => e = .returned (.bool true) ∧ ∃ n, w' = w.drewN n := by
  obtain ⟨hl, a, cap, rfl, ha⟩ := hu
  obtain ⟨-, b, cap', rfl, hb⟩ := hv
  have HA := hide ha
  have HB := hide hb
  clear ha hb
  generalize hN : zs.length = N at *
  have HN := hide hN
  clear hN
  go_enter Tryd.func74, Tryd.ntmps74
  go_wp2
  go_loopw [5] (fun i W => ∃ (j n : Nat), j ≤ N ∧ i = .int .i64 j ∧ W = w.drewN n) (fun i _ => N - (intOf i).toNat)
  case atStart => exact ⟨0, 0, by omega, rfl, rfl⟩
  case round =>
    obtain ⟨j, n, hj, rfl, rfl⟩ := hrel
    by_cases hlt : j < N
    · obtain ⟨g, o, rfl, -, hc⟩ := HA.out (by omega)
      obtain ⟨g', o', rfl, -, hc'⟩ := HB.out (by omega)
      obtain ⟨q, hq⟩ : ∃ q, zs[j]? = some q := ⟨_, List.getElem?_eq_getElem (by rw [HN.out]; exact hlt)⟩
      have e1 := hc j q hq
      have e2 := hc' j q hq
      obtain ⟨x0, x1, x2, x3, x4, x5⟩ := q
      have c0 : w.cell? ⟨g, o + j * 6, none⟩ = some (.int .i64 x0) := e1 0 _ rfl
      have c1 : w.cell? ⟨g, o + j * 6 + 1, none⟩ = some (.int .i64 x1) := e1 1 _ rfl
      have c2 : w.cell? ⟨g, o + j * 6 + 2, none⟩ = some (.int .i64 x2) := e1 2 _ rfl
      have c3 : w.cell? ⟨g, o + j * 6 + 3, none⟩ = some (.int .i64 x3) := e1 3 _ rfl
      have c4 : w.cell? ⟨g, o + j * 6 + 4, none⟩ = some (.int .i64 x4) := e1 4 _ rfl
      have c5 : w.cell? ⟨g, o + j * 6 + 5, none⟩ = some (.int .i64 x5) := e1 5 _ rfl
      have d0 : w.cell? ⟨g', o' + j * 6, none⟩ = some (.int .i64 x0) := e2 0 _ rfl
      have d1 : w.cell? ⟨g', o' + j * 6 + 1, none⟩ = some (.int .i64 x1) := e2 1 _ rfl
      have d2 : w.cell? ⟨g', o' + j * 6 + 2, none⟩ = some (.int .i64 x2) := e2 2 _ rfl
      have d3 : w.cell? ⟨g', o' + j * 6 + 3, none⟩ = some (.int .i64 x3) := e2 3 _ rfl
      have d4 : w.cell? ⟨g', o' + j * 6 + 4, none⟩ = some (.int .i64 x4) := e2 4 _ rfl
      have d5 : w.cell? ⟨g', o' + j * 6 + 5, none⟩ = some (.int .i64 x5) := e2 5 _ rfl
      clear hc hc' e1 e2 hq
      go_wp2
      go_quiet (fail)
      go_wp2
      go_roundw
      case rel => exact ⟨j + 1, _, by omega, by go_num, rfl⟩
      case measure => simp [intOf]; omega
    · go_wp2
      go_ret
      exact ⟨rfl, _, rfl⟩

set_option maxRecDepth 100000 in
set_option maxHeartbeats 1000000 in
theorem same_I {lo lo' : Nat} (u v : Value) (zs : List Ins) (w : World) (hu : RowAt shI lo w u zs) (hv : RowAt shI lo' w v zs) :
    Calls Tryd.prog 75 #[u, v] w fun e w' => e = .returned (.bool true) ∧ ∃ n, w' = w.drewN n := by
  obtain ⟨hl, a, cap, rfl, ha⟩ := hu
  obtain ⟨-, b, cap', rfl, hb⟩ := hv
  have HA := hide ha
  have HB := hide hb
  clear ha hb
  generalize hN : zs.length = N at *
  have HN := hide hN
  clear hN
  go_enter Tryd.func75, Tryd.ntmps75
  go_wp2
  go_loopw [5] (fun i W => ∃ (j n : Nat), j ≤ N ∧ i = .int .i64 j ∧ W = w.drewN n) (fun i _ => N - (intOf i).toNat)
  case atStart => exact ⟨0, 0, by omega, rfl, rfl⟩
  case round =>
    obtain ⟨j, n, hj, rfl, rfl⟩ := hrel
    by_cases hlt : j < N
    · obtain ⟨g, o, rfl, -, hc⟩ := HA.out (by omega)
      obtain ⟨g', o', rfl, -, hc'⟩ := HB.out (by omega)
      obtain ⟨q, hq⟩ : ∃ q, zs[j]? = some q := ⟨_, List.getElem?_eq_getElem (by rw [HN.out]; exact hlt)⟩
      have e1 := hc j q hq
      have e2 := hc' j q hq
      obtain ⟨x0, x1⟩ := q
      have c0 : w.cell? ⟨g, o + j * 2, none⟩ = some (.int .i64 x0) := e1 0 _ rfl
      have c1 : w.cell? ⟨g, o + j * 2 + 1, none⟩ = some (.int .i64 x1) := e1 1 _ rfl
      have d0 : w.cell? ⟨g', o' + j * 2, none⟩ = some (.int .i64 x0) := e2 0 _ rfl
      have d1 : w.cell? ⟨g', o' + j * 2 + 1, none⟩ = some (.int .i64 x1) := e2 1 _ rfl
      clear hc hc' e1 e2 hq
      go_wp2
      go_quiet (fail)
      go_wp2
      go_roundw
      case rel => exact ⟨j + 1, _, by omega, by go_num, rfl⟩
      case measure => simp [intOf]; omega
    · go_wp2
      go_ret
      exact ⟨rfl, _, rfl⟩

set_option maxRecDepth 100000 in
set_option maxHeartbeats 1000000 in
theorem same_P {lo lo' : Nat} (q q' : PartM) (p : PartV) (w : World) (hq : PartIs lo w q p) (hq' : PartIs lo' w q' p) :
    Calls Tryd.prog 41 #[.agg #[.int .i64 q.level, .slice q.ta q.tn q.tc, .slice q.ca q.cn q.cc], .agg #[.int .i64 q'.level, .slice q'.ta q'.tn q'.tc, .slice q'.ca q'.cn q'.cc]] w fun e w' => e = .returned (.bool true) ∧ w.grownBy w' none := by
  have G0 := hide (grownBy_trans (World.grownBy_alloc w (.cells #[.int .i64 q.level, .slice q.ta q.tn q.tc, .slice q.ca q.cn q.cc] 50) none) (World.grownBy_alloc _ (.cells #[.int .i64 q'.level, .slice q'.ta q'.tn q'.tc, .slice q'.ca q'.cn q'.cc] 50) none))
  have CT := hide (same_T q.tasks q'.tasks p.tasks _ (hq.2.1.grown G0.out) (hq'.2.1.grown G0.out))
  have CI := hide (fun n => same_I q.code q'.code p.code _ ((hq.2.2.grown G0.out).draws n) ((hq'.2.2.grown G0.out).draws n))
  have hlv : q.level = q'.level := by rw [hq.1, hq'.1]
  clear hq hq'
  obtain ⟨l, ta, tn, tc, ca, cn, cc⟩ := q
  obtain ⟨l', ta', tn', tc', ca', cn', cc'⟩ := q'
  change l = l' at hlv
  subst hlv
  simp only [PartM.tasks, PartM.code] at CT CI
  go_enter Tryd.func41, Tryd.ntmps41
  go_wp2_with (first | (go_at_call 74; refine CT.out.mono ?_; rintro e w2 ⟨rfl, n2, rfl⟩) | (go_at_call 75; refine (CI.out _).mono ?_; rintro e w3 ⟨rfl, n3, rfl⟩))
  go_ret
  exact ⟨rfl, grownBy_trans G0.out (grownBy_draws _ _ _)⟩

set_option maxRecDepth 100000 in
set_option maxHeartbeats 2000000 in
theorem same_conf {lo lo' : Nat} (c c' : Value) (C : ConfV) (w : World) (hc : ConfAt lo w c C) (hc' : ConfAt lo' w c' C) :
    Calls Tryd.prog 17 #[c, c'] w fun e w' => e = .returned (.bool true) ∧ w.grownBy w' none := by
  obtain ⟨vp, vw, vo, rfl, ⟨qs, ql, qr, qe⟩, hw, ho⟩ := hc
  obtain ⟨vp', vw', vo', rfl, ⟨qs', ql', qr', qe'⟩, hw', ho'⟩ := hc'
  have HPr := hide (fun W => qr.grown (W := W))
  have HPr' := hide (fun W => qr'.grown (W := W))
  have HPe := hide (fun W (hg : w.grownBy W none) (i : Nat) q p (h1 : qs[i]? = some q) (h2 : C.parts[i]? = some p) => (qe i q p h1 h2).kept (keep_grown hg))
  have HPe' := hide (fun W (hg : w.grownBy W none) (i : Nat) q p (h1 : qs'[i]? = some q) (h2 : C.parts[i]? = some p) => (qe' i q p h1 h2).kept (keep_grown hg))
  have HWr := hide (fun W => hw.grown (W := W))
  have HWr' := hide (fun W => hw'.grown (W := W))
  have HOr := hide (fun W => ho.grown (W := W))
  have HOr' := hide (fun W => ho'.grown (W := W))
  obtain ⟨l1, pa, pc, rfl, -⟩ := qr
  obtain ⟨-, pa', pc', rfl, -⟩ := qr'
  obtain ⟨l2, wa, wc, rfl, -⟩ := hw
  obtain ⟨-, wa', wc', rfl, -⟩ := hw'
  obtain ⟨l3, oa, oc, rfl, -⟩ := ho
  obtain ⟨-, oa', oc', rfl, -⟩ := ho'
  rw [ql] at HPr l1 ⊢
  rw [ql'] at HPr' ⊢
  have HQ := hide ql
  have HQ' := hide ql'
  clear qe qe' ql ql'
  generalize C.frame = fr at *
  generalize C.quiet = qt at *
  generalize hnp : C.parts.length = np at *
  generalize hnw : C.wins.length = nw at *
  generalize hno : C.ports.length = no at *
  have HNP := hide hnp
  have HNW := hide hnw
  have HNO := hide hno
  clear hnp hnw hno
  have G0 := hide (grownBy_trans (World.grownBy_alloc w (.cells #[.int .i64 fr, .int .i64 qt, .slice pa np pc, .slice wa nw wc, .slice oa no oc] 26) none) (World.grownBy_alloc _ (.cells #[.int .i64 fr, .int .i64 qt, .slice pa' np pc', .slice wa' nw wc', .slice oa' no oc'] 26) none))
  have KEEP : Hid (∀ W, ((w.alloc (.cells #[.int .i64 fr, .int .i64 qt, .slice pa np pc, .slice wa nw wc, .slice oa no oc] 26)).alloc (.cells #[.int .i64 fr, .int .i64 qt, .slice pa' np pc', .slice wa' nw wc', .slice oa' no oc'] 26)).grownBy W none → (∀ k, W.cell? ⟨w.heap.size, k, none⟩ = #[.int .i64 fr, .int .i64 qt, .slice pa np pc, .slice wa nw wc, .slice oa no oc][k]?) ∧ (∀ k, W.cell? ⟨w.heap.size + 1, k, none⟩ = #[.int .i64 fr, .int .i64 qt, .slice pa' np pc', .slice wa' nw wc', .slice oa' no oc'][k]?)) := by
    intro W hW
    have b1 := (hW.block w.heap.size (by simp; omega) (by simp)).trans (heap_alloc2_old w _ _)
    have b2 := (hW.block (w.heap.size + 1) (by simp) (by simp)).trans (heap_alloc2_new w _ _)
    exact ⟨fun k => by simp [World.cell?, b1], fun k => by simp [World.cell?, b2]⟩
  go_enter Tryd.func17, Tryd.ntmps17
  go_wp2
  go_loopw [5] (fun i W => ∃ (j : Nat), j ≤ np ∧ i = .int .i64 j ∧ Hid (((w.alloc (.cells #[.int .i64 fr, .int .i64 qt, .slice pa np pc, .slice wa nw wc, .slice oa no oc] 26)).alloc (.cells #[.int .i64 fr, .int .i64 qt, .slice pa' np pc', .slice wa' nw wc', .slice oa' no oc'] 26)).grownBy W none)) (fun i _ => np - (intOf i).toNat)
  case atStart => exact ⟨0, by omega, rfl, grownBy_refl _ _⟩
  case round =>
    obtain ⟨j, hj, rfl, HG⟩ := hrel
    have f0 := (KEEP.out wr HG.out).1 2
    have f1 := (KEEP.out wr HG.out).2 2
    simp only [List.getElem?_toArray, List.getElem?_cons_succ, List.getElem?_cons_zero] at f0 f1
    by_cases hlt : j < np
    · obtain ⟨-, a2, cap2, e2, hc⟩ := HPr.out wr (grownBy_trans G0.out HG.out)
      simp only [Value.slice.injEq] at e2
      obtain ⟨rfl, -, rfl⟩ := e2
      obtain ⟨-, a2, cap2, e2, hc'⟩ := HPr'.out wr (grownBy_trans G0.out HG.out)
      simp only [Value.slice.injEq] at e2
      obtain ⟨rfl, -, rfl⟩ := e2
      obtain ⟨g, o, rfl, -, hc2⟩ := hc (by rw [HQ.out]; omega)
      obtain ⟨g', o', rfl, -, hc2'⟩ := hc' (by rw [HQ'.out]; omega)
      obtain ⟨q, hq⟩ : ∃ q, qs[j]? = some q := ⟨_, List.getElem?_eq_getElem (by rw [HQ.out]; exact hlt)⟩
      obtain ⟨q', hq'⟩ : ∃ q, qs'[j]? = some q := ⟨_, List.getElem?_eq_getElem (by rw [HQ'.out]; exact hlt)⟩
      obtain ⟨p, hp⟩ : ∃ p, C.parts[j]? = some p := ⟨_, List.getElem?_eq_getElem (by rw [HNP.out]; exact hlt)⟩
      have CS := hide (fun W (hg : w.grownBy W none) => same_P q q' p W (HPe.out W hg j q p hq hp) (HPe'.out W hg j q' p hq' hp))
      have e1 := hc2 j q hq
      have e2 := hc2' j q' hq'
      obtain ⟨lv, ta, tn, tc, ca, cn, cc⟩ := q
      obtain ⟨lv', ta', tn', tc', ca', cn', cc'⟩ := q'
      have hg1 : g < wr.heap.size := World.block_lt_of_cell? wr _ (e1 0 _ rfl)
      have hg2 : g' < wr.heap.size := World.block_lt_of_cell? wr _ (e2 0 _ rfl)
      have hb1 : w.heap.size < wr.heap.size := World.block_lt_of_cell? wr _ f0
      have hb2 : w.heap.size + 1 < wr.heap.size := World.block_lt_of_cell? wr _ f1
      obtain ⟨U, hU, F, HF, HR⟩ := class_of wr
      have kp := fun u b k (hb : b < wr.heap.size) => World.cell?_of_block (a := ⟨b, k, none⟩) ((HF.out u).block b hb (by simp))
      have u0 := fun u => (kp u w.heap.size 2 hb1).trans f0
      have u1 := fun u => (kp u (w.heap.size + 1) 2 hb2).trans f1
      have c0 : ∀ u, (F u).cell? ⟨g, o + j * 3, none⟩ = some (.int .i64 lv) := fun u => (kp u g _ hg1).trans (e1 0 _ rfl)
      have c1 : ∀ u, (F u).cell? ⟨g, o + j * 3 + 1, none⟩ = some (.slice ta tn tc) := fun u => (kp u g _ hg1).trans (e1 1 _ rfl)
      have c2 : ∀ u, (F u).cell? ⟨g, o + j * 3 + 2, none⟩ = some (.slice ca cn cc) := fun u => (kp u g _ hg1).trans (e1 2 _ rfl)
      have d0 : ∀ u, (F u).cell? ⟨g', o' + j * 3, none⟩ = some (.int .i64 lv') := fun u => (kp u g' _ hg2).trans (e2 0 _ rfl)
      have d1 : ∀ u, (F u).cell? ⟨g', o' + j * 3 + 1, none⟩ = some (.slice ta' tn' tc') := fun u => (kp u g' _ hg2).trans (e2 1 _ rfl)
      have d2 : ∀ u, (F u).cell? ⟨g', o' + j * 3 + 2, none⟩ = some (.slice ca' cn' cc') := fun u => (kp u g' _ hg2).trans (e2 2 _ rfl)
      clear hc hc' hc2 hc2' hq hq' hp e1 e2 kp
      have hi1 : (0 : Int) ≤ (j : Int) := by omega
      have hi2 : (j : Int) < (np : Int) := by omega
      go_wp2
      refine wp_region_quiet_in F (by kernel_rfl) (by kernel_rfl) (HR.out _ (drew_grown _)) ?_
      repeat (go_big_quiet_step (first | (go_at_call 41; exact calls_in HR (HF.out _) (CS.out _ (grownBy_trans G0.out (grownBy_trans HG.out (HF.out _)))))))
      refine wpQuiet_nil ?_
      intro _ hw1
      obtain ⟨uq, hw2⟩ := hw1
      subst hw2
      have HGu := hide (grownBy_trans HG.out (HF.out uq))
      go_wp2
      go_roundw
      case rel => exact ⟨j + 1, by omega, by go_num, HGu⟩
      case measure => simp [intOf]; omega
    · go_wp2
      go_loopw [6] (fun i W => ∃ (j : Nat), j ≤ nw ∧ i = .int .i64 j ∧ Hid (((w.alloc (.cells #[.int .i64 fr, .int .i64 qt, .slice pa np pc, .slice wa nw wc, .slice oa no oc] 26)).alloc (.cells #[.int .i64 fr, .int .i64 qt, .slice pa' np pc', .slice wa' nw wc', .slice oa' no oc'] 26)).grownBy W none)) (fun i _ => nw - (intOf i).toNat)
      case atStart => exact ⟨0, by omega, rfl, HG⟩
      case round =>
        obtain ⟨j, hj, rfl, HG⟩ := hrel
        have f0 := (KEEP.out wr HG.out).1 3
        have f1 := (KEEP.out wr HG.out).2 3
        simp only [List.getElem?_toArray, List.getElem?_cons_succ, List.getElem?_cons_zero] at f0 f1
        by_cases hlt : j < nw
        · obtain ⟨-, a2, cap2, e2, hc⟩ := HWr.out wr (grownBy_trans G0.out HG.out)
          simp only [Value.slice.injEq] at e2
          obtain ⟨rfl, -, rfl⟩ := e2
          obtain ⟨-, a2, cap2, e2, hc'⟩ := HWr'.out wr (grownBy_trans G0.out HG.out)
          simp only [Value.slice.injEq] at e2
          obtain ⟨rfl, -, rfl⟩ := e2
          obtain ⟨g, o, rfl, -, hc2⟩ := hc (by rw [HNW.out]; omega)
          obtain ⟨g', o', rfl, -, hc2'⟩ := hc' (by rw [HNW.out]; omega)
          obtain ⟨q, hq⟩ : ∃ q, C.wins[j]? = some q := ⟨_, List.getElem?_eq_getElem (by rw [HNW.out]; exact hlt)⟩
          have e1 := hc2 j q hq
          have e2 := hc2' j q hq
          obtain ⟨x0, x1, x2⟩ := q
          have c0 : wr.cell? ⟨g, o + j * 3, none⟩ = some (.int .i64 x0) := e1 0 _ rfl
          have c1 : wr.cell? ⟨g, o + j * 3 + 1, none⟩ = some (.int .i64 x1) := e1 1 _ rfl
          have c2 : wr.cell? ⟨g, o + j * 3 + 2, none⟩ = some (.int .i64 x2) := e1 2 _ rfl
          have d0 : wr.cell? ⟨g', o' + j * 3, none⟩ = some (.int .i64 x0) := e2 0 _ rfl
          have d1 : wr.cell? ⟨g', o' + j * 3 + 1, none⟩ = some (.int .i64 x1) := e2 1 _ rfl
          have d2 : wr.cell? ⟨g', o' + j * 3 + 2, none⟩ = some (.int .i64 x2) := e2 2 _ rfl
          clear hc hc' hc2 hc2' hq e1 e2
          go_wp2
          go_quiet (fail)
          go_wp2
          go_roundw
          case rel => exact ⟨j + 1, by omega, by go_num, hide (grownBy_trans HG.out (grownBy_draws _ _ _))⟩
          case measure => simp [intOf]; omega
        · go_wp2
          go_loopw [7] (fun i W => ∃ (j : Nat), j ≤ no ∧ i = .int .i64 j ∧ Hid (((w.alloc (.cells #[.int .i64 fr, .int .i64 qt, .slice pa np pc, .slice wa nw wc, .slice oa no oc] 26)).alloc (.cells #[.int .i64 fr, .int .i64 qt, .slice pa' np pc', .slice wa' nw wc', .slice oa' no oc'] 26)).grownBy W none)) (fun i _ => no - (intOf i).toNat)
          case atStart => exact ⟨0, by omega, rfl, HG⟩
          case round =>
            obtain ⟨j, hj, rfl, HG⟩ := hrel
            have f0 := (KEEP.out wr HG.out).1 4
            have f1 := (KEEP.out wr HG.out).2 4
            simp only [List.getElem?_toArray, List.getElem?_cons_succ, List.getElem?_cons_zero] at f0 f1
            by_cases hlt : j < no
            · obtain ⟨-, a2, cap2, e2, hc⟩ := HOr.out wr (grownBy_trans G0.out HG.out)
              simp only [Value.slice.injEq] at e2
              obtain ⟨rfl, -, rfl⟩ := e2
              obtain ⟨-, a2, cap2, e2, hc'⟩ := HOr'.out wr (grownBy_trans G0.out HG.out)
              simp only [Value.slice.injEq] at e2
              obtain ⟨rfl, -, rfl⟩ := e2
              obtain ⟨g, o, rfl, -, hc2⟩ := hc (by rw [HNO.out]; omega)
              obtain ⟨g', o', rfl, -, hc2'⟩ := hc' (by rw [HNO.out]; omega)
              obtain ⟨q, hq⟩ : ∃ q, C.ports[j]? = some q := ⟨_, List.getElem?_eq_getElem (by rw [HNO.out]; exact hlt)⟩
              have e1 := hc2 j q hq
              have e2 := hc2' j q hq
              obtain ⟨x0, x1, x2, x3⟩ := q
              have c0 : wr.cell? ⟨g, o + j * 4, none⟩ = some (.int .i64 x0) := e1 0 _ rfl
              have c1 : wr.cell? ⟨g, o + j * 4 + 1, none⟩ = some (.int .i64 x1) := e1 1 _ rfl
              have c2 : wr.cell? ⟨g, o + j * 4 + 2, none⟩ = some (.int .i64 x2) := e1 2 _ rfl
              have c3 : wr.cell? ⟨g, o + j * 4 + 3, none⟩ = some (.int .i64 x3) := e1 3 _ rfl
              have d0 : wr.cell? ⟨g', o' + j * 4, none⟩ = some (.int .i64 x0) := e2 0 _ rfl
              have d1 : wr.cell? ⟨g', o' + j * 4 + 1, none⟩ = some (.int .i64 x1) := e2 1 _ rfl
              have d2 : wr.cell? ⟨g', o' + j * 4 + 2, none⟩ = some (.int .i64 x2) := e2 2 _ rfl
              have d3 : wr.cell? ⟨g', o' + j * 4 + 3, none⟩ = some (.int .i64 x3) := e2 3 _ rfl
              clear hc hc' hc2 hc2' hq e1 e2
              go_wp2
              go_quiet (fail)
              go_wp2
              go_roundw
              case rel => exact ⟨j + 1, by omega, by go_num, hide (grownBy_trans HG.out (grownBy_draws _ _ _))⟩
              case measure => simp [intOf]; omega
            · go_wp2
              go_ret
              exact ⟨rfl, grownBy_trans G0.out HG.out⟩

#print axioms same_conf
end Go.Proofs.YtgaegggiehhcpaaDoor

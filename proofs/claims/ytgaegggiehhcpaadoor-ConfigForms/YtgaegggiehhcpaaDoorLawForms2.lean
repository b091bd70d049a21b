/- The walk of the statement ConfigForms, its last three ways and all together; proved over the translation. -/
import Derived.Test.YtgaegggiehhcpaaDoorLawForms
namespace Go.Proofs.YtgaegggiehhcpaaDoor
open Go.RowKit
attribute [local go_sem] alloc_drewN setCell_drewN

set_option linter.unusedSimpArgs false
theorem conf_two {W : World} {n : Nat} {q0 q1 : PartM} {p0 p1 : PartV} {fr qt : Int} {vw vo : Value} {ws : List WinV} {os : List PortV}
    (hb : W.heap[n + 3]? = some (.cells #[.int .i64 q0.level, .slice q0.ta q0.tn q0.tc, .slice q0.ca q0.cn q0.cc, .int .i64 q1.level, .slice q1.ta q1.tn q1.tc, .slice q1.ca q1.cn q1.cc] 50 (0, 0)))
    (h0 : PartIs 0 W q0 p0) (h1 : PartIs 0 W q1 p1) (hw : RowAt shW 0 W vw ws) (ho : RowAt shO 0 W vo os) :
    ConfAt 0 W (.agg #[.int .i64 fr, .int .i64 qt, .slice (some ⟨n + 3, 0, none⟩) 2 2, vw, vo]) ⟨fr, qt, [p0, p1], ws, os⟩ := by
  refine ⟨_, _, _, rfl, ⟨[q0, q1], rfl, row_blk (S := shP) [q0, q1] rfl (by simp) hb 0 (by omega), ?_⟩, hw, ho⟩
  intro i q p hq hp
  match i, hq, hp with
  | 0, hq, hp =>
    simp only [List.getElem?_cons_zero, Option.some.injEq] at hq hp
    subst hq hp
    exact h0
  | 1, hq, hp =>
    simp only [List.getElem?_cons_succ, List.getElem?_cons_zero, Option.some.injEq] at hq hp
    subst hq hp
    exact h1
  | k + 2, hq, _ => simp at hq
theorem row_t {W : World} {n : Nat} {t0 : TaskV} (ht0 : W.heap[n]? = some (.cells #[.int .i64 t0.kind, .int .i64 t0.period, .int .i64 t0.deadline, .int .i64 t0.clow, .int .i64 t0.chigh, .int .i64 t0.prio] 52 (0, 0))) : RowAt shT 0 W (.slice (some ⟨n, 0, none⟩) 1 1) [t0] := row_blk (S := shT) [t0] rfl (by simp) ht0 0 (by omega)

set_option maxRecDepth 100000 in
set_option maxHeartbeats 2000000 in
theorem forms_12 (a x : Int) (hk : (IntKind.u64.wrap a).tmod 13 = 12) (w : World) (hT : Tab w) :
    Calls Tryd.prog 5 #[.int .i64 a, .int .i64 x] w fun e w' => e = .returned (.bool true) ∧ w.grownBy w' none := by
  have HT := hide hT
  have CA := hide (awake_any w hT)
  clear hT
  obtain ⟨m, m0, m1, e1⟩ := and63 x
  have HCK : Hid (checkN ⟨10, 2, [⟨1, [pt0], [(1, 7), (9, 0)]⟩, ⟨0, [pt1], [(6, 1 + m)]⟩], [px0, px1], [po0]⟩ = 506) := by
    have e1 : partsB [⟨1, [pt0], [(1, 7), (9, 0)]⟩, ⟨0, [pt1], [(6, 1 + m)]⟩] = true := by rfl
    have e2 : allB 2 (fun i => tasksB (partAt [⟨1, [pt0], [(1, 7), (9, 0)]⟩, ⟨0, [pt1], [(6, 1 + m)]⟩] i)) = true := by rfl
    have e3 : winsB 10 2 [px0, px1] = true := ck4
    have e4 : portsB [1, 0] [po0] = true := ck5
    have e5 : allB 2 (fun i => codeMay (partAt [⟨1, [pt0], [(1, 7), (9, 0)]⟩, ⟨0, [pt1], [(6, 1 + m)]⟩] i).code) = false := by
      refine allB_false (i := 1) (by decide) ?_
      have hm1 : most 6 1 = 1 := rfl
      simp [partAt, codeMay, insMay, isOpB, hm1]
      omega
    exact hide (by simp [checkN, ck1, e1, e2, e3, e4, e5])
  go_enter Tryd.func5, Tryd.ntmps5
  go_wp2_with (first | fail)
  refine CA.out.mono ?_; rintro e w1 ⟨rfl, hg⟩
  have G1 := hide hg
  clear hg CA
  go_wp2_with (first | fail)
  refine (plain_any w1).mono ?_; rintro e w2 ⟨n, hn, rfl, hm, hg⟩
  have M2 := hide hm
  have G2 := hide (grownBy_trans G1.out hg)
  have hn2 := hm.lt
  have HN := hide (show w.heap.size ≤ n by have := G1.out.size; omega)
  clear hm hg
  have A2 := hide (World.grownBy_alloc w2 (.cells #[.int .i64 10, .int .i64 2, .slice (some ⟨n + 3, 0, none⟩) 2 2, .slice (some ⟨n + 4, 0, none⟩) 2 2, .slice (some ⟨n + 5, 0, none⟩) 1 1] 26) none)
  have B2 := hide (heap_alloc_new w2 (.cells #[.int .i64 10, .int .i64 2, .slice (some ⟨n + 3, 0, none⟩) 2 2, .slice (some ⟨n + 4, 0, none⟩) 2 2, .slice (some ⟨n + 5, 0, none⟩) 1 1] 26))
  go_wp2_with (first | fail)
  refine (check_any _ ⟨10, 2, plainP, [px0, px1], [po0]⟩ _ (HT.out.grown (grownBy_trans G2.out A2.out)) ((M2.out.grown A2.out).conf 10 2)).mono ?_; rintro e w3 ⟨rfl, hg⟩
  rw [plain_ok]
  have G3 := hide (grownBy_trans G2.out (grownBy_trans A2.out hg))
  have M3 := hide (M2.out.grown (grownBy_trans A2.out hg))
  have B3 := hide (box_grown B2.out hg (by simp))
  clear hg A2 B2 M2
  generalize w2.heap.size = B at *
  have hB := box_lt B3.out
  have hBn : B ≠ w3.heap.size := by omega
  have hwb : w.heap.size ≤ B := by have := HN.out; omega
  have kb := blk_free B3.out
  have f0 : w3.cell? ⟨B, 0, none⟩ = some (.int .i64 10) := blk_cell B3.out 0
  have f1 : w3.cell? ⟨B, 1, none⟩ = some (.int .i64 2) := blk_cell B3.out 1
  have f2 : w3.cell? ⟨B, 2, none⟩ = some (.slice (some ⟨n + 3, 0, none⟩) 2 2) := blk_cell B3.out 2
  have f3 : w3.cell? ⟨B, 3, none⟩ = some (.slice (some ⟨n + 4, 0, none⟩) 2 2) := blk_cell B3.out 3
  have f4 : w3.cell? ⟨B, 4, none⟩ = some (.slice (some ⟨n + 5, 0, none⟩) 1 1) := blk_cell B3.out 4
  have j0 : w3.cell? ⟨n + 3, 5, none⟩ = some (.slice none 0 0) := blk_cell M3.out.bp 5
  have k0 : w3.frozen? ⟨n + 3, 5, none⟩ = false := blk_free M3.out.bp 5
  have hne1 : n + 3 ≠ B := by omega
  have hne2 : B ≠ n + 3 := by omega
  have hlt3 : n + 3 < w3.heap.size := by omega
  have hne3 : n + 3 ≠ w3.heap.size := by omega
  have G4' := hide (grown_set_new (j := 5) (u := .slice (some ⟨w3.heap.size, 0, none⟩) 1 1) (R := n + 3) (by have := HN.out; omega) G3.out)
  have A4 := hide (World.grownBy_alloc (w3.setCell ⟨n + 3, 5, none⟩ (.slice (some ⟨w3.heap.size, 0, none⟩) 1 1)) (.cells #[.int .i64 6, .int .i64 (1 + m)] 54) none)
  have G4 := hide (grownBy_trans G4'.out A4.out)
  have B4 := hide (box_grown (blk_other (j := 5) (u := .slice (some ⟨w3.heap.size, 0, none⟩) 1 1) (b := n + 3) B3.out (by omega)) A4.out (by simp))
  have HCF : Hid (ConfAt 0 ((w3.setCell ⟨n + 3, 5, none⟩ (.slice (some ⟨w3.heap.size, 0, none⟩) 1 1)).alloc (.cells #[.int .i64 6, .int .i64 (1 + m)] 54)) (.agg #[.int .i64 10, .int .i64 2, .slice (some ⟨n + 3, 0, none⟩) 2 2, .slice (some ⟨n + 4, 0, none⟩) 2 2, .slice (some ⟨n + 5, 0, none⟩) 1 1]) ⟨10, 2, [⟨1, [pt0], [(1, 7), (9, 0)]⟩, ⟨0, [pt1], [(6, 1 + m)]⟩], [px0, px1], [po0]⟩) := by
    have u := fun {o : Obj} {c : Nat} (h : w3.heap[c]? = some o) (hc : n + 3 ≠ c) => box_grown (blk_other (j := 5) (u := .slice (some ⟨w3.heap.size, 0, none⟩) 1 1) (b := n + 3) h hc) A4.out (by simp)
    have bp := box_grown (blk_set (j := 5) (u := .slice (some ⟨w3.heap.size, 0, none⟩) 1 1) M3.out.bp (cs' := _) rfl) A4.out (by simp)
    have bi := heap_at (w3.setCell ⟨n + 3, 5, none⟩ (.slice (some ⟨w3.heap.size, 0, none⟩) 1 1)) (.cells #[.int .i64 6, .int .i64 (1 + m)] 54) w3.heap.size (by simp [World.setCell])
    refine conf_two (q0 := ⟨1, some ⟨n, 0, none⟩, 1, 1, some ⟨n + 1, 0, none⟩, 2, 2⟩) (q1 := ⟨0, some ⟨n + 2, 0, none⟩, 1, 1, some ⟨w3.heap.size, 0, none⟩, 1, 1⟩) bp ⟨rfl, row_t (u M3.out.bt0 (by omega)), row_blk (S := shI) [(1, 7), (9, 0)] rfl (by simp) (u M3.out.bi (by omega)) 0 (by omega)⟩ ⟨rfl, row_t (u M3.out.bt1 (by omega)), row_blk (S := shI) [(6, 1 + m)] rfl (by simp) bi 0 (by omega)⟩ (row_blk (S := shW) [px0, px1] rfl (by simp) (u M3.out.bw (by omega)) 0 (by omega)) (row_blk (S := shO) [po0] rfl (by simp) (u M3.out.bo (by omega)) 0 (by omega))
  go_wp2_with (first | fail)
  refine (check_any _ ⟨10, 2, [⟨1, [pt0], [(1, 7), (9, 0)]⟩, ⟨0, [pt1], [(6, 1 + m)]⟩], [px0, px1], [po0]⟩ _ (HT.out.grown G4.out) HCF.out).mono ?_; rintro e w5 ⟨rfl, hg⟩
  rw [HCK.out]
  have G5 := hide (grownBy_trans G4.out hg)
  have C5 := hide (ConfAt.grown HCF.out hg)
  have B5 := hide (box_grown B4.out hg (by simp))
  clear hg
  have g0 : w5.cell? ⟨B, 0, none⟩ = some (.int .i64 10) := blk_cell B5.out 0
  have g1 : w5.cell? ⟨B, 1, none⟩ = some (.int .i64 2) := blk_cell B5.out 1
  have g2 : w5.cell? ⟨B, 2, none⟩ = some (.slice (some ⟨n + 3, 0, none⟩) 2 2) := blk_cell B5.out 2
  have g3 : w5.cell? ⟨B, 3, none⟩ = some (.slice (some ⟨n + 4, 0, none⟩) 2 2) := blk_cell B5.out 3
  have g4 : w5.cell? ⟨B, 4, none⟩ = some (.slice (some ⟨n + 5, 0, none⟩) 1 1) := blk_cell B5.out 4
  have HPS := hide (putS_bad HCK.out (by decide))
  go_wp2_with (first | fail)
  refine (put_any _ ⟨10, 2, [⟨1, [pt0], [(1, 7), (9, 0)]⟩, ⟨0, [pt1], [(6, 1 + m)]⟩], [px0, px1], [po0]⟩ _ (HT.out.grown G5.out) C5.out).mono ?_; rintro e w6 ⟨rfl, hg⟩
  rw [HPS.out, HCK.out]
  have G6 := hide (grownBy_trans G5.out hg)
  clear hg
  go_wp2_with (first | (go_at_call 15; refine (num_any _ _).mono ?_; rintro e w' ⟨rfl, rfl⟩))
  go_ret
  exact ⟨rfl, G6.out⟩

theorem make_tasks (k : Int) (h0 : 0 ≤ k) (h1 : k ≤ 1000) (w : World) : (Instr.makeSlice 47 (.int .i64 k) (.int .i64 k)).run Tryd.prog w = .ok (.slice (some ⟨w.heap.size, 0, none⟩) k.toNat k.toNat) (w.alloc (.cells (madeCells #[.int .i64 0, .int .i64 0, .int .i64 0, .int .i64 0, .int .i64 0, .int .i64 0] (k.toNat * 6)) 52)) := by
  obtain ⟨i0, hi, hz0, hz1, hz2⟩ := info_parts info52
  have := run_make (P := Tryd.prog) w 47 52 i0 _ Tryd.underlying47 hi hz0 .i64 .i64 k k h0 (Int.le_refl _) (by rw [hz2]; omega) (by omega)
  rw [hz1] at this
  exact this
set_option maxRecDepth 100000 in
set_option maxHeartbeats 2000000 in
theorem forms_11 (a x : Int) (hk : (IntKind.u64.wrap a).tmod 13 = 11) (w : World) (hT : Tab w) :
    Calls Tryd.prog 5 #[.int .i64 a, .int .i64 x] w fun e w' => e = .returned (.bool true) ∧ w.grownBy w' none := by
  have HT := hide hT
  have CA := hide (awake_any w hT)
  clear hT
  obtain ⟨m, m0, m1, e1⟩ := and63 x
  have HCK : Hid (checkN ⟨10, 2, [⟨1, List.replicate (6 + (1 + m)).toNat tz, [(1, 7), (9, 0)]⟩, ⟨0, [pt1], []⟩], [px0, px1], [po0]⟩ = 503) := hide (chkT _ _ _ (by rfl) (allB_false (i := 0) (by simp) (by
    show tasksB ⟨1, List.replicate (6 + (1 + m)).toNat tz, [(1, 7), (9, 0)]⟩ = false
    unfold tasksB; rw [List.length_replicate, decide_eq_false (show ¬ (6 + (1 + m)).toNat ≤ 6 by omega)]; rfl)))
  have hmk := make_tasks (6 + (1 + m)) (by omega) (by omega)
  have hw6 : IntKind.i64.wrap (6 + (1 + m)) = 6 + (1 + m) := by rw [IntKind.wrap_i64]; omega
  go_enter Tryd.func5, Tryd.ntmps5
  go_wp2_with (first | fail)
  refine CA.out.mono ?_; rintro e w1 ⟨rfl, hg⟩
  have G1 := hide hg
  clear hg CA
  go_wp2_with (first | fail)
  refine (plain_any w1).mono ?_; rintro e w2 ⟨n, hn, rfl, hm, hg⟩
  have M2 := hide hm
  have G2 := hide (grownBy_trans G1.out hg)
  have hn2 := hm.lt
  have HN := hide (show w.heap.size ≤ n by have := G1.out.size; omega)
  clear hm hg
  have A2 := hide (World.grownBy_alloc w2 (.cells #[.int .i64 10, .int .i64 2, .slice (some ⟨n + 3, 0, none⟩) 2 2, .slice (some ⟨n + 4, 0, none⟩) 2 2, .slice (some ⟨n + 5, 0, none⟩) 1 1] 26) none)
  have B2 := hide (heap_alloc_new w2 (.cells #[.int .i64 10, .int .i64 2, .slice (some ⟨n + 3, 0, none⟩) 2 2, .slice (some ⟨n + 4, 0, none⟩) 2 2, .slice (some ⟨n + 5, 0, none⟩) 1 1] 26))
  go_wp2_with (first | fail)
  refine (check_any _ ⟨10, 2, plainP, [px0, px1], [po0]⟩ _ (HT.out.grown (grownBy_trans G2.out A2.out)) ((M2.out.grown A2.out).conf 10 2)).mono ?_; rintro e w3 ⟨rfl, hg⟩
  rw [plain_ok]
  have G3 := hide (grownBy_trans G2.out (grownBy_trans A2.out hg))
  have M3 := hide (M2.out.grown (grownBy_trans A2.out hg))
  have B3 := hide (box_grown B2.out hg (by simp))
  clear hg A2 B2 M2
  generalize w2.heap.size = B at *
  have hB := box_lt B3.out
  have hBn : B ≠ w3.heap.size := by omega
  have hwb : w.heap.size ≤ B := by have := HN.out; omega
  have kb := blk_free B3.out
  have f0 : w3.cell? ⟨B, 0, none⟩ = some (.int .i64 10) := blk_cell B3.out 0
  have f1 : w3.cell? ⟨B, 1, none⟩ = some (.int .i64 2) := blk_cell B3.out 1
  have f2 : w3.cell? ⟨B, 2, none⟩ = some (.slice (some ⟨n + 3, 0, none⟩) 2 2) := blk_cell B3.out 2
  have f3 : w3.cell? ⟨B, 3, none⟩ = some (.slice (some ⟨n + 4, 0, none⟩) 2 2) := blk_cell B3.out 3
  have f4 : w3.cell? ⟨B, 4, none⟩ = some (.slice (some ⟨n + 5, 0, none⟩) 1 1) := blk_cell B3.out 4
  have j0 : w3.cell? ⟨n + 3, 1, none⟩ = some (.slice (some ⟨n, 0, none⟩) 1 1) := blk_cell M3.out.bp 1
  have k0 : w3.frozen? ⟨n + 3, 1, none⟩ = false := blk_free M3.out.bp 1
  have hne1 : n + 3 ≠ B := by omega
  have hne2 : B ≠ n + 3 := by omega
  have hlt3 : n + 3 < w3.heap.size := by omega
  have hne3 : n + 3 ≠ w3.heap.size := by omega
  have G4' := hide (grown_set_new (j := 1) (u := .slice (some ⟨w3.heap.size, 0, none⟩) (6 + (1 + m)).toNat (6 + (1 + m)).toNat) (R := n + 3) (by have := HN.out; omega) G3.out)
  have A4 : Hid ((w3.setCell ⟨n + 3, 1, none⟩ (.slice (some ⟨w3.heap.size, 0, none⟩) (6 + (1 + m)).toNat (6 + (1 + m)).toNat)).grownBy (((w3.setCell ⟨n + 3, 1, none⟩ (.slice (some ⟨w3.heap.size, 0, none⟩) (6 + (1 + m)).toNat (6 + (1 + m)).toNat)).alloc (.cells (madeCells #[.int .i64 0, .int .i64 0, .int .i64 0, .int .i64 0, .int .i64 0, .int .i64 0] ((6 + (1 + m)).toNat * 6)) 52)).drew) none) := grownBy_trans (World.grownBy_alloc (w3.setCell ⟨n + 3, 1, none⟩ (.slice (some ⟨w3.heap.size, 0, none⟩) (6 + (1 + m)).toNat (6 + (1 + m)).toNat)) (.cells (madeCells #[.int .i64 0, .int .i64 0, .int .i64 0, .int .i64 0, .int .i64 0, .int .i64 0] ((6 + (1 + m)).toNat * 6)) 52) none) (drew_grown _)
  have G4 := hide (grownBy_trans G4'.out A4.out)
  have B4 := hide (box_grown (blk_other (j := 1) (u := .slice (some ⟨w3.heap.size, 0, none⟩) (6 + (1 + m)).toNat (6 + (1 + m)).toNat) (b := n + 3) B3.out (by omega)) A4.out (by simp))
  have HCF : Hid (ConfAt 0 (((w3.setCell ⟨n + 3, 1, none⟩ (.slice (some ⟨w3.heap.size, 0, none⟩) (6 + (1 + m)).toNat (6 + (1 + m)).toNat)).alloc (.cells (madeCells #[.int .i64 0, .int .i64 0, .int .i64 0, .int .i64 0, .int .i64 0, .int .i64 0] ((6 + (1 + m)).toNat * 6)) 52)).drew) (.agg #[.int .i64 10, .int .i64 2, .slice (some ⟨n + 3, 0, none⟩) 2 2, .slice (some ⟨n + 4, 0, none⟩) 2 2, .slice (some ⟨n + 5, 0, none⟩) 1 1]) ⟨10, 2, [⟨1, List.replicate (6 + (1 + m)).toNat tz, [(1, 7), (9, 0)]⟩, ⟨0, [pt1], []⟩], [px0, px1], [po0]⟩) := by
    have hsz : (w3.setCell ⟨n + 3, 1, none⟩ (.slice (some ⟨w3.heap.size, 0, none⟩) (6 + (1 + m)).toNat (6 + (1 + m)).toNat)).heap.size = w3.heap.size := by simp [World.setCell]
    have R5 := make_new shT tz (6 + (1 + m)).toNat 52 (w3.setCell ⟨n + 3, 1, none⟩ (.slice (some ⟨w3.heap.size, 0, none⟩) (6 + (1 + m)).toNat (6 + (1 + m)).toNat)) (by omega)
    rw [hsz] at R5
    have u := fun {o : Obj} {c : Nat} (h : w3.heap[c]? = some o) (hc : n + 3 ≠ c) => box_grown (blk_other (j := 1) (u := .slice (some ⟨w3.heap.size, 0, none⟩) (6 + (1 + m)).toNat (6 + (1 + m)).toNat) (b := n + 3) h hc) A4.out (by simp)
    have bp := box_grown (blk_set (j := 1) (u := .slice (some ⟨w3.heap.size, 0, none⟩) (6 + (1 + m)).toNat (6 + (1 + m)).toNat) M3.out.bp (cs' := _) rfl) A4.out (by simp)
    refine conf_two (q0 := ⟨1, some ⟨w3.heap.size, 0, none⟩, (6 + (1 + m)).toNat, (6 + (1 + m)).toNat, some ⟨n + 1, 0, none⟩, 2, 2⟩) (q1 := ⟨0, some ⟨n + 2, 0, none⟩, 1, 1, none, 0, 0⟩) bp ⟨rfl, (R5.mono (Nat.zero_le _)).draws 1, row_blk (S := shI) [(1, 7), (9, 0)] rfl (by simp) (u M3.out.bi (by omega)) 0 (by omega)⟩ ⟨rfl, row_t (u M3.out.bt1 (by omega)), rowAt_nil _ _ _ _⟩ (row_blk (S := shW) [px0, px1] rfl (by simp) (u M3.out.bw (by omega)) 0 (by omega)) (row_blk (S := shO) [po0] rfl (by simp) (u M3.out.bo (by omega)) 0 (by omega))
  go_wp2
  go_region
  generalize hw4 : ((w3.setCell ⟨n + 3, 1, none⟩ (.slice (some ⟨w3.heap.size, 0, none⟩) (6 + (1 + m)).toNat (6 + (1 + m)).toNat)).alloc (.cells (madeCells #[.int .i64 0, .int .i64 0, .int .i64 0, .int .i64 0, .int .i64 0, .int .i64 0] ((6 + (1 + m)).toNat * 6)) 52)).drew = w4 at *
  clear hw4
  have h0 : w4.cell? ⟨B, 0, none⟩ = some (.int .i64 10) := blk_cell B4.out 0
  have h1 : w4.cell? ⟨B, 1, none⟩ = some (.int .i64 2) := blk_cell B4.out 1
  have h2 : w4.cell? ⟨B, 2, none⟩ = some (.slice (some ⟨n + 3, 0, none⟩) 2 2) := blk_cell B4.out 2
  have h3 : w4.cell? ⟨B, 3, none⟩ = some (.slice (some ⟨n + 4, 0, none⟩) 2 2) := blk_cell B4.out 3
  have h4 : w4.cell? ⟨B, 4, none⟩ = some (.slice (some ⟨n + 5, 0, none⟩) 1 1) := blk_cell B4.out 4
  go_wp2_with (first | fail)
  refine (check_any _ ⟨10, 2, [⟨1, List.replicate (6 + (1 + m)).toNat tz, [(1, 7), (9, 0)]⟩, ⟨0, [pt1], []⟩], [px0, px1], [po0]⟩ _ (HT.out.grown G4.out) HCF.out).mono ?_; rintro e w5 ⟨rfl, hg⟩
  rw [HCK.out]
  have G5 := hide (grownBy_trans G4.out hg)
  have C5 := hide (ConfAt.grown HCF.out hg)
  have B5 := hide (box_grown B4.out hg (by simp))
  clear hg
  have g0 : w5.cell? ⟨B, 0, none⟩ = some (.int .i64 10) := blk_cell B5.out 0
  have g1 : w5.cell? ⟨B, 1, none⟩ = some (.int .i64 2) := blk_cell B5.out 1
  have g2 : w5.cell? ⟨B, 2, none⟩ = some (.slice (some ⟨n + 3, 0, none⟩) 2 2) := blk_cell B5.out 2
  have g3 : w5.cell? ⟨B, 3, none⟩ = some (.slice (some ⟨n + 4, 0, none⟩) 2 2) := blk_cell B5.out 3
  have g4 : w5.cell? ⟨B, 4, none⟩ = some (.slice (some ⟨n + 5, 0, none⟩) 1 1) := blk_cell B5.out 4
  have HPS := hide (putS_bad HCK.out (by decide))
  go_wp2_with (first | fail)
  refine (put_any _ ⟨10, 2, [⟨1, List.replicate (6 + (1 + m)).toNat tz, [(1, 7), (9, 0)]⟩, ⟨0, [pt1], []⟩], [px0, px1], [po0]⟩ _ (HT.out.grown G5.out) C5.out).mono ?_; rintro e w6 ⟨rfl, hg⟩
  rw [HPS.out, HCK.out]
  have G6 := hide (grownBy_trans G5.out hg)
  clear hg
  go_wp2_with (first | (go_at_call 15; refine (num_any _ _).mono ?_; rintro e w' ⟨rfl, rfl⟩))
  go_ret
  exact ⟨rfl, G6.out⟩

theorem step_row {α : Type} {S : Shape α} {ops : Array Oper} {o : Oper} {a : Act} {K : Act → World → Prop} {Q : Exit → Act → World → Prop} {E : Prop} (w : World) (hgd : o.guard = none) (s x : Operand) (t e : TypeId) (z : Value) (bytes : Nat)
    (ht : Tryd.prog.underlying t = some (.slice e)) (hinfo : (Tryd.prog.info? e).map (fun i => (i.zero, i.size, i.bytes)) = some (some z, S.k, bytes)) (hzs : z.cells.size = S.k)
    (ho : o.op = .call { callee := .builtin .append, args := #[s, x], argTypes := #[t, t] })
    (base : Nat) (v : Value) (n : Nat) (xs : List α) (hs : a.eval s = v) (hown : w.ownsRow base e S.k v n (S.cells xs))
    (ad : Addr) (m c : Nat) (ys : List α) (hx : a.eval x = .slice (some ad) m c) (hl : ys.length = m) (hcells : ∀ i y, ys[i]? = some y → ∀ j u, (S.f y)[j]? = some u → w.cell? (ad.add (i * S.k + j)) = some u)
    (hm : 0 < m) (hlim : (n + m) * bytes ≤ 140737488355328) (h63 : n + m ≤ 9223372036854775807) (hbase : base ≤ w.heap.size)
    (h : ∀ g cap' w', w'.ownsRow base e S.k (.slice (some ⟨g, 0, none⟩) (n + m) cap') (n + m) (S.cells (xs ++ ys)) → w.grownBy w' v.ownBlock → (v.ownBlock = some g ∨ g = w.heap.size) → K (a.put o.dst (.slice (some ⟨g, 0, none⟩) (n + m) cap')) w') :
    if Region.wanted o (yielded ops a.tmps) = true then Oper.wp Tryd.prog o a w K Q else E := by
  obtain ⟨i0, hi, hz0, hz1, hz2⟩ := info_parts hinfo
  refine step_append_lies w hgd s x t ho base e i0 z S.k bytes ht hi hz0 hz1 hz2 hzs S.pos v n (S.cells xs) hs hown ad m c (S.cells ys) hx (by rw [S.cells_length, hl]) ?_ (S.cells_one ys) hm (by unfold maxLen; omega) hlim hbase _ rfl ?_
  · intro j u hu
    obtain ⟨i, j2, y, rfl, h1, h2⟩ := S.cells_at _ _ _ hu
    exact hcells i y h1 j2 u h2
  · intro g cap' w' hown' hgrow hb _
    refine h g cap' w' ?_ hgrow hb
    rw [S.cells_append]
    exact hown'
set_option maxRecDepth 100000 in
set_option maxHeartbeats 2000000 in
theorem forms_10 (a x : Int) (hk : (IntKind.u64.wrap a).tmod 13 = 10) (w : World) (hT : Tab w) :
    Calls Tryd.prog 5 #[.int .i64 a, .int .i64 x] w fun e w' => e = .returned (.bool true) ∧ w.grownBy w' none := by
  have HT := hide hT
  have CA := hide (awake_any w hT)
  clear hT
  obtain ⟨m, m0, m1, e1⟩ := and63 x
  have HCK : Hid (checkN ⟨10, 2, [⟨1, [pt0, pt0], [(1, 7), (9, 0)]⟩, ⟨0, [pt1], []⟩], [px0, px1], [po0]⟩ = 503) := hide (chkT _ _ _ (by rfl) (by decide))
  go_enter Tryd.func5, Tryd.ntmps5
  go_wp2_with (first | fail)
  refine CA.out.mono ?_; rintro e w1 ⟨rfl, hg⟩
  have G1 := hide hg
  clear hg CA
  go_wp2_with (first | fail)
  refine (plain_any w1).mono ?_; rintro e w2 ⟨n, hn, rfl, hm, hg⟩
  have M2 := hide hm
  have G2 := hide (grownBy_trans G1.out hg)
  have hn2 := hm.lt
  have HN := hide (show w.heap.size ≤ n by have := G1.out.size; omega)
  clear hm hg
  have A2 := hide (World.grownBy_alloc w2 (.cells #[.int .i64 10, .int .i64 2, .slice (some ⟨n + 3, 0, none⟩) 2 2, .slice (some ⟨n + 4, 0, none⟩) 2 2, .slice (some ⟨n + 5, 0, none⟩) 1 1] 26) none)
  have B2 := hide (heap_alloc_new w2 (.cells #[.int .i64 10, .int .i64 2, .slice (some ⟨n + 3, 0, none⟩) 2 2, .slice (some ⟨n + 4, 0, none⟩) 2 2, .slice (some ⟨n + 5, 0, none⟩) 1 1] 26))
  go_wp2_with (first | fail)
  refine (check_any _ ⟨10, 2, plainP, [px0, px1], [po0]⟩ _ (HT.out.grown (grownBy_trans G2.out A2.out)) ((M2.out.grown A2.out).conf 10 2)).mono ?_; rintro e w3 ⟨rfl, hg⟩
  rw [plain_ok]
  have G3 := hide (grownBy_trans G2.out (grownBy_trans A2.out hg))
  have M3 := hide (M2.out.grown (grownBy_trans A2.out hg))
  have B3 := hide (box_grown B2.out hg (by simp))
  clear hg A2 B2 M2
  generalize w2.heap.size = B at *
  have hB := box_lt B3.out
  have hBn : B ≠ w3.heap.size := by omega
  have hwb : w.heap.size ≤ B := by have := HN.out; omega
  have kb := blk_free B3.out
  have f0 : w3.cell? ⟨B, 0, none⟩ = some (.int .i64 10) := blk_cell B3.out 0
  have f1 : w3.cell? ⟨B, 1, none⟩ = some (.int .i64 2) := blk_cell B3.out 1
  have f2 : w3.cell? ⟨B, 2, none⟩ = some (.slice (some ⟨n + 3, 0, none⟩) 2 2) := blk_cell B3.out 2
  have f3 : w3.cell? ⟨B, 3, none⟩ = some (.slice (some ⟨n + 4, 0, none⟩) 2 2) := blk_cell B3.out 3
  have f4 : w3.cell? ⟨B, 4, none⟩ = some (.slice (some ⟨n + 5, 0, none⟩) 1 1) := blk_cell B3.out 4
  have j0 : w3.cell? ⟨n + 3, 1, none⟩ = some (.slice (some ⟨n, 0, none⟩) 1 1) := blk_cell M3.out.bp 1
  have k0 : w3.frozen? ⟨n + 3, 1, none⟩ = false := blk_free M3.out.bp 1
  have t0 : w3.cell? ⟨n, 0, none⟩ = some (.int .i64 0) := blk_cell M3.out.bt0 0
  have t1 : w3.cell? ⟨n, 1, none⟩ = some (.int .i64 10) := blk_cell M3.out.bt0 1
  have t2 : w3.cell? ⟨n, 2, none⟩ = some (.int .i64 10) := blk_cell M3.out.bt0 2
  have t3 : w3.cell? ⟨n, 3, none⟩ = some (.int .i64 2) := blk_cell M3.out.bt0 3
  have t4 : w3.cell? ⟨n, 4, none⟩ = some (.int .i64 4) := blk_cell M3.out.bt0 4
  have t5 : w3.cell? ⟨n, 5, none⟩ = some (.int .i64 1) := blk_cell M3.out.bt0 5
  have hne1 : n + 3 ≠ B := by omega
  have hne2 : B ≠ n + 3 := by omega
  have hlt0 : n < w3.heap.size := by omega
  have hlt3 : n + 3 < w3.heap.size := by omega
  have O3 : Hid (w3.ownsRow n 52 6 (.slice (some ⟨n, 0, none⟩) 1 1) 1 (shT.cells [pt0])) := ⟨rfl, .inr ⟨n, 1, _, rfl, Nat.le_refl _, M3.out.bt0, Nat.le_refl _, by decide, rfl, rfl⟩⟩
  have LAST := hide (fun (g cap : Nat) (w4 : World) (o : Obj) (hown : w4.ownsRow n 52 6 (.slice (some ⟨g, 0, none⟩) 2 cap) 2 (shT.cells ([pt0] ++ [pt0]))) (hgrow : ((w3.alloc o).drew).grownBy w4 (some n)) (hg : some n = some g ∨ g = ((w3.alloc o).drew).heap.size) => show w.grownBy (w4.setCell ⟨n + 3, 1, none⟩ (.slice (some ⟨g, 0, none⟩) 2 cap)) none ∧ (w4.setCell ⟨n + 3, 1, none⟩ (.slice (some ⟨g, 0, none⟩) 2 cap)).heap[B]? = some (.cells #[.int .i64 10, .int .i64 2, .slice (some ⟨n + 3, 0, none⟩) 2 2, .slice (some ⟨n + 4, 0, none⟩) 2 2, .slice (some ⟨n + 5, 0, none⟩) 1 1] 26 (0, 0)) ∧ ConfAt 0 (w4.setCell ⟨n + 3, 1, none⟩ (.slice (some ⟨g, 0, none⟩) 2 cap)) (.agg #[.int .i64 10, .int .i64 2, .slice (some ⟨n + 3, 0, none⟩) 2 2, .slice (some ⟨n + 4, 0, none⟩) 2 2, .slice (some ⟨n + 5, 0, none⟩) 1 1]) ⟨10, 2, [⟨1, [pt0, pt0], [(1, 7), (9, 0)]⟩, ⟨0, [pt1], []⟩], [px0, px1], [po0]⟩ by
    have g0 : w3.grownBy ((w3.alloc o).drew) none := grownBy_trans (World.grownBy_alloc w3 o none) (drew_grown _)
    have hsz : ((w3.alloc o).drew).heap.size = w3.heap.size + 1 := by show (w3.alloc o).heap.size = _; simp
    have up := fun {x : Obj} {c : Nat} (h : w3.heap[c]? = some x) (h1 : n ≠ c) => box_grown (box_grown h g0 (by simp)) hgrow (by simp; omega)
    have up2 := fun {x : Obj} {c : Nat} (h : w3.heap[c]? = some x) (h1 : n ≠ c) (h2 : n + 3 ≠ c) => blk_other (j := 1) (u := .slice (some ⟨g, 0, none⟩) 2 cap) (up h h1) h2
    have hgn : n + 3 ≠ g := by
      rcases hg with e | e
      · simp only [Option.some.injEq] at e; omega
      · omega
    refine ⟨grown_set_new (by have := HN.out; omega) ⟨hgrow.os.trans (g0.os.trans G3.out.os), hgrow.tape.trans (g0.tape.trans G3.out.tape), hgrow.output.trans (g0.output.trans G3.out.output), by have := G3.out.size; have := hgrow.size; omega, fun k hk _ => ?_⟩, up2 B3.out (by omega) (by omega), ?_⟩
    · have h1 := G3.out.size
      have h2 := HN.out
      exact (hgrow.block k (by omega) (by simp; omega)).trans ((g0.block k (by omega) (by simp)).trans (G3.out.block k hk (by simp)))
    · have bp := blk_set (j := 1) (u := .slice (some ⟨g, 0, none⟩) 2 cap) (up M3.out.bp (by omega)) (cs' := _) rfl
      have rt : RowAt shT n w4 (.slice (some ⟨g, 0, none⟩) 2 cap) [pt0, pt0] := rowAt_own (S := shT) (xs := [pt0, pt0]) hown
      have rt2 : RowAt shT 0 (w4.setCell ⟨n + 3, 1, none⟩ (.slice (some ⟨g, 0, none⟩) 2 cap)) (.slice (some ⟨g, 0, none⟩) 2 cap) [pt0, pt0] := by
        obtain ⟨hl, a1, c1, e1, h1⟩ := rt
        refine ⟨hl, a1, c1, e1, fun h0 => ?_⟩
        obtain ⟨g1, o1, e2, hlo, hc⟩ := h1 h0
        refine ⟨g1, o1, e2, ⟨Nat.zero_le _, hlo.2⟩, fun i x hx j u hu => ?_⟩
        simp only [Value.slice.injEq] at e1
        have e3 : some (⟨g, 0, none⟩ : Addr) = some ⟨g1, o1, none⟩ := e1.1.trans e2
        simp only [Option.some.injEq, Addr.mk.injEq] at e3
        rw [World.cell?_setCell_far _ _ _ _ (by show n + 3 ≠ g1; omega)]
        exact hc i x hx j u hu
      exact conf_two (q0 := ⟨1, some ⟨g, 0, none⟩, 2, cap, some ⟨n + 1, 0, none⟩, 2, 2⟩) (q1 := ⟨0, some ⟨n + 2, 0, none⟩, 1, 1, none, 0, 0⟩) bp ⟨rfl, rt2, row_blk (S := shI) [(1, 7), (9, 0)] rfl (by simp) (up2 M3.out.bi (by omega) (by omega)) 0 (by omega)⟩ ⟨rfl, row_t (up2 M3.out.bt1 (by omega) (by omega)), rowAt_nil _ _ _ _⟩ (row_blk (S := shW) [px0, px1] rfl (by simp) (up2 M3.out.bw (by omega) (by omega)) 0 (by omega)) (row_blk (S := shO) [po0] rfl (by simp) (up2 M3.out.bo (by omega) (by omega)) 0 (by omega)))
  go_wp2
  refine wp_region_noPanic ?_
  refine wp_region_held_drew (S := fun W => W.cell? ⟨B, 2, none⟩ = some (.slice (some ⟨n + 3, 0, none⟩) 2 2)) (by kernel_rfl) (by simpa using f2) (fun hHeld => ?_)
  refine take_put (i := 0) (v := .pointer (some ⟨B, 2, none⟩)) 97 rfl rfl (by kernel_rfl) (by kernel_rfl) (by kernel_rfl) (fun _ _ _ h => h) (Or.inl ⟨by rfl, by intro w hSw; go_simp⟩) (by assumption) ?_
  simp only [Act.put, List.setIfInBounds_toArray, List.set_cons_zero, List.set_cons_succ]
  refine take_put (i := 1) (v := .slice (some ⟨n + 3, 0, none⟩) 2 2) 98 rfl rfl (by kernel_rfl) (by kernel_rfl) (by kernel_rfl) (fun _ _ _ h => h) (Or.inl ⟨by rfl, by intro w hSw; go_simp⟩) (by assumption) ?_
  simp only [Act.put, List.setIfInBounds_toArray, List.set_cons_zero, List.set_cons_succ]
  refine take_put (i := 2) (v := .pointer (some ⟨B, 2, none⟩)) 99 rfl rfl (by kernel_rfl) (by kernel_rfl) (by kernel_rfl) (fun _ _ _ h => h) (Or.inl ⟨by rfl, by intro w hSw; go_simp⟩) (by assumption) ?_
  simp only [Act.put, List.setIfInBounds_toArray, List.set_cons_zero, List.set_cons_succ]
  refine take_put (i := 3) (v := .slice (some ⟨n + 3, 0, none⟩) 2 2) 100 rfl rfl (by kernel_rfl) (by kernel_rfl) (by kernel_rfl) (fun _ _ _ h => h) (Or.inl ⟨by rfl, by intro w hSw; go_simp⟩) (by assumption) ?_
  simp only [Act.put, List.setIfInBounds_toArray, List.set_cons_zero, List.set_cons_succ]
  refine take_put (i := 4) (v := .pointer (some ⟨n + 3, 0, none⟩)) 101 rfl rfl (by kernel_rfl) (by kernel_rfl) (by kernel_rfl) (fun _ _ _ h => h) (Or.inl ⟨by rfl, by intro w hSw; go_simp⟩) (by assumption) ?_
  simp only [Act.put, List.setIfInBounds_toArray, List.set_cons_zero, List.set_cons_succ]
  refine take_put (i := 5) (v := .pointer (some ⟨n + 3, 1, none⟩)) 102 rfl rfl (by kernel_rfl) (by kernel_rfl) (by kernel_rfl) (fun _ _ _ h => h) (Or.inl ⟨by rfl, by intro w hSw; go_simp⟩) (by assumption) ?_
  simp only [Act.put, List.setIfInBounds_toArray, List.set_cons_zero, List.set_cons_succ]
  refine take_put (i := 7) (v := .pointer (some ⟨B, 2, none⟩)) 104 rfl rfl (by kernel_rfl) (by kernel_rfl) (by kernel_rfl) (fun _ _ _ h => h) (Or.inl ⟨by rfl, by intro w hSw; go_simp⟩) (by assumption) ?_
  simp only [Act.put, List.setIfInBounds_toArray, List.set_cons_zero, List.set_cons_succ]
  refine take_put (i := 8) (v := .slice (some ⟨n + 3, 0, none⟩) 2 2) 105 rfl rfl (by kernel_rfl) (by kernel_rfl) (by kernel_rfl) (fun _ _ _ h => h) (Or.inl ⟨by rfl, by intro w hSw; go_simp⟩) (by assumption) ?_
  simp only [Act.put, List.setIfInBounds_toArray, List.set_cons_zero, List.set_cons_succ]
  refine take_put (i := 9) (v := .pointer (some ⟨n + 3, 0, none⟩)) 106 rfl rfl (by kernel_rfl) (by kernel_rfl) (by kernel_rfl) (fun _ _ _ h => h) (Or.inl ⟨by rfl, by intro w hSw; go_simp⟩) (by assumption) ?_
  simp only [Act.put, List.setIfInBounds_toArray, List.set_cons_zero, List.set_cons_succ]
  refine take_put (i := 10) (v := .pointer (some ⟨n + 3, 1, none⟩)) 107 rfl rfl (by kernel_rfl) (by kernel_rfl) (by kernel_rfl) (fun _ _ _ h => h) (Or.inl ⟨by rfl, by intro w hSw; go_simp⟩) (by assumption) ?_
  simp only [Act.put, List.setIfInBounds_toArray, List.set_cons_zero, List.set_cons_succ]
  refine wpAnyH_ready (rs := [6, 11]) (by kernel_rfl) (by simp) ?_
  refine AllReadyH.cons rfl (fun K hK => ?_) (AllReadyH.cons rfl (fun K hK => ?_) AllReadyH.nil)
  · go_simp
    refine hK.out _ _ hHeld (fun hHeld => ?_)
    clear hK K
    refine wpAnyH_ready (rs := [11]) (by kernel_rfl) (by simp) ?_
    refine AllReadyH.cons rfl (fun K hK => ?_) AllReadyH.nil
    go_simp
    refine hK.out _ _ hHeld (fun hHeld => ?_)
    clear hK K
    refine take_put (i := 12) (v := .pointer (some ⟨n, 0, none⟩)) 109 rfl rfl (by kernel_rfl) (by kernel_rfl) (by kernel_rfl) (fun _ _ _ h => h) (Or.inl ⟨by rfl, by intro w hSw; go_simp⟩) (by assumption) ?_
    simp only [Act.put, List.setIfInBounds_toArray, List.set_cons_zero, List.set_cons_succ]
    refine wpAnyH_ready (rs := [13]) (by kernel_rfl) (by simp) ?_
    refine AllReadyH.cons rfl (fun K hK => ?_) AllReadyH.nil
    go_simp
    refine hK.out _ _ hHeld (fun hHeld => ?_)
    clear hK K
    refine wpAnyH_ready (rs := [14]) (by kernel_rfl) (by simp) ?_
    refine AllReadyH.cons rfl (fun K hK => ?_) AllReadyH.nil
    go_simp
    refine hK.out _ _ (by go_keep) (fun hHeld => ?_)
    clear hK K
    refine wpAnyH_ready (rs := [15]) (by kernel_rfl) (by simp) ?_
    refine AllReadyH.cons rfl (fun K hK => ?_) AllReadyH.nil
    refine step_row (S := shT) _ (by rfl) _ _ 47 52 _ 48 Tryd.underlying47 info52 rfl (by rfl) n (.slice (some ⟨n, 0, none⟩) 1 1) 1 [pt0] (by rfl) ((O3.out.alloc _).drew) ⟨w3.heap.size, 0, none⟩ 1 1 [pt0] (by rfl) rfl (one_cells shT pt0 w3 52) (by omega) (by omega) (by omega) (by simp; omega) ?_
    intro g4 cap4 w4 hown4 hgrow4 hg4
    have LL := hide (LAST.out g4 cap4 w4 _ hown4 hgrow4 hg4)
    have S4 : w4.cell? ⟨B, 2, none⟩ = some (.slice (some ⟨n + 3, 0, none⟩) 2 2) := blk_cell (box_grown (box_grown B3.out (grownBy_trans (World.grownBy_alloc w3 _ none) (drew_grown _)) (by simp)) hgrow4 (by simp [Value.ownBlock]; omega)) 2
    have bp4 := box_grown (box_grown M3.out.bp (grownBy_trans (World.grownBy_alloc w3 _ none) (drew_grown _)) (by simp)) hgrow4 (by simp [Value.ownBlock])
    have p4 : w4.cell? ⟨n + 3, 1, none⟩ = some (.slice (some ⟨n, 0, none⟩) 1 1) := blk_cell bp4 1
    have q4 := blk_free bp4 1
    clear bp4 hown4 hgrow4 hg4
    refine hK.out _ _ S4 (fun hHeld => ?_)
    clear hK K
    refine take_put (i := 16) (v := .pointer (some ⟨n + 3, 0, none⟩)) 113 rfl rfl (by kernel_rfl) (by kernel_rfl) (by kernel_rfl) (fun _ _ _ h => h) (Or.inl ⟨by rfl, by intro w hSw; go_simp⟩) (by assumption) ?_
    simp only [Act.put, List.setIfInBounds_toArray, List.set_cons_zero, List.set_cons_succ]
    refine take_put (i := 17) (v := .pointer (some ⟨n + 3, 1, none⟩)) 114 rfl rfl (by kernel_rfl) (by kernel_rfl) (by kernel_rfl) (fun _ _ _ h => h) (Or.inl ⟨by rfl, by intro w hSw; go_simp⟩) (by assumption) ?_
    simp only [Act.put, List.setIfInBounds_toArray, List.set_cons_zero, List.set_cons_succ]
    refine wpAnyH_ready (rs := [18]) (by kernel_rfl) (by simp) ?_
    refine AllReadyH.cons rfl (fun K hK => ?_) AllReadyH.nil
    go_simp
    refine hK.out _ _ ((World.cell?_setCell_far _ _ _ _ (by show n + 3 ≠ B; omega)).trans S4) (fun hHeld => ?_)
    clear hK K
    refine wpAnyH_done (by kernel_rfl) ?_ _
    refine NoPanic.normal ?_
    obtain ⟨GL, BL, CL⟩ := LL.out
    have G4 := hide GL
    have B4 := hide BL
    have HCF := hide CL
    clear GL BL CL LL
    generalize hw5 : w4.setCell ⟨n + 3, 1, none⟩ (.slice (some ⟨g4, 0, none⟩) 2 cap4) = w9 at *
    clear hw5 p4 q4 S4
    have h0 : w9.cell? ⟨B, 0, none⟩ = some (.int .i64 10) := blk_cell B4.out 0
    have h1 : w9.cell? ⟨B, 1, none⟩ = some (.int .i64 2) := blk_cell B4.out 1
    have h2 : w9.cell? ⟨B, 2, none⟩ = some (.slice (some ⟨n + 3, 0, none⟩) 2 2) := blk_cell B4.out 2
    have h3 : w9.cell? ⟨B, 3, none⟩ = some (.slice (some ⟨n + 4, 0, none⟩) 2 2) := blk_cell B4.out 3
    have h4 : w9.cell? ⟨B, 4, none⟩ = some (.slice (some ⟨n + 5, 0, none⟩) 1 1) := blk_cell B4.out 4
    go_wp2_with (first | fail)
    refine (check_any _ ⟨10, 2, [⟨1, [pt0, pt0], [(1, 7), (9, 0)]⟩, ⟨0, [pt1], []⟩], [px0, px1], [po0]⟩ _ (HT.out.grown G4.out) HCF.out).mono ?_; rintro e w5 ⟨rfl, hg⟩
    rw [HCK.out]
    have G5 := hide (grownBy_trans G4.out hg)
    have C5 := hide (ConfAt.grown HCF.out hg)
    have B5 := hide (box_grown B4.out hg (by simp))
    clear hg
    have g0 : w5.cell? ⟨B, 0, none⟩ = some (.int .i64 10) := blk_cell B5.out 0
    have g1 : w5.cell? ⟨B, 1, none⟩ = some (.int .i64 2) := blk_cell B5.out 1
    have g2 : w5.cell? ⟨B, 2, none⟩ = some (.slice (some ⟨n + 3, 0, none⟩) 2 2) := blk_cell B5.out 2
    have g3 : w5.cell? ⟨B, 3, none⟩ = some (.slice (some ⟨n + 4, 0, none⟩) 2 2) := blk_cell B5.out 3
    have g4 : w5.cell? ⟨B, 4, none⟩ = some (.slice (some ⟨n + 5, 0, none⟩) 1 1) := blk_cell B5.out 4
    have HPS := hide (putS_bad HCK.out (by decide))
    go_wp2_with (first | fail)
    refine (put_any _ ⟨10, 2, [⟨1, [pt0, pt0], [(1, 7), (9, 0)]⟩, ⟨0, [pt1], []⟩], [px0, px1], [po0]⟩ _ (HT.out.grown G5.out) C5.out).mono ?_; rintro e w6 ⟨rfl, hg⟩
    rw [HPS.out, HCK.out]
    have G6 := hide (grownBy_trans G5.out hg)
    clear hg
    go_wp2_with (first | (go_at_call 15; refine (num_any _ _).mono ?_; rintro e w' ⟨rfl, rfl⟩))
    go_ret
    exact ⟨rfl, G6.out⟩

  · go_simp
    refine hK.out _ _ hHeld (fun hHeld => ?_)
    clear hK K
    refine take_put (i := 12) (v := .pointer (some ⟨n, 0, none⟩)) 109 rfl rfl (by kernel_rfl) (by kernel_rfl) (by kernel_rfl) (fun _ _ _ h => h) (Or.inl ⟨by rfl, by intro w hSw; go_simp⟩) (by assumption) ?_
    simp only [Act.put, List.setIfInBounds_toArray, List.set_cons_zero, List.set_cons_succ]
    refine wpAnyH_ready (rs := [6, 13]) (by kernel_rfl) (by simp) ?_
    refine AllReadyH.cons rfl (fun K hK => ?_) (AllReadyH.cons rfl (fun K hK => ?_) AllReadyH.nil)
    · go_simp
      refine hK.out _ _ hHeld (fun hHeld => ?_)
      clear hK K
      refine wpAnyH_ready (rs := [13]) (by kernel_rfl) (by simp) ?_
      refine AllReadyH.cons rfl (fun K hK => ?_) AllReadyH.nil
      go_simp
      refine hK.out _ _ hHeld (fun hHeld => ?_)
      clear hK K
      refine wpAnyH_ready (rs := [14]) (by kernel_rfl) (by simp) ?_
      refine AllReadyH.cons rfl (fun K hK => ?_) AllReadyH.nil
      go_simp
      refine hK.out _ _ (by go_keep) (fun hHeld => ?_)
      clear hK K
      refine wpAnyH_ready (rs := [15]) (by kernel_rfl) (by simp) ?_
      refine AllReadyH.cons rfl (fun K hK => ?_) AllReadyH.nil
      refine step_row (S := shT) _ (by rfl) _ _ 47 52 _ 48 Tryd.underlying47 info52 rfl (by rfl) n (.slice (some ⟨n, 0, none⟩) 1 1) 1 [pt0] (by rfl) ((O3.out.alloc _).drew) ⟨w3.heap.size, 0, none⟩ 1 1 [pt0] (by rfl) rfl (one_cells shT pt0 w3 52) (by omega) (by omega) (by omega) (by simp; omega) ?_
      intro g4 cap4 w4 hown4 hgrow4 hg4
      have LL := hide (LAST.out g4 cap4 w4 _ hown4 hgrow4 hg4)
      have S4 : w4.cell? ⟨B, 2, none⟩ = some (.slice (some ⟨n + 3, 0, none⟩) 2 2) := blk_cell (box_grown (box_grown B3.out (grownBy_trans (World.grownBy_alloc w3 _ none) (drew_grown _)) (by simp)) hgrow4 (by simp [Value.ownBlock]; omega)) 2
      have bp4 := box_grown (box_grown M3.out.bp (grownBy_trans (World.grownBy_alloc w3 _ none) (drew_grown _)) (by simp)) hgrow4 (by simp [Value.ownBlock])
      have p4 : w4.cell? ⟨n + 3, 1, none⟩ = some (.slice (some ⟨n, 0, none⟩) 1 1) := blk_cell bp4 1
      have q4 := blk_free bp4 1
      clear bp4 hown4 hgrow4 hg4
      refine hK.out _ _ S4 (fun hHeld => ?_)
      clear hK K
      refine take_put (i := 16) (v := .pointer (some ⟨n + 3, 0, none⟩)) 113 rfl rfl (by kernel_rfl) (by kernel_rfl) (by kernel_rfl) (fun _ _ _ h => h) (Or.inl ⟨by rfl, by intro w hSw; go_simp⟩) (by assumption) ?_
      simp only [Act.put, List.setIfInBounds_toArray, List.set_cons_zero, List.set_cons_succ]
      refine take_put (i := 17) (v := .pointer (some ⟨n + 3, 1, none⟩)) 114 rfl rfl (by kernel_rfl) (by kernel_rfl) (by kernel_rfl) (fun _ _ _ h => h) (Or.inl ⟨by rfl, by intro w hSw; go_simp⟩) (by assumption) ?_
      simp only [Act.put, List.setIfInBounds_toArray, List.set_cons_zero, List.set_cons_succ]
      refine wpAnyH_ready (rs := [18]) (by kernel_rfl) (by simp) ?_
      refine AllReadyH.cons rfl (fun K hK => ?_) AllReadyH.nil
      go_simp
      refine hK.out _ _ ((World.cell?_setCell_far _ _ _ _ (by show n + 3 ≠ B; omega)).trans S4) (fun hHeld => ?_)
      clear hK K
      refine wpAnyH_done (by kernel_rfl) ?_ _
      refine NoPanic.normal ?_
      obtain ⟨GL, BL, CL⟩ := LL.out
      have G4 := hide GL
      have B4 := hide BL
      have HCF := hide CL
      clear GL BL CL LL
      generalize hw5 : w4.setCell ⟨n + 3, 1, none⟩ (.slice (some ⟨g4, 0, none⟩) 2 cap4) = w9 at *
      clear hw5 p4 q4 S4
      have h0 : w9.cell? ⟨B, 0, none⟩ = some (.int .i64 10) := blk_cell B4.out 0
      have h1 : w9.cell? ⟨B, 1, none⟩ = some (.int .i64 2) := blk_cell B4.out 1
      have h2 : w9.cell? ⟨B, 2, none⟩ = some (.slice (some ⟨n + 3, 0, none⟩) 2 2) := blk_cell B4.out 2
      have h3 : w9.cell? ⟨B, 3, none⟩ = some (.slice (some ⟨n + 4, 0, none⟩) 2 2) := blk_cell B4.out 3
      have h4 : w9.cell? ⟨B, 4, none⟩ = some (.slice (some ⟨n + 5, 0, none⟩) 1 1) := blk_cell B4.out 4
      go_wp2_with (first | fail)
      refine (check_any _ ⟨10, 2, [⟨1, [pt0, pt0], [(1, 7), (9, 0)]⟩, ⟨0, [pt1], []⟩], [px0, px1], [po0]⟩ _ (HT.out.grown G4.out) HCF.out).mono ?_; rintro e w5 ⟨rfl, hg⟩
      rw [HCK.out]
      have G5 := hide (grownBy_trans G4.out hg)
      have C5 := hide (ConfAt.grown HCF.out hg)
      have B5 := hide (box_grown B4.out hg (by simp))
      clear hg
      have g0 : w5.cell? ⟨B, 0, none⟩ = some (.int .i64 10) := blk_cell B5.out 0
      have g1 : w5.cell? ⟨B, 1, none⟩ = some (.int .i64 2) := blk_cell B5.out 1
      have g2 : w5.cell? ⟨B, 2, none⟩ = some (.slice (some ⟨n + 3, 0, none⟩) 2 2) := blk_cell B5.out 2
      have g3 : w5.cell? ⟨B, 3, none⟩ = some (.slice (some ⟨n + 4, 0, none⟩) 2 2) := blk_cell B5.out 3
      have g4 : w5.cell? ⟨B, 4, none⟩ = some (.slice (some ⟨n + 5, 0, none⟩) 1 1) := blk_cell B5.out 4
      have HPS := hide (putS_bad HCK.out (by decide))
      go_wp2_with (first | fail)
      refine (put_any _ ⟨10, 2, [⟨1, [pt0, pt0], [(1, 7), (9, 0)]⟩, ⟨0, [pt1], []⟩], [px0, px1], [po0]⟩ _ (HT.out.grown G5.out) C5.out).mono ?_; rintro e w6 ⟨rfl, hg⟩
      rw [HPS.out, HCK.out]
      have G6 := hide (grownBy_trans G5.out hg)
      clear hg
      go_wp2_with (first | (go_at_call 15; refine (num_any _ _).mono ?_; rintro e w' ⟨rfl, rfl⟩))
      go_ret
      exact ⟨rfl, G6.out⟩

    · go_simp
      refine hK.out _ _ hHeld (fun hHeld => ?_)
      clear hK K
      refine wpAnyH_ready (rs := [6, 14]) (by kernel_rfl) (by simp) ?_
      refine AllReadyH.cons rfl (fun K hK => ?_) (AllReadyH.cons rfl (fun K hK => ?_) AllReadyH.nil)
      · go_simp
        refine hK.out _ _ hHeld (fun hHeld => ?_)
        clear hK K
        refine wpAnyH_ready (rs := [14]) (by kernel_rfl) (by simp) ?_
        refine AllReadyH.cons rfl (fun K hK => ?_) AllReadyH.nil
        go_simp
        refine hK.out _ _ (by go_keep) (fun hHeld => ?_)
        clear hK K
        refine wpAnyH_ready (rs := [15]) (by kernel_rfl) (by simp) ?_
        refine AllReadyH.cons rfl (fun K hK => ?_) AllReadyH.nil
        refine step_row (S := shT) _ (by rfl) _ _ 47 52 _ 48 Tryd.underlying47 info52 rfl (by rfl) n (.slice (some ⟨n, 0, none⟩) 1 1) 1 [pt0] (by rfl) ((O3.out.alloc _).drew) ⟨w3.heap.size, 0, none⟩ 1 1 [pt0] (by rfl) rfl (one_cells shT pt0 w3 52) (by omega) (by omega) (by omega) (by simp; omega) ?_
        intro g4 cap4 w4 hown4 hgrow4 hg4
        have LL := hide (LAST.out g4 cap4 w4 _ hown4 hgrow4 hg4)
        have S4 : w4.cell? ⟨B, 2, none⟩ = some (.slice (some ⟨n + 3, 0, none⟩) 2 2) := blk_cell (box_grown (box_grown B3.out (grownBy_trans (World.grownBy_alloc w3 _ none) (drew_grown _)) (by simp)) hgrow4 (by simp [Value.ownBlock]; omega)) 2
        have bp4 := box_grown (box_grown M3.out.bp (grownBy_trans (World.grownBy_alloc w3 _ none) (drew_grown _)) (by simp)) hgrow4 (by simp [Value.ownBlock])
        have p4 : w4.cell? ⟨n + 3, 1, none⟩ = some (.slice (some ⟨n, 0, none⟩) 1 1) := blk_cell bp4 1
        have q4 := blk_free bp4 1
        clear bp4 hown4 hgrow4 hg4
        refine hK.out _ _ S4 (fun hHeld => ?_)
        clear hK K
        refine take_put (i := 16) (v := .pointer (some ⟨n + 3, 0, none⟩)) 113 rfl rfl (by kernel_rfl) (by kernel_rfl) (by kernel_rfl) (fun _ _ _ h => h) (Or.inl ⟨by rfl, by intro w hSw; go_simp⟩) (by assumption) ?_
        simp only [Act.put, List.setIfInBounds_toArray, List.set_cons_zero, List.set_cons_succ]
        refine take_put (i := 17) (v := .pointer (some ⟨n + 3, 1, none⟩)) 114 rfl rfl (by kernel_rfl) (by kernel_rfl) (by kernel_rfl) (fun _ _ _ h => h) (Or.inl ⟨by rfl, by intro w hSw; go_simp⟩) (by assumption) ?_
        simp only [Act.put, List.setIfInBounds_toArray, List.set_cons_zero, List.set_cons_succ]
        refine wpAnyH_ready (rs := [18]) (by kernel_rfl) (by simp) ?_
        refine AllReadyH.cons rfl (fun K hK => ?_) AllReadyH.nil
        go_simp
        refine hK.out _ _ ((World.cell?_setCell_far _ _ _ _ (by show n + 3 ≠ B; omega)).trans S4) (fun hHeld => ?_)
        clear hK K
        refine wpAnyH_done (by kernel_rfl) ?_ _
        refine NoPanic.normal ?_
        obtain ⟨GL, BL, CL⟩ := LL.out
        have G4 := hide GL
        have B4 := hide BL
        have HCF := hide CL
        clear GL BL CL LL
        generalize hw5 : w4.setCell ⟨n + 3, 1, none⟩ (.slice (some ⟨g4, 0, none⟩) 2 cap4) = w9 at *
        clear hw5 p4 q4 S4
        have h0 : w9.cell? ⟨B, 0, none⟩ = some (.int .i64 10) := blk_cell B4.out 0
        have h1 : w9.cell? ⟨B, 1, none⟩ = some (.int .i64 2) := blk_cell B4.out 1
        have h2 : w9.cell? ⟨B, 2, none⟩ = some (.slice (some ⟨n + 3, 0, none⟩) 2 2) := blk_cell B4.out 2
        have h3 : w9.cell? ⟨B, 3, none⟩ = some (.slice (some ⟨n + 4, 0, none⟩) 2 2) := blk_cell B4.out 3
        have h4 : w9.cell? ⟨B, 4, none⟩ = some (.slice (some ⟨n + 5, 0, none⟩) 1 1) := blk_cell B4.out 4
        go_wp2_with (first | fail)
        refine (check_any _ ⟨10, 2, [⟨1, [pt0, pt0], [(1, 7), (9, 0)]⟩, ⟨0, [pt1], []⟩], [px0, px1], [po0]⟩ _ (HT.out.grown G4.out) HCF.out).mono ?_; rintro e w5 ⟨rfl, hg⟩
        rw [HCK.out]
        have G5 := hide (grownBy_trans G4.out hg)
        have C5 := hide (ConfAt.grown HCF.out hg)
        have B5 := hide (box_grown B4.out hg (by simp))
        clear hg
        have g0 : w5.cell? ⟨B, 0, none⟩ = some (.int .i64 10) := blk_cell B5.out 0
        have g1 : w5.cell? ⟨B, 1, none⟩ = some (.int .i64 2) := blk_cell B5.out 1
        have g2 : w5.cell? ⟨B, 2, none⟩ = some (.slice (some ⟨n + 3, 0, none⟩) 2 2) := blk_cell B5.out 2
        have g3 : w5.cell? ⟨B, 3, none⟩ = some (.slice (some ⟨n + 4, 0, none⟩) 2 2) := blk_cell B5.out 3
        have g4 : w5.cell? ⟨B, 4, none⟩ = some (.slice (some ⟨n + 5, 0, none⟩) 1 1) := blk_cell B5.out 4
        have HPS := hide (putS_bad HCK.out (by decide))
        go_wp2_with (first | fail)
        refine (put_any _ ⟨10, 2, [⟨1, [pt0, pt0], [(1, 7), (9, 0)]⟩, ⟨0, [pt1], []⟩], [px0, px1], [po0]⟩ _ (HT.out.grown G5.out) C5.out).mono ?_; rintro e w6 ⟨rfl, hg⟩
        rw [HPS.out, HCK.out]
        have G6 := hide (grownBy_trans G5.out hg)
        clear hg
        go_wp2_with (first | (go_at_call 15; refine (num_any _ _).mono ?_; rintro e w' ⟨rfl, rfl⟩))
        go_ret
        exact ⟨rfl, G6.out⟩

      · go_simp
        refine hK.out _ _ (by go_keep) (fun hHeld => ?_)
        clear hK K
        refine wpAnyH_ready (rs := [6]) (by kernel_rfl) (by simp) ?_
        refine AllReadyH.cons rfl (fun K hK => ?_) AllReadyH.nil
        go_simp
        refine hK.out _ _ hHeld (fun hHeld => ?_)
        clear hK K
        refine wpAnyH_ready (rs := [15]) (by kernel_rfl) (by simp) ?_
        refine AllReadyH.cons rfl (fun K hK => ?_) AllReadyH.nil
        refine step_row (S := shT) _ (by rfl) _ _ 47 52 _ 48 Tryd.underlying47 info52 rfl (by rfl) n (.slice (some ⟨n, 0, none⟩) 1 1) 1 [pt0] (by rfl) ((O3.out.alloc _).drew) ⟨w3.heap.size, 0, none⟩ 1 1 [pt0] (by rfl) rfl (one_cells shT pt0 w3 52) (by omega) (by omega) (by omega) (by simp; omega) ?_
        intro g4 cap4 w4 hown4 hgrow4 hg4
        have LL := hide (LAST.out g4 cap4 w4 _ hown4 hgrow4 hg4)
        have S4 : w4.cell? ⟨B, 2, none⟩ = some (.slice (some ⟨n + 3, 0, none⟩) 2 2) := blk_cell (box_grown (box_grown B3.out (grownBy_trans (World.grownBy_alloc w3 _ none) (drew_grown _)) (by simp)) hgrow4 (by simp [Value.ownBlock]; omega)) 2
        have bp4 := box_grown (box_grown M3.out.bp (grownBy_trans (World.grownBy_alloc w3 _ none) (drew_grown _)) (by simp)) hgrow4 (by simp [Value.ownBlock])
        have p4 : w4.cell? ⟨n + 3, 1, none⟩ = some (.slice (some ⟨n, 0, none⟩) 1 1) := blk_cell bp4 1
        have q4 := blk_free bp4 1
        clear bp4 hown4 hgrow4 hg4
        refine hK.out _ _ S4 (fun hHeld => ?_)
        clear hK K
        refine take_put (i := 16) (v := .pointer (some ⟨n + 3, 0, none⟩)) 113 rfl rfl (by kernel_rfl) (by kernel_rfl) (by kernel_rfl) (fun _ _ _ h => h) (Or.inl ⟨by rfl, by intro w hSw; go_simp⟩) (by assumption) ?_
        simp only [Act.put, List.setIfInBounds_toArray, List.set_cons_zero, List.set_cons_succ]
        refine take_put (i := 17) (v := .pointer (some ⟨n + 3, 1, none⟩)) 114 rfl rfl (by kernel_rfl) (by kernel_rfl) (by kernel_rfl) (fun _ _ _ h => h) (Or.inl ⟨by rfl, by intro w hSw; go_simp⟩) (by assumption) ?_
        simp only [Act.put, List.setIfInBounds_toArray, List.set_cons_zero, List.set_cons_succ]
        refine wpAnyH_ready (rs := [18]) (by kernel_rfl) (by simp) ?_
        refine AllReadyH.cons rfl (fun K hK => ?_) AllReadyH.nil
        go_simp
        refine hK.out _ _ ((World.cell?_setCell_far _ _ _ _ (by show n + 3 ≠ B; omega)).trans S4) (fun hHeld => ?_)
        clear hK K
        refine wpAnyH_done (by kernel_rfl) ?_ _
        refine NoPanic.normal ?_
        obtain ⟨GL, BL, CL⟩ := LL.out
        have G4 := hide GL
        have B4 := hide BL
        have HCF := hide CL
        clear GL BL CL LL
        generalize hw5 : w4.setCell ⟨n + 3, 1, none⟩ (.slice (some ⟨g4, 0, none⟩) 2 cap4) = w9 at *
        clear hw5 p4 q4 S4
        have h0 : w9.cell? ⟨B, 0, none⟩ = some (.int .i64 10) := blk_cell B4.out 0
        have h1 : w9.cell? ⟨B, 1, none⟩ = some (.int .i64 2) := blk_cell B4.out 1
        have h2 : w9.cell? ⟨B, 2, none⟩ = some (.slice (some ⟨n + 3, 0, none⟩) 2 2) := blk_cell B4.out 2
        have h3 : w9.cell? ⟨B, 3, none⟩ = some (.slice (some ⟨n + 4, 0, none⟩) 2 2) := blk_cell B4.out 3
        have h4 : w9.cell? ⟨B, 4, none⟩ = some (.slice (some ⟨n + 5, 0, none⟩) 1 1) := blk_cell B4.out 4
        go_wp2_with (first | fail)
        refine (check_any _ ⟨10, 2, [⟨1, [pt0, pt0], [(1, 7), (9, 0)]⟩, ⟨0, [pt1], []⟩], [px0, px1], [po0]⟩ _ (HT.out.grown G4.out) HCF.out).mono ?_; rintro e w5 ⟨rfl, hg⟩
        rw [HCK.out]
        have G5 := hide (grownBy_trans G4.out hg)
        have C5 := hide (ConfAt.grown HCF.out hg)
        have B5 := hide (box_grown B4.out hg (by simp))
        clear hg
        have g0 : w5.cell? ⟨B, 0, none⟩ = some (.int .i64 10) := blk_cell B5.out 0
        have g1 : w5.cell? ⟨B, 1, none⟩ = some (.int .i64 2) := blk_cell B5.out 1
        have g2 : w5.cell? ⟨B, 2, none⟩ = some (.slice (some ⟨n + 3, 0, none⟩) 2 2) := blk_cell B5.out 2
        have g3 : w5.cell? ⟨B, 3, none⟩ = some (.slice (some ⟨n + 4, 0, none⟩) 2 2) := blk_cell B5.out 3
        have g4 : w5.cell? ⟨B, 4, none⟩ = some (.slice (some ⟨n + 5, 0, none⟩) 1 1) := blk_cell B5.out 4
        have HPS := hide (putS_bad HCK.out (by decide))
        go_wp2_with (first | fail)
        refine (put_any _ ⟨10, 2, [⟨1, [pt0, pt0], [(1, 7), (9, 0)]⟩, ⟨0, [pt1], []⟩], [px0, px1], [po0]⟩ _ (HT.out.grown G5.out) C5.out).mono ?_; rintro e w6 ⟨rfl, hg⟩
        rw [HPS.out, HCK.out]
        have G6 := hide (grownBy_trans G5.out hg)
        clear hg
        go_wp2_with (first | (go_at_call 15; refine (num_any _ _).mono ?_; rintro e w' ⟨rfl, rfl⟩))
        go_ret
        exact ⟨rfl, G6.out⟩

theorem configForms_any (a x : Int) (w : World) (hT : Tab w) :
    Calls Tryd.prog 5 #[.int .i64 a, .int .i64 x] w fun e w' => e = .returned (.bool true) ∧ w.grownBy w' none := by
  have h0 : 0 ≤ IntKind.u64.wrap a := by rw [IntKind.wrap_u64]; omega
  have h1 : (IntKind.u64.wrap a).tmod 13 = IntKind.u64.wrap a % 13 := Int.tmod_eq_emod_of_nonneg h0
  have h2 : 0 ≤ IntKind.u64.wrap a % 13 ∧ IntKind.u64.wrap a % 13 < 13 := by omega
  rw [← h1] at h2
  rcases (by omega : (IntKind.u64.wrap a).tmod 13 = 0 ∨ (IntKind.u64.wrap a).tmod 13 = 1 ∨ (IntKind.u64.wrap a).tmod 13 = 2 ∨ (IntKind.u64.wrap a).tmod 13 = 3 ∨ (IntKind.u64.wrap a).tmod 13 = 4 ∨ (IntKind.u64.wrap a).tmod 13 = 5 ∨ (IntKind.u64.wrap a).tmod 13 = 6 ∨ (IntKind.u64.wrap a).tmod 13 = 7 ∨ (IntKind.u64.wrap a).tmod 13 = 8 ∨ (IntKind.u64.wrap a).tmod 13 = 9 ∨ (IntKind.u64.wrap a).tmod 13 = 10 ∨ (IntKind.u64.wrap a).tmod 13 = 11 ∨ (IntKind.u64.wrap a).tmod 13 = 12) with h | h | h | h | h | h | h | h | h | h | h | h | h
  · exact forms_0 a x h w hT
  · exact forms_1 a x h w hT
  · exact forms_2 a x h w hT
  · exact forms_3 a x h w hT
  · exact forms_4 a x h w hT
  · exact forms_5 a x h w hT
  · exact forms_6 a x h w hT
  · exact forms_7 a x h w hT
  · exact forms_8 a x h w hT
  · exact forms_9 a x h w hT
  · exact forms_10 a x h w hT
  · exact forms_11 a x h w hT
  · exact forms_12 a x h w hT

#print axioms configForms_any
end Go.Proofs.YtgaegggiehhcpaaDoor

/- Contracts of package demand's mostJobs and askedAhead, proved over the translation. -/
import Derived.Test.YtehnklpjkcofcaaDoorDmath
import Derived.Test.YtehnklpjkcofcaaDoorStill
namespace Go.Proofs.YtehnklpjkcofcaaDoor
open Go.RowKit R6
attribute [local go_sem] alloc_drewN setCell_drewN

theorem wrap64_two (a b : Int) (hb : -9223372036854775808 ≤ b ∧ b ≤ 9223372036854775807) (h : -9223372036854775808 ≤ a + b ∧ a + b ≤ 9223372036854775807) : wrap64 (a + wrap64 b) = a + b := by
  rw [IntWalk.wrap64_in b hb, IntWalk.wrap64_in _ h]

set_option maxRecDepth 100000 in
theorem jobs_any (t : TaskV) (len : Int) (hp : 1 ≤ t.period) (hp2 : t.period ≤ 1024) (hl : 0 ≤ len) (hl2 : len ≤ 4096) (w : World) :
    Calls Tryd.prog 82 #[.agg #[.int .i64 t.kind, .int .i64 t.period, .int .i64 t.deadline, .int .i64 t.clow, .int .i64 t.chigh, .int .i64 t.prio], .int .i64 len] w fun e w' => e = .returned (.int .i64 (jobsN t.period len)) ∧ w.grownBy w' none := by
  obtain ⟨x0, x1, x2, x3, x4, x5⟩ := t
  dsimp only at *
  have hq : Int.tdiv (len + x1 - 1) x1 = jobsN x1 len := Int.tdiv_eq_ediv_of_nonneg (by omega)
  have hb := (jobs_le (c := x1) (p := x1) (len := len) (by omega) hp (Int.le_refl _) hl).1
  have hb2 : jobsN x1 len ≤ 5120 := by
    have h := (jobs_le (c := 1) (p := x1) (len := len) (by omega) hp hp hl).2.2
    rw [Int.one_mul] at h
    omega
  generalize jobsN x1 len = q at *
  go_enter Tryd.func82, Tryd.ntmps82
  go_wp2
  go_ret
  exact ⟨rfl, World.grownBy_alloc _ _ _⟩

set_option maxRecDepth 100000 in
set_option maxHeartbeats 2000000 in
theorem asked_any {lo : Nat} (v : Value) (ts : List TaskV) (P len : Int) (w : World) (hv : RowAt shT lo w v ts) (hm : rtasksB ts = true) (hl : 0 ≤ len) (hl2 : len ≤ 4096) (hbig : ts.length ≤ 4398046511104) :
    Calls Tryd.prog 67 #[v, .int .i64 P, .int .i64 len] w fun e w' => e = .returned (.int .i64 (askedN ts P len)) ∧ w.grownBy w' none := by
  have HV := hide (fun W => hv.grown (W := W))
  obtain ⟨-, ta, tc, rfl, -⟩ := hv
  have HLE := hide (asked_le hm P hl hl2)
  have HSTEP := hide (fun j (hj : j < ts.length) => asked_take hj P len)
  have HP := hide (fun j (hj : j < ts.length) => may_parts (may_of hm hj))
  have HEND := hide (show askedN ts P len = askedN (ts.take ts.length) P len by rw [List.take_length])
  clear hm
  generalize askedN ts P len = A at *
  generalize hN : ts.length = N at *
  have HN := hide hN
  clear hN
  go_enter Tryd.func67, Tryd.ntmps67
  go_wp2
  go_loopw [7, 12] (fun s i W => ∃ (j : Nat), j ≤ N ∧ i = .int .i64 j ∧ s = .int .i64 (askedN (ts.take j) P len) ∧ Hid (w.grownBy W none)) (fun _ i _ => N - (intOf i).toNat)
  case atStart => exact ⟨0, by omega, rfl, by rfl, grownBy_refl _ _⟩
  case round =>
    obtain ⟨j, hj, rfl, rfl, HG⟩ := hrel
    by_cases hlt : j < N
    · obtain ⟨g, o, rfl⟩ := row_addr (HV.out wr HG.out) (by omega)
      have hq := taskAt_mem' (ws := ts) (i := j) (by rw [HN.out]; exact hlt)
      have c0 : wr.cell? ⟨g, o + j * 6, none⟩ = some (.int .i64 (taskAt ts j).kind) := row_cell (S := shT) (HV.out wr HG.out) hq (k := 0) rfl
      have c1 : wr.cell? ⟨g, o + j * 6 + 1, none⟩ = some (.int .i64 (taskAt ts j).period) := row_cell (S := shT) (HV.out wr HG.out) hq (k := 1) rfl
      have c2 : wr.cell? ⟨g, o + j * 6 + 2, none⟩ = some (.int .i64 (taskAt ts j).deadline) := row_cell (S := shT) (HV.out wr HG.out) hq (k := 2) rfl
      have c3 : wr.cell? ⟨g, o + j * 6 + 3, none⟩ = some (.int .i64 (taskAt ts j).clow) := row_cell (S := shT) (HV.out wr HG.out) hq (k := 3) rfl
      have c4 : wr.cell? ⟨g, o + j * 6 + 4, none⟩ = some (.int .i64 (taskAt ts j).chigh) := row_cell (S := shT) (HV.out wr HG.out) hq (k := 4) rfl
      have c5 : wr.cell? ⟨g, o + j * 6 + 5, none⟩ = some (.int .i64 (taskAt ts j).prio) := row_cell (S := shT) (HV.out wr HG.out) hq (k := 5) rfl
      have s1 := HLE.out j (by omega)
      have HS := hide (HSTEP.out j (by omega))
      have hp := HP.out j (by omega)
      have hjb := jobs_le (c := (taskAt ts j).chigh) (p := (taskAt ts j).period) (len := len) (by omega) (by omega) (by omega) hl
      have CJ := hide (fun W => jobs_any (taskAt ts j) len (by omega) (by omega) hl hl2 W)
      unfold addAhead at HS
      obtain ⟨s1, s2⟩ := s1
      obtain ⟨p1, p2, p3, p4, p5, p6⟩ := hp
      obtain ⟨-, m1, m2⟩ := hjb
      clear hq
      generalize askedN (ts.take j) P len = S at *
      generalize jobsN (taskAt ts j).period len = q at *
      generalize (taskAt ts j).kind = x0 at *
      generalize (taskAt ts j).period = x1 at *
      generalize (taskAt ts j).deadline = x2 at *
      generalize (taskAt ts j).clow = x3 at *
      generalize (taskAt ts j).chigh = x4 at *
      generalize (taskAt ts j).prio = x5 at *
      generalize hM : x4 * q = M at *
      have HM := hide hM
      clear hM
      by_cases hx : x5 < P
      · rw [if_pos hx] at HS
        go_wp2
        generalize hw1 : wr.alloc (Obj.cells #[Value.int IntKind.i64 x0, Value.int IntKind.i64 x1, Value.int IntKind.i64 x2, Value.int IntKind.i64 x3, Value.int IntKind.i64 x4, Value.int IntKind.i64 x5] 44) = w1
        have HW1 := hide (show wr.grownBy w1 none by rw [← hw1]; exact World.grownBy_alloc _ _ _)
        have KEEP : Hid (∀ W, w1.grownBy W none → (fun W => W.cell? ⟨wr.heap.size, 0, none⟩ = some (.int .i64 x0) ∧ W.cell? ⟨wr.heap.size, 1, none⟩ = some (.int .i64 x1) ∧ W.cell? ⟨wr.heap.size, 2, none⟩ = some (.int .i64 x2) ∧ W.cell? ⟨wr.heap.size, 3, none⟩ = some (.int .i64 x3) ∧ W.cell? ⟨wr.heap.size, 4, none⟩ = some (.int .i64 x4) ∧ W.cell? ⟨wr.heap.size, 5, none⟩ = some (.int .i64 x5)) W) := by
          intro W hW
          have b2 := fun k => World.cell?_of_block (a := ⟨wr.heap.size, k, none⟩) (hW.block wr.heap.size (by rw [← hw1]; simp) (by simp))
          exact ⟨(b2 0).trans (by rw [← hw1]; simp), (b2 1).trans (by rw [← hw1]; simp), (b2 2).trans (by rw [← hw1]; simp), (b2 3).trans (by rw [← hw1]; simp), (b2 4).trans (by rw [← hw1]; simp), (b2 5).trans (by rw [← hw1]; simp)⟩
        clear hw1 c0 c1 c2 c3 c4 c5
        obtain ⟨U, hU, F, HF, HR⟩ := class_of w1
        have f0 := fun u => (KEEP.out _ (HF.out u)).1
        have f1 := fun u => (KEEP.out _ (HF.out u)).2.1
        have f2 := fun u => (KEEP.out _ (HF.out u)).2.2.1
        have f3 := fun u => (KEEP.out _ (HF.out u)).2.2.2.1
        have f4 := fun u => (KEEP.out _ (HF.out u)).2.2.2.2.1
        have f5 := fun u => (KEEP.out _ (HF.out u)).2.2.2.2.2
        refine wp_region_quiet_in F (by kernel_rfl) (by kernel_rfl) (HR.out _ (drew_grown _)) ?_
        repeat (go_big_quiet_step (first | (go_at_call 82; exact calls_in HR (HF.out _) (CJ.out _))))
        refine wpQuiet_nil ?_
        intro _ hw1
        obtain ⟨uq, hw2⟩ := hw1
        subst hw2
        go_wp2
        go_roundw
        case rel => exact ⟨j + 1, by omega, by go_num, by rw [HS.out, HM.out, wrap64_two S M (by omega) (by omega)], hide (grownBy_trans HG.out (grownBy_trans HW1.out (HF.out uq)))⟩
        case measure => simp [intOf]; omega
      · rw [if_neg hx] at HS
        go_wp2
        go_roundw
        case rel => exact ⟨j + 1, by omega, by go_num, by rw [HS.out], hide (grownBy_trans HG.out (World.grownBy_alloc _ _ _))⟩
        case measure => simp [intOf]; omega
    · have e : j = N := by omega
      subst e
      rw [← HEND.out]
      go_wp2
      go_ret
      exact ⟨rfl, HG.out⟩
#print axioms asked_any
end Go.Proofs.YtehnklpjkcofcaaDoor

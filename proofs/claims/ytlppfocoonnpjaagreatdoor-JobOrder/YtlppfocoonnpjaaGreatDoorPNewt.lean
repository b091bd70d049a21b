/- The contract of the program's New of a schedule, proved over the translation. -/
import Derived.Test.YtlppfocoonnpjaaGreatDoorPSmall
import Derived.Test.YtlppfocoonnpjaaGreatDoorQf
namespace Go.Proofs.YtlppfocoonnpjaaGreatDoor.L
open Go.RowKit
open Go.Proofs.YtlppfocoonnpjaaGreatDoor.J (JobV blk_cell blk_free box_lt box_grown type_box type_own own_type own_mono Far far_nil take_put step_store row_cell)
open Go.Proofs.YtlppfocoonnpjaaGreatDoor.U (TurnsV turnsMay)
attribute [local go_sem] alloc_drewN setCell_drewN

/-- The configuration of a part alone. -/
def alone (p : PartV) : ConfV := ⟨1, 1, [p], [], []⟩
def newOk (i : Int) (p : PartV) : Bool := newB i (checkN (alone p))
theorem lev_of {l : Int} (h : levelB l = true) : l = 0 ∨ l = 1 := by
  unfold levelB at h
  simpa using h
theorem alone_ok {p : PartV} (h : checkN (alone p) = 0) : levelB p.level = true ∧ tasksB p = true := by
  unfold checkN at h
  by_cases h1 : frameB (alone p).frame (alone p).quiet = false
  · rw [if_pos h1] at h; exact absurd h (by decide)
  · rw [if_neg h1] at h
    by_cases h2 : partsB (alone p).parts = false
    · rw [if_pos h2] at h; exact absurd h (by decide)
    · rw [if_neg h2] at h
      by_cases h3 : allB (alone p).parts.length (fun i => tasksB (partAt (alone p).parts i)) = false
      · rw [if_pos h3] at h; exact absurd h (by decide)
      · refine ⟨?_, ?_⟩
        · have h4 : partsB (alone p).parts = true := by simpa using h2
          unfold partsB at h4
          rw [Bool.and_eq_true, Bool.and_eq_true] at h4
          exact allB_of h4.2.2 0 (show 0 < 1 by omega)
        · have h4 : allB (alone p).parts.length (fun i => tasksB (partAt (alone p).parts i)) = true := by simpa using h3
          exact allB_of h4 0 (show 0 < 1 by omega)
theorem new_fine {i : Int} {p : PartV} (h : newOk i p = true) : Fine (newL i p) 0 := by
  unfold newOk newB at h
  simp only [Bool.and_eq_true, decide_eq_true_eq] at h
  obtain ⟨h1, h2⟩ := alone_ok h.2.2
  unfold tasksB at h2
  rw [Bool.and_eq_true, decide_eq_true_eq] at h2
  have hl : p.tasks.length ≤ 6 := h2.1
  have ht : ∀ k, k < p.tasks.length → taskMay ((newL i p).taskAt k) = true := fun k hk => by
    have h3 := h2.2
    have h4 := allB_of h3 k hk
    unfold taskOK at h4
    rw [Bool.and_eq_true] at h4
    exact h4.1
  refine ⟨h.1, h.2.1, lev_of h1, hl, by simp [newL], by simp [newL], ht, fun k hk => ?_, fun k hk => ?_, row_nil, fun j hj => by cases hj⟩
  · have e : (newL i p).turnAt k = ⟨-1, []⟩ := by
      unfold LocV.turnAt newL
      simp only [List.getElem?_map]
      rw [List.getElem?_eq_getElem (show k < p.tasks.length from hk)]
      rfl
    rw [e]; decide
  · have e : (newL i p).seqAt k = 0 := by
      unfold LocV.seqAt newL
      simp only [List.getElem?_map]
      rw [List.getElem?_eq_getElem (show k < p.tasks.length from hk)]
      rfl
    rw [e]; decide
set_option maxRecDepth 100000 in
set_option maxHeartbeats 16000000 in
theorem mayIndex_any (i : Int) (W : World) : Calls Tryz.prog 31 #[.int .i64 i] W fun e w' => e = .returned (.bool (decide (0 ≤ i) && decide (i < 8))) ∧ W = w' := by
  by_cases h0 : 0 ≤ i
  · by_cases h1 : i < 8
    · rw [decide_eq_true h0, decide_eq_true h1]
      go_enter Tryz.func31, Tryz.ntmps31
      go_wp2
      go_ret
      exact ⟨rfl, rfl⟩
    · rw [decide_eq_true h0, decide_eq_false h1]
      go_enter Tryz.func31, Tryz.ntmps31
      go_wp2
      go_ret
      exact ⟨rfl, rfl⟩
  · rw [decide_eq_false h0]
    go_enter Tryz.func31, Tryz.ntmps31
    go_wp2
    go_ret
    exact ⟨rfl, rfl⟩
theorem conf_one {lo : Nat} {q : PartM} {p : PartV} (W : World) (hp : PartIs lo W q p) : ConfAt lo (W.alloc (.cells #[.int .i64 q.level, .slice q.ta q.tn q.tc, .slice q.ca q.cn q.cc] 25)) (.agg #[.int .i64 1, .int .i64 1, .slice (some ⟨W.heap.size, 0, none⟩) 1 1, .slice none 0 0, .slice none 0 0]) (alone p) ∨ W.heap.size < lo := by
  rcases Nat.lt_or_ge W.heap.size lo with h | h
  · exact .inr h
  · have hr := rowAt_lit (S := shP) W [q] 25 (by simp)
    refine .inl ⟨_, _, _, rfl, ⟨[q], rfl, RowAt.mono hr h, fun i q' p' h1 h2 => ?_⟩, rowAt_nil _ _ _ _, rowAt_nil _ _ _ _⟩
    cases i with
    | zero =>
      cases h1; cases h2
      exact hp.kept (keep_grown (World.grownBy_alloc W _ none))
    | succ i => cases h1
set_option maxRecDepth 100000 in
set_option maxHeartbeats 16000000 in
theorem mayPart_any {q : PartM} {p : PartV} (W : World) (hT : Tab W) (hp : PartIs 0 W q p) : Calls Tryz.prog 32 #[.agg #[.int .i64 q.level, .slice q.ta q.tn q.tc, .slice q.ca q.cn q.cc]] W fun e w' => e = .returned (.bool (decide (checkN (alone p) = 0))) ∧ W.grownBy w' none := by
  have HT := hide hT
  have HP := hide hp
  clear hT hp
  have HG1 := hide (World.grownBy_alloc W (.cells #[.int .i64 q.level, .slice q.ta q.tn q.tc, .slice q.ca q.cn q.cc] 25) none)
  have HB1 := hide (heap_alloc_new W (.cells #[.int .i64 q.level, .slice q.ta q.tn q.tc, .slice q.ca q.cn q.cc] 25))
  have HP1 := hide (HP.out.kept (keep_grown HG1.out))
  obtain ⟨E, hE⟩ : ∃ E, checkN (alone p) = E := ⟨_, rfl⟩
  rw [hE]
  have HCE := hide hE
  clear hE
  by_cases hE0 : E = 0
  · subst hE0
    rw [decide_eq_true rfl]
    go_enter Tryz.func32, Tryz.ntmps32
    go_upto_region 1 with (first | fail)
    generalize W.alloc (.cells #[.int .i64 q.level, .slice q.ta q.tn q.tc, .slice q.ca q.cn q.cc] 25) = W1 at *
    generalize hB : W.heap.size = B at *
    have HB := hide hB
    clear hB
    have c0 := blk_cell HB1.out 0
    have c1 := blk_cell HB1.out 1
    have c2 := blk_cell HB1.out 2
    have HG2 := hide (grownBy_trans HG1.out (World.grownBy_alloc W1 (.cells #[.int .i64 q.level, .slice q.ta q.tn q.tc, .slice q.ca q.cn q.cc] 25) none))
    have HC := hide ((conf_one W1 HP1.out).resolve_right (Nat.not_lt_zero _))
    go_wp2_with (first | fail)
    refine (check_any _ (alone p) _ (HT.out.grown HG2.out) HC.out).mono ?_; rintro e w1 ⟨he, hg⟩
    rw [HCE.out] at he
    subst he
    have HG3 := hide (grownBy_trans HG2.out hg)
    clear c0 c1 c2 hg
    go_wp2
    go_ret
    exact ⟨rfl, HG3.out⟩
  · have hEb : (E == 0) = false := beq_eq_false_iff_ne.2 hE0
    rw [decide_eq_false hE0]
    go_enter Tryz.func32, Tryz.ntmps32
    go_upto_region 1 with (first | fail)
    generalize W.alloc (.cells #[.int .i64 q.level, .slice q.ta q.tn q.tc, .slice q.ca q.cn q.cc] 25) = W1 at *
    generalize hB : W.heap.size = B at *
    have HB := hide hB
    clear hB
    have c0 := blk_cell HB1.out 0
    have c1 := blk_cell HB1.out 1
    have c2 := blk_cell HB1.out 2
    have HG2 := hide (grownBy_trans HG1.out (World.grownBy_alloc W1 (.cells #[.int .i64 q.level, .slice q.ta q.tn q.tc, .slice q.ca q.cn q.cc] 25) none))
    have HC := hide ((conf_one W1 HP1.out).resolve_right (Nat.not_lt_zero _))
    go_wp2_with (first | fail)
    refine (check_any _ (alone p) _ (HT.out.grown HG2.out) HC.out).mono ?_; rintro e w1 ⟨he, hg⟩
    rw [HCE.out] at he
    subst he
    have HG3 := hide (grownBy_trans HG2.out hg)
    clear c0 c1 c2 hg
    go_wp2
    go_ret
    exact ⟨rfl, HG3.out⟩
/-- A task as it runs at first. -/
def runNew (t : TaskV) : RunM := ⟨t, -1, none, 0, 0, 0⟩
def rz : RunM := ⟨tz, 0, none, 0, 0, 0⟩
theorem infoRn : (Tryz.prog.info? 98).map (fun i => (i.zero, i.size, i.bytes)) = some (some (.agg #[.int .i64 0, .int .i64 0, .int .i64 0, .int .i64 0, .int .i64 0, .int .i64 0, .int .i64 0, .slice none 0 0, .int .i64 0]), 9, 88) := by kernel_rfl
theorem made_rn (n : Nat) (hn : n ≤ 6) : madeCells (Value.cells (.agg #[.int .i64 0, .int .i64 0, .int .i64 0, .int .i64 0, .int .i64 0, .int .i64 0, .int .i64 0, .slice none 0 0, .int .i64 0])) (n * 9) = (shRn.cells (List.replicate n rz)).toArray := by
  rcases (by omega : n = 0 ∨ n = 1 ∨ n = 2 ∨ n = 3 ∨ n = 4 ∨ n = 5 ∨ n = 6) with rfl | rfl | rfl | rfl | rfl | rfl | rfl <;> kernel_rfl
theorem make_rn (n : Nat) (hn : n ≤ 6) (W : World) : (Instr.makeSlice 81 (.int .i64 n) (.int .i64 n)).run Tryz.prog W = .ok (.slice (some ⟨W.heap.size, 0, none⟩) n n) (W.alloc (.cells (shRn.cells (List.replicate n rz)).toArray 98)) := by
  obtain ⟨i0, hi, hz0, hz1, hz2⟩ := info_parts infoRn
  have := run_make (P := Tryz.prog) W 81 98 i0 _ Tryz.underlying81 hi hz0 .i64 .i64 n n (by omega) (Int.le_refl _) (by rw [hz2]; omega) (by omega)
  rw [hz1, Int.toNat_natCast, made_rn n hn] at this
  exact this
theorem own_run {lo g n c i : Nat} {W : World} {ms : List RunM} {y : RunM} (h : W.ownsRow lo 98 9 (.slice (some ⟨g, 0, none⟩) n c) n (shRn.cells ms)) (hy : ms[i]? = some y) (x : RunM) :
    ((((((((((W.setCell ⟨g, i * 9, none⟩ (.int .i64 x.t.kind)).setCell ⟨g, i * 9 + 1, none⟩ (.int .i64 x.t.period)).setCell ⟨g, i * 9 + 2, none⟩ (.int .i64 x.t.deadline)).setCell ⟨g, i * 9 + 3, none⟩ (.int .i64 x.t.clow)).setCell ⟨g, i * 9 + 4, none⟩ (.int .i64 x.t.chigh)).setCell ⟨g, i * 9 + 5, none⟩ (.int .i64 x.t.prio)).setCell ⟨g, i * 9 + 6, none⟩ (.int .i64 x.last)).setCell ⟨g, i * 9 + 7, none⟩ (.slice x.pa x.pn x.pc)).setCell ⟨g, i * 9 + 8, none⟩ (.int .i64 x.came))).ownsRow lo 98 9 (.slice (some ⟨g, 0, none⟩) n c) n (shRn.cells (ms.set i x)) := by
  have step : ∀ {V : World} {ls : List RunM} (y z : RunM) (k : Nat) (v : Value), V.ownsRow lo 98 9 (.slice (some ⟨g, 0, none⟩) n c) n (shRn.cells ls) → ls[i]? = some y → k < 9 → shRn.f z = (shRn.f y).set k v → (V.setCell ⟨g, i * 9 + k, none⟩ v).ownsRow lo 98 9 (.slice (some ⟨g, 0, none⟩) n c) n (shRn.cells (ls.set i z)) ∧ (ls.set i z)[i]? = some z := fun y z k v h1 h2 h3 h4 =>
    ⟨own_set (S := shRn) h1 h2 (i := k) h3 h4, by rw [List.getElem?_set, if_pos rfl, if_pos (List.getElem?_eq_some_iff.1 h2).1]⟩
  have s0 := step y { y with t := { y.t with kind := x.t.kind } } 0 (.int .i64 x.t.kind) h hy (by decide) rfl
  have s1 := step _ { y with t := { y.t with kind := x.t.kind, period := x.t.period } } 1 (.int .i64 x.t.period) s0.1 s0.2 (by decide) rfl
  have s2 := step _ { y with t := { y.t with kind := x.t.kind, period := x.t.period, deadline := x.t.deadline } } 2 (.int .i64 x.t.deadline) s1.1 s1.2 (by decide) rfl
  have s3 := step _ { y with t := { y.t with kind := x.t.kind, period := x.t.period, deadline := x.t.deadline, clow := x.t.clow } } 3 (.int .i64 x.t.clow) s2.1 s2.2 (by decide) rfl
  have s4 := step _ { y with t := { y.t with kind := x.t.kind, period := x.t.period, deadline := x.t.deadline, clow := x.t.clow, chigh := x.t.chigh } } 4 (.int .i64 x.t.chigh) s3.1 s3.2 (by decide) rfl
  have s5 := step _ { y with t := x.t } 5 (.int .i64 x.t.prio) s4.1 s4.2 (by decide) rfl
  have s6 := step _ { y with t := x.t, last := x.last } 6 (.int .i64 x.last) s5.1 s5.2 (by decide) rfl
  have s7 := step _ { y with t := x.t, last := x.last, pa := x.pa, pn := x.pn, pc := x.pc } 7 (.slice x.pa x.pn x.pc) s6.1 s6.2 (by decide) rfl
  have s8 := step _ x 8 (.int .i64 x.came) s7.1 s7.2 (by decide) rfl
  have h8 := s8.1
  simp only [List.set_set] at h8
  exact h8
theorem run_grown {W : World} {g i : Nat} (a0 a1 a2 a3 a4 a5 a6 a7 a8 : Value) : W.grownBy (((((((((W.setCell ⟨g, i * 9, none⟩ (a0)).setCell ⟨g, i * 9 + 1, none⟩ (a1)).setCell ⟨g, i * 9 + 2, none⟩ (a2)).setCell ⟨g, i * 9 + 3, none⟩ (a3)).setCell ⟨g, i * 9 + 4, none⟩ (a4)).setCell ⟨g, i * 9 + 5, none⟩ (a5)).setCell ⟨g, i * 9 + 6, none⟩ (a6)).setCell ⟨g, i * 9 + 7, none⟩ (a7)).setCell ⟨g, i * 9 + 8, none⟩ (a8)) (some g) :=
  (grownBy_trans (grownBy_trans (grownBy_trans (grownBy_trans (grownBy_trans (grownBy_trans (grownBy_trans (grownBy_trans (grownBy_set _ _ _ _) (grownBy_set _ _ _ _)) (grownBy_set _ _ _ _)) (grownBy_set _ _ _ _)) (grownBy_set _ _ _ _)) (grownBy_set _ _ _ _)) (grownBy_set _ _ _ _)) (grownBy_set _ _ _ _)) (grownBy_set _ _ _ _))
set_option maxRecDepth 100000 in
set_option maxHeartbeats 16000000 in
theorem running_any {lo : Nat} (v : Value) (ts : List TaskV) (W : World) (hv : RowAt shT lo W v ts) (h6 : ts.length ≤ 6) :
    Calls Tryz.prog 33 #[v] W fun e w' => ∃ v' , e = .returned v' ∧ OwnRn W.heap.size w' v' (ts.map runNew) ∧ W.grownBy w' none := by
  have HV := hide hv
  obtain ⟨-, a, cap, rfl, -⟩ := id hv
  clear hv
  generalize hn : ts.length = n at *
  have HN := hide hn
  clear hn
  have HMK := hide (fun W => make_rn n h6 W)
  have hmk := HMK.out
  go_enter Tryz.func33, Tryz.ntmps33
  go_upto_region 2 with (first | fail)
  clear hmk
  have HG := hide (World.grownBy_alloc W (.cells (shRn.cells (List.replicate n rz)).toArray 98) none)
  have HO : Hid ((W.alloc (.cells (shRn.cells (List.replicate n rz)).toArray 98)).ownsRow W.heap.size 98 9 (.slice (some ⟨W.heap.size, 0, none⟩) n n) n (shRn.cells (List.replicate n rz))) := hide (by
    have hl : (shRn.cells (List.replicate n rz)).length = n * 9 := by rw [shRn.cells_length, List.length_replicate]; rfl
    refine ⟨hl, .inr ⟨W.heap.size, n, _, rfl, Nat.le_refl _, heap_alloc_new _ _, Nat.le_refl _, by unfold maxLen; omega, by simpa using hl, ?_⟩⟩
    rw [List.toList_toArray, ← hl, List.take_length])
  generalize W.alloc (.cells (shRn.cells (List.replicate n rz)).toArray 98) = W1 at *
  have HV1 := hide (HV.out.grown HG.out)
  have hgn : (W.heap.size : Nat) = W.heap.size := rfl
  clear hgn
  generalize hB : W.heap.size = B at *
  have HB := hide hB
  clear hB
  go_wp2
  go_loopw [11] (fun i V => ∃ (k : Nat) (ms : List RunM), k ≤ n ∧ i = .int .i64 k ∧ Hid (V.ownsRow B 98 9 (.slice (some ⟨B, 0, none⟩) n n) n (shRn.cells ms)) ∧ Hid (ms.length = n) ∧ Hid (∀ j, j < k → ms[j]? = (ts[j]?).map runNew) ∧ Hid (W.grownBy V none)) (fun i _ => n - (intOf i).toNat)
  case atStart => exact ⟨0, _, by omega, rfl, HO, hide (by simp), hide (fun j hj => absurd hj (by omega)), HG⟩
  case round =>
    clear HO HG HV1
    obtain ⟨k, ms, hk, rfl, HO, HML, HE, HG⟩ := hrel
    by_cases hlt : k < n
    · have hkn : (k : Int) < n := by omega
      have hk0 : ¬((k : Int) < 0) := by omega
      have hr := HV.out.grown HG.out
      obtain ⟨g2, o2, ha⟩ := J.row_addr hr (by omega)
      subst ha
      obtain ⟨t, ht⟩ : ∃ t, ts[k]? = some t := ⟨_, List.getElem?_eq_getElem (by rw [HN.out]; exact hlt)⟩
      obtain ⟨y, hy⟩ : ∃ y, ms[k]? = some y := ⟨_, List.getElem?_eq_getElem (by rw [HML.out]; exact hlt)⟩
      have t0 : wr.cell? ⟨g2, o2 + k * 6, none⟩ = some (.int .i64 t.kind) := row_cell (S := shT) (j := k) hr ht (k := 0) rfl
      have t1 : wr.cell? ⟨g2, o2 + k * 6 + 1, none⟩ = some (.int .i64 t.period) := row_cell (S := shT) (j := k) hr ht (k := 1) rfl
      have t2 : wr.cell? ⟨g2, o2 + k * 6 + 2, none⟩ = some (.int .i64 t.deadline) := row_cell (S := shT) (j := k) hr ht (k := 2) rfl
      have t3 : wr.cell? ⟨g2, o2 + k * 6 + 3, none⟩ = some (.int .i64 t.clow) := row_cell (S := shT) (j := k) hr ht (k := 3) rfl
      have t4 : wr.cell? ⟨g2, o2 + k * 6 + 4, none⟩ = some (.int .i64 t.chigh) := row_cell (S := shT) (j := k) hr ht (k := 4) rfl
      have t5 : wr.cell? ⟨g2, o2 + k * 6 + 5, none⟩ = some (.int .i64 t.prio) := row_cell (S := shT) (j := k) hr ht (k := 5) rfl
      have HT := hide ht
      have HY := hide hy
      clear hr ht hy
      obtain ⟨x0, x1, x2, x3, x4, x5⟩ := t
      dsimp only at t0 t1 t2 t3 t4 t5
      go_upto_region 5 with (first | fail)
      clear t0 t1 t2 t3 t4 t5
      have hgb := World.grownBy_alloc wr (.cells #[.int .i64 x0, .int .i64 x1, .int .i64 x2, .int .i64 x3, .int .i64 x4, .int .i64 x5] 73) none
      have HX := hide (heap_alloc_new wr (.cells #[.int .i64 x0, .int .i64 x1, .int .i64 x2, .int .i64 x3, .int .i64 x4, .int .i64 x5] 73))
      have HO1 := hide (own_kept HO.out hgb)
      have HG1 := hide (grownBy_trans HG.out hgb)
      clear hgb HO HG
      generalize wr.alloc (.cells #[.int .i64 x0, .int .i64 x1, .int .i64 x2, .int .i64 x3, .int .i64 x4, .int .i64 x5] 73) = Wa at *
      generalize wr.heap.size = BT at *
      have c0 : Wa.cell? ⟨B, k * 9, none⟩ = some (.int .i64 y.t.kind) := own_cell (S := shRn) HO1.out HY.out (i := 0) rfl
      have f0 := own_free (k := 9) HO1.out (k * 9)
      have c1 : Wa.cell? ⟨B, k * 9 + 1, none⟩ = some (.int .i64 y.t.period) := own_cell (S := shRn) HO1.out HY.out (i := 1) rfl
      have f1 := own_free (k := 9) HO1.out (k * 9 + 1)
      have c2 : Wa.cell? ⟨B, k * 9 + 2, none⟩ = some (.int .i64 y.t.deadline) := own_cell (S := shRn) HO1.out HY.out (i := 2) rfl
      have f2 := own_free (k := 9) HO1.out (k * 9 + 2)
      have c3 : Wa.cell? ⟨B, k * 9 + 3, none⟩ = some (.int .i64 y.t.clow) := own_cell (S := shRn) HO1.out HY.out (i := 3) rfl
      have f3 := own_free (k := 9) HO1.out (k * 9 + 3)
      have c4 : Wa.cell? ⟨B, k * 9 + 4, none⟩ = some (.int .i64 y.t.chigh) := own_cell (S := shRn) HO1.out HY.out (i := 4) rfl
      have f4 := own_free (k := 9) HO1.out (k * 9 + 4)
      have c5 : Wa.cell? ⟨B, k * 9 + 5, none⟩ = some (.int .i64 y.t.prio) := own_cell (S := shRn) HO1.out HY.out (i := 5) rfl
      have f5 := own_free (k := 9) HO1.out (k * 9 + 5)
      have c6 : Wa.cell? ⟨B, k * 9 + 6, none⟩ = some (.int .i64 y.last) := own_cell (S := shRn) HO1.out HY.out (i := 6) rfl
      have f6 := own_free (k := 9) HO1.out (k * 9 + 6)
      have c7 : Wa.cell? ⟨B, k * 9 + 7, none⟩ = some (.slice y.pa y.pn y.pc) := own_cell (S := shRn) HO1.out HY.out (i := 7) rfl
      have f7 := own_free (k := 9) HO1.out (k * 9 + 7)
      have c8 : Wa.cell? ⟨B, k * 9 + 8, none⟩ = some (.int .i64 y.came) := own_cell (S := shRn) HO1.out HY.out (i := 8) rfl
      have f8 := own_free (k := 9) HO1.out (k * 9 + 8)
      have e0 := blk_cell HX.out 0
      have e1 := blk_cell HX.out 1
      have e2 := blk_cell HX.out 2
      have e3 := blk_cell HX.out 3
      have e4 := blk_cell HX.out 4
      have e5 := blk_cell HX.out 5
      go_upto_region 6 with (first | fail)
      clear c0 f0 c1 f1 c2 f2 c3 f3 c4 f4 c5 f5 c6 f6 c7 f7 c8 f8 e0 e1 e2 e3 e4 e5
      have HO2 := hide (own_run HO1.out HY.out (runNew ⟨x0, x1, x2, x3, x4, x5⟩))
      dsimp only [runNew] at HO2
      have HG2 := hide (grown_spoil HG1.out (by rw [HB.out]; exact Nat.le_refl _) (run_grown (W := Wa) (g := B) (i := k) (.int .i64 x0) (.int .i64 x1) (.int .i64 x2) (.int .i64 x3) (.int .i64 x4) (.int .i64 x5) (.int .i64 (-1)) (.slice none 0 0) (.int .i64 0)))
      clear HO1 HG1 HX
      generalize (((((((((Wa.setCell ⟨B, k * 9, none⟩ (.int .i64 x0)).setCell ⟨B, k * 9 + 1, none⟩ (.int .i64 x1)).setCell ⟨B, k * 9 + 2, none⟩ (.int .i64 x2)).setCell ⟨B, k * 9 + 3, none⟩ (.int .i64 x3)).setCell ⟨B, k * 9 + 4, none⟩ (.int .i64 x4)).setCell ⟨B, k * 9 + 5, none⟩ (.int .i64 x5)).setCell ⟨B, k * 9 + 6, none⟩ (.int .i64 (-1))).setCell ⟨B, k * 9 + 7, none⟩ (.slice none 0 0)).setCell ⟨B, k * 9 + 8, none⟩ (.int .i64 0)) = Wb at *
      go_wp2
      go_roundw
      case rel =>
        refine ⟨k + 1, _, by omega, by first | rfl | go_num, HO2, hide (by rw [List.length_set]; exact HML.out), hide (fun j hj => ?_), HG2⟩
        rw [List.getElem?_set]
        by_cases hjk : k = j
        · subst hjk
          rw [if_pos rfl, if_pos (by rw [HML.out]; exact hlt), HT.out]
          rfl
        · rw [if_neg hjk]
          exact HE.out j (by omega)
      case measure => simp [intOf]; omega
    · obtain rfl : k = n := by omega
      have hms : ms = ts.map runNew := by
        apply List.ext_getElem?
        intro j
        rw [List.getElem?_map]
        by_cases hj : j < k
        · exact HE.out j hj
        · rw [List.getElem?_eq_none (by rw [HML.out]; omega), List.getElem?_eq_none (by rw [HN.out]; omega)]
          rfl
      have HMS := hide hms
      clear hms
      go_wp2
      go_ret
      exact ⟨_, rfl, by rw [HB.out]; unfold OwnRn; rw [← HMS.out, HML.out]; exact HO.out, HG.out⟩
set_option maxRecDepth 100000 in
set_option maxHeartbeats 16000000 in
theorem new_no {q : PartM} {p : PartV} (i : Int) (W : World) (hT : Tab W) (hp : PartIs 0 W q p) (hno : newOk i p = false) :
    Calls Tryz.prog 10 #[.int .i64 i, .agg #[.int .i64 q.level, .slice q.ta q.tn q.tc, .slice q.ca q.cn q.cc]] W fun e w' => e = .returned (.tuple #[.pointer none, .int .i64 1400]) ∧ W.grownBy w' none := by
  have HG1 := hide (World.grownBy_alloc W (.cells #[.int .i64 q.level, .slice q.ta q.tn q.tc, .slice q.ca q.cn q.cc] 25) none)
  have HB1 := hide (heap_alloc_new W (.cells #[.int .i64 q.level, .slice q.ta q.tn q.tc, .slice q.ca q.cn q.cc] 25))
  have CM := hide (mayPart_any _ (hT.grown HG1.out) (hp.kept (keep_grown HG1.out)))
  have CI := hide (fun W => mayIndex_any i W)
  clear hT hp
  unfold newOk newB at hno
  rw [← Bool.and_assoc] at hno
  cases hi : (decide (0 ≤ i) && decide (i < 8)) with
  | false =>
    rw [hi] at CI
    clear hno hi CM
    go_enter Tryz.func10, Tryz.ntmps10
    go_upto_region 1 with (first | fail)
    generalize W.alloc (.cells #[.int .i64 q.level, .slice q.ta q.tn q.tc, .slice q.ca q.cn q.cc] 25) = W1 at *
    go_wp2_with (first | fail)
    refine (CI.out _).mono ?_; rintro e w' ⟨rfl, rfl⟩
    go_wp2
    go_ret2
    exact ⟨rfl, HG1.out⟩
  | true =>
    rw [hi] at CI hno
    rw [Bool.true_and] at hno
    rw [hno] at CM
    clear hno hi
    go_enter Tryz.func10, Tryz.ntmps10
    go_upto_region 1 with (first | fail)
    generalize W.alloc (.cells #[.int .i64 q.level, .slice q.ta q.tn q.tc, .slice q.ca q.cn q.cc] 25) = W1 at *
    have c0 := blk_cell HB1.out 0
    have c1 := blk_cell HB1.out 1
    have c2 := blk_cell HB1.out 2
    go_wp2_with (first | fail)
    refine (CI.out _).mono ?_; rintro e w' ⟨rfl, rfl⟩
    go_wp2_with (first | fail)
    refine CM.out.mono ?_; rintro e w2 ⟨rfl, hg⟩
    clear c0 c1 c2
    have HG2 := hide (grownBy_trans HG1.out hg)
    clear hg
    go_wp2
    go_ret2
    exact ⟨rfl, HG2.out⟩
set_option maxRecDepth 100000 in
set_option maxHeartbeats 16000000 in
theorem new_yes {q : PartM} {p : PartV} (i : Int) (W : World) (hT : Tab W) (hp : PartIs 0 W q p) (hok : newOk i p = true) :
    Calls Tryz.prog 10 #[.int .i64 i, .agg #[.int .i64 q.level, .slice q.ta q.tn q.tc, .slice q.ca q.cn q.cc]] W fun e w' => ∃ b, e = .returned (.tuple #[.pointer (some ⟨b, 0, none⟩), .int .i64 0]) ∧ (∃ vr ms, PLoc W.heap.size (.slice none 0 0) w' b vr (.slice none 0 0) ms (newL i p)) ∧ W.grownBy w' none := by
  have hF := new_fine hok
  have HG1 := hide (World.grownBy_alloc W (.cells #[.int .i64 q.level, .slice q.ta q.tn q.tc, .slice q.ca q.cn q.cc] 25) none)
  have HB1 := hide (heap_alloc_new W (.cells #[.int .i64 q.level, .slice q.ta q.tn q.tc, .slice q.ca q.cn q.cc] 25))
  have CM := hide (mayPart_any _ (hT.grown HG1.out) (hp.kept (keep_grown HG1.out)))
  have CI := hide (fun W => mayIndex_any i W)
  have HPR := hide (fun V (hg : W.grownBy V none) => hp.2.1.grown hg)
  have CR := hide (fun V (hg : W.grownBy V none) => running_any (.slice q.ta q.tn q.tc) p.tasks V (hp.2.1.grown hg) hF.many)
  have HLV : Hid (q.level = p.level) := hide hp.1
  clear hT hp hF
  unfold newOk newB at hok
  rw [← Bool.and_assoc, Bool.and_eq_true] at hok
  rw [hok.1] at CI
  rw [hok.2] at CM
  clear hok
  go_enter Tryz.func10, Tryz.ntmps10
  go_upto_region 1 with (first | fail)
  generalize W.alloc (.cells #[.int .i64 q.level, .slice q.ta q.tn q.tc, .slice q.ca q.cn q.cc] 25) = W1 at *
  generalize hB : W.heap.size = BP at *
  have HB := hide hB
  clear hB
  have c0 := blk_cell HB1.out 0
  have c1 := blk_cell HB1.out 1
  have c2 := blk_cell HB1.out 2
  go_wp2_with (first | fail)
  refine (CI.out _).mono ?_; rintro e w' ⟨rfl, rfl⟩
  go_wp2_with (first | fail)
  refine CM.out.mono ?_; rintro e w2 ⟨rfl, hg⟩
  clear c0 c1 c2
  have HG2 := hide (grownBy_trans HG1.out hg)
  have HB2 := hide (box_grown HB1.out hg (by simp))
  clear hg HG1 HB1
  go_upto_region 3 with (first | fail)
  refine wp_region_held_drew (S := fun V => V.heap[BP]? = some (.cells #[.int .i64 q.level, .slice q.ta q.tn q.tc, .slice q.ca q.cn q.cc] 25 (0, 0))) (by kernel_rfl) HB2.out (fun hHeld => ?_)
  have HGW := hide (grownBy_trans HG2.out (grownBy_draws w2 1 none))
  have HSS : Hid ((fun V => V.heap[BP]? = some (.cells #[.int .i64 q.level, .slice q.ta q.tn q.tc, .slice q.ca q.cn q.cc] 25 (0, 0))) (w2.drewN 1)) := hide HB2.out
  have hdd : w2.drewN 1 = w2.drew := rfl
  rw [hdd] at HGW HSS
  clear hdd HG2 HB2
  generalize w2.drew = V0 at *
  refine take_put (i := 0) (v := .int .i64 i) 14 rfl rfl (by kernel_rfl) (by kernel_rfl) (by kernel_rfl) (fun _ _ _ h => h) (Or.inl ⟨by rfl, by intro Wy hSW; go_simp⟩) (by assumption) ?_
  (try simp only [Act.put, List.setIfInBounds_toArray, List.set_cons_zero, List.set_cons_succ])
  refine take_put (i := 1) (v := .pointer (some ⟨BP, 0, none⟩)) 15 rfl rfl (by kernel_rfl) (by kernel_rfl) (by kernel_rfl) (fun _ _ _ h => h) (Or.inl ⟨by rfl, by intro Wy hSW; go_simp⟩) (by assumption) ?_
  (try simp only [Act.put, List.setIfInBounds_toArray, List.set_cons_zero, List.set_cons_succ])
  refine take_put (i := 2) (v := .int .i64 q.level) 16 rfl rfl (by kernel_rfl) (by kernel_rfl) (by kernel_rfl) (fun _ _ _ h => h) (Or.inl ⟨by rfl, by intro Wy hSW; have hc := blk_cell hSW 0; go_simp⟩) (by assumption) ?_
  (try simp only [Act.put, List.setIfInBounds_toArray, List.set_cons_zero, List.set_cons_succ])
  refine take_put (i := 3) (v := .pointer (some ⟨BP, 1, none⟩)) 17 rfl rfl (by kernel_rfl) (by kernel_rfl) (by kernel_rfl) (fun _ _ _ h => h) (Or.inl ⟨by rfl, by intro Wy hSW; go_simp⟩) (by assumption) ?_
  (try simp only [Act.put, List.setIfInBounds_toArray, List.set_cons_zero, List.set_cons_succ])
  refine take_put (i := 4) (v := .slice q.ta q.tn q.tc) 18 rfl rfl (by kernel_rfl) (by kernel_rfl) (by kernel_rfl) (fun _ _ _ h => h) (Or.inl ⟨by rfl, by intro Wy hSW; have hc := blk_cell hSW 1; go_simp⟩) (by assumption) ?_
  (try simp only [Act.put, List.setIfInBounds_toArray, List.set_cons_zero, List.set_cons_succ])
  refine wpAnyH_ready (rs := [5]) (by kernel_rfl) (by simp) ?_
  refine AllReadyH.cons rfl (fun Kx hKx => ?_) AllReadyH.nil
  go_simp
  refine (CR.out _ HGW.out).mono ?_; rintro e V1 ⟨vr, rfl, ho, hg⟩
  obtain ⟨ar, cr, e2⟩ := own_form ho
  rw [List.length_map] at e2
  subst e2
  have HOR := hide (show OwnRn BP V1 (.slice ar p.tasks.length cr) (p.tasks.map runNew) from own_mono ho (by have := HGW.out.size; rw [HB.out] at this; exact this))
  have HVL := hide (fun g h => (World.ownsRow.lt ho g h).2)
  have HGWn := hide (grownBy_trans HGW.out hg)
  have HSSn : Hid ((fun V => V.heap[BP]? = some (.cells #[.int .i64 q.level, .slice q.ta q.tn q.tc, .slice q.ca q.cn q.cc] 25 (0, 0))) V1) := hide (box_grown HSS.out hg (by simp))
  clear HGW HSS hHeld ho hg
  have HGW := HGWn
  have HSS := HSSn
  clear HGWn HSSn
  refine hKx.out _ _ HSS.out (fun hHeld => ?_)
  clear hKx Kx
  (try simp only [Act.put])
  refine take_put (i := 6) (v := .agg #[.int .i64 i, .int .i64 q.level, .slice ar p.tasks.length cr, .slice none 0 0]) 20 rfl rfl (by kernel_rfl) (by kernel_rfl) (by kernel_rfl) (fun _ _ _ h => h) (Or.inl ⟨by rfl, by intro Wy hSW; go_simp⟩) (by assumption) ?_
  (try simp only [Act.put, List.setIfInBounds_toArray, List.set_cons_zero, List.set_cons_succ])
  refine wpAnyH_ready (rs := [7]) (by kernel_rfl) (by simp) ?_
  refine AllReadyH.cons rfl (fun Kx hKx => ?_) AllReadyH.nil
  go_simp
  have hg := World.grownBy_alloc V1 (.cells #[.int .i64 i, .int .i64 q.level, .slice ar p.tasks.length cr, .slice none 0 0] 84) none
  have HL := hide (heap_alloc_new V1 (.cells #[.int .i64 i, .int .i64 q.level, .slice ar p.tasks.length cr, .slice none 0 0] 84))
  have HORn := hide (show OwnRn BP (V1.alloc (.cells #[.int .i64 i, .int .i64 q.level, .slice ar p.tasks.length cr, .slice none 0 0] 84)) (.slice ar p.tasks.length cr) (p.tasks.map runNew) from own_kept HOR.out hg)
  have HLE := hide (show BP ≤ V1.heap.size from by have := HGW.out.size; rw [HB.out] at this; exact this)
  have HGWn := hide (grownBy_trans HGW.out hg)
  have HSSn : Hid ((fun V => V.heap[BP]? = some (.cells #[.int .i64 q.level, .slice q.ta q.tn q.tc, .slice q.ca q.cn q.cc] 25 (0, 0))) (V1.alloc (.cells #[.int .i64 i, .int .i64 q.level, .slice ar p.tasks.length cr, .slice none 0 0] 84))) := hide (box_grown HSS.out hg (by simp))
  clear HGW HSS hHeld HOR hg
  have HGW := HGWn
  have HSS := HSSn
  have HOR := HORn
  clear HGWn HSSn HORn
  refine hKx.out _ _ HSS.out (fun hHeld => ?_)
  clear hKx Kx
  (try simp only [Act.put])
  generalize V1.alloc (.cells #[.int .i64 i, .int .i64 q.level, .slice ar p.tasks.length cr, .slice none 0 0] 84) = V2 at *
  generalize V1.heap.size = BL at *
  refine take_put (i := 8) (v := .pointer (some ⟨BL, 0, none⟩)) 4 rfl rfl (by kernel_rfl) (by kernel_rfl) (by kernel_rfl) (fun _ _ _ h => h) (Or.inl ⟨by rfl, by intro Wy hSW; go_simp⟩) (by assumption) ?_
  (try simp only [Act.put, List.setIfInBounds_toArray, List.set_cons_zero, List.set_cons_succ])
  refine take_put (i := 9) (v := .int .i64 0) 5 rfl rfl (by kernel_rfl) (by kernel_rfl) (by kernel_rfl) (fun _ _ _ h => h) (Or.inl ⟨by rfl, by intro Wy hSW; go_simp⟩) (by assumption) ?_
  (try simp only [Act.put, List.setIfInBounds_toArray, List.set_cons_zero, List.set_cons_succ])
  refine wpAnyH_done (by kernel_rfl) ?_ _
  clear hHeld
  go_wp2
  go_ret2
  refine ⟨_, rfl, ⟨_, _, ⟨by rw [HB.out]; exact HLE.out, by rw [← show q.level = (newL i p).level from HLV.out]; exact HL.out, by rw [HB.out]; exact HOR.out, by simp [newL], fun k m hm => ?_, .inl ⟨rfl, none, 0, rfl, fun k hk => by cases hk⟩⟩⟩, HGW.out⟩
  rw [List.getElem?_map] at hm
  obtain ⟨t, ht, rfl⟩ := Option.map_eq_some_iff.1 hm
  have hk : k < p.tasks.length := (List.getElem?_eq_some_iff.1 ht).1
  have e1 : (newL i p).taskAt k = t := by unfold LocV.taskAt newL; rw [ht]; rfl
  have e2 : (newL i p).turnAt k = ⟨-1, []⟩ := by unfold LocV.turnAt newL; simp only [List.getElem?_map]; rw [ht]; rfl
  have e3 : (newL i p).seqAt k = 0 := by unfold LocV.seqAt newL; simp only [List.getElem?_map]; rw [ht]; rfl
  rw [e1, e2, e3]
  exact ⟨rfl, rfl, rfl, World.ownsRow_nil _ _ _ _, far_nil _ _⟩
#print axioms new_yes
end Go.Proofs.YtlppfocoonnpjaaGreatDoor.L

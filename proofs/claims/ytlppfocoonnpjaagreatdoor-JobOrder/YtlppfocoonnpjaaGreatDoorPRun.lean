/- The contract of the program's Run of a schedule, proved over the translation. -/
import Derived.Test.YtlppfocoonnpjaaGreatDoorPSmall
import Derived.Test.YtlppfocoonnpjaaGreatDoorPPick
import Derived.Test.YtlppfocoonnpjaaGreatDoorJLawP
namespace Go.Proofs.YtlppfocoonnpjaaGreatDoor.L
open Go.RowKit
open Go.Proofs.YtlppfocoonnpjaaGreatDoor.J (JobV jz jobAt jobVal shJ infoJ rowMay blk_cell blk_free box_lt box_grown type_box type_own own_type own_mono Far row_cell take_put step_store list_store results_rtt oneMore chMay chO chD chK chE chJ chV)
attribute [local go_sem] alloc_drewN setCell_drewN

theorem sizeVp : (Tryz.prog.info? 50).map (·.size) = some 3 := by kernel_rfl
theorem ch_of {j : JobV} {t : TaskV} {l : Int} (hm : chMay j t l = true) (w : World) : Calls Tryz.prog 51 #[jobVal j, J.taskVal t, .int .i64 l] w fun e w' => e = .returned (.tuple #[jobVal (oneMore j), .agg #[.bool (chO j t l), .bool (chD j t l), .bool (chK j t l)], .int .i64 0]) ∧ w.grownBy w' none := by
  have h := J.ch_any j t l w
  unfold chV chJ chE at h
  rw [hm, if_pos rfl, if_pos rfl] at h
  exact h
/-- The first job of a row written over. -/
theorem ownP_head {lo : Nat} {W : World} {g o n c : Nat} {js : List JobV} (h : OwnP lo W (.slice (some ⟨g, o, none⟩) n c) js) (hn : 0 < n) (x : JobV) :
    OwnP lo (((((((W.setCell ⟨g, o, none⟩ (.int .i64 x.task)).setCell ⟨g, o + 1, none⟩ (.int .i64 x.seq)).setCell ⟨g, o + 2, none⟩ (.int .i64 x.prio)).setCell ⟨g, o + 3, none⟩ (.int .i64 x.rel)).setCell ⟨g, o + 4, none⟩ (.int .i64 x.dead)).setCell ⟨g, o + 5, none⟩ (.int .i64 x.dem)).setCell ⟨g, o + 6, none⟩ (.int .i64 x.used)) (.slice (some ⟨g, o, none⟩) n c) (x :: js.drop 1) := by
  rcases h with ⟨rfl, a, c', e, -⟩ | ⟨g', N, cap, p, ks, ho, hN, hp, rfl, e⟩
  · simp only [Value.slice.injEq] at e; omega
  · simp only [Value.slice.injEq, Option.some.injEq, Addr.mk.injEq, and_true] at e
    obtain ⟨⟨rfl, rfl⟩, rfl, rfl⟩ := e
    have hp' : p < ks.length := by omega
    have step : ∀ {V : World} {ls : List JobV} (y z : JobV) (i : Nat) (v : Value), V.ownsRow lo 70 7 (.slice (some ⟨g, 0, none⟩) N cap) N (shJ.cells ls) → ls[p]? = some y → i < 7 → shJ.f z = (shJ.f y).set i v → (V.setCell ⟨g, p * 7 + i, none⟩ v).ownsRow lo 70 7 (.slice (some ⟨g, 0, none⟩) N cap) N (shJ.cells (ls.set p z)) ∧ (ls.set p z)[p]? = some z := fun y z i v h1 h2 h3 h4 =>
      ⟨own_set (S := shJ) h1 h2 (i := i) h3 h4, by rw [List.getElem?_set, if_pos rfl, if_pos (List.getElem?_eq_some_iff.1 h2).1]⟩
    obtain ⟨y, hy⟩ : ∃ y, ks[p]? = some y := ⟨_, List.getElem?_eq_getElem hp'⟩
    have s0 := step y { y with task := x.task } 0 (.int .i64 x.task) ho hy (by decide) rfl
    have s1 := step _ { y with task := x.task, seq := x.seq } 1 (.int .i64 x.seq) s0.1 s0.2 (by decide) rfl
    have s2 := step _ { y with task := x.task, seq := x.seq, prio := x.prio } 2 (.int .i64 x.prio) s1.1 s1.2 (by decide) rfl
    have s3 := step _ { y with task := x.task, seq := x.seq, prio := x.prio, rel := x.rel } 3 (.int .i64 x.rel) s2.1 s2.2 (by decide) rfl
    have s4 := step _ { y with task := x.task, seq := x.seq, prio := x.prio, rel := x.rel, dead := x.dead } 4 (.int .i64 x.dead) s3.1 s3.2 (by decide) rfl
    have s5 := step _ { y with task := x.task, seq := x.seq, prio := x.prio, rel := x.rel, dead := x.dead, dem := x.dem } 5 (.int .i64 x.dem) s4.1 s4.2 (by decide) rfl
    have s6 := step _ x 6 (.int .i64 x.used) s5.1 s5.2 (by decide) rfl
    have h6 := s6.1
    simp only [List.set_set] at h6
    refine .inr ⟨g, N, cap, p, ks.set p x, h6, by rw [List.length_set]; exact hN, hp, ?_, rfl⟩
    rw [List.drop_set, if_neg (Nat.lt_irrefl p), Nat.sub_self, List.drop_drop]
    have e2 : ks.drop p = y :: ks.drop (p + 1) := by
      rw [List.drop_eq_getElem_cons hp']
      rw [List.getElem?_eq_getElem hp'] at hy
      rw [Option.some.inj hy]
    rw [e2, List.set_cons_zero]
theorem headP_grown {W : World} {g o : Nat} (a0 a1 a2 a3 a4 a5 a6 : Value) : W.grownBy (((((((W.setCell ⟨g, o, none⟩ a0).setCell ⟨g, o + 1, none⟩ a1).setCell ⟨g, o + 2, none⟩ a2).setCell ⟨g, o + 3, none⟩ a3).setCell ⟨g, o + 4, none⟩ a4).setCell ⟨g, o + 5, none⟩ a5).setCell ⟨g, o + 6, none⟩ a6) (some g) :=
  grownBy_trans (grownBy_trans (grownBy_trans (grownBy_trans (grownBy_trans (grownBy_trans (grownBy_set _ _ _ _) (grownBy_set _ _ _ _)) (grownBy_set _ _ _ _)) (grownBy_set _ _ _ _)) (grownBy_set _ _ _ _)) (grownBy_set _ _ _ _)) (grownBy_set _ _ _ _)
theorem PLoc.head {lo b g o n c : Nat} {q : Value} {W : World} {vr : Value} {ms : List RunM} {L : LocV} (h : PLoc lo q W b vr (.slice (some ⟨g, o, none⟩) n c) ms L) (hn : 0 < n) (x0 x1 x2 x3 x4 x5 x6 : Int) :
    PLoc lo q (((((((W.setCell ⟨g, o, none⟩ (.int .i64 x0)).setCell ⟨g, o + 1, none⟩ (.int .i64 x1)).setCell ⟨g, o + 2, none⟩ (.int .i64 x2)).setCell ⟨g, o + 3, none⟩ (.int .i64 x3)).setCell ⟨g, o + 4, none⟩ (.int .i64 x4)).setCell ⟨g, o + 5, none⟩ (.int .i64 x5)).setCell ⟨g, o + 6, none⟩ (.int .i64 x6)) b vr (.slice (some ⟨g, o, none⟩) n c) ms { L with jobs := ⟨x0, x1, x2, x3, x4, x5, x6⟩ :: L.jobs.drop 1 } := by
  have hj := ownP_head h.jobs hn ⟨x0, x1, x2, x3, x4, x5, x6⟩
  have hg := headP_grown (W := W) (g := g) (o := o) (.int .i64 x0) (.int .i64 x1) (.int .i64 x2) (.int .i64 x3) (.int .i64 x4) (.int .i64 x5) (.int .i64 x6)
  have ht : J.TypeAt W g 70 := by
    rcases h.jobs with ⟨_, a, c', e, -⟩ | ⟨g', N, cap, p, ks, ho, hN, hp, _, e⟩
    · simp only [Value.slice.injEq] at e; omega
    · simp only [Value.slice.injEq, Option.some.injEq, Addr.mk.injEq, and_true] at e
      obtain ⟨⟨rfl, -⟩, -⟩ := e
      exact type_own ho
  exact ⟨h.hb, J.box_type h.box hg ht (by decide), own_type h.runs hg ht (by decide), h.mlen, fun i m hm => ⟨(h.each i m hm).1, (h.each i m hm).2.1, (h.each i m hm).2.2.1, own_type (h.each i m hm).2.2.2.1 hg ht (by decide), (h.each i m hm).2.2.2.2⟩, hj⟩
theorem PLoc.headFree {lo b g o n c : Nat} {q : Value} {W : World} {vr : Value} {ms : List RunM} {L : LocV} (h : PLoc lo q W b vr (.slice (some ⟨g, o, none⟩) n c) ms L) (hn : 0 < n) (k : Nat) : W.frozen? ⟨g, k, none⟩ = false := by
  rcases h.jobs with ⟨_, a, c', e, -⟩ | ⟨g', N, cap, p, ks, ho, hN, hp, _, e⟩
  · simp only [Value.slice.injEq] at e; omega
  · simp only [Value.slice.injEq, Option.some.injEq, Addr.mk.injEq, and_true] at e
    obtain ⟨⟨rfl, -⟩, -⟩ := e
    exact own_free (k := 7) ho k
set_option maxRecDepth 100000 in
set_option maxHeartbeats 16000000 in
theorem prun_none {lo b : Nat} {q vr vj : Value} {ms : List RunM} {L : LocV} (W : World) (h : PLoc lo q W b vr vj ms L) (hn : L.jobs = []) :
    Calls Tryz.prog 21 #[.pointer (some ⟨b, 0, none⟩)] W fun e w' => e = .returned (.tuple #[.agg #[.bool false, .bool false, .bool false], .slice none 0 0, .int .i64 1401]) ∧ W.grownBy w' none := by
  have HG0 := hide (World.grownBy_alloc W (.cells #[.bool false, .bool false, .bool false] 50) none)
  have HV0 := hide (heap_alloc_new W (.cells #[.bool false, .bool false, .bool false] 50))
  have hr := (h.jobs.grown HG0.out).row
  rw [hn] at hr
  obtain ⟨a, cap, hv⟩ := h.jobs.form
  subst hv
  have c3 : (W.alloc (.cells #[.bool false, .bool false, .bool false] 50)).cell? ⟨b, 3, none⟩ = some (.slice a L.jobs.length cap) := blk_cell (h.grown HG0.out).box 3
  have CF := hide (first_no _ hr)
  clear h hr hn
  generalize L.jobs.length = n at *
  dsimp only [jobVal, jz] at CF
  go_enter Tryz.func21, Tryz.ntmps21
  go_upto_region 3 with (first | fail)
  generalize W.alloc (.cells #[.bool false, .bool false, .bool false] 50) = W1 at *
  generalize hB : W.heap.size = B2 at *
  have HB := hide hB
  clear hB
  go_wp2_with (first | fail)
  refine CF.out.mono ?_; rintro e w1 ⟨rfl, hg⟩
  have hg1 := grownBy_trans hg (World.grownBy_alloc w1 (.cells #[.int .i64 0, .int .i64 0, .int .i64 0, .int .i64 0, .int .i64 0, .int .i64 0, .int .i64 0] 70) none)
  have HV1 := hide (box_grown HV0.out hg1 (by simp))
  have HG1 := hide (grownBy_trans HG0.out hg1)
  clear c3 hg hg1 CF HV0 HG0
  go_upto_region 5 with (first | fail)
  generalize w1.alloc (.cells #[.int .i64 0, .int .i64 0, .int .i64 0, .int .i64 0, .int .i64 0, .int .i64 0, .int .i64 0] 70) = w2 at *
  generalize w1.heap.size = BJ at *
  go_wp2_with (first | ((with_reducible refine list_store 50 (.tmp 2) (.tmp 22) B2 #[.bool false, .bool false, .bool false] 50 #[.bool false, .bool false, .bool false] ?hx ?hy ?hg ?hi ?ho ?h1 ?_); (case hx => rfl); (case hy => rfl); (case hg => exact HV1.out); (case hi => exact sizeVp); (case ho => rfl); (case h1 => simp [Value.oneCell']); intro Z9 h1 e1 g1x; have HFIN := hide h1; have HGN := hide (grown_spoil HG1.out (by rw [HB.out]; exact Nat.le_refl _) g1x); clear h1 e1 g1x) | fail)
  refine bodyPost_ret (results_rtt rfl _ _ B2 50 #[.bool false, .bool false, .bool false] (0, 0) _ rfl HFIN.out Tryz.underlying50 rfl sizeVp) rfl ?_
  exact ⟨rfl, HGN.out⟩
/-- A write into a block that is new. -/
theorem PLoc.fresh {lo b g : Nat} {q : Value} {W V V' : World} {vr vj : Value} {ms : List RunM} {L : LocV} (h : PLoc lo q V b vr vj ms L) (h0 : PLoc lo q W b vr vj ms L) (hg : V.grownBy V' (some g)) (hb : W.heap.size ≤ g) : PLoc lo q V' b vr vj ms L := by
  refine ⟨h.hb, box_grown h.box hg (by have := box_lt h0.box; simp; omega), World.ownsRow.kept h.runs hg (.inr fun e => by have := (World.ownsRow.lt h0.runs g e).2; omega), h.mlen, fun i m hm => ⟨(h.each i m hm).1, (h.each i m hm).2.1, (h.each i m hm).2.2.1, ?_, (h.each i m hm).2.2.2.2⟩, ?_⟩
  · exact World.ownsRow.kept (h.each i m hm).2.2.2.1 hg (.inr fun e => by have := (World.ownsRow.lt (h0.each i m hm).2.2.2.1 g e).2; omega)
  · exact h.jobs.map hg.size fun u n xs e h1 => World.ownsRow.kept h1 hg (.inr fun e2 => by have := h0.jobs.lt g (e.symm.trans e2); omega)
theorem kept_more {B b gj : Nat} {W V V' : World} (h : ∀ k, k < B → k ≠ b → k ≠ gj → V.heap[k]? = W.heap[k]?) (hg : V.grownBy V' none) (hB : B ≤ V.heap.size) : ∀ k, k < B → k ≠ b → k ≠ gj → V'.heap[k]? = W.heap[k]? := fun k hk hb hj => (hg.block k (Nat.lt_of_lt_of_le hk hB) (by simp)).trans (h k hk hb hj)
theorem same_more {W V V' : World} {r : Option Nat} (h : V.os = W.os ∧ V.tape = W.tape ∧ V.output = W.output) (hg : V.grownBy V' r) : V'.os = W.os ∧ V'.tape = W.tape ∧ V'.output = W.output := ⟨hg.os.trans h.1, hg.tape.trans h.2.1, hg.output.trans h.2.2⟩
theorem same_of {W V V' : World} {r r' : Option Nat} (h : W.grownBy V r) (hg : V.grownBy V' r') : V'.os = W.os ∧ V'.tape = W.tape ∧ V'.output = W.output := same_more ⟨h.os, h.tape, h.output⟩ hg
set_option maxRecDepth 100000 in
set_option maxHeartbeats 16000000 in
theorem prun_some {lo b g n c i gj oj nj cj : Nat} {q : Value} {ms : List RunM} {L : LocV} (W : World) (h : PLoc lo q W b (.slice (some ⟨g, 0, none⟩) n c) (.slice (some ⟨gj, oj, none⟩) nj cj) ms L) (hn : 0 < nj) (hlj : L.jobs.length = nj) (h16 : nj ≤ 16) (hrow : rowMay L.jobs = true) (hi : i < n) (hlm : L.tasks.length = n) (hti : (headJ L).task = (i : Int)) (hm : chMay (headJ L) (L.taskAt i) L.level = true) (hu1 : 0 ≤ (headJ L).used) (hu2 : (headJ L).used < 65535) :
    Calls Tryz.prog 21 #[.pointer (some ⟨b, 0, none⟩)] W fun e w' => ∃ v, e = .returned (.tuple #[.agg #[.bool (chO (headJ L) (L.taskAt i) L.level), .bool (chD (headJ L) (L.taskAt i) L.level), .bool (chK (headJ L) (L.taskAt i) L.level)], v, .int .i64 0]) ∧ PNew lo q W.heap.size w' b (.slice (some ⟨g, 0, none⟩) n c) (.slice (some ⟨gj, oj, none⟩) nj cj) ms (if (chD (headJ L) (L.taskAt i) L.level || chK (headJ L) (L.taskAt i) L.level) = true then { L with jobs := L.jobs.drop 1 } else { L with jobs := oneMore (headJ L) :: L.jobs.drop 1 }) ∧ OwnE W.heap.size w' v (toldN (chO (headJ L) (L.taskAt i) L.level) (chD (headJ L) (L.taskAt i) L.level) (chK (headJ L) (L.taskAt i) L.level) L.idx (headJ L).task ((headJ L).used + 1) 3) ∧ (W.heap.size ≤ w'.heap.size ∧ w'.os = W.os ∧ w'.tape = W.tape ∧ w'.output = W.output) ∧ ∀ k, k < W.heap.size → k ≠ b → k ≠ gj → w'.heap[k]? = W.heap[k]? := by
  have hne : L.jobs ≠ [] := by intro e; rw [e] at hlj; simp at hlj; omega
  have hgj : gj < W.heap.size := h.jobs.lt gj rfl
  have HL0 := hide h
  have HBLT := hide (box_lt h.box)
  have HG0 := hide (World.grownBy_alloc W (.cells #[.bool false, .bool false, .bool false] 50) none)
  have HV0 := hide (heap_alloc_new W (.cells #[.bool false, .bool false, .bool false] 50))
  have HP0 := hide (h.grown HG0.out)
  have CF := hide (first_some _ HP0.out.jobs.row hrow hne)
  have CH := hide (fun V => ch_of hm V)
  have CD := hide (fun V (hV : PLoc lo q V b (.slice (some ⟨g, 0, none⟩) n c) (.slice (some ⟨gj, oj, none⟩) nj cj) ms L) => drop_any V hV hne (by omega))
  have CT := hide (fun (b : Nat) (idx : Int) (j : JobV) (O D K : Bool) (V : World) h0 => told_any b idx j O D K V h0)
  have HTK := hide (fun V (hV : PLoc lo q V b (.slice (some ⟨g, 0, none⟩) n c) (.slice (some ⟨gj, oj, none⟩) nj cj) ms L) => (hV.task (i := i) (by rw [hlm]; exact hi) : V.cell? ⟨g, i * 9, none⟩ = some (.int .i64 (L.taskAt i).kind) ∧ V.cell? ⟨g, i * 9 + 1, none⟩ = some (.int .i64 (L.taskAt i).period) ∧ V.cell? ⟨g, i * 9 + 2, none⟩ = some (.int .i64 (L.taskAt i).deadline) ∧ V.cell? ⟨g, i * 9 + 3, none⟩ = some (.int .i64 (L.taskAt i).clow) ∧ V.cell? ⟨g, i * 9 + 4, none⟩ = some (.int .i64 (L.taskAt i).chigh) ∧ V.cell? ⟨g, i * 9 + 5, none⟩ = some (.int .i64 (L.taskAt i).prio)))
  have c3 : (W.alloc (.cells #[.bool false, .bool false, .bool false] 50)).cell? ⟨b, 3, none⟩ = some (.slice (some ⟨gj, oj, none⟩) nj cj) := blk_cell HP0.out.box 3
  unfold headJ at *
  generalize chO (jobAt L.jobs 0) (L.taskAt i) L.level = O at *
  generalize chD (jobAt L.jobs 0) (L.taskAt i) L.level = D at *
  generalize chK (jobAt L.jobs 0) (L.taskAt i) L.level = K at *
  clear h hm hrow hne
  generalize hT : L.taskAt i = T at *
  obtain ⟨y0, y1, y2, y3, y4, y5⟩ := T
  clear hT
  generalize jobAt L.jobs 0 = j0 at *
  obtain ⟨x0, x1, x2, x3, x4, x5, x6⟩ := j0
  dsimp only [oneMore, jobVal, J.taskVal] at *
  subst hti
  generalize hU : x6 + 1 = u at *
  clear hU
  have hn0 : (0 : Int) < nj := by omega
  have him : (i : Int) < n := by omega
  have him0 : ¬((i : Int) < 0) := by omega
  go_enter Tryz.func21, Tryz.ntmps21
  go_upto_region 3 with (first | fail)
  generalize W.alloc (.cells #[.bool false, .bool false, .bool false] 50) = W1 at *
  generalize hB : W.heap.size = B2 at *
  have HB := hide hB
  clear hB
  go_wp2_with (first | fail)
  refine CF.out.mono ?_; rintro e w1 ⟨rfl, hg⟩
  have HB2 := hide (Nat.lt_of_lt_of_le (box_lt HV0.out) hg.size)
  have hg1 := grownBy_trans hg (World.grownBy_alloc w1 (.cells #[.int .i64 i, .int .i64 x1, .int .i64 x2, .int .i64 x3, .int .i64 x4, .int .i64 x5, .int .i64 x6] 70) none)
  have HV1 := hide (box_grown HV0.out hg1 (by simp))
  have HG1 := hide (grownBy_trans HG0.out hg1)
  have HP1 := hide (HP0.out.grown hg1)
  have HJ1 := hide (heap_alloc_new w1 (.cells #[.int .i64 i, .int .i64 x1, .int .i64 x2, .int .i64 x3, .int .i64 x4, .int .i64 x5, .int .i64 x6] 70))
  have HBB := hide (⟨HB2.out, Nat.le_of_lt HB2.out⟩ : B2 < w1.heap.size ∧ B2 ≤ w1.heap.size)
  rw [← HB.out] at HBB
  clear c3 hg hg1 CF HV0 HG0 HP0 HB2
  go_upto_region 6 with (first | fail)
  generalize w1.alloc (.cells #[.int .i64 i, .int .i64 x1, .int .i64 x2, .int .i64 x3, .int .i64 x4, .int .i64 x5, .int .i64 x6] 70) = w2 at *
  generalize w1.heap.size = BJ at *
  rw [HB.out] at HBB
  go_cut [7, 8] (fun p e wx => ∃ BV, p = .pointer (some ⟨BV, 0, none⟩) ∧ e = .int .i64 0 ∧ Hid (wx.heap[BJ]? = some (.cells #[.int .i64 i, .int .i64 x1, .int .i64 x2, .int .i64 x3, .int .i64 x4, .int .i64 x5, .int .i64 u] 70 (0, 0))) ∧ Hid (wx.heap[BV]? = some (.cells #[.bool O, .bool D, .bool K] 50 (0, 0))) ∧ Hid (wx.heap[B2]? = some (.cells #[.bool false, .bool false, .bool false] 50 (0, 0))) ∧ Hid (PLoc lo q wx b (.slice (some ⟨g, 0, none⟩) n c) (.slice (some ⟨gj, oj, none⟩) nj cj) ms L) ∧ Hid (W.grownBy wx none) ∧ Hid (B2 < BV ∧ BJ < BV))
  case first =>
    refine wp_region_held_drew (S := fun V => PLoc lo q V b (.slice (some ⟨g, 0, none⟩) n c) (.slice (some ⟨gj, oj, none⟩) nj cj) ms L) (by kernel_rfl) (HP1.out.grown (grownBy_draws w2 1 none)) (fun hHeld => ?_)
    have HGW := hide (grownBy_trans HG1.out (grownBy_draws w2 1 none))
    have HSS : Hid ((fun V => PLoc lo q V b (.slice (some ⟨g, 0, none⟩) n c) (.slice (some ⟨gj, oj, none⟩) nj cj) ms L) (w2.drewN 1)) := hide (HP1.out.grown (grownBy_draws w2 1 none))
    have H2 := hide (box_grown HV1.out (grownBy_draws w2 1 none) (by simp))
    have HJ := hide (box_grown HJ1.out (grownBy_draws w2 1 none) (by simp))
    have hdd : w2.drewN 1 = w2.drew := rfl
    rw [hdd] at HGW HSS H2 HJ
    clear hdd HP1 HG1 HV1 HJ1
    generalize w2.drew = V0 at *
    refine take_put (i := 1) (v := .pointer (some ⟨b, 0, none⟩)) 25 rfl rfl (by kernel_rfl) (by kernel_rfl) (by kernel_rfl) (fun _ _ _ h => h) (Or.inl ⟨by rfl, by intro Wy hSW; go_simp⟩) (by assumption) ?_
    (try simp only [Act.put, List.setIfInBounds_toArray, List.set_cons_zero, List.set_cons_succ])
    refine take_put (i := 2) (v := .pointer (some ⟨b, 0, none⟩)) 26 rfl rfl (by kernel_rfl) (by kernel_rfl) (by kernel_rfl) (fun _ _ _ h => h) (Or.inl ⟨by rfl, by intro Wy hSW; go_simp⟩) (by assumption) ?_
    (try simp only [Act.put, List.setIfInBounds_toArray, List.set_cons_zero, List.set_cons_succ])
    refine take_put (i := 3) (v := .pointer (some ⟨b, 2, none⟩)) 27 rfl rfl (by kernel_rfl) (by kernel_rfl) (by kernel_rfl) (fun _ _ _ h => h) (Or.inl ⟨by rfl, by intro Wy hSW; go_simp⟩) (by assumption) ?_
    (try simp only [Act.put, List.setIfInBounds_toArray, List.set_cons_zero, List.set_cons_succ])
    refine take_put (i := 4) (v := .slice (some ⟨g, 0, none⟩) n c) 28 rfl rfl (by kernel_rfl) (by kernel_rfl) (by kernel_rfl) (fun _ _ _ h => h) (Or.inl ⟨by rfl, by intro Wy hSW; have hc := blk_cell hSW.box 2; go_simp⟩) (by assumption) ?_
    (try simp only [Act.put, List.setIfInBounds_toArray, List.set_cons_zero, List.set_cons_succ])
    refine take_put (i := 5) (v := .pointer (some ⟨BJ, 0, none⟩)) 29 rfl rfl (by kernel_rfl) (by kernel_rfl) (by kernel_rfl) (fun _ _ _ h => h) (Or.inl ⟨by rfl, by intro Wy hSW; go_simp⟩) (by assumption) ?_
    (try simp only [Act.put, List.setIfInBounds_toArray, List.set_cons_zero, List.set_cons_succ])
    refine take_put (i := 10) (v := .pointer (some ⟨b, 0, none⟩)) 34 rfl rfl (by kernel_rfl) (by kernel_rfl) (by kernel_rfl) (fun _ _ _ h => h) (Or.inl ⟨by rfl, by intro Wy hSW; go_simp⟩) (by assumption) ?_
    (try simp only [Act.put, List.setIfInBounds_toArray, List.set_cons_zero, List.set_cons_succ])
    refine take_put (i := 11) (v := .pointer (some ⟨b, 0, none⟩)) 35 rfl rfl (by kernel_rfl) (by kernel_rfl) (by kernel_rfl) (fun _ _ _ h => h) (Or.inl ⟨by rfl, by intro Wy hSW; go_simp⟩) (by assumption) ?_
    (try simp only [Act.put, List.setIfInBounds_toArray, List.set_cons_zero, List.set_cons_succ])
    refine take_put (i := 12) (v := .pointer (some ⟨b, 1, none⟩)) 36 rfl rfl (by kernel_rfl) (by kernel_rfl) (by kernel_rfl) (fun _ _ _ h => h) (Or.inl ⟨by rfl, by intro Wy hSW; go_simp⟩) (by assumption) ?_
    (try simp only [Act.put, List.setIfInBounds_toArray, List.set_cons_zero, List.set_cons_succ])
    refine take_put (i := 13) (v := .int .i64 L.level) 37 rfl rfl (by kernel_rfl) (by kernel_rfl) (by kernel_rfl) (fun _ _ _ h => h) (Or.inl ⟨by rfl, by intro Wy hSW; have hc := blk_cell hSW.box 1; go_simp⟩) (by assumption) ?_
    (try simp only [Act.put, List.setIfInBounds_toArray, List.set_cons_zero, List.set_cons_succ])
    refine wpAnyH_ready (rs := [0, 6, 19]) (by kernel_rfl) (by simp) ?_
    refine AllReadyH.cons rfl (fun Kx hKx => ?_) (AllReadyH.cons rfl (fun Kx hKx => ?_) (AllReadyH.cons rfl (fun Kx hKx => ?_) AllReadyH.nil))
    · skip
      have j0 := blk_cell HJ.out 0
      have j1 := blk_cell HJ.out 1
      have j2 := blk_cell HJ.out 2
      have j3 := blk_cell HJ.out 3
      have j4 := blk_cell HJ.out 4
      have j5 := blk_cell HJ.out 5
      have j6 := blk_cell HJ.out 6
      go_simp
      clear j0 j1 j2 j3 j4 j5 j6 hHeld
      refine hKx.out _ _ HSS.out (fun hHeld => ?_)
      clear hKx Kx
      (try simp only [Act.put])
      refine wpAnyH_ready (rs := [6, 19]) (by kernel_rfl) (by simp) ?_
      refine AllReadyH.cons rfl (fun Kx hKx => ?_) (AllReadyH.cons rfl (fun Kx hKx => ?_) AllReadyH.nil)
      · skip
        have j0 := blk_cell HJ.out 0
        go_simp
        clear j0 hHeld
        refine hKx.out _ _ HSS.out (fun hHeld => ?_)
        clear hKx Kx
        (try simp only [Act.put])
        refine take_put (i := 7) (v := .pointer (some ⟨g, i * 9, none⟩)) 31 rfl rfl (by kernel_rfl) (by kernel_rfl) (by kernel_rfl) (fun _ _ _ h => h) (Or.inl ⟨by rfl, by intro Wy hSW; go_simp⟩) (by assumption) ?_
        (try simp only [Act.put, List.setIfInBounds_toArray, List.set_cons_zero, List.set_cons_succ])
        refine take_put (i := 8) (v := .pointer (some ⟨g, i * 9, none⟩)) 32 rfl rfl (by kernel_rfl) (by kernel_rfl) (by kernel_rfl) (fun _ _ _ h => h) (Or.inl ⟨by rfl, by intro Wy hSW; go_simp⟩) (by assumption) ?_
        (try simp only [Act.put, List.setIfInBounds_toArray, List.set_cons_zero, List.set_cons_succ])
        refine take_put (i := 9) (v := .agg #[.int .i64 y0, .int .i64 y1, .int .i64 y2, .int .i64 y3, .int .i64 y4, .int .i64 y5]) 33 rfl rfl (by kernel_rfl) (by kernel_rfl) (by kernel_rfl) (fun _ _ _ h => h) (Or.inl ⟨by rfl, by intro Wy hSW; have hc := HTK.out _ hSW; go_simp⟩) (by assumption) ?_
        (try simp only [Act.put, List.setIfInBounds_toArray, List.set_cons_zero, List.set_cons_succ])
        refine wpAnyH_ready (rs := [14, 19]) (by kernel_rfl) (by simp) ?_
        refine AllReadyH.cons rfl (fun Kx hKx => ?_) (AllReadyH.cons rfl (fun Kx hKx => ?_) AllReadyH.nil)
        · skip
          go_simp
          refine (CH.out _).mono ?_; rintro e V3 ⟨rfl, hg⟩
          have HGWn := hide (grownBy_trans HGW.out hg)
          have HSSn : Hid ((fun V => PLoc lo q V b (.slice (some ⟨g, 0, none⟩) n c) (.slice (some ⟨gj, oj, none⟩) nj cj) ms L) V3) := hide (HSS.out.grown hg)
          have H2n := hide (box_grown H2.out hg (by simp))
          have HJn := hide (box_grown HJ.out hg (by simp))
          clear HGW HSS hHeld H2 HJ
          have HGW := HGWn
          have HSS := HSSn
          have H2 := H2n
          have HJ := HJn
          clear HGWn HSSn H2n HJn
          clear hg
          refine hKx.out _ _ HSS.out (fun hHeld => ?_)
          clear hKx Kx
          (try simp only [Act.put])
          refine take_put (i := 15) (v := .tuple #[.agg #[.int .i64 i, .int .i64 x1, .int .i64 x2, .int .i64 x3, .int .i64 x4, .int .i64 x5, .int .i64 u], .agg #[.bool O, .bool D, .bool K], .int .i64 0]) 23 rfl rfl (by kernel_rfl) (by kernel_rfl) (by kernel_rfl) (fun _ _ _ h => h) (Or.inl ⟨by rfl, by intro Wy hSW; go_simp⟩) (by assumption) ?_
          (try simp only [Act.put, List.setIfInBounds_toArray, List.set_cons_zero, List.set_cons_succ])
          refine take_put (i := 16) (v := .agg #[.int .i64 i, .int .i64 x1, .int .i64 x2, .int .i64 x3, .int .i64 x4, .int .i64 x5, .int .i64 u]) 39 rfl rfl (by kernel_rfl) (by kernel_rfl) (by kernel_rfl) (fun _ _ _ h => h) (Or.inl ⟨by rfl, by intro Wy hSW; go_simp⟩) (by assumption) ?_
          (try simp only [Act.put, List.setIfInBounds_toArray, List.set_cons_zero, List.set_cons_succ])
          refine take_put (i := 17) (v := .agg #[.bool O, .bool D, .bool K]) 40 rfl rfl (by kernel_rfl) (by kernel_rfl) (by kernel_rfl) (fun _ _ _ h => h) (Or.inl ⟨by rfl, by intro Wy hSW; go_simp⟩) (by assumption) ?_
          (try simp only [Act.put, List.setIfInBounds_toArray, List.set_cons_zero, List.set_cons_succ])
          refine take_put (i := 18) (v := .int .i64 0) 41 rfl rfl (by kernel_rfl) (by kernel_rfl) (by kernel_rfl) (fun _ _ _ h => h) (Or.inl ⟨by rfl, by intro Wy hSW; go_simp⟩) (by assumption) ?_
          (try simp only [Act.put, List.setIfInBounds_toArray, List.set_cons_zero, List.set_cons_succ])
          refine wpAnyH_ready (rs := [19]) (by kernel_rfl) (by simp) ?_
          refine AllReadyH.cons rfl (fun Kx hKx => ?_) AllReadyH.nil
          go_simp
          have hg := World.grownBy_alloc V3 (.cells #[.bool false, .bool false, .bool false] 50) none
          have HVq := hide (heap_alloc_new V3 (.cells #[.bool false, .bool false, .bool false] 50))
          have LV : Hid (B2 < V3.heap.size ∧ BJ < V3.heap.size) := hide ⟨box_lt H2.out, box_lt HJ.out⟩
          have HGWn := hide (grownBy_trans HGW.out hg)
          have HSSn : Hid ((fun V => PLoc lo q V b (.slice (some ⟨g, 0, none⟩) n c) (.slice (some ⟨gj, oj, none⟩) nj cj) ms L) (V3.alloc (.cells #[.bool false, .bool false, .bool false] 50))) := hide (HSS.out.grown hg)
          have H2n := hide (box_grown H2.out hg (by simp))
          have HJn := hide (box_grown HJ.out hg (by simp))
          clear HGW HSS hHeld H2 HJ
          have HGW := HGWn
          have HSS := HSSn
          have H2 := H2n
          have HJ := HJn
          clear HGWn HSSn H2n HJn
          clear hg
          have HV := HVq
          clear HVq
          refine hKx.out _ _ HSS.out (fun hHeld => ?_)
          clear hKx Kx
          (try simp only [Act.put])
          generalize V3.alloc (.cells #[.bool false, .bool false, .bool false] 50) = V4 at *
          generalize V3.heap.size = BV at *
          refine wpAnyH_ready (rs := [20]) (by kernel_rfl) (by simp) ?_
          refine AllReadyH.cons rfl (fun Kx hKx => ?_) AllReadyH.nil
          refine step_store 70 (.tmp 5) (.tmp 39) BJ #[.int .i64 i, .int .i64 x1, .int .i64 x2, .int .i64 x3, .int .i64 x4, .int .i64 x5, .int .i64 u] 70 #[.int .i64 i, .int .i64 x1, .int .i64 x2, .int .i64 x3, .int .i64 x4, .int .i64 x5, .int .i64 x6] rfl rfl HJ.out J.sizeJ rfl (by simp [Value.oneCell']) ?_
          intro V5 h1 e1 g1
          have HGWn := hide (grown_spoil HGW.out (by rw [HB.out]; exact HBB.out.2) g1)
          have HSSn : Hid ((fun V => PLoc lo q V b (.slice (some ⟨g, 0, none⟩) n c) (.slice (some ⟨gj, oj, none⟩) nj cj) ms L) V5) := hide (HSS.out.fresh HL0.out g1 (by rw [HB.out]; exact HBB.out.2))
          have H2n := hide ((e1 B2 (by have := HBB.out.1; omega)).trans H2.out)
          have HJn := hide h1
          have HVn := hide ((e1 BV (by have := LV.out.2; omega)).trans HV.out)
          clear hHeld h1 e1 g1 HGW HSS H2 HJ HV
          have HGW := HGWn
          have HSS := HSSn
          have H2 := H2n
          have HJ := HJn
          have HV := HVn
          clear HGWn HSSn H2n HJn HVn
          refine hKx.out _ _ HSS.out (fun hHeld => ?_)
          clear hKx Kx
          (try simp only [Act.put])
          refine wpAnyH_ready (rs := [21]) (by kernel_rfl) (by simp) ?_
          refine AllReadyH.cons rfl (fun Kx hKx => ?_) AllReadyH.nil
          refine step_store 50 (.tmp 7) (.tmp 40) BV #[.bool O, .bool D, .bool K] 50 #[.bool false, .bool false, .bool false] rfl rfl HV.out sizeVp rfl (by simp [Value.oneCell']) ?_
          intro V6 h1 e1 g1
          have HGWn := hide (grown_spoil HGW.out (by rw [HB.out]; exact Nat.le_of_lt LV.out.1) g1)
          have HSSn : Hid ((fun V => PLoc lo q V b (.slice (some ⟨g, 0, none⟩) n c) (.slice (some ⟨gj, oj, none⟩) nj cj) ms L) V6) := hide (HSS.out.off g1 (type_box HV.out) (by decide) (by decide) (by decide) (by decide))
          have H2n := hide ((e1 B2 (by have := LV.out.1; omega)).trans H2.out)
          have HJn := hide ((e1 BJ (by have := LV.out.2; omega)).trans HJ.out)
          have HVn := hide h1
          clear hHeld h1 e1 g1 HGW HSS H2 HJ HV
          have HGW := HGWn
          have HSS := HSSn
          have H2 := H2n
          have HJ := HJn
          have HV := HVn
          clear HGWn HSSn H2n HJn HVn
          refine hKx.out _ _ HSS.out (fun hHeld => ?_)
          clear hKx Kx
          (try simp only [Act.put])
          refine take_put (i := 22) (v := .int .i64 0) 8 rfl rfl (by kernel_rfl) (by kernel_rfl) (by kernel_rfl) (fun _ _ _ h => h) (Or.inl ⟨by rfl, by intro Wy hSW; go_simp⟩) (by assumption) ?_
          (try simp only [Act.put, List.setIfInBounds_toArray, List.set_cons_zero, List.set_cons_succ])
          refine wpAnyH_done (by kernel_rfl) ?_ _
          clear hHeld
          go_wp2
          go_meet
          case rel => exact ⟨BV, rfl, rfl, HJ, HV, H2, hide HSS.out, HGW, LV⟩
        · skip
          go_simp
          have hg := World.grownBy_alloc V0 (.cells #[.bool false, .bool false, .bool false] 50) none
          have HVq := hide (heap_alloc_new V0 (.cells #[.bool false, .bool false, .bool false] 50))
          have LV : Hid (B2 < V0.heap.size ∧ BJ < V0.heap.size) := hide ⟨box_lt H2.out, box_lt HJ.out⟩
          have HGWn := hide (grownBy_trans HGW.out hg)
          have HSSn : Hid ((fun V => PLoc lo q V b (.slice (some ⟨g, 0, none⟩) n c) (.slice (some ⟨gj, oj, none⟩) nj cj) ms L) (V0.alloc (.cells #[.bool false, .bool false, .bool false] 50))) := hide (HSS.out.grown hg)
          have H2n := hide (box_grown H2.out hg (by simp))
          have HJn := hide (box_grown HJ.out hg (by simp))
          clear HGW HSS hHeld H2 HJ
          have HGW := HGWn
          have HSS := HSSn
          have H2 := H2n
          have HJ := HJn
          clear HGWn HSSn H2n HJn
          clear hg
          have HV := HVq
          clear HVq
          refine hKx.out _ _ HSS.out (fun hHeld => ?_)
          clear hKx Kx
          (try simp only [Act.put])
          generalize V0.alloc (.cells #[.bool false, .bool false, .bool false] 50) = V7 at *
          generalize V0.heap.size = BV at *
          refine wpAnyH_ready (rs := [14]) (by kernel_rfl) (by simp) ?_
          refine AllReadyH.cons rfl (fun Kx hKx => ?_) AllReadyH.nil
          go_simp
          refine (CH.out _).mono ?_; rintro e V8 ⟨rfl, hg⟩
          have HGWn := hide (grownBy_trans HGW.out hg)
          have HSSn : Hid ((fun V => PLoc lo q V b (.slice (some ⟨g, 0, none⟩) n c) (.slice (some ⟨gj, oj, none⟩) nj cj) ms L) V8) := hide (HSS.out.grown hg)
          have H2n := hide (box_grown H2.out hg (by simp))
          have HJn := hide (box_grown HJ.out hg (by simp))
          have HVn := hide (box_grown HV.out hg (by simp))
          clear HGW HSS hHeld H2 HJ HV
          have HGW := HGWn
          have HSS := HSSn
          have H2 := H2n
          have HJ := HJn
          have HV := HVn
          clear HGWn HSSn H2n HJn HVn
          clear hg
          refine hKx.out _ _ HSS.out (fun hHeld => ?_)
          clear hKx Kx
          (try simp only [Act.put])
          refine take_put (i := 15) (v := .tuple #[.agg #[.int .i64 i, .int .i64 x1, .int .i64 x2, .int .i64 x3, .int .i64 x4, .int .i64 x5, .int .i64 u], .agg #[.bool O, .bool D, .bool K], .int .i64 0]) 23 rfl rfl (by kernel_rfl) (by kernel_rfl) (by kernel_rfl) (fun _ _ _ h => h) (Or.inl ⟨by rfl, by intro Wy hSW; go_simp⟩) (by assumption) ?_
          (try simp only [Act.put, List.setIfInBounds_toArray, List.set_cons_zero, List.set_cons_succ])
          refine take_put (i := 16) (v := .agg #[.int .i64 i, .int .i64 x1, .int .i64 x2, .int .i64 x3, .int .i64 x4, .int .i64 x5, .int .i64 u]) 39 rfl rfl (by kernel_rfl) (by kernel_rfl) (by kernel_rfl) (fun _ _ _ h => h) (Or.inl ⟨by rfl, by intro Wy hSW; go_simp⟩) (by assumption) ?_
          (try simp only [Act.put, List.setIfInBounds_toArray, List.set_cons_zero, List.set_cons_succ])
          refine take_put (i := 17) (v := .agg #[.bool O, .bool D, .bool K]) 40 rfl rfl (by kernel_rfl) (by kernel_rfl) (by kernel_rfl) (fun _ _ _ h => h) (Or.inl ⟨by rfl, by intro Wy hSW; go_simp⟩) (by assumption) ?_
          (try simp only [Act.put, List.setIfInBounds_toArray, List.set_cons_zero, List.set_cons_succ])
          refine take_put (i := 18) (v := .int .i64 0) 41 rfl rfl (by kernel_rfl) (by kernel_rfl) (by kernel_rfl) (fun _ _ _ h => h) (Or.inl ⟨by rfl, by intro Wy hSW; go_simp⟩) (by assumption) ?_
          (try simp only [Act.put, List.setIfInBounds_toArray, List.set_cons_zero, List.set_cons_succ])
          refine wpAnyH_ready (rs := [20]) (by kernel_rfl) (by simp) ?_
          refine AllReadyH.cons rfl (fun Kx hKx => ?_) AllReadyH.nil
          refine step_store 70 (.tmp 5) (.tmp 39) BJ #[.int .i64 i, .int .i64 x1, .int .i64 x2, .int .i64 x3, .int .i64 x4, .int .i64 x5, .int .i64 u] 70 #[.int .i64 i, .int .i64 x1, .int .i64 x2, .int .i64 x3, .int .i64 x4, .int .i64 x5, .int .i64 x6] rfl rfl HJ.out J.sizeJ rfl (by simp [Value.oneCell']) ?_
          intro V9 h1 e1 g1
          have HGWn := hide (grown_spoil HGW.out (by rw [HB.out]; exact HBB.out.2) g1)
          have HSSn : Hid ((fun V => PLoc lo q V b (.slice (some ⟨g, 0, none⟩) n c) (.slice (some ⟨gj, oj, none⟩) nj cj) ms L) V9) := hide (HSS.out.fresh HL0.out g1 (by rw [HB.out]; exact HBB.out.2))
          have H2n := hide ((e1 B2 (by have := HBB.out.1; omega)).trans H2.out)
          have HJn := hide h1
          have HVn := hide ((e1 BV (by have := LV.out.2; omega)).trans HV.out)
          clear hHeld h1 e1 g1 HGW HSS H2 HJ HV
          have HGW := HGWn
          have HSS := HSSn
          have H2 := H2n
          have HJ := HJn
          have HV := HVn
          clear HGWn HSSn H2n HJn HVn
          refine hKx.out _ _ HSS.out (fun hHeld => ?_)
          clear hKx Kx
          (try simp only [Act.put])
          refine wpAnyH_ready (rs := [21]) (by kernel_rfl) (by simp) ?_
          refine AllReadyH.cons rfl (fun Kx hKx => ?_) AllReadyH.nil
          refine step_store 50 (.tmp 7) (.tmp 40) BV #[.bool O, .bool D, .bool K] 50 #[.bool false, .bool false, .bool false] rfl rfl HV.out sizeVp rfl (by simp [Value.oneCell']) ?_
          intro V10 h1 e1 g1
          have HGWn := hide (grown_spoil HGW.out (by rw [HB.out]; exact Nat.le_of_lt LV.out.1) g1)
          have HSSn : Hid ((fun V => PLoc lo q V b (.slice (some ⟨g, 0, none⟩) n c) (.slice (some ⟨gj, oj, none⟩) nj cj) ms L) V10) := hide (HSS.out.off g1 (type_box HV.out) (by decide) (by decide) (by decide) (by decide))
          have H2n := hide ((e1 B2 (by have := LV.out.1; omega)).trans H2.out)
          have HJn := hide ((e1 BJ (by have := LV.out.2; omega)).trans HJ.out)
          have HVn := hide h1
          clear hHeld h1 e1 g1 HGW HSS H2 HJ HV
          have HGW := HGWn
          have HSS := HSSn
          have H2 := H2n
          have HJ := HJn
          have HV := HVn
          clear HGWn HSSn H2n HJn HVn
          refine hKx.out _ _ HSS.out (fun hHeld => ?_)
          clear hKx Kx
          (try simp only [Act.put])
          refine take_put (i := 22) (v := .int .i64 0) 8 rfl rfl (by kernel_rfl) (by kernel_rfl) (by kernel_rfl) (fun _ _ _ h => h) (Or.inl ⟨by rfl, by intro Wy hSW; go_simp⟩) (by assumption) ?_
          (try simp only [Act.put, List.setIfInBounds_toArray, List.set_cons_zero, List.set_cons_succ])
          refine wpAnyH_done (by kernel_rfl) ?_ _
          clear hHeld
          go_wp2
          go_meet
          case rel => exact ⟨BV, rfl, rfl, HJ, HV, H2, hide HSS.out, HGW, LV⟩
      · skip
        go_simp
        have hg := World.grownBy_alloc V0 (.cells #[.bool false, .bool false, .bool false] 50) none
        have HVq := hide (heap_alloc_new V0 (.cells #[.bool false, .bool false, .bool false] 50))
        have LV : Hid (B2 < V0.heap.size ∧ BJ < V0.heap.size) := hide ⟨box_lt H2.out, box_lt HJ.out⟩
        have HGWn := hide (grownBy_trans HGW.out hg)
        have HSSn : Hid ((fun V => PLoc lo q V b (.slice (some ⟨g, 0, none⟩) n c) (.slice (some ⟨gj, oj, none⟩) nj cj) ms L) (V0.alloc (.cells #[.bool false, .bool false, .bool false] 50))) := hide (HSS.out.grown hg)
        have H2n := hide (box_grown H2.out hg (by simp))
        have HJn := hide (box_grown HJ.out hg (by simp))
        clear HGW HSS hHeld H2 HJ
        have HGW := HGWn
        have HSS := HSSn
        have H2 := H2n
        have HJ := HJn
        clear HGWn HSSn H2n HJn
        clear hg
        have HV := HVq
        clear HVq
        refine hKx.out _ _ HSS.out (fun hHeld => ?_)
        clear hKx Kx
        (try simp only [Act.put])
        generalize V0.alloc (.cells #[.bool false, .bool false, .bool false] 50) = V11 at *
        generalize V0.heap.size = BV at *
        refine wpAnyH_ready (rs := [6]) (by kernel_rfl) (by simp) ?_
        refine AllReadyH.cons rfl (fun Kx hKx => ?_) AllReadyH.nil
        have j0 := blk_cell HJ.out 0
        go_simp
        clear j0 hHeld
        refine hKx.out _ _ HSS.out (fun hHeld => ?_)
        clear hKx Kx
        (try simp only [Act.put])
        refine take_put (i := 7) (v := .pointer (some ⟨g, i * 9, none⟩)) 31 rfl rfl (by kernel_rfl) (by kernel_rfl) (by kernel_rfl) (fun _ _ _ h => h) (Or.inl ⟨by rfl, by intro Wy hSW; go_simp⟩) (by assumption) ?_
        (try simp only [Act.put, List.setIfInBounds_toArray, List.set_cons_zero, List.set_cons_succ])
        refine take_put (i := 8) (v := .pointer (some ⟨g, i * 9, none⟩)) 32 rfl rfl (by kernel_rfl) (by kernel_rfl) (by kernel_rfl) (fun _ _ _ h => h) (Or.inl ⟨by rfl, by intro Wy hSW; go_simp⟩) (by assumption) ?_
        (try simp only [Act.put, List.setIfInBounds_toArray, List.set_cons_zero, List.set_cons_succ])
        refine take_put (i := 9) (v := .agg #[.int .i64 y0, .int .i64 y1, .int .i64 y2, .int .i64 y3, .int .i64 y4, .int .i64 y5]) 33 rfl rfl (by kernel_rfl) (by kernel_rfl) (by kernel_rfl) (fun _ _ _ h => h) (Or.inl ⟨by rfl, by intro Wy hSW; have hc := HTK.out _ hSW; go_simp⟩) (by assumption) ?_
        (try simp only [Act.put, List.setIfInBounds_toArray, List.set_cons_zero, List.set_cons_succ])
        refine wpAnyH_ready (rs := [14]) (by kernel_rfl) (by simp) ?_
        refine AllReadyH.cons rfl (fun Kx hKx => ?_) AllReadyH.nil
        go_simp
        refine (CH.out _).mono ?_; rintro e V13 ⟨rfl, hg⟩
        have HGWn := hide (grownBy_trans HGW.out hg)
        have HSSn : Hid ((fun V => PLoc lo q V b (.slice (some ⟨g, 0, none⟩) n c) (.slice (some ⟨gj, oj, none⟩) nj cj) ms L) V13) := hide (HSS.out.grown hg)
        have H2n := hide (box_grown H2.out hg (by simp))
        have HJn := hide (box_grown HJ.out hg (by simp))
        have HVn := hide (box_grown HV.out hg (by simp))
        clear HGW HSS hHeld H2 HJ HV
        have HGW := HGWn
        have HSS := HSSn
        have H2 := H2n
        have HJ := HJn
        have HV := HVn
        clear HGWn HSSn H2n HJn HVn
        clear hg
        refine hKx.out _ _ HSS.out (fun hHeld => ?_)
        clear hKx Kx
        (try simp only [Act.put])
        refine take_put (i := 15) (v := .tuple #[.agg #[.int .i64 i, .int .i64 x1, .int .i64 x2, .int .i64 x3, .int .i64 x4, .int .i64 x5, .int .i64 u], .agg #[.bool O, .bool D, .bool K], .int .i64 0]) 23 rfl rfl (by kernel_rfl) (by kernel_rfl) (by kernel_rfl) (fun _ _ _ h => h) (Or.inl ⟨by rfl, by intro Wy hSW; go_simp⟩) (by assumption) ?_
        (try simp only [Act.put, List.setIfInBounds_toArray, List.set_cons_zero, List.set_cons_succ])
        refine take_put (i := 16) (v := .agg #[.int .i64 i, .int .i64 x1, .int .i64 x2, .int .i64 x3, .int .i64 x4, .int .i64 x5, .int .i64 u]) 39 rfl rfl (by kernel_rfl) (by kernel_rfl) (by kernel_rfl) (fun _ _ _ h => h) (Or.inl ⟨by rfl, by intro Wy hSW; go_simp⟩) (by assumption) ?_
        (try simp only [Act.put, List.setIfInBounds_toArray, List.set_cons_zero, List.set_cons_succ])
        refine take_put (i := 17) (v := .agg #[.bool O, .bool D, .bool K]) 40 rfl rfl (by kernel_rfl) (by kernel_rfl) (by kernel_rfl) (fun _ _ _ h => h) (Or.inl ⟨by rfl, by intro Wy hSW; go_simp⟩) (by assumption) ?_
        (try simp only [Act.put, List.setIfInBounds_toArray, List.set_cons_zero, List.set_cons_succ])
        refine take_put (i := 18) (v := .int .i64 0) 41 rfl rfl (by kernel_rfl) (by kernel_rfl) (by kernel_rfl) (fun _ _ _ h => h) (Or.inl ⟨by rfl, by intro Wy hSW; go_simp⟩) (by assumption) ?_
        (try simp only [Act.put, List.setIfInBounds_toArray, List.set_cons_zero, List.set_cons_succ])
        refine wpAnyH_ready (rs := [20]) (by kernel_rfl) (by simp) ?_
        refine AllReadyH.cons rfl (fun Kx hKx => ?_) AllReadyH.nil
        refine step_store 70 (.tmp 5) (.tmp 39) BJ #[.int .i64 i, .int .i64 x1, .int .i64 x2, .int .i64 x3, .int .i64 x4, .int .i64 x5, .int .i64 u] 70 #[.int .i64 i, .int .i64 x1, .int .i64 x2, .int .i64 x3, .int .i64 x4, .int .i64 x5, .int .i64 x6] rfl rfl HJ.out J.sizeJ rfl (by simp [Value.oneCell']) ?_
        intro V14 h1 e1 g1
        have HGWn := hide (grown_spoil HGW.out (by rw [HB.out]; exact HBB.out.2) g1)
        have HSSn : Hid ((fun V => PLoc lo q V b (.slice (some ⟨g, 0, none⟩) n c) (.slice (some ⟨gj, oj, none⟩) nj cj) ms L) V14) := hide (HSS.out.fresh HL0.out g1 (by rw [HB.out]; exact HBB.out.2))
        have H2n := hide ((e1 B2 (by have := HBB.out.1; omega)).trans H2.out)
        have HJn := hide h1
        have HVn := hide ((e1 BV (by have := LV.out.2; omega)).trans HV.out)
        clear hHeld h1 e1 g1 HGW HSS H2 HJ HV
        have HGW := HGWn
        have HSS := HSSn
        have H2 := H2n
        have HJ := HJn
        have HV := HVn
        clear HGWn HSSn H2n HJn HVn
        refine hKx.out _ _ HSS.out (fun hHeld => ?_)
        clear hKx Kx
        (try simp only [Act.put])
        refine wpAnyH_ready (rs := [21]) (by kernel_rfl) (by simp) ?_
        refine AllReadyH.cons rfl (fun Kx hKx => ?_) AllReadyH.nil
        refine step_store 50 (.tmp 7) (.tmp 40) BV #[.bool O, .bool D, .bool K] 50 #[.bool false, .bool false, .bool false] rfl rfl HV.out sizeVp rfl (by simp [Value.oneCell']) ?_
        intro V15 h1 e1 g1
        have HGWn := hide (grown_spoil HGW.out (by rw [HB.out]; exact Nat.le_of_lt LV.out.1) g1)
        have HSSn : Hid ((fun V => PLoc lo q V b (.slice (some ⟨g, 0, none⟩) n c) (.slice (some ⟨gj, oj, none⟩) nj cj) ms L) V15) := hide (HSS.out.off g1 (type_box HV.out) (by decide) (by decide) (by decide) (by decide))
        have H2n := hide ((e1 B2 (by have := LV.out.1; omega)).trans H2.out)
        have HJn := hide ((e1 BJ (by have := LV.out.2; omega)).trans HJ.out)
        have HVn := hide h1
        clear hHeld h1 e1 g1 HGW HSS H2 HJ HV
        have HGW := HGWn
        have HSS := HSSn
        have H2 := H2n
        have HJ := HJn
        have HV := HVn
        clear HGWn HSSn H2n HJn HVn
        refine hKx.out _ _ HSS.out (fun hHeld => ?_)
        clear hKx Kx
        (try simp only [Act.put])
        refine take_put (i := 22) (v := .int .i64 0) 8 rfl rfl (by kernel_rfl) (by kernel_rfl) (by kernel_rfl) (fun _ _ _ h => h) (Or.inl ⟨by rfl, by intro Wy hSW; go_simp⟩) (by assumption) ?_
        (try simp only [Act.put, List.setIfInBounds_toArray, List.set_cons_zero, List.set_cons_succ])
        refine wpAnyH_done (by kernel_rfl) ?_ _
        clear hHeld
        go_wp2
        go_meet
        case rel => exact ⟨BV, rfl, rfl, HJ, HV, H2, hide HSS.out, HGW, LV⟩
    · skip
      have j0 := blk_cell HJ.out 0
      go_simp
      clear j0 hHeld
      refine hKx.out _ _ HSS.out (fun hHeld => ?_)
      clear hKx Kx
      (try simp only [Act.put])
      refine take_put (i := 7) (v := .pointer (some ⟨g, i * 9, none⟩)) 31 rfl rfl (by kernel_rfl) (by kernel_rfl) (by kernel_rfl) (fun _ _ _ h => h) (Or.inl ⟨by rfl, by intro Wy hSW; go_simp⟩) (by assumption) ?_
      (try simp only [Act.put, List.setIfInBounds_toArray, List.set_cons_zero, List.set_cons_succ])
      refine take_put (i := 8) (v := .pointer (some ⟨g, i * 9, none⟩)) 32 rfl rfl (by kernel_rfl) (by kernel_rfl) (by kernel_rfl) (fun _ _ _ h => h) (Or.inl ⟨by rfl, by intro Wy hSW; go_simp⟩) (by assumption) ?_
      (try simp only [Act.put, List.setIfInBounds_toArray, List.set_cons_zero, List.set_cons_succ])
      refine take_put (i := 9) (v := .agg #[.int .i64 y0, .int .i64 y1, .int .i64 y2, .int .i64 y3, .int .i64 y4, .int .i64 y5]) 33 rfl rfl (by kernel_rfl) (by kernel_rfl) (by kernel_rfl) (fun _ _ _ h => h) (Or.inl ⟨by rfl, by intro Wy hSW; have hc := HTK.out _ hSW; go_simp⟩) (by assumption) ?_
      (try simp only [Act.put, List.setIfInBounds_toArray, List.set_cons_zero, List.set_cons_succ])
      refine wpAnyH_ready (rs := [0, 19]) (by kernel_rfl) (by simp) ?_
      refine AllReadyH.cons rfl (fun Kx hKx => ?_) (AllReadyH.cons rfl (fun Kx hKx => ?_) AllReadyH.nil)
      · skip
        have j0 := blk_cell HJ.out 0
        have j1 := blk_cell HJ.out 1
        have j2 := blk_cell HJ.out 2
        have j3 := blk_cell HJ.out 3
        have j4 := blk_cell HJ.out 4
        have j5 := blk_cell HJ.out 5
        have j6 := blk_cell HJ.out 6
        go_simp
        clear j0 j1 j2 j3 j4 j5 j6 hHeld
        refine hKx.out _ _ HSS.out (fun hHeld => ?_)
        clear hKx Kx
        (try simp only [Act.put])
        refine wpAnyH_ready (rs := [14, 19]) (by kernel_rfl) (by simp) ?_
        refine AllReadyH.cons rfl (fun Kx hKx => ?_) (AllReadyH.cons rfl (fun Kx hKx => ?_) AllReadyH.nil)
        · skip
          go_simp
          refine (CH.out _).mono ?_; rintro e V18 ⟨rfl, hg⟩
          have HGWn := hide (grownBy_trans HGW.out hg)
          have HSSn : Hid ((fun V => PLoc lo q V b (.slice (some ⟨g, 0, none⟩) n c) (.slice (some ⟨gj, oj, none⟩) nj cj) ms L) V18) := hide (HSS.out.grown hg)
          have H2n := hide (box_grown H2.out hg (by simp))
          have HJn := hide (box_grown HJ.out hg (by simp))
          clear HGW HSS hHeld H2 HJ
          have HGW := HGWn
          have HSS := HSSn
          have H2 := H2n
          have HJ := HJn
          clear HGWn HSSn H2n HJn
          clear hg
          refine hKx.out _ _ HSS.out (fun hHeld => ?_)
          clear hKx Kx
          (try simp only [Act.put])
          refine take_put (i := 15) (v := .tuple #[.agg #[.int .i64 i, .int .i64 x1, .int .i64 x2, .int .i64 x3, .int .i64 x4, .int .i64 x5, .int .i64 u], .agg #[.bool O, .bool D, .bool K], .int .i64 0]) 23 rfl rfl (by kernel_rfl) (by kernel_rfl) (by kernel_rfl) (fun _ _ _ h => h) (Or.inl ⟨by rfl, by intro Wy hSW; go_simp⟩) (by assumption) ?_
          (try simp only [Act.put, List.setIfInBounds_toArray, List.set_cons_zero, List.set_cons_succ])
          refine take_put (i := 16) (v := .agg #[.int .i64 i, .int .i64 x1, .int .i64 x2, .int .i64 x3, .int .i64 x4, .int .i64 x5, .int .i64 u]) 39 rfl rfl (by kernel_rfl) (by kernel_rfl) (by kernel_rfl) (fun _ _ _ h => h) (Or.inl ⟨by rfl, by intro Wy hSW; go_simp⟩) (by assumption) ?_
          (try simp only [Act.put, List.setIfInBounds_toArray, List.set_cons_zero, List.set_cons_succ])
          refine take_put (i := 17) (v := .agg #[.bool O, .bool D, .bool K]) 40 rfl rfl (by kernel_rfl) (by kernel_rfl) (by kernel_rfl) (fun _ _ _ h => h) (Or.inl ⟨by rfl, by intro Wy hSW; go_simp⟩) (by assumption) ?_
          (try simp only [Act.put, List.setIfInBounds_toArray, List.set_cons_zero, List.set_cons_succ])
          refine take_put (i := 18) (v := .int .i64 0) 41 rfl rfl (by kernel_rfl) (by kernel_rfl) (by kernel_rfl) (fun _ _ _ h => h) (Or.inl ⟨by rfl, by intro Wy hSW; go_simp⟩) (by assumption) ?_
          (try simp only [Act.put, List.setIfInBounds_toArray, List.set_cons_zero, List.set_cons_succ])
          refine wpAnyH_ready (rs := [19]) (by kernel_rfl) (by simp) ?_
          refine AllReadyH.cons rfl (fun Kx hKx => ?_) AllReadyH.nil
          go_simp
          have hg := World.grownBy_alloc V18 (.cells #[.bool false, .bool false, .bool false] 50) none
          have HVq := hide (heap_alloc_new V18 (.cells #[.bool false, .bool false, .bool false] 50))
          have LV : Hid (B2 < V18.heap.size ∧ BJ < V18.heap.size) := hide ⟨box_lt H2.out, box_lt HJ.out⟩
          have HGWn := hide (grownBy_trans HGW.out hg)
          have HSSn : Hid ((fun V => PLoc lo q V b (.slice (some ⟨g, 0, none⟩) n c) (.slice (some ⟨gj, oj, none⟩) nj cj) ms L) (V18.alloc (.cells #[.bool false, .bool false, .bool false] 50))) := hide (HSS.out.grown hg)
          have H2n := hide (box_grown H2.out hg (by simp))
          have HJn := hide (box_grown HJ.out hg (by simp))
          clear HGW HSS hHeld H2 HJ
          have HGW := HGWn
          have HSS := HSSn
          have H2 := H2n
          have HJ := HJn
          clear HGWn HSSn H2n HJn
          clear hg
          have HV := HVq
          clear HVq
          refine hKx.out _ _ HSS.out (fun hHeld => ?_)
          clear hKx Kx
          (try simp only [Act.put])
          generalize V18.alloc (.cells #[.bool false, .bool false, .bool false] 50) = V19 at *
          generalize V18.heap.size = BV at *
          refine wpAnyH_ready (rs := [20]) (by kernel_rfl) (by simp) ?_
          refine AllReadyH.cons rfl (fun Kx hKx => ?_) AllReadyH.nil
          refine step_store 70 (.tmp 5) (.tmp 39) BJ #[.int .i64 i, .int .i64 x1, .int .i64 x2, .int .i64 x3, .int .i64 x4, .int .i64 x5, .int .i64 u] 70 #[.int .i64 i, .int .i64 x1, .int .i64 x2, .int .i64 x3, .int .i64 x4, .int .i64 x5, .int .i64 x6] rfl rfl HJ.out J.sizeJ rfl (by simp [Value.oneCell']) ?_
          intro V20 h1 e1 g1
          have HGWn := hide (grown_spoil HGW.out (by rw [HB.out]; exact HBB.out.2) g1)
          have HSSn : Hid ((fun V => PLoc lo q V b (.slice (some ⟨g, 0, none⟩) n c) (.slice (some ⟨gj, oj, none⟩) nj cj) ms L) V20) := hide (HSS.out.fresh HL0.out g1 (by rw [HB.out]; exact HBB.out.2))
          have H2n := hide ((e1 B2 (by have := HBB.out.1; omega)).trans H2.out)
          have HJn := hide h1
          have HVn := hide ((e1 BV (by have := LV.out.2; omega)).trans HV.out)
          clear hHeld h1 e1 g1 HGW HSS H2 HJ HV
          have HGW := HGWn
          have HSS := HSSn
          have H2 := H2n
          have HJ := HJn
          have HV := HVn
          clear HGWn HSSn H2n HJn HVn
          refine hKx.out _ _ HSS.out (fun hHeld => ?_)
          clear hKx Kx
          (try simp only [Act.put])
          refine wpAnyH_ready (rs := [21]) (by kernel_rfl) (by simp) ?_
          refine AllReadyH.cons rfl (fun Kx hKx => ?_) AllReadyH.nil
          refine step_store 50 (.tmp 7) (.tmp 40) BV #[.bool O, .bool D, .bool K] 50 #[.bool false, .bool false, .bool false] rfl rfl HV.out sizeVp rfl (by simp [Value.oneCell']) ?_
          intro V21 h1 e1 g1
          have HGWn := hide (grown_spoil HGW.out (by rw [HB.out]; exact Nat.le_of_lt LV.out.1) g1)
          have HSSn : Hid ((fun V => PLoc lo q V b (.slice (some ⟨g, 0, none⟩) n c) (.slice (some ⟨gj, oj, none⟩) nj cj) ms L) V21) := hide (HSS.out.off g1 (type_box HV.out) (by decide) (by decide) (by decide) (by decide))
          have H2n := hide ((e1 B2 (by have := LV.out.1; omega)).trans H2.out)
          have HJn := hide ((e1 BJ (by have := LV.out.2; omega)).trans HJ.out)
          have HVn := hide h1
          clear hHeld h1 e1 g1 HGW HSS H2 HJ HV
          have HGW := HGWn
          have HSS := HSSn
          have H2 := H2n
          have HJ := HJn
          have HV := HVn
          clear HGWn HSSn H2n HJn HVn
          refine hKx.out _ _ HSS.out (fun hHeld => ?_)
          clear hKx Kx
          (try simp only [Act.put])
          refine take_put (i := 22) (v := .int .i64 0) 8 rfl rfl (by kernel_rfl) (by kernel_rfl) (by kernel_rfl) (fun _ _ _ h => h) (Or.inl ⟨by rfl, by intro Wy hSW; go_simp⟩) (by assumption) ?_
          (try simp only [Act.put, List.setIfInBounds_toArray, List.set_cons_zero, List.set_cons_succ])
          refine wpAnyH_done (by kernel_rfl) ?_ _
          clear hHeld
          go_wp2
          go_meet
          case rel => exact ⟨BV, rfl, rfl, HJ, HV, H2, hide HSS.out, HGW, LV⟩
        · skip
          go_simp
          have hg := World.grownBy_alloc V0 (.cells #[.bool false, .bool false, .bool false] 50) none
          have HVq := hide (heap_alloc_new V0 (.cells #[.bool false, .bool false, .bool false] 50))
          have LV : Hid (B2 < V0.heap.size ∧ BJ < V0.heap.size) := hide ⟨box_lt H2.out, box_lt HJ.out⟩
          have HGWn := hide (grownBy_trans HGW.out hg)
          have HSSn : Hid ((fun V => PLoc lo q V b (.slice (some ⟨g, 0, none⟩) n c) (.slice (some ⟨gj, oj, none⟩) nj cj) ms L) (V0.alloc (.cells #[.bool false, .bool false, .bool false] 50))) := hide (HSS.out.grown hg)
          have H2n := hide (box_grown H2.out hg (by simp))
          have HJn := hide (box_grown HJ.out hg (by simp))
          clear HGW HSS hHeld H2 HJ
          have HGW := HGWn
          have HSS := HSSn
          have H2 := H2n
          have HJ := HJn
          clear HGWn HSSn H2n HJn
          clear hg
          have HV := HVq
          clear HVq
          refine hKx.out _ _ HSS.out (fun hHeld => ?_)
          clear hKx Kx
          (try simp only [Act.put])
          generalize V0.alloc (.cells #[.bool false, .bool false, .bool false] 50) = V22 at *
          generalize V0.heap.size = BV at *
          refine wpAnyH_ready (rs := [14]) (by kernel_rfl) (by simp) ?_
          refine AllReadyH.cons rfl (fun Kx hKx => ?_) AllReadyH.nil
          go_simp
          refine (CH.out _).mono ?_; rintro e V23 ⟨rfl, hg⟩
          have HGWn := hide (grownBy_trans HGW.out hg)
          have HSSn : Hid ((fun V => PLoc lo q V b (.slice (some ⟨g, 0, none⟩) n c) (.slice (some ⟨gj, oj, none⟩) nj cj) ms L) V23) := hide (HSS.out.grown hg)
          have H2n := hide (box_grown H2.out hg (by simp))
          have HJn := hide (box_grown HJ.out hg (by simp))
          have HVn := hide (box_grown HV.out hg (by simp))
          clear HGW HSS hHeld H2 HJ HV
          have HGW := HGWn
          have HSS := HSSn
          have H2 := H2n
          have HJ := HJn
          have HV := HVn
          clear HGWn HSSn H2n HJn HVn
          clear hg
          refine hKx.out _ _ HSS.out (fun hHeld => ?_)
          clear hKx Kx
          (try simp only [Act.put])
          refine take_put (i := 15) (v := .tuple #[.agg #[.int .i64 i, .int .i64 x1, .int .i64 x2, .int .i64 x3, .int .i64 x4, .int .i64 x5, .int .i64 u], .agg #[.bool O, .bool D, .bool K], .int .i64 0]) 23 rfl rfl (by kernel_rfl) (by kernel_rfl) (by kernel_rfl) (fun _ _ _ h => h) (Or.inl ⟨by rfl, by intro Wy hSW; go_simp⟩) (by assumption) ?_
          (try simp only [Act.put, List.setIfInBounds_toArray, List.set_cons_zero, List.set_cons_succ])
          refine take_put (i := 16) (v := .agg #[.int .i64 i, .int .i64 x1, .int .i64 x2, .int .i64 x3, .int .i64 x4, .int .i64 x5, .int .i64 u]) 39 rfl rfl (by kernel_rfl) (by kernel_rfl) (by kernel_rfl) (fun _ _ _ h => h) (Or.inl ⟨by rfl, by intro Wy hSW; go_simp⟩) (by assumption) ?_
          (try simp only [Act.put, List.setIfInBounds_toArray, List.set_cons_zero, List.set_cons_succ])
          refine take_put (i := 17) (v := .agg #[.bool O, .bool D, .bool K]) 40 rfl rfl (by kernel_rfl) (by kernel_rfl) (by kernel_rfl) (fun _ _ _ h => h) (Or.inl ⟨by rfl, by intro Wy hSW; go_simp⟩) (by assumption) ?_
          (try simp only [Act.put, List.setIfInBounds_toArray, List.set_cons_zero, List.set_cons_succ])
          refine take_put (i := 18) (v := .int .i64 0) 41 rfl rfl (by kernel_rfl) (by kernel_rfl) (by kernel_rfl) (fun _ _ _ h => h) (Or.inl ⟨by rfl, by intro Wy hSW; go_simp⟩) (by assumption) ?_
          (try simp only [Act.put, List.setIfInBounds_toArray, List.set_cons_zero, List.set_cons_succ])
          refine wpAnyH_ready (rs := [20]) (by kernel_rfl) (by simp) ?_
          refine AllReadyH.cons rfl (fun Kx hKx => ?_) AllReadyH.nil
          refine step_store 70 (.tmp 5) (.tmp 39) BJ #[.int .i64 i, .int .i64 x1, .int .i64 x2, .int .i64 x3, .int .i64 x4, .int .i64 x5, .int .i64 u] 70 #[.int .i64 i, .int .i64 x1, .int .i64 x2, .int .i64 x3, .int .i64 x4, .int .i64 x5, .int .i64 x6] rfl rfl HJ.out J.sizeJ rfl (by simp [Value.oneCell']) ?_
          intro V24 h1 e1 g1
          have HGWn := hide (grown_spoil HGW.out (by rw [HB.out]; exact HBB.out.2) g1)
          have HSSn : Hid ((fun V => PLoc lo q V b (.slice (some ⟨g, 0, none⟩) n c) (.slice (some ⟨gj, oj, none⟩) nj cj) ms L) V24) := hide (HSS.out.fresh HL0.out g1 (by rw [HB.out]; exact HBB.out.2))
          have H2n := hide ((e1 B2 (by have := HBB.out.1; omega)).trans H2.out)
          have HJn := hide h1
          have HVn := hide ((e1 BV (by have := LV.out.2; omega)).trans HV.out)
          clear hHeld h1 e1 g1 HGW HSS H2 HJ HV
          have HGW := HGWn
          have HSS := HSSn
          have H2 := H2n
          have HJ := HJn
          have HV := HVn
          clear HGWn HSSn H2n HJn HVn
          refine hKx.out _ _ HSS.out (fun hHeld => ?_)
          clear hKx Kx
          (try simp only [Act.put])
          refine wpAnyH_ready (rs := [21]) (by kernel_rfl) (by simp) ?_
          refine AllReadyH.cons rfl (fun Kx hKx => ?_) AllReadyH.nil
          refine step_store 50 (.tmp 7) (.tmp 40) BV #[.bool O, .bool D, .bool K] 50 #[.bool false, .bool false, .bool false] rfl rfl HV.out sizeVp rfl (by simp [Value.oneCell']) ?_
          intro V25 h1 e1 g1
          have HGWn := hide (grown_spoil HGW.out (by rw [HB.out]; exact Nat.le_of_lt LV.out.1) g1)
          have HSSn : Hid ((fun V => PLoc lo q V b (.slice (some ⟨g, 0, none⟩) n c) (.slice (some ⟨gj, oj, none⟩) nj cj) ms L) V25) := hide (HSS.out.off g1 (type_box HV.out) (by decide) (by decide) (by decide) (by decide))
          have H2n := hide ((e1 B2 (by have := LV.out.1; omega)).trans H2.out)
          have HJn := hide ((e1 BJ (by have := LV.out.2; omega)).trans HJ.out)
          have HVn := hide h1
          clear hHeld h1 e1 g1 HGW HSS H2 HJ HV
          have HGW := HGWn
          have HSS := HSSn
          have H2 := H2n
          have HJ := HJn
          have HV := HVn
          clear HGWn HSSn H2n HJn HVn
          refine hKx.out _ _ HSS.out (fun hHeld => ?_)
          clear hKx Kx
          (try simp only [Act.put])
          refine take_put (i := 22) (v := .int .i64 0) 8 rfl rfl (by kernel_rfl) (by kernel_rfl) (by kernel_rfl) (fun _ _ _ h => h) (Or.inl ⟨by rfl, by intro Wy hSW; go_simp⟩) (by assumption) ?_
          (try simp only [Act.put, List.setIfInBounds_toArray, List.set_cons_zero, List.set_cons_succ])
          refine wpAnyH_done (by kernel_rfl) ?_ _
          clear hHeld
          go_wp2
          go_meet
          case rel => exact ⟨BV, rfl, rfl, HJ, HV, H2, hide HSS.out, HGW, LV⟩
      · skip
        go_simp
        have hg := World.grownBy_alloc V0 (.cells #[.bool false, .bool false, .bool false] 50) none
        have HVq := hide (heap_alloc_new V0 (.cells #[.bool false, .bool false, .bool false] 50))
        have LV : Hid (B2 < V0.heap.size ∧ BJ < V0.heap.size) := hide ⟨box_lt H2.out, box_lt HJ.out⟩
        have HGWn := hide (grownBy_trans HGW.out hg)
        have HSSn : Hid ((fun V => PLoc lo q V b (.slice (some ⟨g, 0, none⟩) n c) (.slice (some ⟨gj, oj, none⟩) nj cj) ms L) (V0.alloc (.cells #[.bool false, .bool false, .bool false] 50))) := hide (HSS.out.grown hg)
        have H2n := hide (box_grown H2.out hg (by simp))
        have HJn := hide (box_grown HJ.out hg (by simp))
        clear HGW HSS hHeld H2 HJ
        have HGW := HGWn
        have HSS := HSSn
        have H2 := H2n
        have HJ := HJn
        clear HGWn HSSn H2n HJn
        clear hg
        have HV := HVq
        clear HVq
        refine hKx.out _ _ HSS.out (fun hHeld => ?_)
        clear hKx Kx
        (try simp only [Act.put])
        generalize V0.alloc (.cells #[.bool false, .bool false, .bool false] 50) = V26 at *
        generalize V0.heap.size = BV at *
        refine wpAnyH_ready (rs := [0]) (by kernel_rfl) (by simp) ?_
        refine AllReadyH.cons rfl (fun Kx hKx => ?_) AllReadyH.nil
        have j0 := blk_cell HJ.out 0
        have j1 := blk_cell HJ.out 1
        have j2 := blk_cell HJ.out 2
        have j3 := blk_cell HJ.out 3
        have j4 := blk_cell HJ.out 4
        have j5 := blk_cell HJ.out 5
        have j6 := blk_cell HJ.out 6
        go_simp
        clear j0 j1 j2 j3 j4 j5 j6 hHeld
        refine hKx.out _ _ HSS.out (fun hHeld => ?_)
        clear hKx Kx
        (try simp only [Act.put])
        refine wpAnyH_ready (rs := [14]) (by kernel_rfl) (by simp) ?_
        refine AllReadyH.cons rfl (fun Kx hKx => ?_) AllReadyH.nil
        go_simp
        refine (CH.out _).mono ?_; rintro e V28 ⟨rfl, hg⟩
        have HGWn := hide (grownBy_trans HGW.out hg)
        have HSSn : Hid ((fun V => PLoc lo q V b (.slice (some ⟨g, 0, none⟩) n c) (.slice (some ⟨gj, oj, none⟩) nj cj) ms L) V28) := hide (HSS.out.grown hg)
        have H2n := hide (box_grown H2.out hg (by simp))
        have HJn := hide (box_grown HJ.out hg (by simp))
        have HVn := hide (box_grown HV.out hg (by simp))
        clear HGW HSS hHeld H2 HJ HV
        have HGW := HGWn
        have HSS := HSSn
        have H2 := H2n
        have HJ := HJn
        have HV := HVn
        clear HGWn HSSn H2n HJn HVn
        clear hg
        refine hKx.out _ _ HSS.out (fun hHeld => ?_)
        clear hKx Kx
        (try simp only [Act.put])
        refine take_put (i := 15) (v := .tuple #[.agg #[.int .i64 i, .int .i64 x1, .int .i64 x2, .int .i64 x3, .int .i64 x4, .int .i64 x5, .int .i64 u], .agg #[.bool O, .bool D, .bool K], .int .i64 0]) 23 rfl rfl (by kernel_rfl) (by kernel_rfl) (by kernel_rfl) (fun _ _ _ h => h) (Or.inl ⟨by rfl, by intro Wy hSW; go_simp⟩) (by assumption) ?_
        (try simp only [Act.put, List.setIfInBounds_toArray, List.set_cons_zero, List.set_cons_succ])
        refine take_put (i := 16) (v := .agg #[.int .i64 i, .int .i64 x1, .int .i64 x2, .int .i64 x3, .int .i64 x4, .int .i64 x5, .int .i64 u]) 39 rfl rfl (by kernel_rfl) (by kernel_rfl) (by kernel_rfl) (fun _ _ _ h => h) (Or.inl ⟨by rfl, by intro Wy hSW; go_simp⟩) (by assumption) ?_
        (try simp only [Act.put, List.setIfInBounds_toArray, List.set_cons_zero, List.set_cons_succ])
        refine take_put (i := 17) (v := .agg #[.bool O, .bool D, .bool K]) 40 rfl rfl (by kernel_rfl) (by kernel_rfl) (by kernel_rfl) (fun _ _ _ h => h) (Or.inl ⟨by rfl, by intro Wy hSW; go_simp⟩) (by assumption) ?_
        (try simp only [Act.put, List.setIfInBounds_toArray, List.set_cons_zero, List.set_cons_succ])
        refine take_put (i := 18) (v := .int .i64 0) 41 rfl rfl (by kernel_rfl) (by kernel_rfl) (by kernel_rfl) (fun _ _ _ h => h) (Or.inl ⟨by rfl, by intro Wy hSW; go_simp⟩) (by assumption) ?_
        (try simp only [Act.put, List.setIfInBounds_toArray, List.set_cons_zero, List.set_cons_succ])
        refine wpAnyH_ready (rs := [20]) (by kernel_rfl) (by simp) ?_
        refine AllReadyH.cons rfl (fun Kx hKx => ?_) AllReadyH.nil
        refine step_store 70 (.tmp 5) (.tmp 39) BJ #[.int .i64 i, .int .i64 x1, .int .i64 x2, .int .i64 x3, .int .i64 x4, .int .i64 x5, .int .i64 u] 70 #[.int .i64 i, .int .i64 x1, .int .i64 x2, .int .i64 x3, .int .i64 x4, .int .i64 x5, .int .i64 x6] rfl rfl HJ.out J.sizeJ rfl (by simp [Value.oneCell']) ?_
        intro V29 h1 e1 g1
        have HGWn := hide (grown_spoil HGW.out (by rw [HB.out]; exact HBB.out.2) g1)
        have HSSn : Hid ((fun V => PLoc lo q V b (.slice (some ⟨g, 0, none⟩) n c) (.slice (some ⟨gj, oj, none⟩) nj cj) ms L) V29) := hide (HSS.out.fresh HL0.out g1 (by rw [HB.out]; exact HBB.out.2))
        have H2n := hide ((e1 B2 (by have := HBB.out.1; omega)).trans H2.out)
        have HJn := hide h1
        have HVn := hide ((e1 BV (by have := LV.out.2; omega)).trans HV.out)
        clear hHeld h1 e1 g1 HGW HSS H2 HJ HV
        have HGW := HGWn
        have HSS := HSSn
        have H2 := H2n
        have HJ := HJn
        have HV := HVn
        clear HGWn HSSn H2n HJn HVn
        refine hKx.out _ _ HSS.out (fun hHeld => ?_)
        clear hKx Kx
        (try simp only [Act.put])
        refine wpAnyH_ready (rs := [21]) (by kernel_rfl) (by simp) ?_
        refine AllReadyH.cons rfl (fun Kx hKx => ?_) AllReadyH.nil
        refine step_store 50 (.tmp 7) (.tmp 40) BV #[.bool O, .bool D, .bool K] 50 #[.bool false, .bool false, .bool false] rfl rfl HV.out sizeVp rfl (by simp [Value.oneCell']) ?_
        intro V30 h1 e1 g1
        have HGWn := hide (grown_spoil HGW.out (by rw [HB.out]; exact Nat.le_of_lt LV.out.1) g1)
        have HSSn : Hid ((fun V => PLoc lo q V b (.slice (some ⟨g, 0, none⟩) n c) (.slice (some ⟨gj, oj, none⟩) nj cj) ms L) V30) := hide (HSS.out.off g1 (type_box HV.out) (by decide) (by decide) (by decide) (by decide))
        have H2n := hide ((e1 B2 (by have := LV.out.1; omega)).trans H2.out)
        have HJn := hide ((e1 BJ (by have := LV.out.2; omega)).trans HJ.out)
        have HVn := hide h1
        clear hHeld h1 e1 g1 HGW HSS H2 HJ HV
        have HGW := HGWn
        have HSS := HSSn
        have H2 := H2n
        have HJ := HJn
        have HV := HVn
        clear HGWn HSSn H2n HJn HVn
        refine hKx.out _ _ HSS.out (fun hHeld => ?_)
        clear hKx Kx
        (try simp only [Act.put])
        refine take_put (i := 22) (v := .int .i64 0) 8 rfl rfl (by kernel_rfl) (by kernel_rfl) (by kernel_rfl) (fun _ _ _ h => h) (Or.inl ⟨by rfl, by intro Wy hSW; go_simp⟩) (by assumption) ?_
        (try simp only [Act.put, List.setIfInBounds_toArray, List.set_cons_zero, List.set_cons_succ])
        refine wpAnyH_done (by kernel_rfl) ?_ _
        clear hHeld
        go_wp2
        go_meet
        case rel => exact ⟨BV, rfl, rfl, HJ, HV, H2, hide HSS.out, HGW, LV⟩
    · skip
      go_simp
      have hg := World.grownBy_alloc V0 (.cells #[.bool false, .bool false, .bool false] 50) none
      have HVq := hide (heap_alloc_new V0 (.cells #[.bool false, .bool false, .bool false] 50))
      have LV : Hid (B2 < V0.heap.size ∧ BJ < V0.heap.size) := hide ⟨box_lt H2.out, box_lt HJ.out⟩
      have HGWn := hide (grownBy_trans HGW.out hg)
      have HSSn : Hid ((fun V => PLoc lo q V b (.slice (some ⟨g, 0, none⟩) n c) (.slice (some ⟨gj, oj, none⟩) nj cj) ms L) (V0.alloc (.cells #[.bool false, .bool false, .bool false] 50))) := hide (HSS.out.grown hg)
      have H2n := hide (box_grown H2.out hg (by simp))
      have HJn := hide (box_grown HJ.out hg (by simp))
      clear HGW HSS hHeld H2 HJ
      have HGW := HGWn
      have HSS := HSSn
      have H2 := H2n
      have HJ := HJn
      clear HGWn HSSn H2n HJn
      clear hg
      have HV := HVq
      clear HVq
      refine hKx.out _ _ HSS.out (fun hHeld => ?_)
      clear hKx Kx
      (try simp only [Act.put])
      generalize V0.alloc (.cells #[.bool false, .bool false, .bool false] 50) = V31 at *
      generalize V0.heap.size = BV at *
      refine wpAnyH_ready (rs := [0, 6]) (by kernel_rfl) (by simp) ?_
      refine AllReadyH.cons rfl (fun Kx hKx => ?_) (AllReadyH.cons rfl (fun Kx hKx => ?_) AllReadyH.nil)
      · skip
        have j0 := blk_cell HJ.out 0
        have j1 := blk_cell HJ.out 1
        have j2 := blk_cell HJ.out 2
        have j3 := blk_cell HJ.out 3
        have j4 := blk_cell HJ.out 4
        have j5 := blk_cell HJ.out 5
        have j6 := blk_cell HJ.out 6
        go_simp
        clear j0 j1 j2 j3 j4 j5 j6 hHeld
        refine hKx.out _ _ HSS.out (fun hHeld => ?_)
        clear hKx Kx
        (try simp only [Act.put])
        refine wpAnyH_ready (rs := [6]) (by kernel_rfl) (by simp) ?_
        refine AllReadyH.cons rfl (fun Kx hKx => ?_) AllReadyH.nil
        have j0 := blk_cell HJ.out 0
        go_simp
        clear j0 hHeld
        refine hKx.out _ _ HSS.out (fun hHeld => ?_)
        clear hKx Kx
        (try simp only [Act.put])
        refine take_put (i := 7) (v := .pointer (some ⟨g, i * 9, none⟩)) 31 rfl rfl (by kernel_rfl) (by kernel_rfl) (by kernel_rfl) (fun _ _ _ h => h) (Or.inl ⟨by rfl, by intro Wy hSW; go_simp⟩) (by assumption) ?_
        (try simp only [Act.put, List.setIfInBounds_toArray, List.set_cons_zero, List.set_cons_succ])
        refine take_put (i := 8) (v := .pointer (some ⟨g, i * 9, none⟩)) 32 rfl rfl (by kernel_rfl) (by kernel_rfl) (by kernel_rfl) (fun _ _ _ h => h) (Or.inl ⟨by rfl, by intro Wy hSW; go_simp⟩) (by assumption) ?_
        (try simp only [Act.put, List.setIfInBounds_toArray, List.set_cons_zero, List.set_cons_succ])
        refine take_put (i := 9) (v := .agg #[.int .i64 y0, .int .i64 y1, .int .i64 y2, .int .i64 y3, .int .i64 y4, .int .i64 y5]) 33 rfl rfl (by kernel_rfl) (by kernel_rfl) (by kernel_rfl) (fun _ _ _ h => h) (Or.inl ⟨by rfl, by intro Wy hSW; have hc := HTK.out _ hSW; go_simp⟩) (by assumption) ?_
        (try simp only [Act.put, List.setIfInBounds_toArray, List.set_cons_zero, List.set_cons_succ])
        refine wpAnyH_ready (rs := [14]) (by kernel_rfl) (by simp) ?_
        refine AllReadyH.cons rfl (fun Kx hKx => ?_) AllReadyH.nil
        go_simp
        refine (CH.out _).mono ?_; rintro e V34 ⟨rfl, hg⟩
        have HGWn := hide (grownBy_trans HGW.out hg)
        have HSSn : Hid ((fun V => PLoc lo q V b (.slice (some ⟨g, 0, none⟩) n c) (.slice (some ⟨gj, oj, none⟩) nj cj) ms L) V34) := hide (HSS.out.grown hg)
        have H2n := hide (box_grown H2.out hg (by simp))
        have HJn := hide (box_grown HJ.out hg (by simp))
        have HVn := hide (box_grown HV.out hg (by simp))
        clear HGW HSS hHeld H2 HJ HV
        have HGW := HGWn
        have HSS := HSSn
        have H2 := H2n
        have HJ := HJn
        have HV := HVn
        clear HGWn HSSn H2n HJn HVn
        clear hg
        refine hKx.out _ _ HSS.out (fun hHeld => ?_)
        clear hKx Kx
        (try simp only [Act.put])
        refine take_put (i := 15) (v := .tuple #[.agg #[.int .i64 i, .int .i64 x1, .int .i64 x2, .int .i64 x3, .int .i64 x4, .int .i64 x5, .int .i64 u], .agg #[.bool O, .bool D, .bool K], .int .i64 0]) 23 rfl rfl (by kernel_rfl) (by kernel_rfl) (by kernel_rfl) (fun _ _ _ h => h) (Or.inl ⟨by rfl, by intro Wy hSW; go_simp⟩) (by assumption) ?_
        (try simp only [Act.put, List.setIfInBounds_toArray, List.set_cons_zero, List.set_cons_succ])
        refine take_put (i := 16) (v := .agg #[.int .i64 i, .int .i64 x1, .int .i64 x2, .int .i64 x3, .int .i64 x4, .int .i64 x5, .int .i64 u]) 39 rfl rfl (by kernel_rfl) (by kernel_rfl) (by kernel_rfl) (fun _ _ _ h => h) (Or.inl ⟨by rfl, by intro Wy hSW; go_simp⟩) (by assumption) ?_
        (try simp only [Act.put, List.setIfInBounds_toArray, List.set_cons_zero, List.set_cons_succ])
        refine take_put (i := 17) (v := .agg #[.bool O, .bool D, .bool K]) 40 rfl rfl (by kernel_rfl) (by kernel_rfl) (by kernel_rfl) (fun _ _ _ h => h) (Or.inl ⟨by rfl, by intro Wy hSW; go_simp⟩) (by assumption) ?_
        (try simp only [Act.put, List.setIfInBounds_toArray, List.set_cons_zero, List.set_cons_succ])
        refine take_put (i := 18) (v := .int .i64 0) 41 rfl rfl (by kernel_rfl) (by kernel_rfl) (by kernel_rfl) (fun _ _ _ h => h) (Or.inl ⟨by rfl, by intro Wy hSW; go_simp⟩) (by assumption) ?_
        (try simp only [Act.put, List.setIfInBounds_toArray, List.set_cons_zero, List.set_cons_succ])
        refine wpAnyH_ready (rs := [20]) (by kernel_rfl) (by simp) ?_
        refine AllReadyH.cons rfl (fun Kx hKx => ?_) AllReadyH.nil
        refine step_store 70 (.tmp 5) (.tmp 39) BJ #[.int .i64 i, .int .i64 x1, .int .i64 x2, .int .i64 x3, .int .i64 x4, .int .i64 x5, .int .i64 u] 70 #[.int .i64 i, .int .i64 x1, .int .i64 x2, .int .i64 x3, .int .i64 x4, .int .i64 x5, .int .i64 x6] rfl rfl HJ.out J.sizeJ rfl (by simp [Value.oneCell']) ?_
        intro V35 h1 e1 g1
        have HGWn := hide (grown_spoil HGW.out (by rw [HB.out]; exact HBB.out.2) g1)
        have HSSn : Hid ((fun V => PLoc lo q V b (.slice (some ⟨g, 0, none⟩) n c) (.slice (some ⟨gj, oj, none⟩) nj cj) ms L) V35) := hide (HSS.out.fresh HL0.out g1 (by rw [HB.out]; exact HBB.out.2))
        have H2n := hide ((e1 B2 (by have := HBB.out.1; omega)).trans H2.out)
        have HJn := hide h1
        have HVn := hide ((e1 BV (by have := LV.out.2; omega)).trans HV.out)
        clear hHeld h1 e1 g1 HGW HSS H2 HJ HV
        have HGW := HGWn
        have HSS := HSSn
        have H2 := H2n
        have HJ := HJn
        have HV := HVn
        clear HGWn HSSn H2n HJn HVn
        refine hKx.out _ _ HSS.out (fun hHeld => ?_)
        clear hKx Kx
        (try simp only [Act.put])
        refine wpAnyH_ready (rs := [21]) (by kernel_rfl) (by simp) ?_
        refine AllReadyH.cons rfl (fun Kx hKx => ?_) AllReadyH.nil
        refine step_store 50 (.tmp 7) (.tmp 40) BV #[.bool O, .bool D, .bool K] 50 #[.bool false, .bool false, .bool false] rfl rfl HV.out sizeVp rfl (by simp [Value.oneCell']) ?_
        intro V36 h1 e1 g1
        have HGWn := hide (grown_spoil HGW.out (by rw [HB.out]; exact Nat.le_of_lt LV.out.1) g1)
        have HSSn : Hid ((fun V => PLoc lo q V b (.slice (some ⟨g, 0, none⟩) n c) (.slice (some ⟨gj, oj, none⟩) nj cj) ms L) V36) := hide (HSS.out.off g1 (type_box HV.out) (by decide) (by decide) (by decide) (by decide))
        have H2n := hide ((e1 B2 (by have := LV.out.1; omega)).trans H2.out)
        have HJn := hide ((e1 BJ (by have := LV.out.2; omega)).trans HJ.out)
        have HVn := hide h1
        clear hHeld h1 e1 g1 HGW HSS H2 HJ HV
        have HGW := HGWn
        have HSS := HSSn
        have H2 := H2n
        have HJ := HJn
        have HV := HVn
        clear HGWn HSSn H2n HJn HVn
        refine hKx.out _ _ HSS.out (fun hHeld => ?_)
        clear hKx Kx
        (try simp only [Act.put])
        refine take_put (i := 22) (v := .int .i64 0) 8 rfl rfl (by kernel_rfl) (by kernel_rfl) (by kernel_rfl) (fun _ _ _ h => h) (Or.inl ⟨by rfl, by intro Wy hSW; go_simp⟩) (by assumption) ?_
        (try simp only [Act.put, List.setIfInBounds_toArray, List.set_cons_zero, List.set_cons_succ])
        refine wpAnyH_done (by kernel_rfl) ?_ _
        clear hHeld
        go_wp2
        go_meet
        case rel => exact ⟨BV, rfl, rfl, HJ, HV, H2, hide HSS.out, HGW, LV⟩
      · skip
        have j0 := blk_cell HJ.out 0
        go_simp
        clear j0 hHeld
        refine hKx.out _ _ HSS.out (fun hHeld => ?_)
        clear hKx Kx
        (try simp only [Act.put])
        refine take_put (i := 7) (v := .pointer (some ⟨g, i * 9, none⟩)) 31 rfl rfl (by kernel_rfl) (by kernel_rfl) (by kernel_rfl) (fun _ _ _ h => h) (Or.inl ⟨by rfl, by intro Wy hSW; go_simp⟩) (by assumption) ?_
        (try simp only [Act.put, List.setIfInBounds_toArray, List.set_cons_zero, List.set_cons_succ])
        refine take_put (i := 8) (v := .pointer (some ⟨g, i * 9, none⟩)) 32 rfl rfl (by kernel_rfl) (by kernel_rfl) (by kernel_rfl) (fun _ _ _ h => h) (Or.inl ⟨by rfl, by intro Wy hSW; go_simp⟩) (by assumption) ?_
        (try simp only [Act.put, List.setIfInBounds_toArray, List.set_cons_zero, List.set_cons_succ])
        refine take_put (i := 9) (v := .agg #[.int .i64 y0, .int .i64 y1, .int .i64 y2, .int .i64 y3, .int .i64 y4, .int .i64 y5]) 33 rfl rfl (by kernel_rfl) (by kernel_rfl) (by kernel_rfl) (fun _ _ _ h => h) (Or.inl ⟨by rfl, by intro Wy hSW; have hc := HTK.out _ hSW; go_simp⟩) (by assumption) ?_
        (try simp only [Act.put, List.setIfInBounds_toArray, List.set_cons_zero, List.set_cons_succ])
        refine wpAnyH_ready (rs := [0]) (by kernel_rfl) (by simp) ?_
        refine AllReadyH.cons rfl (fun Kx hKx => ?_) AllReadyH.nil
        have j0 := blk_cell HJ.out 0
        have j1 := blk_cell HJ.out 1
        have j2 := blk_cell HJ.out 2
        have j3 := blk_cell HJ.out 3
        have j4 := blk_cell HJ.out 4
        have j5 := blk_cell HJ.out 5
        have j6 := blk_cell HJ.out 6
        go_simp
        clear j0 j1 j2 j3 j4 j5 j6 hHeld
        refine hKx.out _ _ HSS.out (fun hHeld => ?_)
        clear hKx Kx
        (try simp only [Act.put])
        refine wpAnyH_ready (rs := [14]) (by kernel_rfl) (by simp) ?_
        refine AllReadyH.cons rfl (fun Kx hKx => ?_) AllReadyH.nil
        go_simp
        refine (CH.out _).mono ?_; rintro e V39 ⟨rfl, hg⟩
        have HGWn := hide (grownBy_trans HGW.out hg)
        have HSSn : Hid ((fun V => PLoc lo q V b (.slice (some ⟨g, 0, none⟩) n c) (.slice (some ⟨gj, oj, none⟩) nj cj) ms L) V39) := hide (HSS.out.grown hg)
        have H2n := hide (box_grown H2.out hg (by simp))
        have HJn := hide (box_grown HJ.out hg (by simp))
        have HVn := hide (box_grown HV.out hg (by simp))
        clear HGW HSS hHeld H2 HJ HV
        have HGW := HGWn
        have HSS := HSSn
        have H2 := H2n
        have HJ := HJn
        have HV := HVn
        clear HGWn HSSn H2n HJn HVn
        clear hg
        refine hKx.out _ _ HSS.out (fun hHeld => ?_)
        clear hKx Kx
        (try simp only [Act.put])
        refine take_put (i := 15) (v := .tuple #[.agg #[.int .i64 i, .int .i64 x1, .int .i64 x2, .int .i64 x3, .int .i64 x4, .int .i64 x5, .int .i64 u], .agg #[.bool O, .bool D, .bool K], .int .i64 0]) 23 rfl rfl (by kernel_rfl) (by kernel_rfl) (by kernel_rfl) (fun _ _ _ h => h) (Or.inl ⟨by rfl, by intro Wy hSW; go_simp⟩) (by assumption) ?_
        (try simp only [Act.put, List.setIfInBounds_toArray, List.set_cons_zero, List.set_cons_succ])
        refine take_put (i := 16) (v := .agg #[.int .i64 i, .int .i64 x1, .int .i64 x2, .int .i64 x3, .int .i64 x4, .int .i64 x5, .int .i64 u]) 39 rfl rfl (by kernel_rfl) (by kernel_rfl) (by kernel_rfl) (fun _ _ _ h => h) (Or.inl ⟨by rfl, by intro Wy hSW; go_simp⟩) (by assumption) ?_
        (try simp only [Act.put, List.setIfInBounds_toArray, List.set_cons_zero, List.set_cons_succ])
        refine take_put (i := 17) (v := .agg #[.bool O, .bool D, .bool K]) 40 rfl rfl (by kernel_rfl) (by kernel_rfl) (by kernel_rfl) (fun _ _ _ h => h) (Or.inl ⟨by rfl, by intro Wy hSW; go_simp⟩) (by assumption) ?_
        (try simp only [Act.put, List.setIfInBounds_toArray, List.set_cons_zero, List.set_cons_succ])
        refine take_put (i := 18) (v := .int .i64 0) 41 rfl rfl (by kernel_rfl) (by kernel_rfl) (by kernel_rfl) (fun _ _ _ h => h) (Or.inl ⟨by rfl, by intro Wy hSW; go_simp⟩) (by assumption) ?_
        (try simp only [Act.put, List.setIfInBounds_toArray, List.set_cons_zero, List.set_cons_succ])
        refine wpAnyH_ready (rs := [20]) (by kernel_rfl) (by simp) ?_
        refine AllReadyH.cons rfl (fun Kx hKx => ?_) AllReadyH.nil
        refine step_store 70 (.tmp 5) (.tmp 39) BJ #[.int .i64 i, .int .i64 x1, .int .i64 x2, .int .i64 x3, .int .i64 x4, .int .i64 x5, .int .i64 u] 70 #[.int .i64 i, .int .i64 x1, .int .i64 x2, .int .i64 x3, .int .i64 x4, .int .i64 x5, .int .i64 x6] rfl rfl HJ.out J.sizeJ rfl (by simp [Value.oneCell']) ?_
        intro V40 h1 e1 g1
        have HGWn := hide (grown_spoil HGW.out (by rw [HB.out]; exact HBB.out.2) g1)
        have HSSn : Hid ((fun V => PLoc lo q V b (.slice (some ⟨g, 0, none⟩) n c) (.slice (some ⟨gj, oj, none⟩) nj cj) ms L) V40) := hide (HSS.out.fresh HL0.out g1 (by rw [HB.out]; exact HBB.out.2))
        have H2n := hide ((e1 B2 (by have := HBB.out.1; omega)).trans H2.out)
        have HJn := hide h1
        have HVn := hide ((e1 BV (by have := LV.out.2; omega)).trans HV.out)
        clear hHeld h1 e1 g1 HGW HSS H2 HJ HV
        have HGW := HGWn
        have HSS := HSSn
        have H2 := H2n
        have HJ := HJn
        have HV := HVn
        clear HGWn HSSn H2n HJn HVn
        refine hKx.out _ _ HSS.out (fun hHeld => ?_)
        clear hKx Kx
        (try simp only [Act.put])
        refine wpAnyH_ready (rs := [21]) (by kernel_rfl) (by simp) ?_
        refine AllReadyH.cons rfl (fun Kx hKx => ?_) AllReadyH.nil
        refine step_store 50 (.tmp 7) (.tmp 40) BV #[.bool O, .bool D, .bool K] 50 #[.bool false, .bool false, .bool false] rfl rfl HV.out sizeVp rfl (by simp [Value.oneCell']) ?_
        intro V41 h1 e1 g1
        have HGWn := hide (grown_spoil HGW.out (by rw [HB.out]; exact Nat.le_of_lt LV.out.1) g1)
        have HSSn : Hid ((fun V => PLoc lo q V b (.slice (some ⟨g, 0, none⟩) n c) (.slice (some ⟨gj, oj, none⟩) nj cj) ms L) V41) := hide (HSS.out.off g1 (type_box HV.out) (by decide) (by decide) (by decide) (by decide))
        have H2n := hide ((e1 B2 (by have := LV.out.1; omega)).trans H2.out)
        have HJn := hide ((e1 BJ (by have := LV.out.2; omega)).trans HJ.out)
        have HVn := hide h1
        clear hHeld h1 e1 g1 HGW HSS H2 HJ HV
        have HGW := HGWn
        have HSS := HSSn
        have H2 := H2n
        have HJ := HJn
        have HV := HVn
        clear HGWn HSSn H2n HJn HVn
        refine hKx.out _ _ HSS.out (fun hHeld => ?_)
        clear hKx Kx
        (try simp only [Act.put])
        refine take_put (i := 22) (v := .int .i64 0) 8 rfl rfl (by kernel_rfl) (by kernel_rfl) (by kernel_rfl) (fun _ _ _ h => h) (Or.inl ⟨by rfl, by intro Wy hSW; go_simp⟩) (by assumption) ?_
        (try simp only [Act.put, List.setIfInBounds_toArray, List.set_cons_zero, List.set_cons_succ])
        refine wpAnyH_done (by kernel_rfl) ?_ _
        clear hHeld
        go_wp2
        go_meet
        case rel => exact ⟨BV, rfl, rfl, HJ, HV, H2, hide HSS.out, HGW, LV⟩
  case rest =>
    obtain ⟨BV, rfl, rfl, HJ, HV, H2, HP, HGW, HLV⟩ := hcut
    clear HP1 HG1 HV1 HJ1 HTK CH
    generalize hwx : wc = wx at *
    clear hwx
    cases D with
    | true =>
      have v1 := blk_cell HV.out 1
      have v2 := blk_cell HV.out 2
      go_wp2_with (first | fail)
      refine (CD.out _ HP.out).mono ?_; rintro e Q ⟨rfl, ⟨vjq, hP, hN⟩, hg⟩
      clear v1 v2
      have HPq := hide hP
      have HNq := hide (OrNew.trans (OrNew.refl B2 (.slice (some ⟨gj, oj, none⟩) nj cj)) hN (by have := HGW.out.size; rw [HB.out] at this; exact this))
      have HJq := hide (box_grown HJ.out hg (by have h1 := HBLT.out; have h2 := HBB.out.1; simp; omega))
      have HVq := hide (box_grown HV.out hg (by have h1 := HBLT.out; have h2 := HLV.out.1; simp; omega))
      have H2q := hide (box_grown H2.out hg (by have h1 := HBLT.out; simp; omega))
      have HKq := hide (fun k (hk : k < B2) (hb : k ≠ b) (hj : k ≠ gj) => (hg.block k (by have := HGW.out.size; rw [HB.out] at this; omega) (by simp; omega)).trans (HGW.out.block k (by rw [HB.out]; exact hk) (by simp)))
      have HZq := hide (show B2 ≤ Q.heap.size from by have h1 := HGW.out.size; have h2 := hg.size; rw [HB.out] at h1; omega)
      have HXq := hide (same_of HGW.out hg)
      clear hP hN hg HP HGW HJ HV H2
      have HJ := HJq
      have HV := HVq
      have H2 := H2q
      clear HJq HVq H2q
      go_upto_region 10 with (first | fail)
      have HS0 : Hid ((fun V => V.heap[BJ]? = some (.cells #[.int .i64 i, .int .i64 x1, .int .i64 x2, .int .i64 x3, .int .i64 x4, .int .i64 x5, .int .i64 u] 70 (0, 0)) ∧ V.heap[BV]? = some (.cells #[.bool O, .bool true, .bool K] 50 (0, 0)) ∧ V.cell? ⟨b, 0, none⟩ = some (.int .i64 L.idx)) Q) := hide ⟨HJ.out, HV.out, blk_cell HPq.out.box 0⟩
      refine wp_region_held_drew (S := fun V => V.heap[BJ]? = some (.cells #[.int .i64 i, .int .i64 x1, .int .i64 x2, .int .i64 x3, .int .i64 x4, .int .i64 x5, .int .i64 u] 70 (0, 0)) ∧ V.heap[BV]? = some (.cells #[.bool O, .bool true, .bool K] 50 (0, 0)) ∧ V.cell? ⟨b, 0, none⟩ = some (.int .i64 L.idx)) (by kernel_rfl) HS0.out (fun hHeld => ?_)
      have hgd := grownBy_draws Q 1 none
      have HPd := hide (HPq.out.grown hgd)
      have HGd := hide (kept_more HKq.out hgd HZq.out)
      have H2d := hide (box_grown H2.out hgd (by simp))
      have HSd : Hid ((fun V => V.heap[BJ]? = some (.cells #[.int .i64 i, .int .i64 x1, .int .i64 x2, .int .i64 x3, .int .i64 x4, .int .i64 x5, .int .i64 u] 70 (0, 0)) ∧ V.heap[BV]? = some (.cells #[.bool O, .bool true, .bool K] 50 (0, 0)) ∧ V.cell? ⟨b, 0, none⟩ = some (.int .i64 L.idx)) (Q.drewN 1)) := hide HS0.out
      have HZd := hide (Nat.le_trans HZq.out hgd.size)
      have HXd := hide (same_more HXq.out hgd)
      have hdd : Q.drewN 1 = Q.drew := rfl
      rw [hdd] at HPd HGd H2d HSd HZd HXd
      clear hdd hgd HPq HKq H2 HS0 HJ HV HZq HXq
      have HPq := HPd
      have HKq := HGd
      have H2 := H2d
      have HS := HSd
      have HZq := HZd
      have HXq := HXd
      clear HPd HGd H2d HSd HZd HXd
      generalize Q.drew = Q0 at *
      refine take_put (i := 0) (v := .agg #[.bool O, .bool true, .bool K]) 56 rfl rfl (by kernel_rfl) (by kernel_rfl) (by kernel_rfl) (fun _ _ _ h => h) (Or.inl ⟨by rfl, by intro Wy hSW; have hc := (⟨blk_cell hSW.2.1 0, blk_cell hSW.2.1 1, blk_cell hSW.2.1 2⟩ : _ ∧ _ ∧ _); go_simp⟩) (by assumption) ?_
      (try simp only [Act.put, List.setIfInBounds_toArray, List.set_cons_zero, List.set_cons_succ])
      refine take_put (i := 1) (v := .pointer (some ⟨b, 0, none⟩)) 57 rfl rfl (by kernel_rfl) (by kernel_rfl) (by kernel_rfl) (fun _ _ _ h => h) (Or.inl ⟨by rfl, by intro Wy hSW; go_simp⟩) (by assumption) ?_
      (try simp only [Act.put, List.setIfInBounds_toArray, List.set_cons_zero, List.set_cons_succ])
      refine take_put (i := 2) (v := .agg #[.int .i64 i, .int .i64 x1, .int .i64 x2, .int .i64 x3, .int .i64 x4, .int .i64 x5, .int .i64 u]) 58 rfl rfl (by kernel_rfl) (by kernel_rfl) (by kernel_rfl) (fun _ _ _ h => h) (Or.inl ⟨by rfl, by intro Wy hSW; have hc := (⟨blk_cell hSW.1 0, blk_cell hSW.1 1, blk_cell hSW.1 2, blk_cell hSW.1 3, blk_cell hSW.1 4, blk_cell hSW.1 5, blk_cell hSW.1 6⟩ : _ ∧ _ ∧ _ ∧ _ ∧ _ ∧ _ ∧ _); go_simp⟩) (by assumption) ?_
      (try simp only [Act.put, List.setIfInBounds_toArray, List.set_cons_zero, List.set_cons_succ])
      refine take_put (i := 3) (v := .agg #[.bool O, .bool true, .bool K]) 59 rfl rfl (by kernel_rfl) (by kernel_rfl) (by kernel_rfl) (fun _ _ _ h => h) (Or.inl ⟨by rfl, by intro Wy hSW; have hc := (⟨blk_cell hSW.2.1 0, blk_cell hSW.2.1 1, blk_cell hSW.2.1 2⟩ : _ ∧ _ ∧ _); go_simp⟩) (by assumption) ?_
      (try simp only [Act.put, List.setIfInBounds_toArray, List.set_cons_zero, List.set_cons_succ])
      refine wpAnyH_ready (rs := [4]) (by kernel_rfl) (by simp) ?_
      refine AllReadyH.cons rfl (fun Kx hKx => ?_) AllReadyH.nil
      go_simp
      refine (CT.out b L.idx ⟨i, x1, x2, x3, x4, x5, u⟩ _ _ _ _ HS.out.2.2).mono ?_; rintro e Q1 ⟨ve, rfl, ho, hg⟩
      have HE := hide (show OwnE B2 Q1 _ _ from own_mono ho HZq.out)
      have HPn := hide (HPq.out.grown hg)
      have HKn := hide (kept_more HKq.out hg HZq.out)
      have H2n := hide (box_grown H2.out hg (by simp))
      have HSn : Hid ((fun V => V.heap[BJ]? = some (.cells #[.int .i64 i, .int .i64 x1, .int .i64 x2, .int .i64 x3, .int .i64 x4, .int .i64 x5, .int .i64 u] 70 (0, 0)) ∧ V.heap[BV]? = some (.cells #[.bool O, .bool true, .bool K] 50 (0, 0)) ∧ V.cell? ⟨b, 0, none⟩ = some (.int .i64 L.idx)) Q1) := hide ⟨box_grown HS.out.1 hg (by simp), box_grown HS.out.2.1 hg (by simp), blk_cell HPn.out.box 0⟩
      have HZn := hide (Nat.le_trans HZq.out hg.size)
      have HXn := hide (same_more HXq.out hg)
      clear ho hg hHeld HPq HKq H2 HS HZq HXq
      have HPq := HPn
      have HKq := HKn
      have H2 := H2n
      have HS := HSn
      have HZq := HZn
      have HXq := HXn
      clear HPn HKn H2n HSn HZn HXn
      refine hKx.out _ _ HS.out (fun hHeld => ?_)
      clear hKx Kx
      (try simp only [Act.put])
      refine wpAnyH_ready (rs := [5]) (by kernel_rfl) (by simp) ?_
      refine AllReadyH.cons rfl (fun Kx hKx => ?_) AllReadyH.nil
      refine step_store 50 (.tmp 2) (.tmp 56) B2 #[.bool O, .bool true, .bool K] 50 #[.bool false, .bool false, .bool false] rfl rfl H2.out sizeVp rfl (by simp [Value.oneCell']) ?_
      intro Q2 h1 e1 g1
      have HPn := hide (HPq.out.off g1 (type_box H2.out) (by decide) (by decide) (by decide) (by decide))
      have HKn := hide (fun k (hk : k < B2) (hb : k ≠ b) (hj : k ≠ gj) => (e1 k (by omega)).trans (HKq.out k hk hb hj))
      have HSn : Hid ((fun V => V.heap[BJ]? = some (.cells #[.int .i64 i, .int .i64 x1, .int .i64 x2, .int .i64 x3, .int .i64 x4, .int .i64 x5, .int .i64 u] 70 (0, 0)) ∧ V.heap[BV]? = some (.cells #[.bool O, .bool true, .bool K] 50 (0, 0)) ∧ V.cell? ⟨b, 0, none⟩ = some (.int .i64 L.idx)) Q2) := hide ⟨(e1 BJ (by have := HBB.out.1; omega)).trans HS.out.1, (e1 BV (by have := HLV.out.1; omega)).trans HS.out.2.1, blk_cell HPn.out.box 0⟩
      have HZn := hide (Nat.le_trans HZq.out g1.size)
      have HXn := hide (same_more HXq.out g1)
      have H2n := hide h1
      have HEn := hide (show OwnE B2 Q2 _ _ from own_type HE.out g1 (type_box H2.out) (by decide))
      clear hHeld h1 e1 g1 HPq HKq HS HZq HXq H2 HE
      have HPq := HPn
      clear HPn
      have HKq := HKn
      clear HKn
      have HS := HSn
      clear HSn
      have HZq := HZn
      clear HZn
      have HXq := HXn
      clear HXn
      have H2 := H2n
      clear H2n
      have HE := HEn
      clear HEn
      refine hKx.out _ _ HS.out (fun hHeld => ?_)
      clear hKx Kx
      (try simp only [Act.put])
      refine take_put (i := 6) (v := ve) 3 rfl rfl (by kernel_rfl) (by kernel_rfl) (by kernel_rfl) (fun _ _ _ h => h) (Or.inl ⟨by rfl, by intro Wy hSW; go_simp⟩) (by assumption) ?_
      (try simp only [Act.put, List.setIfInBounds_toArray, List.set_cons_zero, List.set_cons_succ])
      refine take_put (i := 7) (v := .int .i64 0) 4 rfl rfl (by kernel_rfl) (by kernel_rfl) (by kernel_rfl) (fun _ _ _ h => h) (Or.inl ⟨by rfl, by intro Wy hSW; go_simp⟩) (by assumption) ?_
      (try simp only [Act.put, List.setIfInBounds_toArray, List.set_cons_zero, List.set_cons_succ])
      refine wpAnyH_done (by kernel_rfl) ?_ _
      clear hHeld
      go_wp2_with (first | fail)
      refine bodyPost_ret (results_rtt rfl _ _ B2 50 #[.bool O, .bool true, .bool K] (0, 0) _ rfl H2.out Tryz.underlying50 rfl sizeVp) rfl ?_
      exact ⟨_, rfl, ⟨⟨_, by first | exact HPq.out | (rw [← List.drop_one]; exact HPq.out), by rw [HB.out]; exact HNq.out⟩⟩, by rw [HB.out]; exact HE.out, ⟨by rw [HB.out]; exact HZq.out, HXq.out⟩, fun k hk hb hj => HKq.out k (by rw [← HB.out]; exact hk) hb hj⟩
    | false =>
      cases K with
      | true =>
        have v1 := blk_cell HV.out 1
        have v2 := blk_cell HV.out 2
        go_wp2_with (first | fail)
        refine (CD.out _ HP.out).mono ?_; rintro e Q ⟨rfl, ⟨vjq, hP, hN⟩, hg⟩
        clear v1 v2
        have HPq := hide hP
        have HNq := hide (OrNew.trans (OrNew.refl B2 (.slice (some ⟨gj, oj, none⟩) nj cj)) hN (by have := HGW.out.size; rw [HB.out] at this; exact this))
        have HJq := hide (box_grown HJ.out hg (by have h1 := HBLT.out; have h2 := HBB.out.1; simp; omega))
        have HVq := hide (box_grown HV.out hg (by have h1 := HBLT.out; have h2 := HLV.out.1; simp; omega))
        have H2q := hide (box_grown H2.out hg (by have h1 := HBLT.out; simp; omega))
        have HKq := hide (fun k (hk : k < B2) (hb : k ≠ b) (hj : k ≠ gj) => (hg.block k (by have := HGW.out.size; rw [HB.out] at this; omega) (by simp; omega)).trans (HGW.out.block k (by rw [HB.out]; exact hk) (by simp)))
        have HZq := hide (show B2 ≤ Q.heap.size from by have h1 := HGW.out.size; have h2 := hg.size; rw [HB.out] at h1; omega)
        have HXq := hide (same_of HGW.out hg)
        clear hP hN hg HP HGW HJ HV H2
        have HJ := HJq
        have HV := HVq
        have H2 := H2q
        clear HJq HVq H2q
        go_upto_region 10 with (first | fail)
        have HS0 : Hid ((fun V => V.heap[BJ]? = some (.cells #[.int .i64 i, .int .i64 x1, .int .i64 x2, .int .i64 x3, .int .i64 x4, .int .i64 x5, .int .i64 u] 70 (0, 0)) ∧ V.heap[BV]? = some (.cells #[.bool O, .bool false, .bool true] 50 (0, 0)) ∧ V.cell? ⟨b, 0, none⟩ = some (.int .i64 L.idx)) Q) := hide ⟨HJ.out, HV.out, blk_cell HPq.out.box 0⟩
        refine wp_region_held_drew (S := fun V => V.heap[BJ]? = some (.cells #[.int .i64 i, .int .i64 x1, .int .i64 x2, .int .i64 x3, .int .i64 x4, .int .i64 x5, .int .i64 u] 70 (0, 0)) ∧ V.heap[BV]? = some (.cells #[.bool O, .bool false, .bool true] 50 (0, 0)) ∧ V.cell? ⟨b, 0, none⟩ = some (.int .i64 L.idx)) (by kernel_rfl) HS0.out (fun hHeld => ?_)
        have hgd := grownBy_draws Q 1 none
        have HPd := hide (HPq.out.grown hgd)
        have HGd := hide (kept_more HKq.out hgd HZq.out)
        have H2d := hide (box_grown H2.out hgd (by simp))
        have HSd : Hid ((fun V => V.heap[BJ]? = some (.cells #[.int .i64 i, .int .i64 x1, .int .i64 x2, .int .i64 x3, .int .i64 x4, .int .i64 x5, .int .i64 u] 70 (0, 0)) ∧ V.heap[BV]? = some (.cells #[.bool O, .bool false, .bool true] 50 (0, 0)) ∧ V.cell? ⟨b, 0, none⟩ = some (.int .i64 L.idx)) (Q.drewN 1)) := hide HS0.out
        have HZd := hide (Nat.le_trans HZq.out hgd.size)
        have HXd := hide (same_more HXq.out hgd)
        have hdd : Q.drewN 1 = Q.drew := rfl
        rw [hdd] at HPd HGd H2d HSd HZd HXd
        clear hdd hgd HPq HKq H2 HS0 HJ HV HZq HXq
        have HPq := HPd
        have HKq := HGd
        have H2 := H2d
        have HS := HSd
        have HZq := HZd
        have HXq := HXd
        clear HPd HGd H2d HSd HZd HXd
        generalize Q.drew = Q0 at *
        refine take_put (i := 0) (v := .agg #[.bool O, .bool false, .bool true]) 56 rfl rfl (by kernel_rfl) (by kernel_rfl) (by kernel_rfl) (fun _ _ _ h => h) (Or.inl ⟨by rfl, by intro Wy hSW; have hc := (⟨blk_cell hSW.2.1 0, blk_cell hSW.2.1 1, blk_cell hSW.2.1 2⟩ : _ ∧ _ ∧ _); go_simp⟩) (by assumption) ?_
        (try simp only [Act.put, List.setIfInBounds_toArray, List.set_cons_zero, List.set_cons_succ])
        refine take_put (i := 1) (v := .pointer (some ⟨b, 0, none⟩)) 57 rfl rfl (by kernel_rfl) (by kernel_rfl) (by kernel_rfl) (fun _ _ _ h => h) (Or.inl ⟨by rfl, by intro Wy hSW; go_simp⟩) (by assumption) ?_
        (try simp only [Act.put, List.setIfInBounds_toArray, List.set_cons_zero, List.set_cons_succ])
        refine take_put (i := 2) (v := .agg #[.int .i64 i, .int .i64 x1, .int .i64 x2, .int .i64 x3, .int .i64 x4, .int .i64 x5, .int .i64 u]) 58 rfl rfl (by kernel_rfl) (by kernel_rfl) (by kernel_rfl) (fun _ _ _ h => h) (Or.inl ⟨by rfl, by intro Wy hSW; have hc := (⟨blk_cell hSW.1 0, blk_cell hSW.1 1, blk_cell hSW.1 2, blk_cell hSW.1 3, blk_cell hSW.1 4, blk_cell hSW.1 5, blk_cell hSW.1 6⟩ : _ ∧ _ ∧ _ ∧ _ ∧ _ ∧ _ ∧ _); go_simp⟩) (by assumption) ?_
        (try simp only [Act.put, List.setIfInBounds_toArray, List.set_cons_zero, List.set_cons_succ])
        refine take_put (i := 3) (v := .agg #[.bool O, .bool false, .bool true]) 59 rfl rfl (by kernel_rfl) (by kernel_rfl) (by kernel_rfl) (fun _ _ _ h => h) (Or.inl ⟨by rfl, by intro Wy hSW; have hc := (⟨blk_cell hSW.2.1 0, blk_cell hSW.2.1 1, blk_cell hSW.2.1 2⟩ : _ ∧ _ ∧ _); go_simp⟩) (by assumption) ?_
        (try simp only [Act.put, List.setIfInBounds_toArray, List.set_cons_zero, List.set_cons_succ])
        refine wpAnyH_ready (rs := [4]) (by kernel_rfl) (by simp) ?_
        refine AllReadyH.cons rfl (fun Kx hKx => ?_) AllReadyH.nil
        go_simp
        refine (CT.out b L.idx ⟨i, x1, x2, x3, x4, x5, u⟩ _ _ _ _ HS.out.2.2).mono ?_; rintro e Q1 ⟨ve, rfl, ho, hg⟩
        have HE := hide (show OwnE B2 Q1 _ _ from own_mono ho HZq.out)
        have HPn := hide (HPq.out.grown hg)
        have HKn := hide (kept_more HKq.out hg HZq.out)
        have H2n := hide (box_grown H2.out hg (by simp))
        have HSn : Hid ((fun V => V.heap[BJ]? = some (.cells #[.int .i64 i, .int .i64 x1, .int .i64 x2, .int .i64 x3, .int .i64 x4, .int .i64 x5, .int .i64 u] 70 (0, 0)) ∧ V.heap[BV]? = some (.cells #[.bool O, .bool false, .bool true] 50 (0, 0)) ∧ V.cell? ⟨b, 0, none⟩ = some (.int .i64 L.idx)) Q1) := hide ⟨box_grown HS.out.1 hg (by simp), box_grown HS.out.2.1 hg (by simp), blk_cell HPn.out.box 0⟩
        have HZn := hide (Nat.le_trans HZq.out hg.size)
        have HXn := hide (same_more HXq.out hg)
        clear ho hg hHeld HPq HKq H2 HS HZq HXq
        have HPq := HPn
        have HKq := HKn
        have H2 := H2n
        have HS := HSn
        have HZq := HZn
        have HXq := HXn
        clear HPn HKn H2n HSn HZn HXn
        refine hKx.out _ _ HS.out (fun hHeld => ?_)
        clear hKx Kx
        (try simp only [Act.put])
        refine wpAnyH_ready (rs := [5]) (by kernel_rfl) (by simp) ?_
        refine AllReadyH.cons rfl (fun Kx hKx => ?_) AllReadyH.nil
        refine step_store 50 (.tmp 2) (.tmp 56) B2 #[.bool O, .bool false, .bool true] 50 #[.bool false, .bool false, .bool false] rfl rfl H2.out sizeVp rfl (by simp [Value.oneCell']) ?_
        intro Q2 h1 e1 g1
        have HPn := hide (HPq.out.off g1 (type_box H2.out) (by decide) (by decide) (by decide) (by decide))
        have HKn := hide (fun k (hk : k < B2) (hb : k ≠ b) (hj : k ≠ gj) => (e1 k (by omega)).trans (HKq.out k hk hb hj))
        have HSn : Hid ((fun V => V.heap[BJ]? = some (.cells #[.int .i64 i, .int .i64 x1, .int .i64 x2, .int .i64 x3, .int .i64 x4, .int .i64 x5, .int .i64 u] 70 (0, 0)) ∧ V.heap[BV]? = some (.cells #[.bool O, .bool false, .bool true] 50 (0, 0)) ∧ V.cell? ⟨b, 0, none⟩ = some (.int .i64 L.idx)) Q2) := hide ⟨(e1 BJ (by have := HBB.out.1; omega)).trans HS.out.1, (e1 BV (by have := HLV.out.1; omega)).trans HS.out.2.1, blk_cell HPn.out.box 0⟩
        have HZn := hide (Nat.le_trans HZq.out g1.size)
        have HXn := hide (same_more HXq.out g1)
        have H2n := hide h1
        have HEn := hide (show OwnE B2 Q2 _ _ from own_type HE.out g1 (type_box H2.out) (by decide))
        clear hHeld h1 e1 g1 HPq HKq HS HZq HXq H2 HE
        have HPq := HPn
        clear HPn
        have HKq := HKn
        clear HKn
        have HS := HSn
        clear HSn
        have HZq := HZn
        clear HZn
        have HXq := HXn
        clear HXn
        have H2 := H2n
        clear H2n
        have HE := HEn
        clear HEn
        refine hKx.out _ _ HS.out (fun hHeld => ?_)
        clear hKx Kx
        (try simp only [Act.put])
        refine take_put (i := 6) (v := ve) 3 rfl rfl (by kernel_rfl) (by kernel_rfl) (by kernel_rfl) (fun _ _ _ h => h) (Or.inl ⟨by rfl, by intro Wy hSW; go_simp⟩) (by assumption) ?_
        (try simp only [Act.put, List.setIfInBounds_toArray, List.set_cons_zero, List.set_cons_succ])
        refine take_put (i := 7) (v := .int .i64 0) 4 rfl rfl (by kernel_rfl) (by kernel_rfl) (by kernel_rfl) (fun _ _ _ h => h) (Or.inl ⟨by rfl, by intro Wy hSW; go_simp⟩) (by assumption) ?_
        (try simp only [Act.put, List.setIfInBounds_toArray, List.set_cons_zero, List.set_cons_succ])
        refine wpAnyH_done (by kernel_rfl) ?_ _
        clear hHeld
        go_wp2_with (first | fail)
        refine bodyPost_ret (results_rtt rfl _ _ B2 50 #[.bool O, .bool false, .bool true] (0, 0) _ rfl H2.out Tryz.underlying50 rfl sizeVp) rfl ?_
        exact ⟨_, rfl, ⟨⟨_, by first | exact HPq.out | (rw [← List.drop_one]; exact HPq.out), by rw [HB.out]; exact HNq.out⟩⟩, by rw [HB.out]; exact HE.out, ⟨by rw [HB.out]; exact HZq.out, HXq.out⟩, fun k hk hb hj => HKq.out k (by rw [← HB.out]; exact hk) hb hj⟩
      | false =>
        have v1 := blk_cell HV.out 1
        have v2 := blk_cell HV.out 2
        go_upto_region 9 with (first | fail)
        clear v1 v2
        have HS0 : Hid True := hide trivial
        refine wp_region_held_drew (S := fun V => V.cell? ⟨b, 3, none⟩ = some (.slice (some ⟨gj, oj, none⟩) nj cj) ∧ V.heap[BJ]? = some (.cells #[.int .i64 i, .int .i64 x1, .int .i64 x2, .int .i64 x3, .int .i64 x4, .int .i64 x5, .int .i64 u] 70 (0, 0))) (by kernel_rfl) ⟨blk_cell (HP.out.grown (grownBy_draws wx 1 none)).box 3, box_grown HJ.out (grownBy_draws wx 1 none) (by simp)⟩ (fun hHeld => ?_)
        have hgd := grownBy_draws wx 1 none
        have HPd := hide (HP.out.grown hgd)
        have HGd := hide (grownBy_trans HGW.out hgd)
        have H2d := hide (box_grown H2.out hgd (by simp))
        have HJd := hide (box_grown HJ.out hgd (by simp))
        have HVd := hide (box_grown HV.out hgd (by simp))
        have hdd : wx.drewN 1 = wx.drew := rfl
        rw [hdd] at HPd HGd H2d HJd HVd
        clear hdd hgd HP HGW H2 HJ HV HS0
        generalize wx.drew = Z0 at *
        refine take_put (i := 0) (v := .pointer (some ⟨b, 0, none⟩)) 50 rfl rfl (by kernel_rfl) (by kernel_rfl) (by kernel_rfl) (fun _ _ _ h => h) (Or.inl ⟨by rfl, by intro Wy hSW; go_simp⟩) (by assumption) ?_
        (try simp only [Act.put, List.setIfInBounds_toArray, List.set_cons_zero, List.set_cons_succ])
        refine take_put (i := 1) (v := .pointer (some ⟨b, 0, none⟩)) 51 rfl rfl (by kernel_rfl) (by kernel_rfl) (by kernel_rfl) (fun _ _ _ h => h) (Or.inl ⟨by rfl, by intro Wy hSW; go_simp⟩) (by assumption) ?_
        (try simp only [Act.put, List.setIfInBounds_toArray, List.set_cons_zero, List.set_cons_succ])
        refine take_put (i := 2) (v := .pointer (some ⟨b, 3, none⟩)) 52 rfl rfl (by kernel_rfl) (by kernel_rfl) (by kernel_rfl) (fun _ _ _ h => h) (Or.inl ⟨by rfl, by intro Wy hSW; go_simp⟩) (by assumption) ?_
        (try simp only [Act.put, List.setIfInBounds_toArray, List.set_cons_zero, List.set_cons_succ])
        refine take_put (i := 3) (v := .slice (some ⟨gj, oj, none⟩) nj cj) 53 rfl rfl (by kernel_rfl) (by kernel_rfl) (by kernel_rfl) (fun _ _ _ h => h) (Or.inl ⟨by rfl, by intro Wy hSW; have hc := hSW.1; go_simp⟩) (by assumption) ?_
        (try simp only [Act.put, List.setIfInBounds_toArray, List.set_cons_zero, List.set_cons_succ])
        refine take_put (i := 4) (v := .agg #[.int .i64 i, .int .i64 x1, .int .i64 x2, .int .i64 x3, .int .i64 x4, .int .i64 x5, .int .i64 u]) 54 rfl rfl (by kernel_rfl) (by kernel_rfl) (by kernel_rfl) (fun _ _ _ h => h) (Or.inl ⟨by rfl, by intro Wy hSW; have hc := (⟨blk_cell hSW.2 0, blk_cell hSW.2 1, blk_cell hSW.2 2, blk_cell hSW.2 3, blk_cell hSW.2 4, blk_cell hSW.2 5, blk_cell hSW.2 6⟩ : _ ∧ _ ∧ _ ∧ _ ∧ _ ∧ _ ∧ _); go_simp⟩) (by assumption) ?_
        (try simp only [Act.put, List.setIfInBounds_toArray, List.set_cons_zero, List.set_cons_succ])
        refine take_put (i := 5) (v := .pointer (some ⟨gj, oj, none⟩)) 55 rfl rfl (by kernel_rfl) (by kernel_rfl) (by kernel_rfl) (fun _ _ _ h => h) (Or.inl ⟨by rfl, by intro Wy hSW; go_simp⟩) (by assumption) ?_
        (try simp only [Act.put, List.setIfInBounds_toArray, List.set_cons_zero, List.set_cons_succ])
        refine wpAnyH_ready (rs := [6]) (by kernel_rfl) (by simp) ?_
        refine AllReadyH.cons rfl (fun Kx hKx => ?_) AllReadyH.nil
        have hr9 := HPd.out.jobs.row
        obtain ⟨q9, hq9⟩ : ∃ q9, L.jobs[0]? = some q9 := ⟨_, List.getElem?_eq_getElem (by omega)⟩
        have k0 : Z0.cell? ⟨gj, oj, none⟩ = some (.int .i64 q9.task) := by have := row_cell (S := shJ) (j := 0) hr9 hq9 (k := 0) rfl; simpa [shJ] using this
        have k1 : Z0.cell? ⟨gj, oj + 1, none⟩ = some (.int .i64 q9.seq) := by have := row_cell (S := shJ) (j := 0) hr9 hq9 (k := 1) rfl; simpa [shJ] using this
        have k2 : Z0.cell? ⟨gj, oj + 2, none⟩ = some (.int .i64 q9.prio) := by have := row_cell (S := shJ) (j := 0) hr9 hq9 (k := 2) rfl; simpa [shJ] using this
        have k3 : Z0.cell? ⟨gj, oj + 3, none⟩ = some (.int .i64 q9.rel) := by have := row_cell (S := shJ) (j := 0) hr9 hq9 (k := 3) rfl; simpa [shJ] using this
        have k4 : Z0.cell? ⟨gj, oj + 4, none⟩ = some (.int .i64 q9.dead) := by have := row_cell (S := shJ) (j := 0) hr9 hq9 (k := 4) rfl; simpa [shJ] using this
        have k5 : Z0.cell? ⟨gj, oj + 5, none⟩ = some (.int .i64 q9.dem) := by have := row_cell (S := shJ) (j := 0) hr9 hq9 (k := 5) rfl; simpa [shJ] using this
        have k6 : Z0.cell? ⟨gj, oj + 6, none⟩ = some (.int .i64 q9.used) := by have := row_cell (S := shJ) (j := 0) hr9 hq9 (k := 6) rfl; simpa [shJ] using this
        have f0 := HPd.out.headFree hn (oj)
        have f1 := HPd.out.headFree hn (oj + 1)
        have f2 := HPd.out.headFree hn (oj + 2)
        have f3 := HPd.out.headFree hn (oj + 3)
        have f4 := HPd.out.headFree hn (oj + 4)
        have f5 := HPd.out.headFree hn (oj + 5)
        have f6 := HPd.out.headFree hn (oj + 6)
        clear hr9 hq9
        go_simp
        clear f0 k0 f1 k1 f2 k2 f3 k3 f4 k4 f5 k5 f6 k6
        have HPq := hide (HPd.out.head hn i x1 x2 x3 x4 x5 u)
        have hgh := headP_grown (W := Z0) (g := gj) (o := oj) (.int .i64 i) (.int .i64 x1) (.int .i64 x2) (.int .i64 x3) (.int .i64 x4) (.int .i64 x5) (.int .i64 u)
        have HJ := hide (box_grown HJd.out hgh (by have h2 := HBB.out.1; simp; omega))
        have HV := hide (box_grown HVd.out hgh (by have h2 := HLV.out.1; simp; omega))
        have H2 := hide (box_grown H2d.out hgh (by simp; omega))
        have HNq := hide (OrNew.refl B2 (.slice (some ⟨gj, oj, none⟩) nj cj))
        have HKq := hide (fun k (hk : k < B2) (hb : k ≠ b) (hj : k ≠ gj) => (hgh.block k (by have := HGd.out.size; rw [HB.out] at this; omega) (by simp; omega)).trans (HGd.out.block k (by rw [HB.out]; exact hk) (by simp)))
        have HZq := hide (show B2 ≤ (((((((Z0.setCell ⟨gj, oj, none⟩ (.int .i64 i)).setCell ⟨gj, oj + 1, none⟩ (.int .i64 x1)).setCell ⟨gj, oj + 2, none⟩ (.int .i64 x2)).setCell ⟨gj, oj + 3, none⟩ (.int .i64 x3)).setCell ⟨gj, oj + 4, none⟩ (.int .i64 x4)).setCell ⟨gj, oj + 5, none⟩ (.int .i64 x5)).setCell ⟨gj, oj + 6, none⟩ (.int .i64 u)).heap.size from by have h1 := HGd.out.size; have h2 := hgh.size; rw [HB.out] at h1; omega)
        have HXq := hide (same_of HGd.out hgh)
        clear hHeld hgh HPd HGd HJd HVd H2d
        refine hKx.out _ _ ⟨blk_cell HPq.out.box 3, HJ.out⟩ (fun hHeld => ?_)
        clear hKx Kx
        (try simp only [Act.put])
        refine wpAnyH_done (by kernel_rfl) ?_ _
        clear hHeld
        generalize (((((((Z0.setCell ⟨gj, oj, none⟩ (.int .i64 i)).setCell ⟨gj, oj + 1, none⟩ (.int .i64 x1)).setCell ⟨gj, oj + 2, none⟩ (.int .i64 x2)).setCell ⟨gj, oj + 3, none⟩ (.int .i64 x3)).setCell ⟨gj, oj + 4, none⟩ (.int .i64 x4)).setCell ⟨gj, oj + 5, none⟩ (.int .i64 x5)).setCell ⟨gj, oj + 6, none⟩ (.int .i64 u)) = Q at *
        go_upto_region 10 with (first | fail)
        have HS0 : Hid ((fun V => V.heap[BJ]? = some (.cells #[.int .i64 i, .int .i64 x1, .int .i64 x2, .int .i64 x3, .int .i64 x4, .int .i64 x5, .int .i64 u] 70 (0, 0)) ∧ V.heap[BV]? = some (.cells #[.bool O, .bool false, .bool false] 50 (0, 0)) ∧ V.cell? ⟨b, 0, none⟩ = some (.int .i64 L.idx)) Q) := hide ⟨HJ.out, HV.out, blk_cell HPq.out.box 0⟩
        refine wp_region_held_drew (S := fun V => V.heap[BJ]? = some (.cells #[.int .i64 i, .int .i64 x1, .int .i64 x2, .int .i64 x3, .int .i64 x4, .int .i64 x5, .int .i64 u] 70 (0, 0)) ∧ V.heap[BV]? = some (.cells #[.bool O, .bool false, .bool false] 50 (0, 0)) ∧ V.cell? ⟨b, 0, none⟩ = some (.int .i64 L.idx)) (by kernel_rfl) HS0.out (fun hHeld => ?_)
        have hgd := grownBy_draws Q 1 none
        have HPd := hide (HPq.out.grown hgd)
        have HGd := hide (kept_more HKq.out hgd HZq.out)
        have H2d := hide (box_grown H2.out hgd (by simp))
        have HSd : Hid ((fun V => V.heap[BJ]? = some (.cells #[.int .i64 i, .int .i64 x1, .int .i64 x2, .int .i64 x3, .int .i64 x4, .int .i64 x5, .int .i64 u] 70 (0, 0)) ∧ V.heap[BV]? = some (.cells #[.bool O, .bool false, .bool false] 50 (0, 0)) ∧ V.cell? ⟨b, 0, none⟩ = some (.int .i64 L.idx)) (Q.drewN 1)) := hide HS0.out
        have HZd := hide (Nat.le_trans HZq.out hgd.size)
        have HXd := hide (same_more HXq.out hgd)
        have hdd : Q.drewN 1 = Q.drew := rfl
        rw [hdd] at HPd HGd H2d HSd HZd HXd
        clear hdd hgd HPq HKq H2 HS0 HJ HV HZq HXq
        have HPq := HPd
        have HKq := HGd
        have H2 := H2d
        have HS := HSd
        have HZq := HZd
        have HXq := HXd
        clear HPd HGd H2d HSd HZd HXd
        generalize Q.drew = Q0 at *
        refine take_put (i := 0) (v := .agg #[.bool O, .bool false, .bool false]) 56 rfl rfl (by kernel_rfl) (by kernel_rfl) (by kernel_rfl) (fun _ _ _ h => h) (Or.inl ⟨by rfl, by intro Wy hSW; have hc := (⟨blk_cell hSW.2.1 0, blk_cell hSW.2.1 1, blk_cell hSW.2.1 2⟩ : _ ∧ _ ∧ _); go_simp⟩) (by assumption) ?_
        (try simp only [Act.put, List.setIfInBounds_toArray, List.set_cons_zero, List.set_cons_succ])
        refine take_put (i := 1) (v := .pointer (some ⟨b, 0, none⟩)) 57 rfl rfl (by kernel_rfl) (by kernel_rfl) (by kernel_rfl) (fun _ _ _ h => h) (Or.inl ⟨by rfl, by intro Wy hSW; go_simp⟩) (by assumption) ?_
        (try simp only [Act.put, List.setIfInBounds_toArray, List.set_cons_zero, List.set_cons_succ])
        refine take_put (i := 2) (v := .agg #[.int .i64 i, .int .i64 x1, .int .i64 x2, .int .i64 x3, .int .i64 x4, .int .i64 x5, .int .i64 u]) 58 rfl rfl (by kernel_rfl) (by kernel_rfl) (by kernel_rfl) (fun _ _ _ h => h) (Or.inl ⟨by rfl, by intro Wy hSW; have hc := (⟨blk_cell hSW.1 0, blk_cell hSW.1 1, blk_cell hSW.1 2, blk_cell hSW.1 3, blk_cell hSW.1 4, blk_cell hSW.1 5, blk_cell hSW.1 6⟩ : _ ∧ _ ∧ _ ∧ _ ∧ _ ∧ _ ∧ _); go_simp⟩) (by assumption) ?_
        (try simp only [Act.put, List.setIfInBounds_toArray, List.set_cons_zero, List.set_cons_succ])
        refine take_put (i := 3) (v := .agg #[.bool O, .bool false, .bool false]) 59 rfl rfl (by kernel_rfl) (by kernel_rfl) (by kernel_rfl) (fun _ _ _ h => h) (Or.inl ⟨by rfl, by intro Wy hSW; have hc := (⟨blk_cell hSW.2.1 0, blk_cell hSW.2.1 1, blk_cell hSW.2.1 2⟩ : _ ∧ _ ∧ _); go_simp⟩) (by assumption) ?_
        (try simp only [Act.put, List.setIfInBounds_toArray, List.set_cons_zero, List.set_cons_succ])
        refine wpAnyH_ready (rs := [4]) (by kernel_rfl) (by simp) ?_
        refine AllReadyH.cons rfl (fun Kx hKx => ?_) AllReadyH.nil
        go_simp
        refine (CT.out b L.idx ⟨i, x1, x2, x3, x4, x5, u⟩ _ _ _ _ HS.out.2.2).mono ?_; rintro e Q1 ⟨ve, rfl, ho, hg⟩
        have HE := hide (show OwnE B2 Q1 _ _ from own_mono ho HZq.out)
        have HPn := hide (HPq.out.grown hg)
        have HKn := hide (kept_more HKq.out hg HZq.out)
        have H2n := hide (box_grown H2.out hg (by simp))
        have HSn : Hid ((fun V => V.heap[BJ]? = some (.cells #[.int .i64 i, .int .i64 x1, .int .i64 x2, .int .i64 x3, .int .i64 x4, .int .i64 x5, .int .i64 u] 70 (0, 0)) ∧ V.heap[BV]? = some (.cells #[.bool O, .bool false, .bool false] 50 (0, 0)) ∧ V.cell? ⟨b, 0, none⟩ = some (.int .i64 L.idx)) Q1) := hide ⟨box_grown HS.out.1 hg (by simp), box_grown HS.out.2.1 hg (by simp), blk_cell HPn.out.box 0⟩
        have HZn := hide (Nat.le_trans HZq.out hg.size)
        have HXn := hide (same_more HXq.out hg)
        clear ho hg hHeld HPq HKq H2 HS HZq HXq
        have HPq := HPn
        have HKq := HKn
        have H2 := H2n
        have HS := HSn
        have HZq := HZn
        have HXq := HXn
        clear HPn HKn H2n HSn HZn HXn
        refine hKx.out _ _ HS.out (fun hHeld => ?_)
        clear hKx Kx
        (try simp only [Act.put])
        refine wpAnyH_ready (rs := [5]) (by kernel_rfl) (by simp) ?_
        refine AllReadyH.cons rfl (fun Kx hKx => ?_) AllReadyH.nil
        refine step_store 50 (.tmp 2) (.tmp 56) B2 #[.bool O, .bool false, .bool false] 50 #[.bool false, .bool false, .bool false] rfl rfl H2.out sizeVp rfl (by simp [Value.oneCell']) ?_
        intro Q2 h1 e1 g1
        have HPn := hide (HPq.out.off g1 (type_box H2.out) (by decide) (by decide) (by decide) (by decide))
        have HKn := hide (fun k (hk : k < B2) (hb : k ≠ b) (hj : k ≠ gj) => (e1 k (by omega)).trans (HKq.out k hk hb hj))
        have HSn : Hid ((fun V => V.heap[BJ]? = some (.cells #[.int .i64 i, .int .i64 x1, .int .i64 x2, .int .i64 x3, .int .i64 x4, .int .i64 x5, .int .i64 u] 70 (0, 0)) ∧ V.heap[BV]? = some (.cells #[.bool O, .bool false, .bool false] 50 (0, 0)) ∧ V.cell? ⟨b, 0, none⟩ = some (.int .i64 L.idx)) Q2) := hide ⟨(e1 BJ (by have := HBB.out.1; omega)).trans HS.out.1, (e1 BV (by have := HLV.out.1; omega)).trans HS.out.2.1, blk_cell HPn.out.box 0⟩
        have HZn := hide (Nat.le_trans HZq.out g1.size)
        have HXn := hide (same_more HXq.out g1)
        have H2n := hide h1
        have HEn := hide (show OwnE B2 Q2 _ _ from own_type HE.out g1 (type_box H2.out) (by decide))
        clear hHeld h1 e1 g1 HPq HKq HS HZq HXq H2 HE
        have HPq := HPn
        clear HPn
        have HKq := HKn
        clear HKn
        have HS := HSn
        clear HSn
        have HZq := HZn
        clear HZn
        have HXq := HXn
        clear HXn
        have H2 := H2n
        clear H2n
        have HE := HEn
        clear HEn
        refine hKx.out _ _ HS.out (fun hHeld => ?_)
        clear hKx Kx
        (try simp only [Act.put])
        refine take_put (i := 6) (v := ve) 3 rfl rfl (by kernel_rfl) (by kernel_rfl) (by kernel_rfl) (fun _ _ _ h => h) (Or.inl ⟨by rfl, by intro Wy hSW; go_simp⟩) (by assumption) ?_
        (try simp only [Act.put, List.setIfInBounds_toArray, List.set_cons_zero, List.set_cons_succ])
        refine take_put (i := 7) (v := .int .i64 0) 4 rfl rfl (by kernel_rfl) (by kernel_rfl) (by kernel_rfl) (fun _ _ _ h => h) (Or.inl ⟨by rfl, by intro Wy hSW; go_simp⟩) (by assumption) ?_
        (try simp only [Act.put, List.setIfInBounds_toArray, List.set_cons_zero, List.set_cons_succ])
        refine wpAnyH_done (by kernel_rfl) ?_ _
        clear hHeld
        go_wp2_with (first | fail)
        refine bodyPost_ret (results_rtt rfl _ _ B2 50 #[.bool O, .bool false, .bool false] (0, 0) _ rfl H2.out Tryz.underlying50 rfl sizeVp) rfl ?_
        exact ⟨_, rfl, ⟨⟨_, by first | exact HPq.out | (rw [← List.drop_one]; exact HPq.out), by rw [HB.out]; exact HNq.out⟩⟩, by rw [HB.out]; exact HE.out, ⟨by rw [HB.out]; exact HZq.out, HXq.out⟩, fun k hk hb hj => HKq.out k (by rw [← HB.out]; exact hk) hb hj⟩
/-- All of Run. -/
theorem run_all {lo b m : Nat} {q vr vj : Value} {ms : List RunM} {L : LocV} (w W : World) (hg : w.grownBy W none) (hlo : w.heap.size ≤ lo) (h : PLoc lo q W b vr vj ms L) (hF : Fine L m) :
    Calls Tryz.prog 21 #[.pointer (some ⟨b, 0, none⟩)] W fun e w' => ∃ v, e = .returned (.tuple #[.agg #[.bool (runO L), .bool (runD L), .bool (runK L)], v, .int .i64 (runN L)]) ∧ PNew lo q W.heap.size w' b vr vj ms (runL L) ∧ OwnE W.heap.size w' v (runV L) ∧ w.grownBy w' none ∧ W.heap.size ≤ w'.heap.size ∧ ∀ k, k < W.heap.size → k ≠ b → (L.jobs ≠ [] → vj.ownBlock ≠ some k) → w'.heap[k]? = W.heap[k]? := by
  by_cases h0 : L.jobs = []
  · have a1 : runO L = false := by unfold runO; rw [if_pos h0]
    have a2 : runD L = false := by unfold runD; rw [if_pos h0]
    have a3 : runK L = false := by unfold runK; rw [if_pos h0]
    have a4 : runN L = 1401 := by unfold runN; rw [if_pos h0]
    have a5 : runL L = L := by unfold runL; rw [if_pos h0]
    have a6 : runV L = [] := by unfold runV; rw [a1, a2, a3]; rfl
    rw [a1, a2, a3, a4, a5, a6]
    exact (prun_none W h h0).mono fun e w' ⟨h1, h2⟩ => ⟨_, h1, ⟨⟨_, h.grown h2, OrNew.refl _ _⟩⟩, ownE_nil _ _, grownBy_trans hg h2, h2.size, fun k hk _ _ => h2.block k hk (by simp)⟩
  · have hn : 0 < L.jobs.length := List.length_pos_iff.2 h0
    have h16 := (J.rowMay_iff.1 hF.row).1
    have hjm := J.job_parts (job_of hF (head_mem h0))
    have htl := hF.of _ (head_mem h0)
    have hm := run_done h0 hF
    obtain ⟨i, hi⟩ : ∃ i : Nat, (headJ L).task = (i : Int) := ⟨(headJ L).task.toNat, by omega⟩
    have hil : i < L.tasks.length := by omega
    have hT : headT L = L.taskAt i := by unfold headT; rw [hi, Int.toNat_natCast]
    obtain ⟨gj, oj, cj, rfl, -, hgj, -⟩ := ownP_at h.jobs h0
    obtain ⟨g, c, rfl, -⟩ := own_at h.runs (by rw [h.mlen]; omega)
    rw [h.mlen] at h ⊢
    rw [hT] at hm
    have eO : runO L = chO (headJ L) (L.taskAt i) L.level := by unfold runO; rw [if_neg h0, hT]
    have eD : runD L = chD (headJ L) (L.taskAt i) L.level := by unfold runD; rw [if_neg h0, hT]
    have eK : runK L = chK (headJ L) (L.taskAt i) L.level := by unfold runK; rw [if_neg h0, hT]
    have eN : runN L = 0 := by unfold runN; rw [if_neg h0]
    have eL : runL L = if (runD L || runK L) = true then { L with jobs := L.jobs.drop 1 } else { L with jobs := oneMore (headJ L) :: L.jobs.drop 1 } := by unfold runL; rw [if_neg h0]
    have eV : runV L = toldN (runO L) (runD L) (runK L) L.idx (headJ L).task ((headJ L).used + 1) 3 := by rw [told_three]; rfl
    rw [eL, eV, eO, eD, eK, eN]
    have hb := h.hb
    refine (prun_some W h hn rfl h16 hF.row hil rfl hi hm hjm.2.2.2.2.2.2.2.2.2.2.1 (by omega)).mono fun e w' ⟨v, h1, h2, h3, h4, h5⟩ => ⟨v, h1, h2, h3, ⟨h4.2.1.trans hg.os, h4.2.2.1.trans hg.tape, h4.2.2.2.trans hg.output, Nat.le_trans hg.size h4.1, fun k hk _ => ?_⟩, h4.1, fun k hk h6 h7 => h5 k hk h6 fun e => h7 h0 (by rw [e]; rfl)⟩
    exact (h5 k (Nat.lt_of_lt_of_le hk hg.size) (by omega) (by omega)).trans (hg.block k hk (by simp))
#print axioms run_all
end Go.Proofs.YtlppfocoonnpjaaGreatDoor.L

/- The contract of the reader of a configuration, proved over the translation. -/
import Derived.Test.YtgaegggiehhcpaaDoorReadC
namespace Go.Proofs.YtgaegggiehhcpaaDoor
open Go.RowKit
attribute [local go_sem] alloc_drewN setCell_drewN

theorem take_put {P : Program} {md : Region.Mode} {ops : Array Oper} {Q : Exit → Act → World → Prop} {S : World → Prop} {i : Nat} {oi : Oper} {v : Value} {fuel : Nat} {listed : Array Bool} {a : Act} {w : World} (d : Nat) (hi : ops[i]? = some oi) (hd : oi.dst = some d)
    (hs : Region.noSelect ops = true) (hf : Region.free md ops listed i = true) (hr : (Region.ready md ops listed).contains i = true)
    (hQ : ∀ c a w, Q (.panic c) (a.put oi.dst v) w → Q (.panic c) a w) (hy : YieldsIf P ops S oi v a) (hS : S w)
    (h : wpAnyH P md ops Q S fuel (listed.setIfInBounds i true) (a.put (some d) v) w) : wpAnyH P md ops Q S (fuel + 1) listed a w :=
  wpAnyH_take hi hs hf hr hQ hy hS (by rw [hd]; exact h)

set_option maxRecDepth 100000 in
set_option maxHeartbeats 1000000 in
theorem readConf_any (b : Nat) (st : St) (w : World) (h : RAt w b st) :
    Calls Tryd.prog 33 #[.pointer (some ⟨b, 0, none⟩)] w fun e w' => ∃ c, e = .returned c ∧ ConfOwn w.heap.size w' c (confR st).1 ∧ RAt w' b (confR st).2 ∧ w.grownBy w' (some b) := by
  have hmf := hmf2
  have CT := hide (fun W h => take_any b 2 (by decide) st W h)
  have C1 := hide (fun W h => number_2 b ((takeR 2 st).2.1, decide ((takeR 2 st).1 ≠ [78, 67])) W h)
  unfold confR
  dsimp only
  generalize takeR 2 st = r0 at *
  obtain ⟨tl, st1⟩ := r0
  dsimp only at CT C1 ⊢
  generalize hsh : decide (tl ≠ [78, 67]) = sh at *
  have HSH := hide hsh
  clear hsh
  generalize numR 2 (st1.1, sh) = r1 at *
  obtain ⟨fr, st2⟩ := r1
  dsimp only at C1 ⊢
  have C2 := hide (fun W h => number_1 b st2 W h)
  generalize numR 1 st2 = r2 at *
  obtain ⟨qt, st3⟩ := r2
  dsimp only at C2 ⊢
  have C3 := hide (fun W h => readAll_P b st3 W h)
  generalize allR partR st3 = r3 at *
  obtain ⟨ps, st4⟩ := r3
  dsimp only at C3 ⊢
  have C4 := hide (fun W h => readAll_W b st4 W h)
  generalize allR winR st4 = r4 at *
  obtain ⟨ws, st5⟩ := r4
  dsimp only at C4 ⊢
  have C5 := hide (fun W h => readAll_O b st5 W h)
  generalize allR portR st5 = r5 at *
  obtain ⟨os, st6⟩ := r5
  dsimp only at C5 ⊢
  have hbl := h.lt
  have hbn : w.heap.size ≠ b := by omega
  have HR0 := hide (h.grown (World.grownBy_alloc w (.cells #[.int .i64 0, .int .i64 0, .slice none 0 0, .slice none 0 0, .slice none 0 0] 26) none))
  have G0 := hide (grown_alloc_some w (.cells #[.int .i64 0, .int .i64 0, .slice none 0 0, .slice none 0 0, .slice none 0 0] 26) (some b))
  have B0 := hide (heap_alloc_new w (.cells #[.int .i64 0, .int .i64 0, .slice none 0 0, .slice none 0 0, .slice none 0 0] 26))
  clear h
  go_enter Tryd.func33, Tryd.ntmps33
  go_wp2_with (first | fail)
  refine (CT.out _ HR0.out).mono ?_; rintro e w1 ⟨t, rfl, ht, hr, hg⟩
  have hne : (t.toList == [78, 67]) = !sh := by
    rw [toList_beq, ht, ← HSH.out]
    by_cases e : tl = [78, 67] <;> simp [e]
  have G1 := hide (grownBy_trans G0.out hg)
  have B1 := hide ((hg.block w.heap.size (by simp) (by simp; omega)).trans B0.out)
  obtain ⟨hr0, s1, hr1, hr2⟩ := hr
  have c0 := two_cell0 hr2
  have c1 := two_cell1 hr2
  have fr1 := two_free hr2
  have HR1 := hide (show RAt ((w1.setCell ⟨b, 1, none⟩ (.bool sh)).drew) b (st1.1, sh) from ⟨hr0, s1, hr1, two_set1 hr2⟩)
  have G1d := hide (show w.grownBy ((w1.setCell ⟨b, 1, none⟩ (.bool sh)).drew) (some b) from grownBy_trans (grownBy_trans G1.out (grownBy_set _ _ _ _)) (grownBy_any (drew_grown _)))
  have B1d := hide (((grownBy_set w1 b 1 (.bool sh)).block w.heap.size (box_lt B1.out) (by simp; omega)).trans B1.out)
  clear hr0 hr1 hr2 hg ht CT
  go_wp2
  generalize hn1 : ws.length = n1 at *
  generalize hn2 : os.length = n2 at *
  have HN1 := hide hn1
  have HN2 := hide hn2
  clear hn1 hn2
  refine wp_region_noPanic ?_
  refine wp_region_held_drew (S := fun _ => True) (by kernel_rfl) trivial (fun hHeld => ?_)
  refine take_put (i := 0) (v := .pointer (some ⟨b, 0, none⟩)) 12 rfl rfl (by kernel_rfl) (by kernel_rfl) (by kernel_rfl) (fun _ _ _ h => h) (Or.inl ⟨by rfl, by intro w hSw; go_simp⟩) (by assumption) ?_
  simp only [Act.put, List.setIfInBounds_toArray, List.set_cons_zero, List.set_cons_succ]
  refine take_put (i := 1) (v := .pointer (some ⟨b, 0, none⟩)) 13 rfl rfl (by kernel_rfl) (by kernel_rfl) (by kernel_rfl) (fun _ _ _ h => h) (Or.inl ⟨by rfl, by intro w hSw; go_simp⟩) (by assumption) ?_
  simp only [Act.put, List.setIfInBounds_toArray, List.set_cons_zero, List.set_cons_succ]
  refine take_put (i := 2) (v := .pointer (some ⟨b, 0, none⟩)) 14 rfl rfl (by kernel_rfl) (by kernel_rfl) (by kernel_rfl) (fun _ _ _ h => h) (Or.inl ⟨by rfl, by intro w hSw; go_simp⟩) (by assumption) ?_
  simp only [Act.put, List.setIfInBounds_toArray, List.set_cons_zero, List.set_cons_succ]
  refine take_put (i := 4) (v := .pointer (some ⟨b, 0, none⟩)) 16 rfl rfl (by kernel_rfl) (by kernel_rfl) (by kernel_rfl) (fun _ _ _ h => h) (Or.inl ⟨by rfl, by intro w hSw; go_simp⟩) (by assumption) ?_
  simp only [Act.put, List.setIfInBounds_toArray, List.set_cons_zero, List.set_cons_succ]
  refine take_put (i := 5) (v := .pointer (some ⟨b, 0, none⟩)) 17 rfl rfl (by kernel_rfl) (by kernel_rfl) (by kernel_rfl) (fun _ _ _ h => h) (Or.inl ⟨by rfl, by intro w hSw; go_simp⟩) (by assumption) ?_
  simp only [Act.put, List.setIfInBounds_toArray, List.set_cons_zero, List.set_cons_succ]
  refine take_put (i := 6) (v := .pointer (some ⟨b, 0, none⟩)) 18 rfl rfl (by kernel_rfl) (by kernel_rfl) (by kernel_rfl) (fun _ _ _ h => h) (Or.inl ⟨by rfl, by intro w hSw; go_simp⟩) (by assumption) ?_
  simp only [Act.put, List.setIfInBounds_toArray, List.set_cons_zero, List.set_cons_succ]
  refine take_put (i := 8) (v := .pointer (some ⟨b, 0, none⟩)) 20 rfl rfl (by kernel_rfl) (by kernel_rfl) (by kernel_rfl) (fun _ _ _ h => h) (Or.inl ⟨by rfl, by intro w hSw; go_simp⟩) (by assumption) ?_
  simp only [Act.put, List.setIfInBounds_toArray, List.set_cons_zero, List.set_cons_succ]
  refine take_put (i := 9) (v := .pointer (some ⟨b, 0, none⟩)) 21 rfl rfl (by kernel_rfl) (by kernel_rfl) (by kernel_rfl) (fun _ _ _ h => h) (Or.inl ⟨by rfl, by intro w hSw; go_simp⟩) (by assumption) ?_
  simp only [Act.put, List.setIfInBounds_toArray, List.set_cons_zero, List.set_cons_succ]
  refine take_put (i := 10) (v := .func (.func 65) #[.pointer (some ⟨b, 0, none⟩)] #[]) 22 rfl rfl (by kernel_rfl) (by kernel_rfl) (by kernel_rfl) (fun _ _ _ h => h) (Or.inl ⟨by rfl, by intro w hSw; go_simp⟩) (by assumption) ?_
  simp only [Act.put, List.setIfInBounds_toArray, List.set_cons_zero, List.set_cons_succ]
  refine take_put (i := 12) (v := .pointer (some ⟨b, 0, none⟩)) 24 rfl rfl (by kernel_rfl) (by kernel_rfl) (by kernel_rfl) (fun _ _ _ h => h) (Or.inl ⟨by rfl, by intro w hSw; go_simp⟩) (by assumption) ?_
  simp only [Act.put, List.setIfInBounds_toArray, List.set_cons_zero, List.set_cons_succ]
  refine take_put (i := 13) (v := .pointer (some ⟨b, 0, none⟩)) 25 rfl rfl (by kernel_rfl) (by kernel_rfl) (by kernel_rfl) (fun _ _ _ h => h) (Or.inl ⟨by rfl, by intro w hSw; go_simp⟩) (by assumption) ?_
  simp only [Act.put, List.setIfInBounds_toArray, List.set_cons_zero, List.set_cons_succ]
  refine take_put (i := 14) (v := .func (.func 67) #[.pointer (some ⟨b, 0, none⟩)] #[]) 26 rfl rfl (by kernel_rfl) (by kernel_rfl) (by kernel_rfl) (fun _ _ _ h => h) (Or.inl ⟨by rfl, by intro w hSw; go_simp⟩) (by assumption) ?_
  simp only [Act.put, List.setIfInBounds_toArray, List.set_cons_zero, List.set_cons_succ]
  refine take_put (i := 16) (v := .pointer (some ⟨b, 0, none⟩)) 28 rfl rfl (by kernel_rfl) (by kernel_rfl) (by kernel_rfl) (fun _ _ _ h => h) (Or.inl ⟨by rfl, by intro w hSw; go_simp⟩) (by assumption) ?_
  simp only [Act.put, List.setIfInBounds_toArray, List.set_cons_zero, List.set_cons_succ]
  refine take_put (i := 17) (v := .pointer (some ⟨b, 0, none⟩)) 29 rfl rfl (by kernel_rfl) (by kernel_rfl) (by kernel_rfl) (fun _ _ _ h => h) (Or.inl ⟨by rfl, by intro w hSw; go_simp⟩) (by assumption) ?_
  simp only [Act.put, List.setIfInBounds_toArray, List.set_cons_zero, List.set_cons_succ]
  refine take_put (i := 18) (v := .func (.func 69) #[.pointer (some ⟨b, 0, none⟩)] #[]) 30 rfl rfl (by kernel_rfl) (by kernel_rfl) (by kernel_rfl) (fun _ _ _ h => h) (Or.inl ⟨by rfl, by intro w hSw; go_simp⟩) (by assumption) ?_
  simp only [Act.put, List.setIfInBounds_toArray, List.set_cons_zero, List.set_cons_succ]
  refine wpAnyH_ready (rs := [3]) (by kernel_rfl) (by simp) ?_
  refine AllReadyH.cons rfl (fun K hK => ?_) AllReadyH.nil
  go_simp
  refine (C1.out _ HR1.out).mono ?_; rintro e w2 ⟨rfl, hr, hg⟩
  have HR2 := hide hr
  have G2 := hide (grownBy_trans G1d.out hg)
  have B2 := hide ((hg.block w.heap.size (box_lt B1d.out) (by simp; omega)).trans B1d.out)
  clear hr hg
  refine hK.out _ _ trivial (fun hHeld => ?_)
  clear hK K
  refine wpAnyH_ready (rs := [7]) (by kernel_rfl) (by simp) ?_
  refine AllReadyH.cons rfl (fun K hK => ?_) AllReadyH.nil
  go_simp
  refine (C2.out _ HR2.out).mono ?_; rintro e w3 ⟨rfl, hr, hg⟩
  have HR3 := hide hr
  have G3 := hide (grownBy_trans G2.out hg)
  have B3 := hide ((hg.block w.heap.size (box_lt B2.out) (by simp; omega)).trans B2.out)
  clear hr hg
  refine hK.out _ _ trivial (fun hHeld => ?_)
  clear hK K
  refine wpAnyH_ready (rs := [11]) (by kernel_rfl) (by simp) ?_
  refine AllReadyH.cons rfl (fun K hK => ?_) AllReadyH.nil
  go_simp
  refine (C3.out _ HR3.out).mono ?_; rintro e w4 ⟨pa, pn, pc, rfl, ho, hr, hg⟩
  have HR4 := hide hr
  have G4 := hide (grownBy_trans G3.out hg)
  have B4 := hide ((hg.block w.heap.size (box_lt B3.out) (by simp; omega)).trans B3.out)
  have HP4 := hide (ho.mono (show w.heap.size + 1 ≤ w3.heap.size from box_lt B3.out))
  clear ho
  clear hr hg
  refine hK.out _ _ trivial (fun hHeld => ?_)
  clear hK K
  refine wpAnyH_ready (rs := [15]) (by kernel_rfl) (by simp) ?_
  refine AllReadyH.cons rfl (fun K hK => ?_) AllReadyH.nil
  go_simp
  refine (C4.out _ HR4.out).mono ?_; rintro e w5 ⟨v5, rfl, ho, hr, hg⟩
  have HR5 := hide hr
  have G5 := hide (grownBy_trans G4.out hg)
  have B5 := hide ((hg.block w.heap.size (box_lt B4.out) (by simp; omega)).trans B4.out)
  have HW5 := hide (own_mono ho (show w.heap.size + 1 ≤ w4.heap.size from box_lt B4.out))
  have HP5 := hide (HP4.out.off hg (by omega))
  clear ho
  obtain ⟨wa, wc, rfl⟩ := own_form HW5.out
  clear hr hg
  refine hK.out _ _ trivial (fun hHeld => ?_)
  clear hK K
  refine wpAnyH_ready (rs := [19]) (by kernel_rfl) (by simp) ?_
  refine AllReadyH.cons rfl (fun K hK => ?_) AllReadyH.nil
  go_simp
  refine (C5.out _ HR5.out).mono ?_; rintro e w6 ⟨v6, rfl, ho, hr, hg⟩
  have HR6 := hide hr
  have G6 := hide (grownBy_trans G5.out hg)
  have B6 := hide ((hg.block w.heap.size (box_lt B5.out) (by simp; omega)).trans B5.out)
  have HO6 := hide (own_mono ho (show w.heap.size + 1 ≤ w5.heap.size from box_lt B5.out))
  have HP6 := hide (HP5.out.off hg (by omega))
  have HW6 := hide (own_off HW5.out hg (by omega))
  clear ho
  obtain ⟨oa, oc, rfl⟩ := own_form HO6.out
  clear hr hg
  refine hK.out _ _ trivial (fun hHeld => ?_)
  clear hK K
  refine take_put (i := 20) (v := .agg #[.int .i64 fr, .int .i64 qt, .slice pa pn pc, .slice wa n1 wc, .slice oa n2 oc]) 32 rfl rfl (by kernel_rfl) (by kernel_rfl) (by kernel_rfl) (fun _ _ _ h => h) (Or.inl ⟨by rfl, by intro w hSw; go_simp⟩) (by assumption) ?_
  simp only [Act.put, List.setIfInBounds_toArray, List.set_cons_zero, List.set_cons_succ]
  have k0 : w6.cell? ⟨w.heap.size, 0, none⟩ = some (.int .i64 0) := blk_cell B6.out 0
  have k1 : w6.cell? ⟨w.heap.size, 1, none⟩ = some (.int .i64 0) := blk_cell B6.out 1
  have k2 : w6.cell? ⟨w.heap.size, 2, none⟩ = some (.slice none 0 0) := blk_cell B6.out 2
  have k3 : w6.cell? ⟨w.heap.size, 3, none⟩ = some (.slice none 0 0) := blk_cell B6.out 3
  have k4 : w6.cell? ⟨w.heap.size, 4, none⟩ = some (.slice none 0 0) := blk_cell B6.out 4
  have kf := blk_free B6.out
  refine wpAnyH_ready (rs := [21]) (by kernel_rfl) (by simp) ?_
  refine AllReadyH.cons rfl (fun K hK => ?_) AllReadyH.nil
  go_simp
  refine hK.out _ _ trivial (fun hHeld => ?_)
  clear hK K
  refine wpAnyH_done (by kernel_rfl) ?_ _
  refine NoPanic.normal ?_
  go_wp2
  (try simp only [Exit.inBlock, Exit.then])
  refine bodyPost_ret (results_cell_row rfl _ _ w.heap.size 26 #[.int .i64 fr, .int .i64 qt, .slice pa pn pc, .slice wa n1 wc, .slice oa n2 oc] (0, 0) _ rfl (by simp [World.setCell, Array.getElem?_modify, B6.out]) Tryd.underlying26 rfl size26) rfl ?_
  refine ⟨_, rfl, ⟨_, _, _, rfl, ?_, ?_, ?_⟩, ?_, ?_⟩
  · refine PartsOwn.mono (base' := w.heap.size + 1) ?_ (by omega)
    repeat refine PartsOwn.off ?_ (grownBy_set _ w.heap.size _ _) (by omega)
    exact HP6.out
  · show World.ownsRow _ _ _ _ _ ws.length _
    rw [HN1.out]
    refine own_mono (base' := w.heap.size + 1) ?_ (by omega)
    repeat refine own_off ?_ (grownBy_set _ w.heap.size _ _) (by omega)
    exact HW6.out
  · show World.ownsRow _ _ _ _ _ os.length _
    rw [HN2.out]
    refine own_mono (base' := w.heap.size + 1) ?_ (by omega)
    repeat refine own_off ?_ (grownBy_set _ w.heap.size _ _) (by omega)
    exact HO6.out
  · repeat refine RAt.other hbn ?_
    exact HR6.out
  · repeat refine grown_set_new (Nat.le_refl _) ?_
    exact G6.out

#print axioms readConf_any
end Go.Proofs.YtgaegggiehhcpaaDoor

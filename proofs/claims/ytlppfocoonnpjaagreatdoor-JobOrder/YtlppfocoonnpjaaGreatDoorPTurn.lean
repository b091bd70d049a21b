/- Contracts of the program's own event, and of its turns: late, wait, pick, release; proved over the translation. -/
import Derived.Test.YtlppfocoonnpjaaGreatDoorPLoc
import Derived.Test.YtlppfocoonnpjaaGreatDoorUPick
import Derived.Test.YtlppfocoonnpjaaGreatDoorULate
import Derived.Test.YtlppfocoonnpjaaGreatDoorURelease
namespace Go.Proofs.YtlppfocoonnpjaaGreatDoor.L
open Go.RowKit
open Go.Proofs.YtlppfocoonnpjaaGreatDoor.J (JobV blk_cell blk_free box_lt box_grown type_box type_own own_type own_mono Far far_new take_put step_store)
open Go.Proofs.YtlppfocoonnpjaaGreatDoor.U (TurnsV pickS pickE lateB relS relD isB turnsMay)
attribute [local go_sem] alloc_drewN setCell_drewN

theorem grown_any {w w1 w2 : World} {g : Nat} (h : w.grownBy w1 none) (h' : w1.grownBy w2 (some g)) : w.grownBy w2 (some g) :=
  ⟨h'.os.trans h.os, h'.tape.trans h.tape, h'.output.trans h.output, Nat.le_trans h.size h'.size, fun k hk hn => (h'.block k (Nat.lt_of_lt_of_le hk h.size) hn).trans (h.block k hk (by simp))⟩
theorem grown_more {w w1 w2 : World} {g : Option Nat} (h : w.grownBy w1 g) (h' : w1.grownBy w2 none) : w.grownBy w2 g :=
  ⟨h'.os.trans h.os, h'.tape.trans h.tape, h'.output.trans h.output, Nat.le_trans h.size h'.size, fun k hk hn => (h'.block k (Nat.lt_of_lt_of_le hk h.size) (by simp)).trans (h.block k hk hn)⟩
theorem sizeUp : (Tryz.prog.info? 93).map (·.size) = some 2 := by kernel_rfl
theorem event_any (b : Nat) (idx : Int) (kind task val : Int) (w : World) (h0 : w.cell? ⟨b, 0, none⟩ = some (.int .i64 idx)) :
    Calls Tryz.prog 40 #[.pointer (some ⟨b, 0, none⟩), .int .i64 kind, .int .i64 task, .int .i64 val] w fun e w' => e = .returned (.agg #[.int .i64 kind, .int .i64 idx, .int .i64 task, .int .i64 val]) ∧ w.grownBy w' none := by
  have hlt := World.block_lt_of_cell? w _ h0
  have HC := hide (fun W (hg : w.grownBy W none) => (World.cell?_of_block (a := ⟨b, 0, none⟩) (hg.block b hlt (by simp))).trans h0)
  clear h0 hlt
  go_enter Tryz.func40, Tryz.ntmps40
  go_upto_region 1 with (first | fail)
  have HR := hide (heap_alloc_new w (.cells #[.int .i64 0, .int .i64 0, .int .i64 0, .int .i64 0] 68))
  have HG := hide (World.grownBy_alloc w (.cells #[.int .i64 0, .int .i64 0, .int .i64 0, .int .i64 0] 68) none)
  generalize w.alloc (.cells #[.int .i64 0, .int .i64 0, .int .i64 0, .int .i64 0] 68) = w1 at *
  generalize hB : w.heap.size = B at *
  have HBW := hide hB
  clear hB
  have c0 := HC.out _ HG.out
  go_wp2_with (first | ((with_reducible refine J.list_store 68 (.tmp 8) (.tmp 16) B #[.int .i64 kind, .int .i64 idx, .int .i64 task, .int .i64 val] 68 #[.int .i64 0, .int .i64 0, .int .i64 0, .int .i64 0] ?hx ?hy ?hg ?hi ?ho ?h1 ?_); (case hx => rfl); (case hy => rfl); (case hg => exact HR.out); (case hi => exact sizeE); (case ho => rfl); (case h1 => simp [Value.oneCell']); intro w8 h1 e1 g1; have HRn := hide h1; have HGn := hide (grown_spoil HG.out (by rw [HBW.out]; exact Nat.le_refl _) g1); clear h1 e1 g1 HG HR) | fail)
  refine bodyPost_ret (J.results_row rfl _ _ B 68 #[.int .i64 kind, .int .i64 idx, .int .i64 task, .int .i64 val] (0, 0) _ rfl HRn.out Tryz.underlying68 rfl sizeE) rfl ?_
  exact ⟨rfl, HGn.out⟩
/-- A task's turns in their row. -/
theorem PLoc.last {lo b g n c : Nat} {q : Value} {W : World} {vj : Value} {ms : List RunM} {L : LocV} (h : PLoc lo q W b (.slice (some ⟨g, 0, none⟩) n c) vj ms L) {i : Nat} {m : RunM} (hm : ms[i]? = some m) : W.cell? ⟨g, i * 9 + 6, none⟩ = some (.int .i64 m.last) ∧ W.cell? ⟨g, i * 9 + 7, none⟩ = some (.slice m.pa m.pn m.pc) := ⟨h.cell hm (k := 6) rfl, h.cell hm (k := 7) rfl⟩
theorem PLoc.free {lo b g n c : Nat} {q : Value} {W : World} {vj : Value} {ms : List RunM} {L : LocV} (h : PLoc lo q W b (.slice (some ⟨g, 0, none⟩) n c) vj ms L) (k : Nat) : W.frozen? ⟨g, k, none⟩ = false := own_free (k := 9) h.at k
theorem PLoc.ge {lo b g n c : Nat} {q : Value} {W : World} {vj : Value} {ms : List RunM} {L : LocV} (h : PLoc lo q W b (.slice (some ⟨g, 0, none⟩) n c) vj ms L) : lo ≤ g ∧ g < W.heap.size := own_ge (k := 9) h.at
theorem PLoc.loW {lo b : Nat} {q : Value} {W : World} {vr vj : Value} {ms : List RunM} {L : LocV} (h : PLoc lo q W b vr vj ms L) : lo ≤ W.heap.size := Nat.le_of_lt (Nat.lt_of_le_of_lt h.hb (box_lt h.box))
theorem pick_at {lo : Nat} {t : TaskV} {L : Int} {v : Value} {zs : List Int} {d PL E : Int} {PZ : List Int} (w : World) (hv : RowAt U.shN lo w v zs) (hP : pickS t ⟨L, zs⟩ d = ⟨PL, PZ⟩) (hE : pickE t ⟨L, zs⟩ d = E) :
    Calls Tryz.prog 60 #[U.taskVal t, .agg #[.int .i64 L, v], .int .i64 d] w fun e w' => ∃ a n c, e = .returned (.tuple #[.agg #[.int .i64 PL, .slice a n c], .int .i64 E]) ∧ U.Own w.heap.size w' (.slice a n c) PZ ∧ w.grownBy w' none := by
  refine (U.pick_any t L v zs d w hv).mono ?_
  rw [hP, hE]
  rintro e w' ⟨v', rfl, ho, hg⟩
  obtain ⟨a, cap, rfl⟩ := own_form ho
  exact ⟨_, _, _, rfl, ho, hg⟩
theorem rel_at {lo : Nat} {t : TaskV} {L : Int} {v : Value} {zs : List Int} {now PL D : Int} {PZ : List Int} {IS : Bool} (w : World) (hv : RowAt U.shN lo w v zs) (hP : relS t ⟨L, zs⟩ now = ⟨PL, PZ⟩) (hD : relD t ⟨L, zs⟩ now = D) (hI : isB t ⟨L, zs⟩ now = IS) :
    Calls Tryz.prog 110 #[U.taskVal t, .agg #[.int .i64 L, v], .int .i64 now] w fun e w' => ∃ a n c, e = .returned (.tuple #[.agg #[.int .i64 PL, .slice a n c], .int .i64 D, .bool IS]) ∧ U.Own w.heap.size w' (.slice a n c) PZ ∧ w.grownBy w' none := by
  refine (U.rel_any t L v zs now w hv).mono ?_
  rw [hP, hD, hI]
  rintro e w' ⟨v', rfl, ho, hg⟩
  obtain ⟨a, cap, rfl⟩ := own_form ho
  exact ⟨_, _, _, rfl, ho, hg⟩
set_option maxRecDepth 100000 in
set_option maxHeartbeats 16000000 in
theorem late_at {lo b g n c : Nat} {q vj : Value} {ms : List RunM} {L : LocV} (t : TaskV) (i : Nat) (m : RunM) (now : Int) (W : World) (h : PLoc lo q W b (.slice (some ⟨g, 0, none⟩) n c) vj ms L) (hm : ms[i]? = some m) :
    Calls Tryz.prog 39 #[.pointer (some ⟨g, i * 9 + 6, none⟩), U.taskVal t, .int .i64 now] W fun e w' => e = .returned (.bool (lateB t (L.turnAt i) now)) ∧ W.grownBy w' none := by
  obtain ⟨x0, x1, x2, x3, x4, x5⟩ := t
  have HEA := h.each i m hm
  have HTU := hide (fun V (hV : PLoc lo q V b (.slice (some ⟨g, 0, none⟩) n c) vj ms L) => hV.last hm)
  have HPK := hide (fun V (hV : PLoc lo q V b (.slice (some ⟨g, 0, none⟩) n c) vj ms L) => (hV.each i m hm).2.2.2.1.row)
  obtain ⟨ts, tl, ta, tb, tc, tq⟩ := m
  have e5 : tl = (L.turnAt i).last := HEA.2.1
  obtain ⟨⟨sl, sz⟩, hS⟩ : ∃ S, L.turnAt i = S := ⟨_, rfl⟩
  rw [hS] at HPK e5 ⊢
  subst e5
  dsimp only [RunM.picks] at HTU HPK ⊢
  have HS := hide hS
  clear hS HEA
  have CL := hide (fun V (hv : RowAt U.shN lo V (.slice ta tb tc) sz) => U.late_any ⟨x0, x1, x2, x3, x4, x5⟩ tl ta tb tc sz now V hv)
  generalize lateB ⟨x0, x1, x2, x3, x4, x5⟩ ⟨tl, sz⟩ now = IS at *
  have HG0 := hide (World.grownBy_alloc W (.cells #[.int .i64 x0, .int .i64 x1, .int .i64 x2, .int .i64 x3, .int .i64 x4, .int .i64 x5] 73) none)
  have HT0 := hide (heap_alloc_new W (.cells #[.int .i64 x0, .int .i64 x1, .int .i64 x2, .int .i64 x3, .int .i64 x4, .int .i64 x5] 73))
  have HP0 := hide (h.grown HG0.out)
  have HL0 := hide h
  go_enter Tryz.func39, Tryz.ntmps39
  go_upto_region 1 with (first | fail)
  generalize W.alloc (.cells #[.int .i64 x0, .int .i64 x1, .int .i64 x2, .int .i64 x3, .int .i64 x4, .int .i64 x5] 73) = W0 at *
  generalize hBT : W.heap.size = BT at *
  have HBT := hide hBT
  clear hBT h
  refine wp_region_held_drew (S := fun V => (PLoc lo q V b (.slice (some ⟨g, 0, none⟩) n c) vj ms L) ∧ V.heap[BT]? = some (.cells #[.int .i64 x0, .int .i64 x1, .int .i64 x2, .int .i64 x3, .int .i64 x4, .int .i64 x5] 73 (0, 0))) (by kernel_rfl) ⟨HP0.out.grown (grownBy_draws W0 1 none), HT0.out⟩ (fun hHeld => ?_)
  have HGW := hide (grownBy_trans HG0.out (grownBy_draws W0 1 none))
  have HSS : Hid ((fun V => (PLoc lo q V b (.slice (some ⟨g, 0, none⟩) n c) vj ms L) ∧ V.heap[BT]? = some (.cells #[.int .i64 x0, .int .i64 x1, .int .i64 x2, .int .i64 x3, .int .i64 x4, .int .i64 x5] 73 (0, 0))) (W0.drewN 1)) := hide ⟨HP0.out.grown (grownBy_draws W0 1 none), HT0.out⟩
  have hdd : W0.drewN 1 = W0.drew := rfl
  rw [hdd] at HGW HSS
  clear hdd HP0 HG0 HT0
  generalize W0.drew = V0 at *
  refine take_put (i := 0) (v := .agg #[.int .i64 x0, .int .i64 x1, .int .i64 x2, .int .i64 x3, .int .i64 x4, .int .i64 x5]) 7 rfl rfl (by kernel_rfl) (by kernel_rfl) (by kernel_rfl) (fun _ _ _ h => h) (Or.inl ⟨by rfl, by intro Wy hSW; have hc := (⟨blk_cell hSW.2 0, blk_cell hSW.2 1, blk_cell hSW.2 2, blk_cell hSW.2 3, blk_cell hSW.2 4, blk_cell hSW.2 5⟩ : _ ∧ _ ∧ _ ∧ _ ∧ _ ∧ _); go_simp⟩) (by assumption) ?_
  (try simp only [Act.put, List.setIfInBounds_toArray, List.set_cons_zero, List.set_cons_succ])
  refine take_put (i := 1) (v := .pointer (some ⟨g, i * 9 + 6, none⟩)) 8 rfl rfl (by kernel_rfl) (by kernel_rfl) (by kernel_rfl) (fun _ _ _ h => h) (Or.inl ⟨by rfl, by intro Wy hSW; go_simp⟩) (by assumption) ?_
  (try simp only [Act.put, List.setIfInBounds_toArray, List.set_cons_zero, List.set_cons_succ])
  refine take_put (i := 2) (v := .pointer (some ⟨g, i * 9 + 6, none⟩)) 9 rfl rfl (by kernel_rfl) (by kernel_rfl) (by kernel_rfl) (fun _ _ _ h => h) (Or.inl ⟨by rfl, by intro Wy hSW; go_simp⟩) (by assumption) ?_
  (try simp only [Act.put, List.setIfInBounds_toArray, List.set_cons_zero, List.set_cons_succ])
  refine take_put (i := 3) (v := .pointer (some ⟨g, i * 9 + 6, none⟩)) 10 rfl rfl (by kernel_rfl) (by kernel_rfl) (by kernel_rfl) (fun _ _ _ h => h) (Or.inl ⟨by rfl, by intro Wy hSW; go_simp⟩) (by assumption) ?_
  (try simp only [Act.put, List.setIfInBounds_toArray, List.set_cons_zero, List.set_cons_succ])
  refine take_put (i := 4) (v := .agg #[.int .i64 tl, .slice ta tb tc]) 11 rfl rfl (by kernel_rfl) (by kernel_rfl) (by kernel_rfl) (fun _ _ _ h => h) (Or.inl ⟨by rfl, by intro Wy hSW; have hc := HTU.out _ hSW.1; go_simp⟩) (by assumption) ?_
  (try simp only [Act.put, List.setIfInBounds_toArray, List.set_cons_zero, List.set_cons_succ])
  refine take_put (i := 5) (v := .int .i64 now) 12 rfl rfl (by kernel_rfl) (by kernel_rfl) (by kernel_rfl) (fun _ _ _ h => h) (Or.inl ⟨by rfl, by intro Wy hSW; go_simp⟩) (by assumption) ?_
  (try simp only [Act.put, List.setIfInBounds_toArray, List.set_cons_zero, List.set_cons_succ])
  refine wpAnyH_ready (rs := [6]) (by kernel_rfl) (by simp) ?_
  refine AllReadyH.cons rfl (fun Kx hKx => ?_) AllReadyH.nil
  go_simp
  refine (CL.out _ (HPK.out _ HSS.out.1)).mono ?_; rintro e V1 ⟨rfl, hg⟩
  have HGWn := hide (grownBy_trans HGW.out hg)
  have HSSn : Hid ((fun V => (PLoc lo q V b (.slice (some ⟨g, 0, none⟩) n c) vj ms L) ∧ V.heap[BT]? = some (.cells #[.int .i64 x0, .int .i64 x1, .int .i64 x2, .int .i64 x3, .int .i64 x4, .int .i64 x5] 73 (0, 0))) V1) := hide ⟨HSS.out.1.grown hg, box_grown HSS.out.2 hg (by simp)⟩
  clear HGW HSS hHeld 
  have HGW := HGWn
  have HSS := HSSn
  clear HGWn HSSn 
  clear hg
  refine hKx.out _ _ HSS.out (fun hHeld => ?_)
  clear hKx Kx
  (try simp only [Act.put])
  refine take_put (i := 7) (v := .bool IS) 6 rfl rfl (by kernel_rfl) (by kernel_rfl) (by kernel_rfl) (fun _ _ _ h => h) (Or.inl ⟨by rfl, by intro Wy hSW; go_simp⟩) (by assumption) ?_
  (try simp only [Act.put, List.setIfInBounds_toArray, List.set_cons_zero, List.set_cons_succ])
  refine wpAnyH_done (by kernel_rfl) ?_ _
  clear hHeld
  go_wp2
  go_ret
  exact ⟨rfl, HGW.out⟩
set_option maxRecDepth 100000 in
set_option maxHeartbeats 16000000 in
theorem wait_at {lo b g n c : Nat} {q vj : Value} {ms : List RunM} {L : LocV} (i : Nat) (m : RunM) (p now : Int) (W : World) (h : PLoc lo q W b (.slice (some ⟨g, 0, none⟩) n c) vj ms L) (hm : ms[i]? = some m) (h1 : -1 ≤ (L.turnAt i).last) (h2 : (L.turnAt i).last ≤ 1099511627776) (h3 : 0 ≤ p) (h4 : p ≤ 1024) (h5 : 0 ≤ now) (h6 : now ≤ 1099511627776) :
    Calls Tryz.prog 41 #[.pointer (some ⟨g, i * 9 + 6, none⟩), .int .i64 p, .int .i64 now] W fun e w' => e = .returned (.int .i64 ((L.turnAt i).last + p - now)) ∧ W = w' := by
  have c0 := (h.last hm).1
  rw [(h.each i m hm).2.1] at c0
  clear h
  generalize (L.turnAt i).last = x at *
  go_enter Tryz.func41, Tryz.ntmps41
  go_wp2
  go_ret
  exact ⟨rfl, rfl⟩
set_option maxRecDepth 100000 in
set_option maxHeartbeats 16000000 in
theorem pick_err {lo b g n c : Nat} {q vj : Value} {ms : List RunM} {L : LocV} (t : TaskV) (i : Nat) (m : RunM) (d : Int) (W : World) (h : PLoc lo q W b (.slice (some ⟨g, 0, none⟩) n c) vj ms L) (hm : ms[i]? = some m) (hq : ∀ k, q.ownBlock = some k → k < W.heap.size) (hlt : L.turns.length = L.tasks.length) (hE : pickE t (L.turnAt i) d ≠ 0) :
    Calls Tryz.prog 38 #[.pointer (some ⟨g, i * 9 + 6, none⟩), U.taskVal t, .int .i64 d] W fun e w' => e = .returned (.int .i64 (pickE t (L.turnAt i) d)) ∧ W.grownBy w' none := by
  obtain ⟨x0, x1, x2, x3, x4, x5⟩ := t
  have HEA := h.each i m hm
  have HTU := hide (fun V (hV : PLoc lo q V b (.slice (some ⟨g, 0, none⟩) n c) vj ms L) => hV.last hm)
  have HPK := hide (fun V (hV : PLoc lo q V b (.slice (some ⟨g, 0, none⟩) n c) vj ms L) => (hV.each i m hm).2.2.2.1.row)
  obtain ⟨ts, tl, ta, tb, tc, tq⟩ := m
  have e5 : tl = (L.turnAt i).last := HEA.2.1
  obtain ⟨⟨sl, sz⟩, hS⟩ : ∃ S, L.turnAt i = S := ⟨_, rfl⟩
  rw [hS] at HPK e5 hE ⊢
  subst e5
  dsimp only [RunM.picks] at HTU HPK hE ⊢
  have HS := hide hS
  clear hS HEA
  have HLT := hide hlt
  have HQ := hide hq
  clear hlt hq
  obtain ⟨⟨PL, PZ⟩, hP⟩ : ∃ P, pickS ⟨x0, x1, x2, x3, x4, x5⟩ ⟨tl, sz⟩ d = P := ⟨_, rfl⟩
  obtain ⟨E, hEE⟩ : ∃ E, pickE ⟨x0, x1, x2, x3, x4, x5⟩ ⟨tl, sz⟩ d = E := ⟨_, rfl⟩
  rw [hEE] at hE
  rw [hEE]
  have hEb : (E != 0) = true := by simpa using hE
  clear hE
  have HPS := hide hP
  have HPE := hide hEE
  clear hP hEE
  have HG0 := hide (World.grownBy_alloc W (.cells #[.int .i64 x0, .int .i64 x1, .int .i64 x2, .int .i64 x3, .int .i64 x4, .int .i64 x5] 73) none)
  have HT0 := hide (heap_alloc_new W (.cells #[.int .i64 x0, .int .i64 x1, .int .i64 x2, .int .i64 x3, .int .i64 x4, .int .i64 x5] 73))
  have HP0 := hide (h.grown HG0.out)
  have HL0 := hide h
  go_enter Tryz.func38, Tryz.ntmps38
  go_upto_region 1 with (first | fail)
  generalize W.alloc (.cells #[.int .i64 x0, .int .i64 x1, .int .i64 x2, .int .i64 x3, .int .i64 x4, .int .i64 x5] 73) = W0 at *
  generalize hBT : W.heap.size = BT at *
  have HBT := hide hBT
  clear hBT h
  refine wp_region_held_drew (S := fun V => (PLoc lo q V b (.slice (some ⟨g, 0, none⟩) n c) vj ms L) ∧ V.heap[BT]? = some (.cells #[.int .i64 x0, .int .i64 x1, .int .i64 x2, .int .i64 x3, .int .i64 x4, .int .i64 x5] 73 (0, 0))) (by kernel_rfl) ⟨HP0.out.grown (grownBy_draws W0 1 none), HT0.out⟩ (fun hHeld => ?_)
  have HGW := hide (grownBy_trans HG0.out (grownBy_draws W0 1 none))
  have HSS : Hid ((fun V => (PLoc lo q V b (.slice (some ⟨g, 0, none⟩) n c) vj ms L) ∧ V.heap[BT]? = some (.cells #[.int .i64 x0, .int .i64 x1, .int .i64 x2, .int .i64 x3, .int .i64 x4, .int .i64 x5] 73 (0, 0))) (W0.drewN 1)) := hide ⟨HP0.out.grown (grownBy_draws W0 1 none), HT0.out⟩
  have hdd : W0.drewN 1 = W0.drew := rfl
  rw [hdd] at HGW HSS
  clear hdd HP0 HG0 HT0
  generalize W0.drew = V0 at *
  refine take_put (i := 0) (v := .agg #[.int .i64 x0, .int .i64 x1, .int .i64 x2, .int .i64 x3, .int .i64 x4, .int .i64 x5]) 10 rfl rfl (by kernel_rfl) (by kernel_rfl) (by kernel_rfl) (fun _ _ _ h => h) (Or.inl ⟨by rfl, by intro Wy hSW; have hc := (⟨blk_cell hSW.2 0, blk_cell hSW.2 1, blk_cell hSW.2 2, blk_cell hSW.2 3, blk_cell hSW.2 4, blk_cell hSW.2 5⟩ : _ ∧ _ ∧ _ ∧ _ ∧ _ ∧ _); go_simp⟩) (by assumption) ?_
  (try simp only [Act.put, List.setIfInBounds_toArray, List.set_cons_zero, List.set_cons_succ])
  refine take_put (i := 1) (v := .pointer (some ⟨g, i * 9 + 6, none⟩)) 11 rfl rfl (by kernel_rfl) (by kernel_rfl) (by kernel_rfl) (fun _ _ _ h => h) (Or.inl ⟨by rfl, by intro Wy hSW; go_simp⟩) (by assumption) ?_
  (try simp only [Act.put, List.setIfInBounds_toArray, List.set_cons_zero, List.set_cons_succ])
  refine take_put (i := 2) (v := .pointer (some ⟨g, i * 9 + 6, none⟩)) 12 rfl rfl (by kernel_rfl) (by kernel_rfl) (by kernel_rfl) (fun _ _ _ h => h) (Or.inl ⟨by rfl, by intro Wy hSW; go_simp⟩) (by assumption) ?_
  (try simp only [Act.put, List.setIfInBounds_toArray, List.set_cons_zero, List.set_cons_succ])
  refine take_put (i := 3) (v := .pointer (some ⟨g, i * 9 + 6, none⟩)) 13 rfl rfl (by kernel_rfl) (by kernel_rfl) (by kernel_rfl) (fun _ _ _ h => h) (Or.inl ⟨by rfl, by intro Wy hSW; go_simp⟩) (by assumption) ?_
  (try simp only [Act.put, List.setIfInBounds_toArray, List.set_cons_zero, List.set_cons_succ])
  refine take_put (i := 4) (v := .agg #[.int .i64 tl, .slice ta tb tc]) 14 rfl rfl (by kernel_rfl) (by kernel_rfl) (by kernel_rfl) (fun _ _ _ h => h) (Or.inl ⟨by rfl, by intro Wy hSW; have hc := HTU.out _ hSW.1; go_simp⟩) (by assumption) ?_
  (try simp only [Act.put, List.setIfInBounds_toArray, List.set_cons_zero, List.set_cons_succ])
  refine take_put (i := 5) (v := .int .i64 d) 15 rfl rfl (by kernel_rfl) (by kernel_rfl) (by kernel_rfl) (fun _ _ _ h => h) (Or.inl ⟨by rfl, by intro Wy hSW; go_simp⟩) (by assumption) ?_
  (try simp only [Act.put, List.setIfInBounds_toArray, List.set_cons_zero, List.set_cons_succ])
  refine wpAnyH_ready (rs := [6, 10]) (by kernel_rfl) (by simp) ?_
  refine AllReadyH.cons rfl (fun Kx hKx => ?_) (AllReadyH.cons rfl (fun Kx hKx => ?_) AllReadyH.nil)
  · skip
    go_simp
    refine (pick_at _ (HPK.out _ HSS.out.1) HPS.out HPE.out).mono ?_; rintro e V1 ⟨u, n9, c9, rfl, ho, hg⟩
    have HFR := hide (show Far (.slice u n9 c9) q from fun k1 h1 h2 => by have a1 := (World.ownsRow.lt ho k1 h1).1; have a2 := HQ.out k1 h2; have a3 := HGW.out.size; rw [HBT.out] at a3; omega)
    have HPb := hide (show U.Own lo V1 (.slice u n9 c9) PZ from own_mono ho (Nat.le_trans HL0.out.loW (by have := HGW.out.size; rw [HBT.out] at this; rw [HBT.out]; exact this)))
    clear ho
    have HGWn := hide (grownBy_trans HGW.out hg)
    have HSSn : Hid ((fun V => (PLoc lo q V b (.slice (some ⟨g, 0, none⟩) n c) vj ms L) ∧ V.heap[BT]? = some (.cells #[.int .i64 x0, .int .i64 x1, .int .i64 x2, .int .i64 x3, .int .i64 x4, .int .i64 x5] 73 (0, 0))) V1) := hide ⟨HSS.out.1.grown hg, box_grown HSS.out.2 hg (by simp)⟩
    clear HGW HSS hHeld 
    have HGW := HGWn
    have HSS := HSSn
    clear HGWn HSSn 
    clear hg
    have HP := HPb
    clear HPb
    refine hKx.out _ _ HSS.out (fun hHeld => ?_)
    clear hKx Kx
    (try simp only [Act.put])
    refine take_put (i := 7) (v := .tuple #[.agg #[.int .i64 PL, .slice u n9 c9], .int .i64 E]) 9 rfl rfl (by kernel_rfl) (by kernel_rfl) (by kernel_rfl) (fun _ _ _ h => h) (Or.inl ⟨by rfl, by intro Wy hSW; go_simp⟩) (by assumption) ?_
    (try simp only [Act.put, List.setIfInBounds_toArray, List.set_cons_zero, List.set_cons_succ])
    refine take_put (i := 8) (v := .agg #[.int .i64 PL, .slice u n9 c9]) 17 rfl rfl (by kernel_rfl) (by kernel_rfl) (by kernel_rfl) (fun _ _ _ h => h) (Or.inl ⟨by rfl, by intro Wy hSW; go_simp⟩) (by assumption) ?_
    (try simp only [Act.put, List.setIfInBounds_toArray, List.set_cons_zero, List.set_cons_succ])
    refine take_put (i := 9) (v := .int .i64 E) 18 rfl rfl (by kernel_rfl) (by kernel_rfl) (by kernel_rfl) (fun _ _ _ h => h) (Or.inl ⟨by rfl, by intro Wy hSW; go_simp⟩) (by assumption) ?_
    (try simp only [Act.put, List.setIfInBounds_toArray, List.set_cons_zero, List.set_cons_succ])
    refine wpAnyH_ready (rs := [10]) (by kernel_rfl) (by simp) ?_
    refine AllReadyH.cons rfl (fun Kx hKx => ?_) AllReadyH.nil
    go_simp
    have hg := World.grownBy_alloc V1 (.cells #[.int .i64 0, .slice none 0 0] 93) none
    have HNq := hide (heap_alloc_new V1 (.cells #[.int .i64 0, .slice none 0 0] 93))
    have HNS : Hid (BT ≤ V1.heap.size ∧ BT ≠ V1.heap.size) := hide (by have := HGW.out.size; have := box_lt HSS.out.2; rw [HBT.out] at *; omega)
    have HGWn := hide (grownBy_trans HGW.out hg)
    have HSSn : Hid ((fun V => (PLoc lo q V b (.slice (some ⟨g, 0, none⟩) n c) vj ms L) ∧ V.heap[BT]? = some (.cells #[.int .i64 x0, .int .i64 x1, .int .i64 x2, .int .i64 x3, .int .i64 x4, .int .i64 x5] 73 (0, 0))) (V1.alloc (.cells #[.int .i64 0, .slice none 0 0] 93))) := hide ⟨HSS.out.1.grown hg, box_grown HSS.out.2 hg (by simp)⟩
    have HPn := hide (U.Own.grown HP.out hg)
    clear HGW HSS hHeld HP
    have HGW := HGWn
    have HSS := HSSn
    have HP := HPn
    clear HGWn HSSn HPn
    clear hg
    have HN := HNq
    clear HNq
    refine hKx.out _ _ HSS.out (fun hHeld => ?_)
    clear hKx Kx
    (try simp only [Act.put])
    generalize V1.alloc (.cells #[.int .i64 0, .slice none 0 0] 93) = V2 at *
    generalize V1.heap.size = BN at *
    refine wpAnyH_ready (rs := [11]) (by kernel_rfl) (by simp) ?_
    refine AllReadyH.cons rfl (fun Kx hKx => ?_) AllReadyH.nil
    refine step_store 93 (.tmp 7) (.tmp 17) BN #[.int .i64 PL, .slice u n9 c9] 93 #[.int .i64 0, .slice none 0 0] rfl rfl HN.out sizeUp rfl (by simp [Value.oneCell']) ?_
    intro V3 h1 e1 g1
    have HGWn := hide (grown_spoil HGW.out (by rw [HBT.out]; exact HNS.out.1) g1)
    have HSSn : Hid ((fun V => (PLoc lo q V b (.slice (some ⟨g, 0, none⟩) n c) vj ms L) ∧ V.heap[BT]? = some (.cells #[.int .i64 x0, .int .i64 x1, .int .i64 x2, .int .i64 x3, .int .i64 x4, .int .i64 x5] 73 (0, 0))) V3) := hide ⟨HSS.out.1.off g1 (type_box HN.out) (by decide) (by decide) (by decide) (by decide), (e1 BT HNS.out.2).trans HSS.out.2⟩
    have HPn := hide (show U.Own lo V3 (.slice u n9 c9) PZ from own_type HP.out g1 (type_box HN.out) (by decide))
    have HNn := hide h1
    clear hHeld h1 e1 g1 HGW HSS HP HN
    have HGW := HGWn
    have HSS := HSSn
    have HP := HPn
    have HN := HNn
    clear HGWn HSSn HPn HNn
    refine hKx.out _ _ HSS.out (fun hHeld => ?_)
    clear hKx Kx
    (try simp only [Act.put])
    refine take_put (i := 12) (v := .int .i64 E) 8 rfl rfl (by kernel_rfl) (by kernel_rfl) (by kernel_rfl) (fun _ _ _ h => h) (Or.inl ⟨by rfl, by intro Wy hSW; go_simp⟩) (by assumption) ?_
    (try simp only [Act.put, List.setIfInBounds_toArray, List.set_cons_zero, List.set_cons_succ])
    refine wpAnyH_done (by kernel_rfl) ?_ _
    clear hHeld
    go_wp2
    go_ret
    exact ⟨rfl, HGW.out⟩
  · skip
    go_simp
    have hg := World.grownBy_alloc V0 (.cells #[.int .i64 0, .slice none 0 0] 93) none
    have HNq := hide (heap_alloc_new V0 (.cells #[.int .i64 0, .slice none 0 0] 93))
    have HNS : Hid (BT ≤ V0.heap.size ∧ BT ≠ V0.heap.size) := hide (by have := HGW.out.size; have := box_lt HSS.out.2; rw [HBT.out] at *; omega)
    have HGWn := hide (grownBy_trans HGW.out hg)
    have HSSn : Hid ((fun V => (PLoc lo q V b (.slice (some ⟨g, 0, none⟩) n c) vj ms L) ∧ V.heap[BT]? = some (.cells #[.int .i64 x0, .int .i64 x1, .int .i64 x2, .int .i64 x3, .int .i64 x4, .int .i64 x5] 73 (0, 0))) (V0.alloc (.cells #[.int .i64 0, .slice none 0 0] 93))) := hide ⟨HSS.out.1.grown hg, box_grown HSS.out.2 hg (by simp)⟩
    clear HGW HSS hHeld 
    have HGW := HGWn
    have HSS := HSSn
    clear HGWn HSSn 
    clear hg
    have HN := HNq
    clear HNq
    refine hKx.out _ _ HSS.out (fun hHeld => ?_)
    clear hKx Kx
    (try simp only [Act.put])
    generalize V0.alloc (.cells #[.int .i64 0, .slice none 0 0] 93) = V4 at *
    generalize V0.heap.size = BN at *
    refine wpAnyH_ready (rs := [6]) (by kernel_rfl) (by simp) ?_
    refine AllReadyH.cons rfl (fun Kx hKx => ?_) AllReadyH.nil
    go_simp
    refine (pick_at _ (HPK.out _ HSS.out.1) HPS.out HPE.out).mono ?_; rintro e V5 ⟨u, n9, c9, rfl, ho, hg⟩
    have HFR := hide (show Far (.slice u n9 c9) q from fun k1 h1 h2 => by have a1 := (World.ownsRow.lt ho k1 h1).1; have a2 := HQ.out k1 h2; have a3 := HGW.out.size; rw [HBT.out] at a3; omega)
    have HPb := hide (show U.Own lo V5 (.slice u n9 c9) PZ from own_mono ho (Nat.le_trans HL0.out.loW (by have := HGW.out.size; rw [HBT.out] at this; rw [HBT.out]; exact this)))
    clear ho
    have HGWn := hide (grownBy_trans HGW.out hg)
    have HSSn : Hid ((fun V => (PLoc lo q V b (.slice (some ⟨g, 0, none⟩) n c) vj ms L) ∧ V.heap[BT]? = some (.cells #[.int .i64 x0, .int .i64 x1, .int .i64 x2, .int .i64 x3, .int .i64 x4, .int .i64 x5] 73 (0, 0))) V5) := hide ⟨HSS.out.1.grown hg, box_grown HSS.out.2 hg (by simp)⟩
    have HNn := hide (box_grown HN.out hg (by simp))
    clear HGW HSS hHeld HN
    have HGW := HGWn
    have HSS := HSSn
    have HN := HNn
    clear HGWn HSSn HNn
    clear hg
    have HP := HPb
    clear HPb
    refine hKx.out _ _ HSS.out (fun hHeld => ?_)
    clear hKx Kx
    (try simp only [Act.put])
    refine take_put (i := 7) (v := .tuple #[.agg #[.int .i64 PL, .slice u n9 c9], .int .i64 E]) 9 rfl rfl (by kernel_rfl) (by kernel_rfl) (by kernel_rfl) (fun _ _ _ h => h) (Or.inl ⟨by rfl, by intro Wy hSW; go_simp⟩) (by assumption) ?_
    (try simp only [Act.put, List.setIfInBounds_toArray, List.set_cons_zero, List.set_cons_succ])
    refine take_put (i := 8) (v := .agg #[.int .i64 PL, .slice u n9 c9]) 17 rfl rfl (by kernel_rfl) (by kernel_rfl) (by kernel_rfl) (fun _ _ _ h => h) (Or.inl ⟨by rfl, by intro Wy hSW; go_simp⟩) (by assumption) ?_
    (try simp only [Act.put, List.setIfInBounds_toArray, List.set_cons_zero, List.set_cons_succ])
    refine take_put (i := 9) (v := .int .i64 E) 18 rfl rfl (by kernel_rfl) (by kernel_rfl) (by kernel_rfl) (fun _ _ _ h => h) (Or.inl ⟨by rfl, by intro Wy hSW; go_simp⟩) (by assumption) ?_
    (try simp only [Act.put, List.setIfInBounds_toArray, List.set_cons_zero, List.set_cons_succ])
    refine wpAnyH_ready (rs := [11]) (by kernel_rfl) (by simp) ?_
    refine AllReadyH.cons rfl (fun Kx hKx => ?_) AllReadyH.nil
    refine step_store 93 (.tmp 7) (.tmp 17) BN #[.int .i64 PL, .slice u n9 c9] 93 #[.int .i64 0, .slice none 0 0] rfl rfl HN.out sizeUp rfl (by simp [Value.oneCell']) ?_
    intro V6 h1 e1 g1
    have HGWn := hide (grown_spoil HGW.out (by rw [HBT.out]; exact HNS.out.1) g1)
    have HSSn : Hid ((fun V => (PLoc lo q V b (.slice (some ⟨g, 0, none⟩) n c) vj ms L) ∧ V.heap[BT]? = some (.cells #[.int .i64 x0, .int .i64 x1, .int .i64 x2, .int .i64 x3, .int .i64 x4, .int .i64 x5] 73 (0, 0))) V6) := hide ⟨HSS.out.1.off g1 (type_box HN.out) (by decide) (by decide) (by decide) (by decide), (e1 BT HNS.out.2).trans HSS.out.2⟩
    have HPn := hide (show U.Own lo V6 (.slice u n9 c9) PZ from own_type HP.out g1 (type_box HN.out) (by decide))
    have HNn := hide h1
    clear hHeld h1 e1 g1 HGW HSS HP HN
    have HGW := HGWn
    have HSS := HSSn
    have HP := HPn
    have HN := HNn
    clear HGWn HSSn HPn HNn
    refine hKx.out _ _ HSS.out (fun hHeld => ?_)
    clear hKx Kx
    (try simp only [Act.put])
    refine take_put (i := 12) (v := .int .i64 E) 8 rfl rfl (by kernel_rfl) (by kernel_rfl) (by kernel_rfl) (fun _ _ _ h => h) (Or.inl ⟨by rfl, by intro Wy hSW; go_simp⟩) (by assumption) ?_
    (try simp only [Act.put, List.setIfInBounds_toArray, List.set_cons_zero, List.set_cons_succ])
    refine wpAnyH_done (by kernel_rfl) ?_ _
    clear hHeld
    go_wp2
    go_ret
    exact ⟨rfl, HGW.out⟩
set_option maxRecDepth 100000 in
set_option maxHeartbeats 16000000 in
theorem pick_on {lo b g n c : Nat} {q vj : Value} {ms : List RunM} {L : LocV} (t : TaskV) (i : Nat) (m : RunM) (d : Int) (W : World) (h : PLoc lo q W b (.slice (some ⟨g, 0, none⟩) n c) vj ms L) (hm : ms[i]? = some m) (hq : ∀ k, q.ownBlock = some k → k < W.heap.size) (hlt : L.turns.length = L.tasks.length) (hE : pickE t (L.turnAt i) d = 0) :
    Calls Tryz.prog 38 #[.pointer (some ⟨g, i * 9 + 6, none⟩), U.taskVal t, .int .i64 d] W fun e w' => e = .returned (.int .i64 0) ∧ (∃ ms', PLoc lo q w' b (.slice (some ⟨g, 0, none⟩) n c) vj ms' { L with turns := L.turns.set i (pickS t (L.turnAt i) d) }) ∧ W.grownBy w' (some g) := by
  obtain ⟨x0, x1, x2, x3, x4, x5⟩ := t
  have HEA := h.each i m hm
  have HTU := hide (fun V (hV : PLoc lo q V b (.slice (some ⟨g, 0, none⟩) n c) vj ms L) => hV.last hm)
  have HPK := hide (fun V (hV : PLoc lo q V b (.slice (some ⟨g, 0, none⟩) n c) vj ms L) => (hV.each i m hm).2.2.2.1.row)
  obtain ⟨ts, tl, ta, tb, tc, tq⟩ := m
  have e5 : tl = (L.turnAt i).last := HEA.2.1
  obtain ⟨⟨sl, sz⟩, hS⟩ : ∃ S, L.turnAt i = S := ⟨_, rfl⟩
  rw [hS] at HPK e5 hE ⊢
  subst e5
  dsimp only [RunM.picks] at HTU HPK hE ⊢
  have HS := hide hS
  clear hS HEA
  have HLT := hide hlt
  have HQ := hide hq
  clear hlt hq
  obtain ⟨⟨PL, PZ⟩, hP⟩ : ∃ P, pickS ⟨x0, x1, x2, x3, x4, x5⟩ ⟨tl, sz⟩ d = P := ⟨_, rfl⟩
  obtain ⟨E, hEE⟩ : ∃ E, pickE ⟨x0, x1, x2, x3, x4, x5⟩ ⟨tl, sz⟩ d = E := ⟨_, rfl⟩
  rw [hEE] at hE
  rw [hP]
  subst hE
  have HPS := hide hP
  have HPE := hide hEE
  clear hP hEE
  have HG0 := hide (World.grownBy_alloc W (.cells #[.int .i64 x0, .int .i64 x1, .int .i64 x2, .int .i64 x3, .int .i64 x4, .int .i64 x5] 73) none)
  have HT0 := hide (heap_alloc_new W (.cells #[.int .i64 x0, .int .i64 x1, .int .i64 x2, .int .i64 x3, .int .i64 x4, .int .i64 x5] 73))
  have HP0 := hide (h.grown HG0.out)
  have HL0 := hide h
  go_enter Tryz.func38, Tryz.ntmps38
  go_upto_region 1 with (first | fail)
  generalize W.alloc (.cells #[.int .i64 x0, .int .i64 x1, .int .i64 x2, .int .i64 x3, .int .i64 x4, .int .i64 x5] 73) = W0 at *
  generalize hBT : W.heap.size = BT at *
  have HBT := hide hBT
  clear hBT h
  refine wp_region_held_drew (S := fun V => (PLoc lo q V b (.slice (some ⟨g, 0, none⟩) n c) vj ms L) ∧ V.heap[BT]? = some (.cells #[.int .i64 x0, .int .i64 x1, .int .i64 x2, .int .i64 x3, .int .i64 x4, .int .i64 x5] 73 (0, 0))) (by kernel_rfl) ⟨HP0.out.grown (grownBy_draws W0 1 none), HT0.out⟩ (fun hHeld => ?_)
  have HGW := hide (grownBy_trans HG0.out (grownBy_draws W0 1 none))
  have HSS : Hid ((fun V => (PLoc lo q V b (.slice (some ⟨g, 0, none⟩) n c) vj ms L) ∧ V.heap[BT]? = some (.cells #[.int .i64 x0, .int .i64 x1, .int .i64 x2, .int .i64 x3, .int .i64 x4, .int .i64 x5] 73 (0, 0))) (W0.drewN 1)) := hide ⟨HP0.out.grown (grownBy_draws W0 1 none), HT0.out⟩
  have hdd : W0.drewN 1 = W0.drew := rfl
  rw [hdd] at HGW HSS
  clear hdd HP0 HG0 HT0
  generalize W0.drew = V0 at *
  refine take_put (i := 0) (v := .agg #[.int .i64 x0, .int .i64 x1, .int .i64 x2, .int .i64 x3, .int .i64 x4, .int .i64 x5]) 10 rfl rfl (by kernel_rfl) (by kernel_rfl) (by kernel_rfl) (fun _ _ _ h => h) (Or.inl ⟨by rfl, by intro Wy hSW; have hc := (⟨blk_cell hSW.2 0, blk_cell hSW.2 1, blk_cell hSW.2 2, blk_cell hSW.2 3, blk_cell hSW.2 4, blk_cell hSW.2 5⟩ : _ ∧ _ ∧ _ ∧ _ ∧ _ ∧ _); go_simp⟩) (by assumption) ?_
  (try simp only [Act.put, List.setIfInBounds_toArray, List.set_cons_zero, List.set_cons_succ])
  refine take_put (i := 1) (v := .pointer (some ⟨g, i * 9 + 6, none⟩)) 11 rfl rfl (by kernel_rfl) (by kernel_rfl) (by kernel_rfl) (fun _ _ _ h => h) (Or.inl ⟨by rfl, by intro Wy hSW; go_simp⟩) (by assumption) ?_
  (try simp only [Act.put, List.setIfInBounds_toArray, List.set_cons_zero, List.set_cons_succ])
  refine take_put (i := 2) (v := .pointer (some ⟨g, i * 9 + 6, none⟩)) 12 rfl rfl (by kernel_rfl) (by kernel_rfl) (by kernel_rfl) (fun _ _ _ h => h) (Or.inl ⟨by rfl, by intro Wy hSW; go_simp⟩) (by assumption) ?_
  (try simp only [Act.put, List.setIfInBounds_toArray, List.set_cons_zero, List.set_cons_succ])
  refine take_put (i := 3) (v := .pointer (some ⟨g, i * 9 + 6, none⟩)) 13 rfl rfl (by kernel_rfl) (by kernel_rfl) (by kernel_rfl) (fun _ _ _ h => h) (Or.inl ⟨by rfl, by intro Wy hSW; go_simp⟩) (by assumption) ?_
  (try simp only [Act.put, List.setIfInBounds_toArray, List.set_cons_zero, List.set_cons_succ])
  refine take_put (i := 4) (v := .agg #[.int .i64 tl, .slice ta tb tc]) 14 rfl rfl (by kernel_rfl) (by kernel_rfl) (by kernel_rfl) (fun _ _ _ h => h) (Or.inl ⟨by rfl, by intro Wy hSW; have hc := HTU.out _ hSW.1; go_simp⟩) (by assumption) ?_
  (try simp only [Act.put, List.setIfInBounds_toArray, List.set_cons_zero, List.set_cons_succ])
  refine take_put (i := 5) (v := .int .i64 d) 15 rfl rfl (by kernel_rfl) (by kernel_rfl) (by kernel_rfl) (fun _ _ _ h => h) (Or.inl ⟨by rfl, by intro Wy hSW; go_simp⟩) (by assumption) ?_
  (try simp only [Act.put, List.setIfInBounds_toArray, List.set_cons_zero, List.set_cons_succ])
  refine wpAnyH_ready (rs := [6, 10]) (by kernel_rfl) (by simp) ?_
  refine AllReadyH.cons rfl (fun Kx hKx => ?_) (AllReadyH.cons rfl (fun Kx hKx => ?_) AllReadyH.nil)
  · skip
    go_simp
    refine (pick_at _ (HPK.out _ HSS.out.1) HPS.out HPE.out).mono ?_; rintro e V1 ⟨u, n9, c9, rfl, ho, hg⟩
    have HFR := hide (show Far (.slice u n9 c9) q from fun k1 h1 h2 => by have a1 := (World.ownsRow.lt ho k1 h1).1; have a2 := HQ.out k1 h2; have a3 := HGW.out.size; rw [HBT.out] at a3; omega)
    have HPb := hide (show U.Own lo V1 (.slice u n9 c9) PZ from own_mono ho (Nat.le_trans HL0.out.loW (by have := HGW.out.size; rw [HBT.out] at this; rw [HBT.out]; exact this)))
    clear ho
    have HGWn := hide (grownBy_trans HGW.out hg)
    have HSSn : Hid ((fun V => (PLoc lo q V b (.slice (some ⟨g, 0, none⟩) n c) vj ms L) ∧ V.heap[BT]? = some (.cells #[.int .i64 x0, .int .i64 x1, .int .i64 x2, .int .i64 x3, .int .i64 x4, .int .i64 x5] 73 (0, 0))) V1) := hide ⟨HSS.out.1.grown hg, box_grown HSS.out.2 hg (by simp)⟩
    clear HGW HSS hHeld 
    have HGW := HGWn
    have HSS := HSSn
    clear HGWn HSSn 
    clear hg
    have HP := HPb
    clear HPb
    refine hKx.out _ _ HSS.out (fun hHeld => ?_)
    clear hKx Kx
    (try simp only [Act.put])
    refine take_put (i := 7) (v := .tuple #[.agg #[.int .i64 PL, .slice u n9 c9], .int .i64 0]) 9 rfl rfl (by kernel_rfl) (by kernel_rfl) (by kernel_rfl) (fun _ _ _ h => h) (Or.inl ⟨by rfl, by intro Wy hSW; go_simp⟩) (by assumption) ?_
    (try simp only [Act.put, List.setIfInBounds_toArray, List.set_cons_zero, List.set_cons_succ])
    refine take_put (i := 8) (v := .agg #[.int .i64 PL, .slice u n9 c9]) 17 rfl rfl (by kernel_rfl) (by kernel_rfl) (by kernel_rfl) (fun _ _ _ h => h) (Or.inl ⟨by rfl, by intro Wy hSW; go_simp⟩) (by assumption) ?_
    (try simp only [Act.put, List.setIfInBounds_toArray, List.set_cons_zero, List.set_cons_succ])
    refine take_put (i := 9) (v := .int .i64 0) 18 rfl rfl (by kernel_rfl) (by kernel_rfl) (by kernel_rfl) (fun _ _ _ h => h) (Or.inl ⟨by rfl, by intro Wy hSW; go_simp⟩) (by assumption) ?_
    (try simp only [Act.put, List.setIfInBounds_toArray, List.set_cons_zero, List.set_cons_succ])
    refine wpAnyH_ready (rs := [10]) (by kernel_rfl) (by simp) ?_
    refine AllReadyH.cons rfl (fun Kx hKx => ?_) AllReadyH.nil
    go_simp
    have hg := World.grownBy_alloc V1 (.cells #[.int .i64 0, .slice none 0 0] 93) none
    have HNq := hide (heap_alloc_new V1 (.cells #[.int .i64 0, .slice none 0 0] 93))
    have HNS : Hid (BT ≤ V1.heap.size ∧ BT ≠ V1.heap.size) := hide (by have := HGW.out.size; have := box_lt HSS.out.2; rw [HBT.out] at *; omega)
    have HGWn := hide (grownBy_trans HGW.out hg)
    have HSSn : Hid ((fun V => (PLoc lo q V b (.slice (some ⟨g, 0, none⟩) n c) vj ms L) ∧ V.heap[BT]? = some (.cells #[.int .i64 x0, .int .i64 x1, .int .i64 x2, .int .i64 x3, .int .i64 x4, .int .i64 x5] 73 (0, 0))) (V1.alloc (.cells #[.int .i64 0, .slice none 0 0] 93))) := hide ⟨HSS.out.1.grown hg, box_grown HSS.out.2 hg (by simp)⟩
    have HPn := hide (U.Own.grown HP.out hg)
    clear HGW HSS hHeld HP
    have HGW := HGWn
    have HSS := HSSn
    have HP := HPn
    clear HGWn HSSn HPn
    clear hg
    have HN := HNq
    clear HNq
    refine hKx.out _ _ HSS.out (fun hHeld => ?_)
    clear hKx Kx
    (try simp only [Act.put])
    generalize V1.alloc (.cells #[.int .i64 0, .slice none 0 0] 93) = V2 at *
    generalize V1.heap.size = BN at *
    refine wpAnyH_ready (rs := [11]) (by kernel_rfl) (by simp) ?_
    refine AllReadyH.cons rfl (fun Kx hKx => ?_) AllReadyH.nil
    refine step_store 93 (.tmp 7) (.tmp 17) BN #[.int .i64 PL, .slice u n9 c9] 93 #[.int .i64 0, .slice none 0 0] rfl rfl HN.out sizeUp rfl (by simp [Value.oneCell']) ?_
    intro V3 h1 e1 g1
    have HGWn := hide (grown_spoil HGW.out (by rw [HBT.out]; exact HNS.out.1) g1)
    have HSSn : Hid ((fun V => (PLoc lo q V b (.slice (some ⟨g, 0, none⟩) n c) vj ms L) ∧ V.heap[BT]? = some (.cells #[.int .i64 x0, .int .i64 x1, .int .i64 x2, .int .i64 x3, .int .i64 x4, .int .i64 x5] 73 (0, 0))) V3) := hide ⟨HSS.out.1.off g1 (type_box HN.out) (by decide) (by decide) (by decide) (by decide), (e1 BT HNS.out.2).trans HSS.out.2⟩
    have HPn := hide (show U.Own lo V3 (.slice u n9 c9) PZ from own_type HP.out g1 (type_box HN.out) (by decide))
    have HNn := hide h1
    clear hHeld h1 e1 g1 HGW HSS HP HN
    have HGW := HGWn
    have HSS := HSSn
    have HP := HPn
    have HN := HNn
    clear HGWn HSSn HPn HNn
    refine hKx.out _ _ HSS.out (fun hHeld => ?_)
    clear hKx Kx
    (try simp only [Act.put])
    refine take_put (i := 12) (v := .int .i64 0) 8 rfl rfl (by kernel_rfl) (by kernel_rfl) (by kernel_rfl) (fun _ _ _ h => h) (Or.inl ⟨by rfl, by intro Wy hSW; go_simp⟩) (by assumption) ?_
    (try simp only [Act.put, List.setIfInBounds_toArray, List.set_cons_zero, List.set_cons_succ])
    refine wpAnyH_done (by kernel_rfl) ?_ _
    clear hHeld
    obtain ⟨k0, k1⟩ := HTU.out _ HSS.out.1
    have f0 := HSS.out.1.free (i * 9 + 6)
    have f1 := HSS.out.1.free (i * 9 + 7)
    have n0 := blk_cell HN.out 0
    have n1 := blk_cell HN.out 1
    go_upto_region 5 with (first | fail)
    clear k0 k1 f0 f1 n0 n1
    have HR := hide (HSS.out.1.turn (PL := PL) (pa := u) (pn := n9) (pc := c9) (PZ := PZ) HLT.out hm HP.out HFR.out)
    have HGZ := hide (grown_any HGW.out HR.out.2)
    generalize ((V3.setCell ⟨g, i * 9 + 6, none⟩ (.int .i64 PL)).setCell ⟨g, i * 9 + 7, none⟩ (.slice u n9 c9)) = Z9 at *
    go_wp2
    go_ret
    exact ⟨rfl, ⟨_, HR.out.1⟩, HGZ.out⟩
  · skip
    go_simp
    have hg := World.grownBy_alloc V0 (.cells #[.int .i64 0, .slice none 0 0] 93) none
    have HNq := hide (heap_alloc_new V0 (.cells #[.int .i64 0, .slice none 0 0] 93))
    have HNS : Hid (BT ≤ V0.heap.size ∧ BT ≠ V0.heap.size) := hide (by have := HGW.out.size; have := box_lt HSS.out.2; rw [HBT.out] at *; omega)
    have HGWn := hide (grownBy_trans HGW.out hg)
    have HSSn : Hid ((fun V => (PLoc lo q V b (.slice (some ⟨g, 0, none⟩) n c) vj ms L) ∧ V.heap[BT]? = some (.cells #[.int .i64 x0, .int .i64 x1, .int .i64 x2, .int .i64 x3, .int .i64 x4, .int .i64 x5] 73 (0, 0))) (V0.alloc (.cells #[.int .i64 0, .slice none 0 0] 93))) := hide ⟨HSS.out.1.grown hg, box_grown HSS.out.2 hg (by simp)⟩
    clear HGW HSS hHeld 
    have HGW := HGWn
    have HSS := HSSn
    clear HGWn HSSn 
    clear hg
    have HN := HNq
    clear HNq
    refine hKx.out _ _ HSS.out (fun hHeld => ?_)
    clear hKx Kx
    (try simp only [Act.put])
    generalize V0.alloc (.cells #[.int .i64 0, .slice none 0 0] 93) = V4 at *
    generalize V0.heap.size = BN at *
    refine wpAnyH_ready (rs := [6]) (by kernel_rfl) (by simp) ?_
    refine AllReadyH.cons rfl (fun Kx hKx => ?_) AllReadyH.nil
    go_simp
    refine (pick_at _ (HPK.out _ HSS.out.1) HPS.out HPE.out).mono ?_; rintro e V5 ⟨u, n9, c9, rfl, ho, hg⟩
    have HFR := hide (show Far (.slice u n9 c9) q from fun k1 h1 h2 => by have a1 := (World.ownsRow.lt ho k1 h1).1; have a2 := HQ.out k1 h2; have a3 := HGW.out.size; rw [HBT.out] at a3; omega)
    have HPb := hide (show U.Own lo V5 (.slice u n9 c9) PZ from own_mono ho (Nat.le_trans HL0.out.loW (by have := HGW.out.size; rw [HBT.out] at this; rw [HBT.out]; exact this)))
    clear ho
    have HGWn := hide (grownBy_trans HGW.out hg)
    have HSSn : Hid ((fun V => (PLoc lo q V b (.slice (some ⟨g, 0, none⟩) n c) vj ms L) ∧ V.heap[BT]? = some (.cells #[.int .i64 x0, .int .i64 x1, .int .i64 x2, .int .i64 x3, .int .i64 x4, .int .i64 x5] 73 (0, 0))) V5) := hide ⟨HSS.out.1.grown hg, box_grown HSS.out.2 hg (by simp)⟩
    have HNn := hide (box_grown HN.out hg (by simp))
    clear HGW HSS hHeld HN
    have HGW := HGWn
    have HSS := HSSn
    have HN := HNn
    clear HGWn HSSn HNn
    clear hg
    have HP := HPb
    clear HPb
    refine hKx.out _ _ HSS.out (fun hHeld => ?_)
    clear hKx Kx
    (try simp only [Act.put])
    refine take_put (i := 7) (v := .tuple #[.agg #[.int .i64 PL, .slice u n9 c9], .int .i64 0]) 9 rfl rfl (by kernel_rfl) (by kernel_rfl) (by kernel_rfl) (fun _ _ _ h => h) (Or.inl ⟨by rfl, by intro Wy hSW; go_simp⟩) (by assumption) ?_
    (try simp only [Act.put, List.setIfInBounds_toArray, List.set_cons_zero, List.set_cons_succ])
    refine take_put (i := 8) (v := .agg #[.int .i64 PL, .slice u n9 c9]) 17 rfl rfl (by kernel_rfl) (by kernel_rfl) (by kernel_rfl) (fun _ _ _ h => h) (Or.inl ⟨by rfl, by intro Wy hSW; go_simp⟩) (by assumption) ?_
    (try simp only [Act.put, List.setIfInBounds_toArray, List.set_cons_zero, List.set_cons_succ])
    refine take_put (i := 9) (v := .int .i64 0) 18 rfl rfl (by kernel_rfl) (by kernel_rfl) (by kernel_rfl) (fun _ _ _ h => h) (Or.inl ⟨by rfl, by intro Wy hSW; go_simp⟩) (by assumption) ?_
    (try simp only [Act.put, List.setIfInBounds_toArray, List.set_cons_zero, List.set_cons_succ])
    refine wpAnyH_ready (rs := [11]) (by kernel_rfl) (by simp) ?_
    refine AllReadyH.cons rfl (fun Kx hKx => ?_) AllReadyH.nil
    refine step_store 93 (.tmp 7) (.tmp 17) BN #[.int .i64 PL, .slice u n9 c9] 93 #[.int .i64 0, .slice none 0 0] rfl rfl HN.out sizeUp rfl (by simp [Value.oneCell']) ?_
    intro V6 h1 e1 g1
    have HGWn := hide (grown_spoil HGW.out (by rw [HBT.out]; exact HNS.out.1) g1)
    have HSSn : Hid ((fun V => (PLoc lo q V b (.slice (some ⟨g, 0, none⟩) n c) vj ms L) ∧ V.heap[BT]? = some (.cells #[.int .i64 x0, .int .i64 x1, .int .i64 x2, .int .i64 x3, .int .i64 x4, .int .i64 x5] 73 (0, 0))) V6) := hide ⟨HSS.out.1.off g1 (type_box HN.out) (by decide) (by decide) (by decide) (by decide), (e1 BT HNS.out.2).trans HSS.out.2⟩
    have HPn := hide (show U.Own lo V6 (.slice u n9 c9) PZ from own_type HP.out g1 (type_box HN.out) (by decide))
    have HNn := hide h1
    clear hHeld h1 e1 g1 HGW HSS HP HN
    have HGW := HGWn
    have HSS := HSSn
    have HP := HPn
    have HN := HNn
    clear HGWn HSSn HPn HNn
    refine hKx.out _ _ HSS.out (fun hHeld => ?_)
    clear hKx Kx
    (try simp only [Act.put])
    refine take_put (i := 12) (v := .int .i64 0) 8 rfl rfl (by kernel_rfl) (by kernel_rfl) (by kernel_rfl) (fun _ _ _ h => h) (Or.inl ⟨by rfl, by intro Wy hSW; go_simp⟩) (by assumption) ?_
    (try simp only [Act.put, List.setIfInBounds_toArray, List.set_cons_zero, List.set_cons_succ])
    refine wpAnyH_done (by kernel_rfl) ?_ _
    clear hHeld
    obtain ⟨k0, k1⟩ := HTU.out _ HSS.out.1
    have f0 := HSS.out.1.free (i * 9 + 6)
    have f1 := HSS.out.1.free (i * 9 + 7)
    have n0 := blk_cell HN.out 0
    have n1 := blk_cell HN.out 1
    go_upto_region 5 with (first | fail)
    clear k0 k1 f0 f1 n0 n1
    have HR := hide (HSS.out.1.turn (PL := PL) (pa := u) (pn := n9) (pc := c9) (PZ := PZ) HLT.out hm HP.out HFR.out)
    have HGZ := hide (grown_any HGW.out HR.out.2)
    generalize ((V6.setCell ⟨g, i * 9 + 6, none⟩ (.int .i64 PL)).setCell ⟨g, i * 9 + 7, none⟩ (.slice u n9 c9)) = Z9 at *
    go_wp2
    go_ret
    exact ⟨rfl, ⟨_, HR.out.1⟩, HGZ.out⟩
set_option maxRecDepth 100000 in
set_option maxHeartbeats 16000000 in
theorem release_at {lo b g n c : Nat} {q vj : Value} {ms : List RunM} {L : LocV} (t : TaskV) (i : Nat) (m : RunM) (now : Int) (W : World) (h : PLoc lo q W b (.slice (some ⟨g, 0, none⟩) n c) vj ms L) (hm : ms[i]? = some m) (hq : ∀ k, q.ownBlock = some k → k < W.heap.size) (hlt : L.turns.length = L.tasks.length) :
    Calls Tryz.prog 91 #[.pointer (some ⟨g, i * 9 + 6, none⟩), U.taskVal t, .int .i64 now] W fun e w' => e = .returned (.tuple #[.int .i64 (relD t (L.turnAt i) now), .bool (isB t (L.turnAt i) now)]) ∧ (∃ ms', PLoc lo q w' b (.slice (some ⟨g, 0, none⟩) n c) vj ms' { L with turns := L.turns.set i (relS t (L.turnAt i) now) }) ∧ W.grownBy w' (some g) := by
  obtain ⟨x0, x1, x2, x3, x4, x5⟩ := t
  have HEA := h.each i m hm
  have HTU := hide (fun V (hV : PLoc lo q V b (.slice (some ⟨g, 0, none⟩) n c) vj ms L) => hV.last hm)
  have HPK := hide (fun V (hV : PLoc lo q V b (.slice (some ⟨g, 0, none⟩) n c) vj ms L) => (hV.each i m hm).2.2.2.1.row)
  obtain ⟨ts, tl, ta, tb, tc, tq⟩ := m
  have e5 : tl = (L.turnAt i).last := HEA.2.1
  obtain ⟨⟨sl, sz⟩, hS⟩ : ∃ S, L.turnAt i = S := ⟨_, rfl⟩
  rw [hS] at HPK e5 ⊢
  subst e5
  dsimp only [RunM.picks] at HTU HPK ⊢
  have HS := hide hS
  clear hS HEA
  have HLT := hide hlt
  have HQ := hide hq
  clear hlt hq
  obtain ⟨⟨PL, PZ⟩, hP⟩ : ∃ P, relS ⟨x0, x1, x2, x3, x4, x5⟩ ⟨tl, sz⟩ now = P := ⟨_, rfl⟩
  obtain ⟨D, hD⟩ : ∃ D, relD ⟨x0, x1, x2, x3, x4, x5⟩ ⟨tl, sz⟩ now = D := ⟨_, rfl⟩
  obtain ⟨IS, hI⟩ : ∃ D, isB ⟨x0, x1, x2, x3, x4, x5⟩ ⟨tl, sz⟩ now = D := ⟨_, rfl⟩
  rw [hP, hD, hI]
  have HPS := hide hP
  have HPD := hide hD
  have HPI := hide hI
  clear hP hD hI
  have HG0 := hide (World.grownBy_alloc W (.cells #[.int .i64 x0, .int .i64 x1, .int .i64 x2, .int .i64 x3, .int .i64 x4, .int .i64 x5] 73) none)
  have HT0 := hide (heap_alloc_new W (.cells #[.int .i64 x0, .int .i64 x1, .int .i64 x2, .int .i64 x3, .int .i64 x4, .int .i64 x5] 73))
  have HP0 := hide (h.grown HG0.out)
  have HL0 := hide h
  go_enter Tryz.func91, Tryz.ntmps91
  go_upto_region 1 with (first | fail)
  generalize W.alloc (.cells #[.int .i64 x0, .int .i64 x1, .int .i64 x2, .int .i64 x3, .int .i64 x4, .int .i64 x5] 73) = W0 at *
  generalize hBT : W.heap.size = BT at *
  have HBT := hide hBT
  clear hBT h
  refine wp_region_held_drew (S := fun V => (PLoc lo q V b (.slice (some ⟨g, 0, none⟩) n c) vj ms L) ∧ V.heap[BT]? = some (.cells #[.int .i64 x0, .int .i64 x1, .int .i64 x2, .int .i64 x3, .int .i64 x4, .int .i64 x5] 73 (0, 0))) (by kernel_rfl) ⟨HP0.out.grown (grownBy_draws W0 1 none), HT0.out⟩ (fun hHeld => ?_)
  have HGW := hide (grownBy_trans HG0.out (grownBy_draws W0 1 none))
  have HSS : Hid ((fun V => (PLoc lo q V b (.slice (some ⟨g, 0, none⟩) n c) vj ms L) ∧ V.heap[BT]? = some (.cells #[.int .i64 x0, .int .i64 x1, .int .i64 x2, .int .i64 x3, .int .i64 x4, .int .i64 x5] 73 (0, 0))) (W0.drewN 1)) := hide ⟨HP0.out.grown (grownBy_draws W0 1 none), HT0.out⟩
  have hdd : W0.drewN 1 = W0.drew := rfl
  rw [hdd] at HGW HSS
  clear hdd HP0 HG0 HT0
  generalize W0.drew = V0 at *
  refine take_put (i := 0) (v := .agg #[.int .i64 x0, .int .i64 x1, .int .i64 x2, .int .i64 x3, .int .i64 x4, .int .i64 x5]) 12 rfl rfl (by kernel_rfl) (by kernel_rfl) (by kernel_rfl) (fun _ _ _ h => h) (Or.inl ⟨by rfl, by intro Wy hSW; have hc := (⟨blk_cell hSW.2 0, blk_cell hSW.2 1, blk_cell hSW.2 2, blk_cell hSW.2 3, blk_cell hSW.2 4, blk_cell hSW.2 5⟩ : _ ∧ _ ∧ _ ∧ _ ∧ _ ∧ _); go_simp⟩) (by assumption) ?_
  (try simp only [Act.put, List.setIfInBounds_toArray, List.set_cons_zero, List.set_cons_succ])
  refine take_put (i := 1) (v := .pointer (some ⟨g, i * 9 + 6, none⟩)) 13 rfl rfl (by kernel_rfl) (by kernel_rfl) (by kernel_rfl) (fun _ _ _ h => h) (Or.inl ⟨by rfl, by intro Wy hSW; go_simp⟩) (by assumption) ?_
  (try simp only [Act.put, List.setIfInBounds_toArray, List.set_cons_zero, List.set_cons_succ])
  refine take_put (i := 2) (v := .pointer (some ⟨g, i * 9 + 6, none⟩)) 14 rfl rfl (by kernel_rfl) (by kernel_rfl) (by kernel_rfl) (fun _ _ _ h => h) (Or.inl ⟨by rfl, by intro Wy hSW; go_simp⟩) (by assumption) ?_
  (try simp only [Act.put, List.setIfInBounds_toArray, List.set_cons_zero, List.set_cons_succ])
  refine take_put (i := 3) (v := .pointer (some ⟨g, i * 9 + 6, none⟩)) 15 rfl rfl (by kernel_rfl) (by kernel_rfl) (by kernel_rfl) (fun _ _ _ h => h) (Or.inl ⟨by rfl, by intro Wy hSW; go_simp⟩) (by assumption) ?_
  (try simp only [Act.put, List.setIfInBounds_toArray, List.set_cons_zero, List.set_cons_succ])
  refine take_put (i := 4) (v := .agg #[.int .i64 tl, .slice ta tb tc]) 16 rfl rfl (by kernel_rfl) (by kernel_rfl) (by kernel_rfl) (fun _ _ _ h => h) (Or.inl ⟨by rfl, by intro Wy hSW; have hc := HTU.out _ hSW.1; go_simp⟩) (by assumption) ?_
  (try simp only [Act.put, List.setIfInBounds_toArray, List.set_cons_zero, List.set_cons_succ])
  refine take_put (i := 5) (v := .int .i64 now) 17 rfl rfl (by kernel_rfl) (by kernel_rfl) (by kernel_rfl) (fun _ _ _ h => h) (Or.inl ⟨by rfl, by intro Wy hSW; go_simp⟩) (by assumption) ?_
  (try simp only [Act.put, List.setIfInBounds_toArray, List.set_cons_zero, List.set_cons_succ])
  refine wpAnyH_ready (rs := [6, 11]) (by kernel_rfl) (by simp) ?_
  refine AllReadyH.cons rfl (fun Kx hKx => ?_) (AllReadyH.cons rfl (fun Kx hKx => ?_) AllReadyH.nil)
  · skip
    go_simp
    refine (rel_at _ (HPK.out _ HSS.out.1) HPS.out HPD.out HPI.out).mono ?_; rintro e V1 ⟨u, n9, c9, rfl, ho, hg⟩
    have HFR := hide (show Far (.slice u n9 c9) q from fun k1 h1 h2 => by have a1 := (World.ownsRow.lt ho k1 h1).1; have a2 := HQ.out k1 h2; have a3 := HGW.out.size; rw [HBT.out] at a3; omega)
    have HPb := hide (show U.Own lo V1 (.slice u n9 c9) PZ from own_mono ho (Nat.le_trans HL0.out.loW (by have := HGW.out.size; rw [HBT.out] at this; rw [HBT.out]; exact this)))
    clear ho
    have HGWn := hide (grownBy_trans HGW.out hg)
    have HSSn : Hid ((fun V => (PLoc lo q V b (.slice (some ⟨g, 0, none⟩) n c) vj ms L) ∧ V.heap[BT]? = some (.cells #[.int .i64 x0, .int .i64 x1, .int .i64 x2, .int .i64 x3, .int .i64 x4, .int .i64 x5] 73 (0, 0))) V1) := hide ⟨HSS.out.1.grown hg, box_grown HSS.out.2 hg (by simp)⟩
    clear HGW HSS hHeld 
    have HGW := HGWn
    have HSS := HSSn
    clear HGWn HSSn 
    clear hg
    have HP := HPb
    clear HPb
    refine hKx.out _ _ HSS.out (fun hHeld => ?_)
    clear hKx Kx
    (try simp only [Act.put])
    refine take_put (i := 7) (v := .tuple #[.agg #[.int .i64 PL, .slice u n9 c9], .int .i64 D, .bool IS]) 11 rfl rfl (by kernel_rfl) (by kernel_rfl) (by kernel_rfl) (fun _ _ _ h => h) (Or.inl ⟨by rfl, by intro Wy hSW; go_simp⟩) (by assumption) ?_
    (try simp only [Act.put, List.setIfInBounds_toArray, List.set_cons_zero, List.set_cons_succ])
    refine take_put (i := 8) (v := .agg #[.int .i64 PL, .slice u n9 c9]) 19 rfl rfl (by kernel_rfl) (by kernel_rfl) (by kernel_rfl) (fun _ _ _ h => h) (Or.inl ⟨by rfl, by intro Wy hSW; go_simp⟩) (by assumption) ?_
    (try simp only [Act.put, List.setIfInBounds_toArray, List.set_cons_zero, List.set_cons_succ])
    refine take_put (i := 9) (v := .int .i64 D) 20 rfl rfl (by kernel_rfl) (by kernel_rfl) (by kernel_rfl) (fun _ _ _ h => h) (Or.inl ⟨by rfl, by intro Wy hSW; go_simp⟩) (by assumption) ?_
    (try simp only [Act.put, List.setIfInBounds_toArray, List.set_cons_zero, List.set_cons_succ])
    refine take_put (i := 10) (v := .bool IS) 21 rfl rfl (by kernel_rfl) (by kernel_rfl) (by kernel_rfl) (fun _ _ _ h => h) (Or.inl ⟨by rfl, by intro Wy hSW; go_simp⟩) (by assumption) ?_
    (try simp only [Act.put, List.setIfInBounds_toArray, List.set_cons_zero, List.set_cons_succ])
    refine wpAnyH_ready (rs := [11]) (by kernel_rfl) (by simp) ?_
    refine AllReadyH.cons rfl (fun Kx hKx => ?_) AllReadyH.nil
    go_simp
    have hg := World.grownBy_alloc V1 (.cells #[.int .i64 0, .slice none 0 0] 93) none
    have HNq := hide (heap_alloc_new V1 (.cells #[.int .i64 0, .slice none 0 0] 93))
    have HNS : Hid (BT ≤ V1.heap.size ∧ BT ≠ V1.heap.size) := hide (by have := HGW.out.size; have := box_lt HSS.out.2; rw [HBT.out] at *; omega)
    have HGWn := hide (grownBy_trans HGW.out hg)
    have HSSn : Hid ((fun V => (PLoc lo q V b (.slice (some ⟨g, 0, none⟩) n c) vj ms L) ∧ V.heap[BT]? = some (.cells #[.int .i64 x0, .int .i64 x1, .int .i64 x2, .int .i64 x3, .int .i64 x4, .int .i64 x5] 73 (0, 0))) (V1.alloc (.cells #[.int .i64 0, .slice none 0 0] 93))) := hide ⟨HSS.out.1.grown hg, box_grown HSS.out.2 hg (by simp)⟩
    have HPn := hide (U.Own.grown HP.out hg)
    clear HGW HSS hHeld HP
    have HGW := HGWn
    have HSS := HSSn
    have HP := HPn
    clear HGWn HSSn HPn
    clear hg
    have HN := HNq
    clear HNq
    refine hKx.out _ _ HSS.out (fun hHeld => ?_)
    clear hKx Kx
    (try simp only [Act.put])
    generalize V1.alloc (.cells #[.int .i64 0, .slice none 0 0] 93) = V2 at *
    generalize V1.heap.size = BN at *
    refine wpAnyH_ready (rs := [12]) (by kernel_rfl) (by simp) ?_
    refine AllReadyH.cons rfl (fun Kx hKx => ?_) AllReadyH.nil
    refine step_store 93 (.tmp 8) (.tmp 19) BN #[.int .i64 PL, .slice u n9 c9] 93 #[.int .i64 0, .slice none 0 0] rfl rfl HN.out sizeUp rfl (by simp [Value.oneCell']) ?_
    intro V3 h1 e1 g1
    have HGWn := hide (grown_spoil HGW.out (by rw [HBT.out]; exact HNS.out.1) g1)
    have HSSn : Hid ((fun V => (PLoc lo q V b (.slice (some ⟨g, 0, none⟩) n c) vj ms L) ∧ V.heap[BT]? = some (.cells #[.int .i64 x0, .int .i64 x1, .int .i64 x2, .int .i64 x3, .int .i64 x4, .int .i64 x5] 73 (0, 0))) V3) := hide ⟨HSS.out.1.off g1 (type_box HN.out) (by decide) (by decide) (by decide) (by decide), (e1 BT HNS.out.2).trans HSS.out.2⟩
    have HPn := hide (show U.Own lo V3 (.slice u n9 c9) PZ from own_type HP.out g1 (type_box HN.out) (by decide))
    have HNn := hide h1
    clear hHeld h1 e1 g1 HGW HSS HP HN
    have HGW := HGWn
    have HSS := HSSn
    have HP := HPn
    have HN := HNn
    clear HGWn HSSn HPn HNn
    refine hKx.out _ _ HSS.out (fun hHeld => ?_)
    clear hKx Kx
    (try simp only [Act.put])
    refine take_put (i := 13) (v := .int .i64 D) 9 rfl rfl (by kernel_rfl) (by kernel_rfl) (by kernel_rfl) (fun _ _ _ h => h) (Or.inl ⟨by rfl, by intro Wy hSW; go_simp⟩) (by assumption) ?_
    (try simp only [Act.put, List.setIfInBounds_toArray, List.set_cons_zero, List.set_cons_succ])
    refine take_put (i := 14) (v := .bool IS) 10 rfl rfl (by kernel_rfl) (by kernel_rfl) (by kernel_rfl) (fun _ _ _ h => h) (Or.inl ⟨by rfl, by intro Wy hSW; go_simp⟩) (by assumption) ?_
    (try simp only [Act.put, List.setIfInBounds_toArray, List.set_cons_zero, List.set_cons_succ])
    refine wpAnyH_done (by kernel_rfl) ?_ _
    clear hHeld
    obtain ⟨k0, k1⟩ := HTU.out _ HSS.out.1
    have f0 := HSS.out.1.free (i * 9 + 6)
    have f1 := HSS.out.1.free (i * 9 + 7)
    have n0 := blk_cell HN.out 0
    have n1 := blk_cell HN.out 1
    go_upto_region 3 with (first | fail)
    clear k0 k1 f0 f1 n0 n1
    have HR := hide (HSS.out.1.turn (PL := PL) (pa := u) (pn := n9) (pc := c9) (PZ := PZ) HLT.out hm HP.out HFR.out)
    have HGZ := hide (grown_any HGW.out HR.out.2)
    generalize ((V3.setCell ⟨g, i * 9 + 6, none⟩ (.int .i64 PL)).setCell ⟨g, i * 9 + 7, none⟩ (.slice u n9 c9)) = Z9 at *
    go_wp2
    go_ret2
    exact ⟨rfl, ⟨_, HR.out.1⟩, HGZ.out⟩
  · skip
    go_simp
    have hg := World.grownBy_alloc V0 (.cells #[.int .i64 0, .slice none 0 0] 93) none
    have HNq := hide (heap_alloc_new V0 (.cells #[.int .i64 0, .slice none 0 0] 93))
    have HNS : Hid (BT ≤ V0.heap.size ∧ BT ≠ V0.heap.size) := hide (by have := HGW.out.size; have := box_lt HSS.out.2; rw [HBT.out] at *; omega)
    have HGWn := hide (grownBy_trans HGW.out hg)
    have HSSn : Hid ((fun V => (PLoc lo q V b (.slice (some ⟨g, 0, none⟩) n c) vj ms L) ∧ V.heap[BT]? = some (.cells #[.int .i64 x0, .int .i64 x1, .int .i64 x2, .int .i64 x3, .int .i64 x4, .int .i64 x5] 73 (0, 0))) (V0.alloc (.cells #[.int .i64 0, .slice none 0 0] 93))) := hide ⟨HSS.out.1.grown hg, box_grown HSS.out.2 hg (by simp)⟩
    clear HGW HSS hHeld 
    have HGW := HGWn
    have HSS := HSSn
    clear HGWn HSSn 
    clear hg
    have HN := HNq
    clear HNq
    refine hKx.out _ _ HSS.out (fun hHeld => ?_)
    clear hKx Kx
    (try simp only [Act.put])
    generalize V0.alloc (.cells #[.int .i64 0, .slice none 0 0] 93) = V4 at *
    generalize V0.heap.size = BN at *
    refine wpAnyH_ready (rs := [6]) (by kernel_rfl) (by simp) ?_
    refine AllReadyH.cons rfl (fun Kx hKx => ?_) AllReadyH.nil
    go_simp
    refine (rel_at _ (HPK.out _ HSS.out.1) HPS.out HPD.out HPI.out).mono ?_; rintro e V5 ⟨u, n9, c9, rfl, ho, hg⟩
    have HFR := hide (show Far (.slice u n9 c9) q from fun k1 h1 h2 => by have a1 := (World.ownsRow.lt ho k1 h1).1; have a2 := HQ.out k1 h2; have a3 := HGW.out.size; rw [HBT.out] at a3; omega)
    have HPb := hide (show U.Own lo V5 (.slice u n9 c9) PZ from own_mono ho (Nat.le_trans HL0.out.loW (by have := HGW.out.size; rw [HBT.out] at this; rw [HBT.out]; exact this)))
    clear ho
    have HGWn := hide (grownBy_trans HGW.out hg)
    have HSSn : Hid ((fun V => (PLoc lo q V b (.slice (some ⟨g, 0, none⟩) n c) vj ms L) ∧ V.heap[BT]? = some (.cells #[.int .i64 x0, .int .i64 x1, .int .i64 x2, .int .i64 x3, .int .i64 x4, .int .i64 x5] 73 (0, 0))) V5) := hide ⟨HSS.out.1.grown hg, box_grown HSS.out.2 hg (by simp)⟩
    have HNn := hide (box_grown HN.out hg (by simp))
    clear HGW HSS hHeld HN
    have HGW := HGWn
    have HSS := HSSn
    have HN := HNn
    clear HGWn HSSn HNn
    clear hg
    have HP := HPb
    clear HPb
    refine hKx.out _ _ HSS.out (fun hHeld => ?_)
    clear hKx Kx
    (try simp only [Act.put])
    refine take_put (i := 7) (v := .tuple #[.agg #[.int .i64 PL, .slice u n9 c9], .int .i64 D, .bool IS]) 11 rfl rfl (by kernel_rfl) (by kernel_rfl) (by kernel_rfl) (fun _ _ _ h => h) (Or.inl ⟨by rfl, by intro Wy hSW; go_simp⟩) (by assumption) ?_
    (try simp only [Act.put, List.setIfInBounds_toArray, List.set_cons_zero, List.set_cons_succ])
    refine take_put (i := 8) (v := .agg #[.int .i64 PL, .slice u n9 c9]) 19 rfl rfl (by kernel_rfl) (by kernel_rfl) (by kernel_rfl) (fun _ _ _ h => h) (Or.inl ⟨by rfl, by intro Wy hSW; go_simp⟩) (by assumption) ?_
    (try simp only [Act.put, List.setIfInBounds_toArray, List.set_cons_zero, List.set_cons_succ])
    refine take_put (i := 9) (v := .int .i64 D) 20 rfl rfl (by kernel_rfl) (by kernel_rfl) (by kernel_rfl) (fun _ _ _ h => h) (Or.inl ⟨by rfl, by intro Wy hSW; go_simp⟩) (by assumption) ?_
    (try simp only [Act.put, List.setIfInBounds_toArray, List.set_cons_zero, List.set_cons_succ])
    refine take_put (i := 10) (v := .bool IS) 21 rfl rfl (by kernel_rfl) (by kernel_rfl) (by kernel_rfl) (fun _ _ _ h => h) (Or.inl ⟨by rfl, by intro Wy hSW; go_simp⟩) (by assumption) ?_
    (try simp only [Act.put, List.setIfInBounds_toArray, List.set_cons_zero, List.set_cons_succ])
    refine wpAnyH_ready (rs := [12]) (by kernel_rfl) (by simp) ?_
    refine AllReadyH.cons rfl (fun Kx hKx => ?_) AllReadyH.nil
    refine step_store 93 (.tmp 8) (.tmp 19) BN #[.int .i64 PL, .slice u n9 c9] 93 #[.int .i64 0, .slice none 0 0] rfl rfl HN.out sizeUp rfl (by simp [Value.oneCell']) ?_
    intro V6 h1 e1 g1
    have HGWn := hide (grown_spoil HGW.out (by rw [HBT.out]; exact HNS.out.1) g1)
    have HSSn : Hid ((fun V => (PLoc lo q V b (.slice (some ⟨g, 0, none⟩) n c) vj ms L) ∧ V.heap[BT]? = some (.cells #[.int .i64 x0, .int .i64 x1, .int .i64 x2, .int .i64 x3, .int .i64 x4, .int .i64 x5] 73 (0, 0))) V6) := hide ⟨HSS.out.1.off g1 (type_box HN.out) (by decide) (by decide) (by decide) (by decide), (e1 BT HNS.out.2).trans HSS.out.2⟩
    have HPn := hide (show U.Own lo V6 (.slice u n9 c9) PZ from own_type HP.out g1 (type_box HN.out) (by decide))
    have HNn := hide h1
    clear hHeld h1 e1 g1 HGW HSS HP HN
    have HGW := HGWn
    have HSS := HSSn
    have HP := HPn
    have HN := HNn
    clear HGWn HSSn HPn HNn
    refine hKx.out _ _ HSS.out (fun hHeld => ?_)
    clear hKx Kx
    (try simp only [Act.put])
    refine take_put (i := 13) (v := .int .i64 D) 9 rfl rfl (by kernel_rfl) (by kernel_rfl) (by kernel_rfl) (fun _ _ _ h => h) (Or.inl ⟨by rfl, by intro Wy hSW; go_simp⟩) (by assumption) ?_
    (try simp only [Act.put, List.setIfInBounds_toArray, List.set_cons_zero, List.set_cons_succ])
    refine take_put (i := 14) (v := .bool IS) 10 rfl rfl (by kernel_rfl) (by kernel_rfl) (by kernel_rfl) (fun _ _ _ h => h) (Or.inl ⟨by rfl, by intro Wy hSW; go_simp⟩) (by assumption) ?_
    (try simp only [Act.put, List.setIfInBounds_toArray, List.set_cons_zero, List.set_cons_succ])
    refine wpAnyH_done (by kernel_rfl) ?_ _
    clear hHeld
    obtain ⟨k0, k1⟩ := HTU.out _ HSS.out.1
    have f0 := HSS.out.1.free (i * 9 + 6)
    have f1 := HSS.out.1.free (i * 9 + 7)
    have n0 := blk_cell HN.out 0
    have n1 := blk_cell HN.out 1
    go_upto_region 3 with (first | fail)
    clear k0 k1 f0 f1 n0 n1
    have HR := hide (HSS.out.1.turn (PL := PL) (pa := u) (pn := n9) (pc := c9) (PZ := PZ) HLT.out hm HP.out HFR.out)
    have HGZ := hide (grown_any HGW.out HR.out.2)
    generalize ((V6.setCell ⟨g, i * 9 + 6, none⟩ (.int .i64 PL)).setCell ⟨g, i * 9 + 7, none⟩ (.slice u n9 c9)) = Z9 at *
    go_wp2
    go_ret2
    exact ⟨rfl, ⟨_, HR.out.1⟩, HGZ.out⟩
#print axioms release_at
end Go.Proofs.YtlppfocoonnpjaaGreatDoor.L

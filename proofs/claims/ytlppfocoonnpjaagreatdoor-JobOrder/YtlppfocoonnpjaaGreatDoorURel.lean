/- The contract of package task's release of a kind, proved over the translation. -/
import Derived.Test.YtlppfocoonnpjaaGreatDoorQk
namespace Go.Proofs.YtlppfocoonnpjaaGreatDoor.U
open Go.RowKit
attribute [local go_sem] alloc_drewN setCell_drewN

theorem row_tail {lo g o n cap : Nat} {W : World} {d : Int} {zs : List Int} (h : RowAt shN lo W (.slice (some ⟨g, o, none⟩) n cap) (d :: zs)) : RowAt shN lo W (.slice (some ⟨g, o + 1, none⟩) (n - 1) (cap - 1)) zs := by
  obtain ⟨hl, a2, c2, e, ha⟩ := h
  simp only [Value.slice.injEq, List.length_cons] at e
  obtain ⟨rfl, rfl, rfl⟩ := e
  obtain ⟨g', o', e, hlo, hc⟩ := ha (by simp)
  simp only [Option.some.injEq, Addr.mk.injEq, and_true] at e
  obtain ⟨rfl, rfl⟩ := e
  simp only [List.length_cons] at hl hlo
  refine ⟨by omega, some ⟨g, o + 1, none⟩, cap - 1, by simp, fun _ => ⟨g, o + 1, rfl, ⟨hlo.1, by omega⟩, fun i x hx j u hu => ?_⟩⟩
  have := hc (i + 1) x (by simpa using hx) j u hu
  rw [show o + 1 + i * shN.k + j = o + (i + 1) * shN.k + j by rw [Nat.add_mul]; show o + 1 + i * 1 + j = o + (i * 1 + 1 * 1) + j; omega]
  exact this
theorem row_tail1 {lo g o n : Nat} {W : World} {d : Int} {zs : List Int} (h : RowAt shN lo W (.slice (some ⟨g, o, none⟩) n 1) (d :: zs)) : RowAt shN lo W (.slice (some ⟨g, o, none⟩) 0 0) zs := by
  obtain ⟨hl, a2, c2, e, ha⟩ := h
  simp only [Value.slice.injEq, List.length_cons] at e
  obtain ⟨rfl, rfl, rfl⟩ := e
  obtain ⟨g', o', e, hlo, hc⟩ := ha (by simp)
  simp only [List.length_cons] at hlo
  obtain rfl : zs = [] := List.length_eq_zero_iff.1 (by omega)
  exact rowAt_nil _ _ _ _


set_option maxRecDepth 100000 in
set_option maxHeartbeats 4000000 in
theorem release0_any (t : TaskV) (L : Int) (a : Option Addr) (cap : Nat) (now : Int) (w : World) :
    Calls Tryz.prog 158 #[.agg (kindC t L (.slice a 0 cap)), .int .i64 now] w fun e w' => ∃ v', e = .returned (.tuple #[.agg #[.int .i64 now, v'], .int .i64 t.clow]) ∧ Own (w.heap.size + 2) w' v' [] ∧ w.grownBy w' none := by
  have CW := hide (waits_any t L a 0 cap)
  obtain ⟨x0, x1, x2, x3, x4, x5⟩ := t
  dsimp only [kindC]
  dsimp only [kindC] at CW
  go_enter Tryz.func158, Tryz.ntmps158
  go_wp2_with (first | fail)
  refine (CW.out _).mono ?_; rintro e wv ⟨rfl, hg⟩
  have HG := hide (grownBy_trans (grownBy_trans (World.grownBy_alloc w (.cells #[.int .i64 x0, .int .i64 x1, .int .i64 x2, .int .i64 x3, .int .i64 x4, .int .i64 x5, .int .i64 L, .slice a 0 cap] 170) none) (World.grownBy_alloc _ (.cells #[.int .i64 0, .slice none 0 0] 93) none)) hg)
  have HB := hide (box_grown (hp_up (heap_alloc_new w (.cells #[.int .i64 x0, .int .i64 x1, .int .i64 x2, .int .i64 x3, .int .i64 x4, .int .i64 x5, .int .i64 L, .slice a 0 cap] 170)) (.cells #[.int .i64 0, .slice none 0 0] 93)) hg (by simp))
  have HR := hide (box_grown (alloc_next w (.cells #[.int .i64 x0, .int .i64 x1, .int .i64 x2, .int .i64 x3, .int .i64 x4, .int .i64 x5, .int .i64 L, .slice a 0 cap] 170) (.cells #[.int .i64 0, .slice none 0 0] 93)) hg (by simp))
  clear hg CW
  go_upto_region 2 with (first | fail)
  refine wp_region_held_drew (S := fun W => W.heap[w.heap.size]? = some (.cells #[.int .i64 x0, .int .i64 x1, .int .i64 x2, .int .i64 x3, .int .i64 x4, .int .i64 x5, .int .i64 L, .slice a 0 cap] 170 (0, 0))) (by kernel_rfl) HB.out (fun hHeld => ?_)
  have HGd : Hid (w.grownBy wv.drew none) := hide (grownBy_trans HG.out (grownBy_draws wv 1 none))
  have HBd : Hid (wv.drew.heap[w.heap.size]? = some (.cells #[.int .i64 x0, .int .i64 x1, .int .i64 x2, .int .i64 x3, .int .i64 x4, .int .i64 x5, .int .i64 L, .slice a 0 cap] 170 (0, 0))) := hide HB.out
  have HRd : Hid (wv.drew.heap[w.heap.size + 1]? = some (.cells #[.int .i64 0, .slice none 0 0] 93 (0, 0))) := hide HR.out
  clear HG HB HR
  generalize wv.drew = W at *
  have HG := HGd
  have HB := HBd
  have HR := HRd
  clear HGd HBd HRd
  refine take_put (i := 0) (v := .int .i64 now) 9 rfl rfl (by kernel_rfl) (by kernel_rfl) (by kernel_rfl) (fun _ _ _ h => h) (Or.inl ⟨by rfl, by intro Wy hSW; go_simp⟩) (by assumption) ?_
  (try simp only [Act.put, List.setIfInBounds_toArray, List.set_cons_zero, List.set_cons_succ])
  refine take_put (i := 1) (v := .agg #[.int .i64 now, .slice none 0 0]) 10 rfl rfl (by kernel_rfl) (by kernel_rfl) (by kernel_rfl) (fun _ _ _ h => h) (Or.inl ⟨by rfl, by intro Wy hSW; go_simp⟩) (by assumption) ?_
  (try simp only [Act.put, List.setIfInBounds_toArray, List.set_cons_zero, List.set_cons_succ])
  refine take_put (i := 2) (v := .pointer (some ⟨w.heap.size, 0, none⟩)) 11 rfl rfl (by kernel_rfl) (by kernel_rfl) (by kernel_rfl) (fun _ _ _ h => h) (Or.inl ⟨by rfl, by intro Wy hSW; go_simp⟩) (by assumption) ?_
  (try simp only [Act.put, List.setIfInBounds_toArray, List.set_cons_zero, List.set_cons_succ])
  refine take_put (i := 3) (v := .pointer (some ⟨w.heap.size, 3, none⟩)) 12 rfl rfl (by kernel_rfl) (by kernel_rfl) (by kernel_rfl) (fun _ _ _ h => h) (Or.inl ⟨by rfl, by intro Wy hSW; go_simp⟩) (by assumption) ?_
  (try simp only [Act.put, List.setIfInBounds_toArray, List.set_cons_zero, List.set_cons_succ])
  refine take_put (i := 4) (v := .int .i64 x3) 13 rfl rfl (by kernel_rfl) (by kernel_rfl) (by kernel_rfl) (fun _ _ _ h => h) (Or.inl ⟨by rfl, by intro Wy hSW; have hc := blk_cell hSW 3; go_simp⟩) (by assumption) ?_
  (try simp only [Act.put, List.setIfInBounds_toArray, List.set_cons_zero, List.set_cons_succ])
  refine wpAnyH_ready (rs := [5]) (by kernel_rfl) (by simp) ?_
  refine AllReadyH.cons rfl (fun K hK => ?_) AllReadyH.nil
  refine step_store 93 (.tmp 4) (.tmp 10) (w.heap.size + 1) #[.int .i64 now, .slice none 0 0] 93 #[.int .i64 0, .slice none 0 0] rfl rfl HR.out sizeU rfl (by simp [Value.oneCell']) ?_
  intro W1 h1 e1 g1
  have HBn := hide ((e1 w.heap.size (by omega)).trans HB.out)
  have HRn := hide h1
  have HGn := hide (grown_spoil HG.out (Nat.le_succ _) g1)
  clear hHeld h1 e1 g1 HB HR HG
  have HB := HBn
  have HR := HRn
  have HG := HGn
  clear HBn HRn HGn
  refine hK.out _ _ HB.out (fun hHeld => ?_)
  clear hK K
  (try simp only [Act.put])
  refine take_put (i := 6) (v := .int .i64 x3) 5 rfl rfl (by kernel_rfl) (by kernel_rfl) (by kernel_rfl) (fun _ _ _ h => h) (Or.inl ⟨by rfl, by intro Wy hSW; go_simp⟩) (by assumption) ?_
  (try simp only [Act.put, List.setIfInBounds_toArray, List.set_cons_zero, List.set_cons_succ])
  refine wpAnyH_done (by kernel_rfl) ?_ _
  clear hHeld
  go_wp2
  refine bodyPost_ret (results_row_tmp rfl _ _ (w.heap.size + 1) 93 #[.int .i64 now, .slice none 0 0] (0, 0) _ rfl HR.out Tryz.underlying93 rfl sizeU) rfl ?_
  exact ⟨_, rfl, own_nil _ _, HG.out⟩

set_option maxRecDepth 100000 in
set_option maxHeartbeats 4000000 in
theorem release1_any {lo : Nat} (t : TaskV) (L : Int) (g o n : Nat) (d : Int) (zs : List Int) (hz : zs.length ≤ 17592186043904) (now : Int) (w : World) (hn : 0 < n) (hv : RowAt shN lo w (.slice (some ⟨g, o, none⟩) n 1) (d :: zs)) :
    Calls Tryz.prog 158 #[.agg (kindC t L (.slice (some ⟨g, o, none⟩) n 1)), .int .i64 now] w fun e w' => ∃ v', e = .returned (.tuple #[.agg #[.int .i64 now, v'], .int .i64 d]) ∧ Own (w.heap.size + 2) w' v' zs ∧ w.grownBy w' none := by
  have CW := hide (waits_any t L (some ⟨g, o, none⟩) n 1)
  rw [decide_eq_true hn] at CW
  have HD : Hid (w.cell? ⟨g, o, none⟩ = some (.int .i64 d)) := hide (by
    obtain ⟨-, a2, c2, e, ha⟩ := hv
    simp only [Value.slice.injEq] at e
    obtain ⟨rfl, rfl, rfl⟩ := e
    obtain ⟨g', o', e, -, hc⟩ := ha hn
    simp only [Option.some.injEq, Addr.mk.injEq, and_true] at e
    obtain ⟨rfl, rfl⟩ := e
    have := hc 0 d rfl 0 _ rfl
    simpa using this)
  have HLT := hide (World.block_lt_of_cell? w _ HD.out)
  have C := hide (fun W (hg : w.grownBy W none) => copied_any (.slice (some ⟨g, o, none⟩) 0 0) zs hz W ((row_tail1 hv).grown hg))
  have hcap1 : n = 1 := by obtain ⟨-, a2, c2, e, ha⟩ := hv; simp only [Value.slice.injEq] at e; obtain ⟨rfl, rfl, rfl⟩ := e; obtain ⟨g', o', e, hlo, hc⟩ := ha hn; have := hlo.2; omega
  clear hz hv
  subst hcap1
  obtain ⟨x0, x1, x2, x3, x4, x5⟩ := t
  dsimp only [kindC]
  dsimp only [kindC] at CW
  go_enter Tryz.func158, Tryz.ntmps158
  go_wp2_with (first | fail)
  refine (CW.out _).mono ?_; rintro e wv ⟨rfl, hg⟩
  have HG := hide (grownBy_trans (grownBy_trans (World.grownBy_alloc w (.cells #[.int .i64 x0, .int .i64 x1, .int .i64 x2, .int .i64 x3, .int .i64 x4, .int .i64 x5, .int .i64 L, .slice (some ⟨g, o, none⟩) 1 1] 170) none) (World.grownBy_alloc _ (.cells #[.int .i64 0, .slice none 0 0] 93) none)) hg)
  have HB := hide (box_grown (hp_up (heap_alloc_new w (.cells #[.int .i64 x0, .int .i64 x1, .int .i64 x2, .int .i64 x3, .int .i64 x4, .int .i64 x5, .int .i64 L, .slice (some ⟨g, o, none⟩) 1 1] 170)) (.cells #[.int .i64 0, .slice none 0 0] 93)) hg (by simp))
  have HR := hide (box_grown (alloc_next w (.cells #[.int .i64 x0, .int .i64 x1, .int .i64 x2, .int .i64 x3, .int .i64 x4, .int .i64 x5, .int .i64 L, .slice (some ⟨g, o, none⟩) 1 1] 170) (.cells #[.int .i64 0, .slice none 0 0] 93)) hg (by simp))
  clear hg CW
  go_upto_region 3 with (first | fail)
  have HH : Hid (∀ W, w.grownBy W none → W.heap[w.heap.size]? = some (.cells #[.int .i64 x0, .int .i64 x1, .int .i64 x2, .int .i64 x3, .int .i64 x4, .int .i64 x5, .int .i64 L, .slice (some ⟨g, o, none⟩) 1 1] 170 (0, 0)) → (fun W => W.heap[w.heap.size]? = some (.cells #[.int .i64 x0, .int .i64 x1, .int .i64 x2, .int .i64 x3, .int .i64 x4, .int .i64 x5, .int .i64 L, .slice (some ⟨g, o, none⟩) 1 1] 170 (0, 0)) ∧ W.cell? ⟨g, o, none⟩ = some (.int .i64 d)) W) := hide (fun W hg hb => ⟨hb, (World.cell?_of_block (a := ⟨g, o, none⟩) (hg.block g HLT.out (by simp))).trans HD.out⟩)
  refine wp_region_held_drew (S := fun W => W.heap[w.heap.size]? = some (.cells #[.int .i64 x0, .int .i64 x1, .int .i64 x2, .int .i64 x3, .int .i64 x4, .int .i64 x5, .int .i64 L, .slice (some ⟨g, o, none⟩) 1 1] 170 (0, 0)) ∧ W.cell? ⟨g, o, none⟩ = some (.int .i64 d)) (by kernel_rfl) (HH.out _ (grownBy_trans HG.out (grownBy_draws wv 1 none)) HB.out) (fun hHeld => ?_)
  have HGd : Hid (w.grownBy wv.drew none) := hide (grownBy_trans HG.out (grownBy_draws wv 1 none))
  have HBd : Hid (wv.drew.heap[w.heap.size]? = some (.cells #[.int .i64 x0, .int .i64 x1, .int .i64 x2, .int .i64 x3, .int .i64 x4, .int .i64 x5, .int .i64 L, .slice (some ⟨g, o, none⟩) 1 1] 170 (0, 0))) := hide HB.out
  have HRd : Hid (wv.drew.heap[w.heap.size + 1]? = some (.cells #[.int .i64 0, .slice none 0 0] 93 (0, 0))) := hide HR.out
  clear HG HB HR
  generalize wv.drew = W at *
  have HG := HGd
  have HB := HBd
  have HR := HRd
  clear HGd HBd HRd
  have HL : Hid (w.heap.size + 2 ≤ W.heap.size) := hide (by have := box_lt HR.out; omega)
  refine take_put (i := 0) (v := .int .i64 now) 14 rfl rfl (by kernel_rfl) (by kernel_rfl) (by kernel_rfl) (fun _ _ _ h => h) (Or.inl ⟨by rfl, by intro Wy hSW; go_simp⟩) (by assumption) ?_
  (try simp only [Act.put, List.setIfInBounds_toArray, List.set_cons_zero, List.set_cons_succ])
  refine take_put (i := 1) (v := .pointer (some ⟨w.heap.size, 6, none⟩)) 15 rfl rfl (by kernel_rfl) (by kernel_rfl) (by kernel_rfl) (fun _ _ _ h => h) (Or.inl ⟨by rfl, by intro Wy hSW; go_simp⟩) (by assumption) ?_
  (try simp only [Act.put, List.setIfInBounds_toArray, List.set_cons_zero, List.set_cons_succ])
  refine take_put (i := 2) (v := .pointer (some ⟨w.heap.size, 7, none⟩)) 16 rfl rfl (by kernel_rfl) (by kernel_rfl) (by kernel_rfl) (fun _ _ _ h => h) (Or.inl ⟨by rfl, by intro Wy hSW; go_simp⟩) (by assumption) ?_
  (try simp only [Act.put, List.setIfInBounds_toArray, List.set_cons_zero, List.set_cons_succ])
  refine take_put (i := 3) (v := .slice (some ⟨g, o, none⟩) 1 1) 17 rfl rfl (by kernel_rfl) (by kernel_rfl) (by kernel_rfl) (fun _ _ _ h => h) (Or.inl ⟨by rfl, by intro Wy hSW; have hc := blk_cell hSW.1 7; go_simp⟩) (by assumption) ?_
  (try simp only [Act.put, List.setIfInBounds_toArray, List.set_cons_zero, List.set_cons_succ])
  refine take_put (i := 4) (v := .slice (some ⟨g, o, none⟩) 0 0) 18 rfl rfl (by kernel_rfl) (by kernel_rfl) (by kernel_rfl) (fun _ _ _ h => h) (Or.inl ⟨by rfl, by intro Wy hSW; go_simp⟩) (by assumption) ?_
  (try simp only [Act.put, List.setIfInBounds_toArray, List.set_cons_zero, List.set_cons_succ])
  refine take_put (i := 7) (v := .pointer (some ⟨w.heap.size, 6, none⟩)) 21 rfl rfl (by kernel_rfl) (by kernel_rfl) (by kernel_rfl) (fun _ _ _ h => h) (Or.inl ⟨by rfl, by intro Wy hSW; go_simp⟩) (by assumption) ?_
  (try simp only [Act.put, List.setIfInBounds_toArray, List.set_cons_zero, List.set_cons_succ])
  refine take_put (i := 8) (v := .pointer (some ⟨w.heap.size, 7, none⟩)) 22 rfl rfl (by kernel_rfl) (by kernel_rfl) (by kernel_rfl) (fun _ _ _ h => h) (Or.inl ⟨by rfl, by intro Wy hSW; go_simp⟩) (by assumption) ?_
  (try simp only [Act.put, List.setIfInBounds_toArray, List.set_cons_zero, List.set_cons_succ])
  refine take_put (i := 9) (v := .slice (some ⟨g, o, none⟩) 1 1) 23 rfl rfl (by kernel_rfl) (by kernel_rfl) (by kernel_rfl) (fun _ _ _ h => h) (Or.inl ⟨by rfl, by intro Wy hSW; have hc := blk_cell hSW.1 7; go_simp⟩) (by assumption) ?_
  (try simp only [Act.put, List.setIfInBounds_toArray, List.set_cons_zero, List.set_cons_succ])
  refine take_put (i := 10) (v := .pointer (some ⟨g, o, none⟩)) 24 rfl rfl (by kernel_rfl) (by kernel_rfl) (by kernel_rfl) (fun _ _ _ h => h) (Or.inl ⟨by rfl, by intro Wy hSW; go_simp⟩) (by assumption) ?_
  (try simp only [Act.put, List.setIfInBounds_toArray, List.set_cons_zero, List.set_cons_succ])
  refine take_put (i := 11) (v := .int .i64 d) 25 rfl rfl (by kernel_rfl) (by kernel_rfl) (by kernel_rfl) (fun _ _ _ h => h) (Or.inl ⟨by rfl, by intro Wy hSW; have hc := hSW.2; go_simp⟩) (by assumption) ?_
  (try simp only [Act.put, List.setIfInBounds_toArray, List.set_cons_zero, List.set_cons_succ])
  refine wpAnyH_ready (rs := [5]) (by kernel_rfl) (by simp) ?_
  refine AllReadyH.cons rfl (fun K hK => ?_) AllReadyH.nil
  go_simp
  refine (C.out _ HG.out).mono ?_; rintro e W1 ⟨v1, rfl, ho, hg⟩
  have HO := hide (ho.base HL.out)
  obtain ⟨u, m, c, rfl⟩ : ∃ u m c, v1 = .slice u m c := by obtain ⟨u, c, e⟩ := own_form ho; exact ⟨u, _, c, e⟩
  have HBn := hide (box_grown HB.out hg (by simp))
  have HRn := hide (box_grown HR.out hg (by simp))
  have HGn := hide (grownBy_trans HG.out hg)
  clear hHeld ho hg HB HR HG
  have HB := HBn
  have HR := HRn
  have HG := HGn
  clear HBn HRn HGn
  refine hK.out _ _ (HH.out _ HG.out HB.out) (fun hHeld => ?_)
  clear hK K
  (try simp only [Act.put])
  refine take_put (i := 6) (v := .agg #[.int .i64 now, .slice u m c]) 20 rfl rfl (by kernel_rfl) (by kernel_rfl) (by kernel_rfl) (fun _ _ _ h => h) (Or.inl ⟨by rfl, by intro Wy hSW; go_simp⟩) (by assumption) ?_
  (try simp only [Act.put, List.setIfInBounds_toArray, List.set_cons_zero, List.set_cons_succ])
  refine wpAnyH_ready (rs := [12]) (by kernel_rfl) (by simp) ?_
  refine AllReadyH.cons rfl (fun K hK => ?_) AllReadyH.nil
  refine step_store 93 (.tmp 4) (.tmp 20) (w.heap.size + 1) #[.int .i64 now, .slice u m c] 93 #[.int .i64 0, .slice none 0 0] rfl rfl HR.out sizeU rfl (by simp [Value.oneCell']) ?_
  intro W2 h1 e1 g1
  have HBn := hide ((e1 w.heap.size (by omega)).trans HB.out)
  have HRn := hide h1
  have HGn := hide (grown_spoil HG.out (Nat.le_succ _) g1)
  have HOn := hide (HO.out.off g1 (by omega))
  clear hHeld h1 e1 g1 HB HR HG HO
  have HB := HBn
  have HR := HRn
  have HG := HGn
  have HO := HOn
  clear HBn HRn HGn HOn
  refine hK.out _ _ (HH.out _ HG.out HB.out) (fun hHeld => ?_)
  clear hK K
  (try simp only [Act.put])
  refine take_put (i := 13) (v := .int .i64 d) 5 rfl rfl (by kernel_rfl) (by kernel_rfl) (by kernel_rfl) (fun _ _ _ h => h) (Or.inl ⟨by rfl, by intro Wy hSW; go_simp⟩) (by assumption) ?_
  (try simp only [Act.put, List.setIfInBounds_toArray, List.set_cons_zero, List.set_cons_succ])
  refine wpAnyH_done (by kernel_rfl) ?_ _
  clear hHeld
  go_wp2
  refine bodyPost_ret (results_row_tmp rfl _ _ (w.heap.size + 1) 93 #[.int .i64 now, .slice u m c] (0, 0) _ rfl HR.out Tryz.underlying93 rfl sizeU) rfl ?_
  exact ⟨_, rfl, HO.out, HG.out⟩

set_option maxRecDepth 100000 in
set_option maxHeartbeats 4000000 in
theorem release2_any {lo : Nat} (t : TaskV) (L : Int) (g o n cap : Nat) (d : Int) (zs : List Int) (hz : zs.length ≤ 17592186043904) (now : Int) (w : World) (hn : 0 < n) (hcap : cap ≠ 1) (hv : RowAt shN lo w (.slice (some ⟨g, o, none⟩) n cap) (d :: zs)) :
    Calls Tryz.prog 158 #[.agg (kindC t L (.slice (some ⟨g, o, none⟩) n cap)), .int .i64 now] w fun e w' => ∃ v', e = .returned (.tuple #[.agg #[.int .i64 now, v'], .int .i64 d]) ∧ Own (w.heap.size + 2) w' v' zs ∧ w.grownBy w' none := by
  have CW := hide (waits_any t L (some ⟨g, o, none⟩) n cap)
  rw [decide_eq_true hn] at CW
  have HD : Hid (w.cell? ⟨g, o, none⟩ = some (.int .i64 d)) := hide (by
    obtain ⟨-, a2, c2, e, ha⟩ := hv
    simp only [Value.slice.injEq] at e
    obtain ⟨rfl, rfl, rfl⟩ := e
    obtain ⟨g', o', e, -, hc⟩ := ha hn
    simp only [Option.some.injEq, Addr.mk.injEq, and_true] at e
    obtain ⟨rfl, rfl⟩ := e
    have := hc 0 d rfl 0 _ rfl
    simpa using this)
  have HLT := hide (World.block_lt_of_cell? w _ HD.out)
  have C := hide (fun W (hg : w.grownBy W none) => copied_any (.slice (some ⟨g, o + 1, none⟩) (n - 1) (cap - 1)) zs hz W ((row_tail hv).grown hg))
  have hcap1 : n ≤ cap ∧ cap ≠ 1 := ⟨by obtain ⟨-, a2, c2, e, ha⟩ := hv; simp only [Value.slice.injEq] at e; obtain ⟨rfl, rfl, rfl⟩ := e; obtain ⟨g', o', e, hlo, hc⟩ := ha hn; exact hlo.2, hcap⟩
  clear hz hv
  obtain ⟨x0, x1, x2, x3, x4, x5⟩ := t
  dsimp only [kindC]
  dsimp only [kindC] at CW
  go_enter Tryz.func158, Tryz.ntmps158
  go_wp2_with (first | fail)
  refine (CW.out _).mono ?_; rintro e wv ⟨rfl, hg⟩
  have HG := hide (grownBy_trans (grownBy_trans (World.grownBy_alloc w (.cells #[.int .i64 x0, .int .i64 x1, .int .i64 x2, .int .i64 x3, .int .i64 x4, .int .i64 x5, .int .i64 L, .slice (some ⟨g, o, none⟩) n cap] 170) none) (World.grownBy_alloc _ (.cells #[.int .i64 0, .slice none 0 0] 93) none)) hg)
  have HB := hide (box_grown (hp_up (heap_alloc_new w (.cells #[.int .i64 x0, .int .i64 x1, .int .i64 x2, .int .i64 x3, .int .i64 x4, .int .i64 x5, .int .i64 L, .slice (some ⟨g, o, none⟩) n cap] 170)) (.cells #[.int .i64 0, .slice none 0 0] 93)) hg (by simp))
  have HR := hide (box_grown (alloc_next w (.cells #[.int .i64 x0, .int .i64 x1, .int .i64 x2, .int .i64 x3, .int .i64 x4, .int .i64 x5, .int .i64 L, .slice (some ⟨g, o, none⟩) n cap] 170) (.cells #[.int .i64 0, .slice none 0 0] 93)) hg (by simp))
  clear hg CW
  go_upto_region 3 with (first | fail)
  have HH : Hid (∀ W, w.grownBy W none → W.heap[w.heap.size]? = some (.cells #[.int .i64 x0, .int .i64 x1, .int .i64 x2, .int .i64 x3, .int .i64 x4, .int .i64 x5, .int .i64 L, .slice (some ⟨g, o, none⟩) n cap] 170 (0, 0)) → (fun W => W.heap[w.heap.size]? = some (.cells #[.int .i64 x0, .int .i64 x1, .int .i64 x2, .int .i64 x3, .int .i64 x4, .int .i64 x5, .int .i64 L, .slice (some ⟨g, o, none⟩) n cap] 170 (0, 0)) ∧ W.cell? ⟨g, o, none⟩ = some (.int .i64 d)) W) := hide (fun W hg hb => ⟨hb, (World.cell?_of_block (a := ⟨g, o, none⟩) (hg.block g HLT.out (by simp))).trans HD.out⟩)
  refine wp_region_held_drew (S := fun W => W.heap[w.heap.size]? = some (.cells #[.int .i64 x0, .int .i64 x1, .int .i64 x2, .int .i64 x3, .int .i64 x4, .int .i64 x5, .int .i64 L, .slice (some ⟨g, o, none⟩) n cap] 170 (0, 0)) ∧ W.cell? ⟨g, o, none⟩ = some (.int .i64 d)) (by kernel_rfl) (HH.out _ (grownBy_trans HG.out (grownBy_draws wv 1 none)) HB.out) (fun hHeld => ?_)
  have HGd : Hid (w.grownBy wv.drew none) := hide (grownBy_trans HG.out (grownBy_draws wv 1 none))
  have HBd : Hid (wv.drew.heap[w.heap.size]? = some (.cells #[.int .i64 x0, .int .i64 x1, .int .i64 x2, .int .i64 x3, .int .i64 x4, .int .i64 x5, .int .i64 L, .slice (some ⟨g, o, none⟩) n cap] 170 (0, 0))) := hide HB.out
  have HRd : Hid (wv.drew.heap[w.heap.size + 1]? = some (.cells #[.int .i64 0, .slice none 0 0] 93 (0, 0))) := hide HR.out
  clear HG HB HR
  generalize wv.drew = W at *
  have HG := HGd
  have HB := HBd
  have HR := HRd
  clear HGd HBd HRd
  have HL : Hid (w.heap.size + 2 ≤ W.heap.size) := hide (by have := box_lt HR.out; omega)
  refine take_put (i := 0) (v := .int .i64 now) 14 rfl rfl (by kernel_rfl) (by kernel_rfl) (by kernel_rfl) (fun _ _ _ h => h) (Or.inl ⟨by rfl, by intro Wy hSW; go_simp⟩) (by assumption) ?_
  (try simp only [Act.put, List.setIfInBounds_toArray, List.set_cons_zero, List.set_cons_succ])
  refine take_put (i := 1) (v := .pointer (some ⟨w.heap.size, 6, none⟩)) 15 rfl rfl (by kernel_rfl) (by kernel_rfl) (by kernel_rfl) (fun _ _ _ h => h) (Or.inl ⟨by rfl, by intro Wy hSW; go_simp⟩) (by assumption) ?_
  (try simp only [Act.put, List.setIfInBounds_toArray, List.set_cons_zero, List.set_cons_succ])
  refine take_put (i := 2) (v := .pointer (some ⟨w.heap.size, 7, none⟩)) 16 rfl rfl (by kernel_rfl) (by kernel_rfl) (by kernel_rfl) (fun _ _ _ h => h) (Or.inl ⟨by rfl, by intro Wy hSW; go_simp⟩) (by assumption) ?_
  (try simp only [Act.put, List.setIfInBounds_toArray, List.set_cons_zero, List.set_cons_succ])
  refine take_put (i := 3) (v := .slice (some ⟨g, o, none⟩) n cap) 17 rfl rfl (by kernel_rfl) (by kernel_rfl) (by kernel_rfl) (fun _ _ _ h => h) (Or.inl ⟨by rfl, by intro Wy hSW; have hc := blk_cell hSW.1 7; go_simp⟩) (by assumption) ?_
  (try simp only [Act.put, List.setIfInBounds_toArray, List.set_cons_zero, List.set_cons_succ])
  refine take_put (i := 4) (v := .slice (some ⟨g, o + 1, none⟩) (n - 1) (cap - 1)) 18 rfl rfl (by kernel_rfl) (by kernel_rfl) (by kernel_rfl) (fun _ _ _ h => h) (Or.inl ⟨by rfl, by intro Wy hSW; have hc := (show ¬((n : Int) < 1) by omega); go_simp⟩) (by assumption) ?_
  (try simp only [Act.put, List.setIfInBounds_toArray, List.set_cons_zero, List.set_cons_succ])
  refine take_put (i := 7) (v := .pointer (some ⟨w.heap.size, 6, none⟩)) 21 rfl rfl (by kernel_rfl) (by kernel_rfl) (by kernel_rfl) (fun _ _ _ h => h) (Or.inl ⟨by rfl, by intro Wy hSW; go_simp⟩) (by assumption) ?_
  (try simp only [Act.put, List.setIfInBounds_toArray, List.set_cons_zero, List.set_cons_succ])
  refine take_put (i := 8) (v := .pointer (some ⟨w.heap.size, 7, none⟩)) 22 rfl rfl (by kernel_rfl) (by kernel_rfl) (by kernel_rfl) (fun _ _ _ h => h) (Or.inl ⟨by rfl, by intro Wy hSW; go_simp⟩) (by assumption) ?_
  (try simp only [Act.put, List.setIfInBounds_toArray, List.set_cons_zero, List.set_cons_succ])
  refine take_put (i := 9) (v := .slice (some ⟨g, o, none⟩) n cap) 23 rfl rfl (by kernel_rfl) (by kernel_rfl) (by kernel_rfl) (fun _ _ _ h => h) (Or.inl ⟨by rfl, by intro Wy hSW; have hc := blk_cell hSW.1 7; go_simp⟩) (by assumption) ?_
  (try simp only [Act.put, List.setIfInBounds_toArray, List.set_cons_zero, List.set_cons_succ])
  refine take_put (i := 10) (v := .pointer (some ⟨g, o, none⟩)) 24 rfl rfl (by kernel_rfl) (by kernel_rfl) (by kernel_rfl) (fun _ _ _ h => h) (Or.inl ⟨by rfl, by intro Wy hSW; go_simp⟩) (by assumption) ?_
  (try simp only [Act.put, List.setIfInBounds_toArray, List.set_cons_zero, List.set_cons_succ])
  refine take_put (i := 11) (v := .int .i64 d) 25 rfl rfl (by kernel_rfl) (by kernel_rfl) (by kernel_rfl) (fun _ _ _ h => h) (Or.inl ⟨by rfl, by intro Wy hSW; have hc := hSW.2; go_simp⟩) (by assumption) ?_
  (try simp only [Act.put, List.setIfInBounds_toArray, List.set_cons_zero, List.set_cons_succ])
  refine wpAnyH_ready (rs := [5]) (by kernel_rfl) (by simp) ?_
  refine AllReadyH.cons rfl (fun K hK => ?_) AllReadyH.nil
  go_simp
  refine (C.out _ HG.out).mono ?_; rintro e W1 ⟨v1, rfl, ho, hg⟩
  have HO := hide (ho.base HL.out)
  obtain ⟨u, m, c, rfl⟩ : ∃ u m c, v1 = .slice u m c := by obtain ⟨u, c, e⟩ := own_form ho; exact ⟨u, _, c, e⟩
  have HBn := hide (box_grown HB.out hg (by simp))
  have HRn := hide (box_grown HR.out hg (by simp))
  have HGn := hide (grownBy_trans HG.out hg)
  clear hHeld ho hg HB HR HG
  have HB := HBn
  have HR := HRn
  have HG := HGn
  clear HBn HRn HGn
  refine hK.out _ _ (HH.out _ HG.out HB.out) (fun hHeld => ?_)
  clear hK K
  (try simp only [Act.put])
  refine take_put (i := 6) (v := .agg #[.int .i64 now, .slice u m c]) 20 rfl rfl (by kernel_rfl) (by kernel_rfl) (by kernel_rfl) (fun _ _ _ h => h) (Or.inl ⟨by rfl, by intro Wy hSW; go_simp⟩) (by assumption) ?_
  (try simp only [Act.put, List.setIfInBounds_toArray, List.set_cons_zero, List.set_cons_succ])
  refine wpAnyH_ready (rs := [12]) (by kernel_rfl) (by simp) ?_
  refine AllReadyH.cons rfl (fun K hK => ?_) AllReadyH.nil
  refine step_store 93 (.tmp 4) (.tmp 20) (w.heap.size + 1) #[.int .i64 now, .slice u m c] 93 #[.int .i64 0, .slice none 0 0] rfl rfl HR.out sizeU rfl (by simp [Value.oneCell']) ?_
  intro W2 h1 e1 g1
  have HBn := hide ((e1 w.heap.size (by omega)).trans HB.out)
  have HRn := hide h1
  have HGn := hide (grown_spoil HG.out (Nat.le_succ _) g1)
  have HOn := hide (HO.out.off g1 (by omega))
  clear hHeld h1 e1 g1 HB HR HG HO
  have HB := HBn
  have HR := HRn
  have HG := HGn
  have HO := HOn
  clear HBn HRn HGn HOn
  refine hK.out _ _ (HH.out _ HG.out HB.out) (fun hHeld => ?_)
  clear hK K
  (try simp only [Act.put])
  refine take_put (i := 13) (v := .int .i64 d) 5 rfl rfl (by kernel_rfl) (by kernel_rfl) (by kernel_rfl) (fun _ _ _ h => h) (Or.inl ⟨by rfl, by intro Wy hSW; go_simp⟩) (by assumption) ?_
  (try simp only [Act.put, List.setIfInBounds_toArray, List.set_cons_zero, List.set_cons_succ])
  refine wpAnyH_done (by kernel_rfl) ?_ _
  clear hHeld
  go_wp2
  refine bodyPost_ret (results_row_tmp rfl _ _ (w.heap.size + 1) 93 #[.int .i64 now, .slice u m c] (0, 0) _ rfl HR.out Tryz.underlying93 rfl sizeU) rfl ?_
  exact ⟨_, rfl, HO.out, HG.out⟩

theorem release_any {lo : Nat} (t : TaskV) (L : Int) (a : Option Addr) (n cap : Nat) (zs : List Int) (hz : zs.length ≤ 17592186043904) (now : Int) (w : World) (hv : RowAt shN lo w (.slice a n cap) zs) :
    Calls Tryz.prog 158 #[.agg (kindC t L (.slice a n cap)), .int .i64 now] w fun e w' => ∃ v', e = .returned (.tuple #[.agg #[.int .i64 now, v'], .int .i64 (jobD t ⟨L, zs⟩)]) ∧ Own (w.heap.size + 2) w' v' (zs.drop 1) ∧ w.grownBy w' none := by
  have hn : n = zs.length := by obtain ⟨-, a2, c2, e, -⟩ := hv; simp only [Value.slice.injEq] at e; exact e.2.1
  cases zs with
  | nil => subst hn; exact release0_any t L a cap now w
  | cons d zs =>
    have hp : 0 < n := by rw [hn]; simp
    obtain ⟨g, o, rfl⟩ : ∃ g o, a = some ⟨g, o, none⟩ := by
      obtain ⟨-, a2, c2, e, ha⟩ := hv
      simp only [Value.slice.injEq] at e
      obtain ⟨rfl, rfl, rfl⟩ := e
      obtain ⟨g, o, e, -⟩ := ha hp
      exact ⟨g, o, e⟩
    have hz2 : zs.length ≤ 17592186043904 := by simp at hz; omega
    by_cases hc : cap = 1
    · subst hc; exact release1_any t L g o n d zs hz2 now w hp hv
    · exact release2_any t L g o n cap d zs hz2 now w hp hc hv
#print axioms release_any
end Go.Proofs.YtlppfocoonnpjaaGreatDoor.U

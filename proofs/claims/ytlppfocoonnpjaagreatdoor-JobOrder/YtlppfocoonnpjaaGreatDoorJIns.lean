/- The contract of package ready's insert, proved over the translation. -/
import Derived.Test.YtlppfocoonnpjaaGreatDoorJSrch
import Derived.Test.YtlppfocoonnpjaaGreatDoorJCat
namespace Go.Proofs.YtlppfocoonnpjaaGreatDoor.J
open Go.RowKit
attribute [local go_sem] alloc_drewN setCell_drewN

theorem row_lit1 (W : World) (j : JobV) : RowAt shJ W.heap.size (W.alloc (.cells (jobC j).toArray 70)) (.slice (some ⟨W.heap.size, 0, none⟩) 1 1) [j] := by
  have := rowAt_lit (S := shJ) W [j] 70 (by simp)
  simpa [Shape.cells, shJ] using this
theorem put_cat (js : List JobV) (j : JobV) (xs : Nat → List JobV) (h0 : xs 0 = js.take (placeN js j)) (h1 : xs 1 = [j]) (h2 : xs 2 = js.drop (placeN js j)) : catL xs 3 = putL js j := by
  unfold putL
  simp [catL, h0, h1, h2]
theorem put_len (js : List JobV) (j : JobV) : (putL js j).length = js.length + 1 := by
  have := place_le js j
  unfold putL
  simp
  omega
set_option maxRecDepth 100000 in
set_option maxHeartbeats 8000000 in
theorem ins_none {lo : Nat} (cap : Nat) (js : List JobV) (j : JobV) (w : World) (hv : RowAt shJ lo w (.slice none 0 cap) js) (hr : risesB js = true) (h16 : js.length ≤ 16) (hP : placeN js j = 0) :
    Calls Tryz.prog 114 #[.agg #[.slice none 0 cap], jobVal j] w fun e w' => ∃ v', e = .returned v' ∧ Own w.heap.size w' v' (putL js j) ∧ w.grownBy w' none := by
  have CP := hide (fun W (hg : w.grownBy W none) => place_any (.slice none 0 cap) js j W (hv.grown hg) hr h16)
  have R0 := hide (fun W (hg : w.grownBy W none) => (show RowAt shJ 0 W (.slice none 0 cap) (js.take 0) by rw [List.take_zero]; exact rowAt_nil _ _ _ _))
  have R2 := hide (fun W (hg : w.grownBy W none) => (show RowAt shJ 0 W (.slice none 0 cap) (js.drop 0) by have h0 : js = [] := List.length_eq_zero_iff.1 (by obtain ⟨-, a2, c2, e, -⟩ := hv; simp only [Value.slice.injEq] at e; exact e.2.1.symm); subst h0; exact rowAt_nil _ _ _ _))
  have HCAT := hide (put_cat js j)
  have HLEN := hide (put_len js j)
  have H16 := hide h16
  have hlen : js.length = 0 := by obtain ⟨-, a2, c2, e, -⟩ := hv; simp only [Value.slice.injEq] at e; exact e.2.1.symm
  have hPle := place_le js j
  have hcapN : 0 ≤ cap := by
    omega
  rw [hlen] at h16
  rw [hP] at CP HCAT
  rw [hP, hlen] at hPle
  obtain ⟨Hs, hHs⟩ : ∃ b, hasB js j = b := ⟨_, rfl⟩
  rw [hHs] at CP
  clear hv hr hP hHs hlen
  have CK := hide (fun vs xs b W => concat_any (lo := 0) vs xs b 3 W)
  have RL := hide (fun W => row_lit1 W j)
  obtain ⟨XS, hXS⟩ : ∃ XS : Nat → List JobV, XS = (fun k => if k = 0 then js.take (0) else if k = 1 then [j] else js.drop (0)) := ⟨_, rfl⟩
  have X0 : Hid (XS 0 = js.take (0)) := hide (by rw [hXS]; rfl)
  have X1 : Hid (XS 1 = [j]) := hide (by rw [hXS]; rfl)
  have X2 : Hid (XS 2 = js.drop (0)) := hide (by rw [hXS]; rfl)
  have HC2 := hide (HCAT.out XS X0.out X1.out X2.out)
  clear hXS HCAT
  generalize putL js j = PL at *
  generalize js.take (0) = L0 at *
  generalize js.drop (0) = L2 at *
  generalize hjl : [j] = L1 at *
  clear hjl
  obtain ⟨y0, y1, y2, y3, y4, y5, y6⟩ := j
  dsimp only [jobVal, jobC] at CP RL
  have HG := hide (grownBy_trans (World.grownBy_alloc w (.cells #[.slice none 0 cap] 159) none) (World.grownBy_alloc _ (.cells #[.int .i64 y0, .int .i64 y1, .int .i64 y2, .int .i64 y3, .int .i64 y4, .int .i64 y5, .int .i64 y6] 70) none))
  go_enter Tryz.func114, Tryz.ntmps114
  go_wp2_with (first | fail)
  refine (CP.out _ HG.out).mono ?_; rintro e w1 ⟨rfl, hg⟩
  have HGn := hide (grownBy_trans HG.out hg)
  have HB : Hid ((fun W => W.heap[w.heap.size]? = some (.cells #[.slice none 0 cap] 159 (0, 0)) ∧ W.heap[w.heap.size + 1]? = some (.cells #[.int .i64 y0, .int .i64 y1, .int .i64 y2, .int .i64 y3, .int .i64 y4, .int .i64 y5, .int .i64 y6] 70 (0, 0))) w1) := hide ⟨box_grown (hp_up (heap_alloc_new w _) _) hg (by simp), box_grown (alloc_next w _ _) hg (by simp)⟩
  clear HG hg CP
  have HG := HGn
  clear HGn
  go_upto_region 2 with (first | fail)
  refine wp_region_held_drew (S := fun W => W.heap[w.heap.size]? = some (.cells #[.slice none 0 cap] 159 (0, 0)) ∧ W.heap[w.heap.size + 1]? = some (.cells #[.int .i64 y0, .int .i64 y1, .int .i64 y2, .int .i64 y3, .int .i64 y4, .int .i64 y5, .int .i64 y6] 70 (0, 0))) (by kernel_rfl) HB.out (fun hHeld => ?_)
  have HGd : Hid (w.grownBy w1.drew none) := hide (grownBy_trans HG.out (grownBy_draws w1 1 none))
  have HBd : Hid ((fun W => W.heap[w.heap.size]? = some (.cells #[.slice none 0 cap] 159 (0, 0)) ∧ W.heap[w.heap.size + 1]? = some (.cells #[.int .i64 y0, .int .i64 y1, .int .i64 y2, .int .i64 y3, .int .i64 y4, .int .i64 y5, .int .i64 y6] 70 (0, 0))) w1.drew) := hide HB.out
  clear HG HB
  generalize w1.drew = W at *
  have HG := HGd
  have HB := HBd
  clear HGd HBd
  refine take_put (i := 0) (v := .pointer (some ⟨w.heap.size, 0, none⟩)) 13 rfl rfl (by kernel_rfl) (by kernel_rfl) (by kernel_rfl) (fun _ _ _ h => h) (Or.inl ⟨by rfl, by intro Wy hSW; go_simp⟩) (by assumption) ?_
  (try simp only [Act.put, List.setIfInBounds_toArray, List.set_cons_zero, List.set_cons_succ])
  refine take_put (i := 1) (v := .slice none 0 cap) 14 rfl rfl (by kernel_rfl) (by kernel_rfl) (by kernel_rfl) (fun _ _ _ h => h) (Or.inl ⟨by rfl, by intro Wy hSW; have hc := blk_cell hSW.1 0; go_simp⟩) (by assumption) ?_
  (try simp only [Act.put, List.setIfInBounds_toArray, List.set_cons_zero, List.set_cons_succ])
  refine take_put (i := 2) (v := .int .i64 (0 : Nat)) 15 rfl rfl (by kernel_rfl) (by kernel_rfl) (by kernel_rfl) (fun _ _ _ h => h) (Or.inl ⟨by rfl, by intro Wy hSW; go_simp⟩) (by assumption) ?_
  (try simp only [Act.put, List.setIfInBounds_toArray, List.set_cons_zero, List.set_cons_succ])
  refine take_put (i := 3) (v := .slice none 0 cap) 16 rfl rfl (by kernel_rfl) (by kernel_rfl) (by kernel_rfl) (fun _ _ _ h => h) (Or.inl ⟨by rfl, by intro Wy hSW; go_simp⟩) (by assumption) ?_
  (try simp only [Act.put, List.setIfInBounds_toArray, List.set_cons_zero, List.set_cons_succ])
  refine take_put (i := 4) (v := .agg #[.int .i64 y0, .int .i64 y1, .int .i64 y2, .int .i64 y3, .int .i64 y4, .int .i64 y5, .int .i64 y6]) 17 rfl rfl (by kernel_rfl) (by kernel_rfl) (by kernel_rfl) (fun _ _ _ h => h) (Or.inl ⟨by rfl, by intro Wy hSW; have hc := (⟨blk_cell hSW.2 0, blk_cell hSW.2 1, blk_cell hSW.2 2, blk_cell hSW.2 3, blk_cell hSW.2 4, blk_cell hSW.2 5, blk_cell hSW.2 6⟩ : _ ∧ _ ∧ _ ∧ _ ∧ _ ∧ _ ∧ _); go_simp⟩) (by assumption) ?_
  (try simp only [Act.put, List.setIfInBounds_toArray, List.set_cons_zero, List.set_cons_succ])
  refine take_put (i := 6) (v := .pointer (some ⟨w.heap.size, 0, none⟩)) 19 rfl rfl (by kernel_rfl) (by kernel_rfl) (by kernel_rfl) (fun _ _ _ h => h) (Or.inl ⟨by rfl, by intro Wy hSW; go_simp⟩) (by assumption) ?_
  (try simp only [Act.put, List.setIfInBounds_toArray, List.set_cons_zero, List.set_cons_succ])
  refine take_put (i := 7) (v := .slice none 0 cap) 20 rfl rfl (by kernel_rfl) (by kernel_rfl) (by kernel_rfl) (fun _ _ _ h => h) (Or.inl ⟨by rfl, by intro Wy hSW; have hc := blk_cell hSW.1 0; go_simp⟩) (by assumption) ?_
  (try simp only [Act.put, List.setIfInBounds_toArray, List.set_cons_zero, List.set_cons_succ])
  refine take_put (i := 8) (v := .int .i64 (0 : Nat)) 21 rfl rfl (by kernel_rfl) (by kernel_rfl) (by kernel_rfl) (fun _ _ _ h => h) (Or.inl ⟨by rfl, by intro Wy hSW; go_simp⟩) (by assumption) ?_
  (try simp only [Act.put, List.setIfInBounds_toArray, List.set_cons_zero, List.set_cons_succ])
  refine take_put (i := 9) (v := .slice none 0 cap) 22 rfl rfl (by kernel_rfl) (by kernel_rfl) (by kernel_rfl) (fun _ _ _ h => h) (Or.inl ⟨by rfl, by intro Wy hSW; go_simp⟩) (by assumption) ?_
  (try simp only [Act.put, List.setIfInBounds_toArray, List.set_cons_zero, List.set_cons_succ])
  refine wpAnyH_ready (rs := [5]) (by kernel_rfl) (by simp) ?_
  refine AllReadyH.cons rfl (fun Kx hKx => ?_) AllReadyH.nil
  go_simp
  have R1 := hide ((RL.out W).mono (Nat.zero_le _))
  have hg := World.grownBy_alloc W (.cells #[.int .i64 y0, .int .i64 y1, .int .i64 y2, .int .i64 y3, .int .i64 y4, .int .i64 y5, .int .i64 y6] 70) none
  have HGn := hide (grownBy_trans HG.out hg)
  have HBn : Hid ((fun W => W.heap[w.heap.size]? = some (.cells #[.slice none 0 cap] 159 (0, 0)) ∧ W.heap[w.heap.size + 1]? = some (.cells #[.int .i64 y0, .int .i64 y1, .int .i64 y2, .int .i64 y3, .int .i64 y4, .int .i64 y5, .int .i64 y6] 70 (0, 0))) (W.alloc (.cells #[.int .i64 y0, .int .i64 y1, .int .i64 y2, .int .i64 y3, .int .i64 y4, .int .i64 y5, .int .i64 y6] 70))) := hide ⟨box_grown HB.out.1 hg (by simp), box_grown HB.out.2 hg (by simp)⟩
  clear HG HB hg hHeld
  have HG := HGn
  have HB := HBn
  clear HGn HBn
  refine hKx.out _ _ HB.out (fun hHeld => ?_)
  clear hKx Kx
  (try simp only [Act.put])
  generalize W.alloc (.cells #[.int .i64 y0, .int .i64 y1, .int .i64 y2, .int .i64 y3, .int .i64 y4, .int .i64 y5, .int .i64 y6] 70) = W1 at *
  generalize W.heap.size = g1 at *
  refine wpAnyH_ready (rs := [10]) (by kernel_rfl) (by simp) ?_
  refine AllReadyH.cons rfl (fun Kx hKx => ?_) AllReadyH.nil
  go_simp
  have hg := World.grownBy_alloc W1 (.cells #[.slice none 0 cap, .slice (some ⟨g1, 0, none⟩) 1 1, .slice none 0 cap] 57) none
  have HGn := hide (grownBy_trans HG.out hg)
  have HBn : Hid ((fun W => W.heap[w.heap.size]? = some (.cells #[.slice none 0 cap] 159 (0, 0)) ∧ W.heap[w.heap.size + 1]? = some (.cells #[.int .i64 y0, .int .i64 y1, .int .i64 y2, .int .i64 y3, .int .i64 y4, .int .i64 y5, .int .i64 y6] 70 (0, 0))) (W1.alloc (.cells #[.slice none 0 cap, .slice (some ⟨g1, 0, none⟩) 1 1, .slice none 0 cap] 57))) := hide ⟨box_grown HB.out.1 hg (by simp), box_grown HB.out.2 hg (by simp)⟩
  have HX := hide (heap_alloc_new W1 (.cells #[.slice none 0 cap, .slice (some ⟨g1, 0, none⟩) 1 1, .slice none 0 cap] 57))
  have R1n := hide (R1.out.grown hg)
  clear HG HB hg hHeld R1
  have HG := HGn
  have HB := HBn
  have R1 := R1n
  clear HGn HBn R1n
  refine hKx.out _ _ HB.out (fun hHeld => ?_)
  clear hKx Kx
  (try simp only [Act.put])
  generalize W1.alloc (.cells #[.slice none 0 cap, .slice (some ⟨g1, 0, none⟩) 1 1, .slice none 0 cap] 57) = W2 at *
  generalize W1.heap.size = g3 at *
  refine wpAnyH_ready (rs := [11]) (by kernel_rfl) (by simp) ?_
  refine AllReadyH.cons rfl (fun Kx hKx => ?_) AllReadyH.nil
  go_simp
  have CK2 := CK.out (fun k => if k = 0 then .slice none 0 cap else if k = 1 then .slice (some ⟨g1, 0, none⟩) 1 1 else .slice none 0 cap) XS g3 W2 (fun k hk => by rcases (by omega : k = 0 ∨ k = 1 ∨ k = 2) with rfl | rfl | rfl; (exact blk_cell HX.out 0); (exact blk_cell HX.out 1); (exact blk_cell HX.out 2)) (fun k hk => by rcases (by omega : k = 0 ∨ k = 1 ∨ k = 2) with rfl | rfl | rfl; (rw [X0.out]; exact R0.out _ HG.out); (rw [X1.out]; exact R1.out); (rw [X2.out]; exact R2.out _ HG.out)) (by rw [HC2.out, HLEN.out]; omega) (by rw [HC2.out, HLEN.out]; have := H16.out; omega) (by omega)
  refine CK2.mono ?_; rintro e W3 ⟨v9, rfl, ho, hg⟩
  have HO := hide ho
  have HG2 := hide (grownBy_trans HG.out hg)
  have HBS := hide HG.out.size
  have HB2 : Hid ((fun W => W.heap[w.heap.size]? = some (.cells #[.slice none 0 cap] 159 (0, 0)) ∧ W.heap[w.heap.size + 1]? = some (.cells #[.int .i64 y0, .int .i64 y1, .int .i64 y2, .int .i64 y3, .int .i64 y4, .int .i64 y5, .int .i64 y6] 70 (0, 0))) W3) := hide ⟨box_grown HB.out.1 hg (by simp), box_grown HB.out.2 hg (by simp)⟩
  clear hHeld ho hg CK2
  refine hKx.out _ _ HB2.out (fun hHeld => ?_)
  clear hKx Kx
  (try simp only [Act.put])
  refine take_put (i := 12) (v := v9) 4 rfl rfl (by kernel_rfl) (by kernel_rfl) (by kernel_rfl) (fun _ _ _ h => h) (Or.inl ⟨by rfl, by intro Wy hSW; go_simp⟩) (by assumption) ?_
  (try simp only [Act.put, List.setIfInBounds_toArray, List.set_cons_zero, List.set_cons_succ])
  refine wpAnyH_done (by kernel_rfl) ?_ _
  clear hHeld
  go_wp2
  go_ret
  exact ⟨_, rfl, by have := HO.out; rw [HC2.out] at this; exact this.base HBS.out, HG2.out⟩
set_option maxRecDepth 100000 in
set_option maxHeartbeats 8000000 in
theorem ins_end {lo : Nat} (g o P : Nat) (js : List JobV) (j : JobV) (w : World) (hv : RowAt shJ lo w (.slice (some ⟨g, o, none⟩) P P) js) (hr : risesB js = true) (h16 : js.length ≤ 16) (hP : placeN js j = P) :
    Calls Tryz.prog 114 #[.agg #[.slice (some ⟨g, o, none⟩) P P], jobVal j] w fun e w' => ∃ v', e = .returned v' ∧ Own w.heap.size w' v' (putL js j) ∧ w.grownBy w' none := by
  have CP := hide (fun W (hg : w.grownBy W none) => place_any (.slice (some ⟨g, o, none⟩) P P) js j W (hv.grown hg) hr h16)
  have R0 := hide (fun W (hg : w.grownBy W none) => ((row_take (p := P) (hv.grown hg) (Nat.le_refl P)).mono (Nat.zero_le _)))
  have R2 := hide (fun W (hg : w.grownBy W none) => (show RowAt shJ 0 W (.slice (some ⟨g, o, none⟩) 0 0) (js.drop P) by rw [List.drop_eq_nil_of_le (by obtain ⟨-, a2, c2, e, -⟩ := hv; simp only [Value.slice.injEq] at e; omega)]; exact rowAt_nil _ _ _ _))
  have HCAT := hide (put_cat js j)
  have HLEN := hide (put_len js j)
  have H16 := hide h16
  have hlen : js.length = P := by obtain ⟨-, a2, c2, e, -⟩ := hv; simp only [Value.slice.injEq] at e; exact e.2.1.symm
  have hPle := place_le js j
  have hcapN : P ≤ P := by
    omega
  rw [hlen] at h16
  rw [hP] at CP HCAT
  rw [hP, hlen] at hPle
  obtain ⟨Hs, hHs⟩ : ∃ b, hasB js j = b := ⟨_, rfl⟩
  rw [hHs] at CP
  clear hv hr hP hHs hlen
  have CK := hide (fun vs xs b W => concat_any (lo := 0) vs xs b 3 W)
  have RL := hide (fun W => row_lit1 W j)
  obtain ⟨XS, hXS⟩ : ∃ XS : Nat → List JobV, XS = (fun k => if k = 0 then js.take (P) else if k = 1 then [j] else js.drop (P)) := ⟨_, rfl⟩
  have X0 : Hid (XS 0 = js.take (P)) := hide (by rw [hXS]; rfl)
  have X1 : Hid (XS 1 = [j]) := hide (by rw [hXS]; rfl)
  have X2 : Hid (XS 2 = js.drop (P)) := hide (by rw [hXS]; rfl)
  have HC2 := hide (HCAT.out XS X0.out X1.out X2.out)
  clear hXS HCAT
  generalize putL js j = PL at *
  generalize js.take (P) = L0 at *
  generalize js.drop (P) = L2 at *
  generalize hjl : [j] = L1 at *
  clear hjl
  obtain ⟨y0, y1, y2, y3, y4, y5, y6⟩ := j
  dsimp only [jobVal, jobC] at CP RL
  have HG := hide (grownBy_trans (World.grownBy_alloc w (.cells #[.slice (some ⟨g, o, none⟩) P P] 159) none) (World.grownBy_alloc _ (.cells #[.int .i64 y0, .int .i64 y1, .int .i64 y2, .int .i64 y3, .int .i64 y4, .int .i64 y5, .int .i64 y6] 70) none))
  go_enter Tryz.func114, Tryz.ntmps114
  go_wp2_with (first | fail)
  refine (CP.out _ HG.out).mono ?_; rintro e w1 ⟨rfl, hg⟩
  have HGn := hide (grownBy_trans HG.out hg)
  have HB : Hid ((fun W => W.heap[w.heap.size]? = some (.cells #[.slice (some ⟨g, o, none⟩) P P] 159 (0, 0)) ∧ W.heap[w.heap.size + 1]? = some (.cells #[.int .i64 y0, .int .i64 y1, .int .i64 y2, .int .i64 y3, .int .i64 y4, .int .i64 y5, .int .i64 y6] 70 (0, 0))) w1) := hide ⟨box_grown (hp_up (heap_alloc_new w _) _) hg (by simp), box_grown (alloc_next w _ _) hg (by simp)⟩
  clear HG hg CP
  have HG := HGn
  clear HGn
  go_upto_region 2 with (first | fail)
  refine wp_region_held_drew (S := fun W => W.heap[w.heap.size]? = some (.cells #[.slice (some ⟨g, o, none⟩) P P] 159 (0, 0)) ∧ W.heap[w.heap.size + 1]? = some (.cells #[.int .i64 y0, .int .i64 y1, .int .i64 y2, .int .i64 y3, .int .i64 y4, .int .i64 y5, .int .i64 y6] 70 (0, 0))) (by kernel_rfl) HB.out (fun hHeld => ?_)
  have HGd : Hid (w.grownBy w1.drew none) := hide (grownBy_trans HG.out (grownBy_draws w1 1 none))
  have HBd : Hid ((fun W => W.heap[w.heap.size]? = some (.cells #[.slice (some ⟨g, o, none⟩) P P] 159 (0, 0)) ∧ W.heap[w.heap.size + 1]? = some (.cells #[.int .i64 y0, .int .i64 y1, .int .i64 y2, .int .i64 y3, .int .i64 y4, .int .i64 y5, .int .i64 y6] 70 (0, 0))) w1.drew) := hide HB.out
  clear HG HB
  generalize w1.drew = W at *
  have HG := HGd
  have HB := HBd
  clear HGd HBd
  refine take_put (i := 0) (v := .pointer (some ⟨w.heap.size, 0, none⟩)) 13 rfl rfl (by kernel_rfl) (by kernel_rfl) (by kernel_rfl) (fun _ _ _ h => h) (Or.inl ⟨by rfl, by intro Wy hSW; go_simp⟩) (by assumption) ?_
  (try simp only [Act.put, List.setIfInBounds_toArray, List.set_cons_zero, List.set_cons_succ])
  refine take_put (i := 1) (v := .slice (some ⟨g, o, none⟩) P P) 14 rfl rfl (by kernel_rfl) (by kernel_rfl) (by kernel_rfl) (fun _ _ _ h => h) (Or.inl ⟨by rfl, by intro Wy hSW; have hc := blk_cell hSW.1 0; go_simp⟩) (by assumption) ?_
  (try simp only [Act.put, List.setIfInBounds_toArray, List.set_cons_zero, List.set_cons_succ])
  refine take_put (i := 2) (v := .int .i64 (P : Nat)) 15 rfl rfl (by kernel_rfl) (by kernel_rfl) (by kernel_rfl) (fun _ _ _ h => h) (Or.inl ⟨by rfl, by intro Wy hSW; go_simp⟩) (by assumption) ?_
  (try simp only [Act.put, List.setIfInBounds_toArray, List.set_cons_zero, List.set_cons_succ])
  refine take_put (i := 3) (v := .slice (some ⟨g, o, none⟩) P P) 16 rfl rfl (by kernel_rfl) (by kernel_rfl) (by kernel_rfl) (fun _ _ _ h => h) (Or.inl ⟨by rfl, by intro Wy hSW; go_simp⟩) (by assumption) ?_
  (try simp only [Act.put, List.setIfInBounds_toArray, List.set_cons_zero, List.set_cons_succ])
  refine take_put (i := 4) (v := .agg #[.int .i64 y0, .int .i64 y1, .int .i64 y2, .int .i64 y3, .int .i64 y4, .int .i64 y5, .int .i64 y6]) 17 rfl rfl (by kernel_rfl) (by kernel_rfl) (by kernel_rfl) (fun _ _ _ h => h) (Or.inl ⟨by rfl, by intro Wy hSW; have hc := (⟨blk_cell hSW.2 0, blk_cell hSW.2 1, blk_cell hSW.2 2, blk_cell hSW.2 3, blk_cell hSW.2 4, blk_cell hSW.2 5, blk_cell hSW.2 6⟩ : _ ∧ _ ∧ _ ∧ _ ∧ _ ∧ _ ∧ _); go_simp⟩) (by assumption) ?_
  (try simp only [Act.put, List.setIfInBounds_toArray, List.set_cons_zero, List.set_cons_succ])
  refine take_put (i := 6) (v := .pointer (some ⟨w.heap.size, 0, none⟩)) 19 rfl rfl (by kernel_rfl) (by kernel_rfl) (by kernel_rfl) (fun _ _ _ h => h) (Or.inl ⟨by rfl, by intro Wy hSW; go_simp⟩) (by assumption) ?_
  (try simp only [Act.put, List.setIfInBounds_toArray, List.set_cons_zero, List.set_cons_succ])
  refine take_put (i := 7) (v := .slice (some ⟨g, o, none⟩) P P) 20 rfl rfl (by kernel_rfl) (by kernel_rfl) (by kernel_rfl) (fun _ _ _ h => h) (Or.inl ⟨by rfl, by intro Wy hSW; have hc := blk_cell hSW.1 0; go_simp⟩) (by assumption) ?_
  (try simp only [Act.put, List.setIfInBounds_toArray, List.set_cons_zero, List.set_cons_succ])
  refine take_put (i := 8) (v := .int .i64 (P : Nat)) 21 rfl rfl (by kernel_rfl) (by kernel_rfl) (by kernel_rfl) (fun _ _ _ h => h) (Or.inl ⟨by rfl, by intro Wy hSW; go_simp⟩) (by assumption) ?_
  (try simp only [Act.put, List.setIfInBounds_toArray, List.set_cons_zero, List.set_cons_succ])
  refine take_put (i := 9) (v := .slice (some ⟨g, o, none⟩) 0 0) 22 rfl rfl (by kernel_rfl) (by kernel_rfl) (by kernel_rfl) (fun _ _ _ h => h) (Or.inl ⟨by rfl, by intro Wy hSW; go_simp⟩) (by assumption) ?_
  (try simp only [Act.put, List.setIfInBounds_toArray, List.set_cons_zero, List.set_cons_succ])
  refine wpAnyH_ready (rs := [5]) (by kernel_rfl) (by simp) ?_
  refine AllReadyH.cons rfl (fun Kx hKx => ?_) AllReadyH.nil
  go_simp
  have R1 := hide ((RL.out W).mono (Nat.zero_le _))
  have hg := World.grownBy_alloc W (.cells #[.int .i64 y0, .int .i64 y1, .int .i64 y2, .int .i64 y3, .int .i64 y4, .int .i64 y5, .int .i64 y6] 70) none
  have HGn := hide (grownBy_trans HG.out hg)
  have HBn : Hid ((fun W => W.heap[w.heap.size]? = some (.cells #[.slice (some ⟨g, o, none⟩) P P] 159 (0, 0)) ∧ W.heap[w.heap.size + 1]? = some (.cells #[.int .i64 y0, .int .i64 y1, .int .i64 y2, .int .i64 y3, .int .i64 y4, .int .i64 y5, .int .i64 y6] 70 (0, 0))) (W.alloc (.cells #[.int .i64 y0, .int .i64 y1, .int .i64 y2, .int .i64 y3, .int .i64 y4, .int .i64 y5, .int .i64 y6] 70))) := hide ⟨box_grown HB.out.1 hg (by simp), box_grown HB.out.2 hg (by simp)⟩
  clear HG HB hg hHeld
  have HG := HGn
  have HB := HBn
  clear HGn HBn
  refine hKx.out _ _ HB.out (fun hHeld => ?_)
  clear hKx Kx
  (try simp only [Act.put])
  generalize W.alloc (.cells #[.int .i64 y0, .int .i64 y1, .int .i64 y2, .int .i64 y3, .int .i64 y4, .int .i64 y5, .int .i64 y6] 70) = W1 at *
  generalize W.heap.size = g1 at *
  refine wpAnyH_ready (rs := [10]) (by kernel_rfl) (by simp) ?_
  refine AllReadyH.cons rfl (fun Kx hKx => ?_) AllReadyH.nil
  go_simp
  have hg := World.grownBy_alloc W1 (.cells #[.slice (some ⟨g, o, none⟩) P P, .slice (some ⟨g1, 0, none⟩) 1 1, .slice (some ⟨g, o, none⟩) 0 0] 57) none
  have HGn := hide (grownBy_trans HG.out hg)
  have HBn : Hid ((fun W => W.heap[w.heap.size]? = some (.cells #[.slice (some ⟨g, o, none⟩) P P] 159 (0, 0)) ∧ W.heap[w.heap.size + 1]? = some (.cells #[.int .i64 y0, .int .i64 y1, .int .i64 y2, .int .i64 y3, .int .i64 y4, .int .i64 y5, .int .i64 y6] 70 (0, 0))) (W1.alloc (.cells #[.slice (some ⟨g, o, none⟩) P P, .slice (some ⟨g1, 0, none⟩) 1 1, .slice (some ⟨g, o, none⟩) 0 0] 57))) := hide ⟨box_grown HB.out.1 hg (by simp), box_grown HB.out.2 hg (by simp)⟩
  have HX := hide (heap_alloc_new W1 (.cells #[.slice (some ⟨g, o, none⟩) P P, .slice (some ⟨g1, 0, none⟩) 1 1, .slice (some ⟨g, o, none⟩) 0 0] 57))
  have R1n := hide (R1.out.grown hg)
  clear HG HB hg hHeld R1
  have HG := HGn
  have HB := HBn
  have R1 := R1n
  clear HGn HBn R1n
  refine hKx.out _ _ HB.out (fun hHeld => ?_)
  clear hKx Kx
  (try simp only [Act.put])
  generalize W1.alloc (.cells #[.slice (some ⟨g, o, none⟩) P P, .slice (some ⟨g1, 0, none⟩) 1 1, .slice (some ⟨g, o, none⟩) 0 0] 57) = W2 at *
  generalize W1.heap.size = g3 at *
  refine wpAnyH_ready (rs := [11]) (by kernel_rfl) (by simp) ?_
  refine AllReadyH.cons rfl (fun Kx hKx => ?_) AllReadyH.nil
  go_simp
  have CK2 := CK.out (fun k => if k = 0 then .slice (some ⟨g, o, none⟩) P P else if k = 1 then .slice (some ⟨g1, 0, none⟩) 1 1 else .slice (some ⟨g, o, none⟩) 0 0) XS g3 W2 (fun k hk => by rcases (by omega : k = 0 ∨ k = 1 ∨ k = 2) with rfl | rfl | rfl; (exact blk_cell HX.out 0); (exact blk_cell HX.out 1); (exact blk_cell HX.out 2)) (fun k hk => by rcases (by omega : k = 0 ∨ k = 1 ∨ k = 2) with rfl | rfl | rfl; (rw [X0.out]; exact R0.out _ HG.out); (rw [X1.out]; exact R1.out); (rw [X2.out]; exact R2.out _ HG.out)) (by rw [HC2.out, HLEN.out]; omega) (by rw [HC2.out, HLEN.out]; have := H16.out; omega) (by omega)
  refine CK2.mono ?_; rintro e W3 ⟨v9, rfl, ho, hg⟩
  have HO := hide ho
  have HG2 := hide (grownBy_trans HG.out hg)
  have HBS := hide HG.out.size
  have HB2 : Hid ((fun W => W.heap[w.heap.size]? = some (.cells #[.slice (some ⟨g, o, none⟩) P P] 159 (0, 0)) ∧ W.heap[w.heap.size + 1]? = some (.cells #[.int .i64 y0, .int .i64 y1, .int .i64 y2, .int .i64 y3, .int .i64 y4, .int .i64 y5, .int .i64 y6] 70 (0, 0))) W3) := hide ⟨box_grown HB.out.1 hg (by simp), box_grown HB.out.2 hg (by simp)⟩
  clear hHeld ho hg CK2
  refine hKx.out _ _ HB2.out (fun hHeld => ?_)
  clear hKx Kx
  (try simp only [Act.put])
  refine take_put (i := 12) (v := v9) 4 rfl rfl (by kernel_rfl) (by kernel_rfl) (by kernel_rfl) (fun _ _ _ h => h) (Or.inl ⟨by rfl, by intro Wy hSW; go_simp⟩) (by assumption) ?_
  (try simp only [Act.put, List.setIfInBounds_toArray, List.set_cons_zero, List.set_cons_succ])
  refine wpAnyH_done (by kernel_rfl) ?_ _
  clear hHeld
  go_wp2
  go_ret
  exact ⟨_, rfl, by have := HO.out; rw [HC2.out] at this; exact this.base HBS.out, HG2.out⟩
set_option maxRecDepth 100000 in
set_option maxHeartbeats 8000000 in
theorem ins_mid {lo : Nat} (g o N P cap : Nat) (hne : cap ≠ P) (hNc : N ≤ cap) (js : List JobV) (j : JobV) (w : World) (hv : RowAt shJ lo w (.slice (some ⟨g, o, none⟩) N cap) js) (hr : risesB js = true) (h16 : js.length ≤ 16) (hP : placeN js j = P) :
    Calls Tryz.prog 114 #[.agg #[.slice (some ⟨g, o, none⟩) N cap], jobVal j] w fun e w' => ∃ v', e = .returned v' ∧ Own w.heap.size w' v' (putL js j) ∧ w.grownBy w' none := by
  have CP := hide (fun W (hg : w.grownBy W none) => place_any (.slice (some ⟨g, o, none⟩) N cap) js j W (hv.grown hg) hr h16)
  have R0 := hide (fun W (hg : w.grownBy W none) => ((row_take (p := P) (hv.grown hg) (show P ≤ N by have := place_le js j; obtain ⟨-, a2, c2, e, -⟩ := hv; simp only [Value.slice.injEq] at e; omega)).mono (Nat.zero_le _)))
  have R2 := hide (fun W (hg : w.grownBy W none) => ((row_drop (p := P) (hv.grown hg) (show P ≤ N by have := place_le js j; obtain ⟨-, a2, c2, e, -⟩ := hv; simp only [Value.slice.injEq] at e; omega)).mono (Nat.zero_le _)))
  have HCAT := hide (put_cat js j)
  have HLEN := hide (put_len js j)
  have H16 := hide h16
  have hlen : js.length = N := by obtain ⟨-, a2, c2, e, -⟩ := hv; simp only [Value.slice.injEq] at e; exact e.2.1.symm
  have hPle := place_le js j
  have hcapN : N ≤ cap := by
    omega
  rw [hlen] at h16
  rw [hP] at CP HCAT
  rw [hP, hlen] at hPle
  obtain ⟨Hs, hHs⟩ : ∃ b, hasB js j = b := ⟨_, rfl⟩
  rw [hHs] at CP
  clear hv hr hP hHs hlen
  have CK := hide (fun vs xs b W => concat_any (lo := 0) vs xs b 3 W)
  have RL := hide (fun W => row_lit1 W j)
  obtain ⟨XS, hXS⟩ : ∃ XS : Nat → List JobV, XS = (fun k => if k = 0 then js.take (P) else if k = 1 then [j] else js.drop (P)) := ⟨_, rfl⟩
  have X0 : Hid (XS 0 = js.take (P)) := hide (by rw [hXS]; rfl)
  have X1 : Hid (XS 1 = [j]) := hide (by rw [hXS]; rfl)
  have X2 : Hid (XS 2 = js.drop (P)) := hide (by rw [hXS]; rfl)
  have HC2 := hide (HCAT.out XS X0.out X1.out X2.out)
  clear hXS HCAT
  generalize putL js j = PL at *
  generalize js.take (P) = L0 at *
  generalize js.drop (P) = L2 at *
  generalize hjl : [j] = L1 at *
  clear hjl
  obtain ⟨y0, y1, y2, y3, y4, y5, y6⟩ := j
  dsimp only [jobVal, jobC] at CP RL
  have HG := hide (grownBy_trans (World.grownBy_alloc w (.cells #[.slice (some ⟨g, o, none⟩) N cap] 159) none) (World.grownBy_alloc _ (.cells #[.int .i64 y0, .int .i64 y1, .int .i64 y2, .int .i64 y3, .int .i64 y4, .int .i64 y5, .int .i64 y6] 70) none))
  go_enter Tryz.func114, Tryz.ntmps114
  go_wp2_with (first | fail)
  refine (CP.out _ HG.out).mono ?_; rintro e w1 ⟨rfl, hg⟩
  have HGn := hide (grownBy_trans HG.out hg)
  have HB : Hid ((fun W => W.heap[w.heap.size]? = some (.cells #[.slice (some ⟨g, o, none⟩) N cap] 159 (0, 0)) ∧ W.heap[w.heap.size + 1]? = some (.cells #[.int .i64 y0, .int .i64 y1, .int .i64 y2, .int .i64 y3, .int .i64 y4, .int .i64 y5, .int .i64 y6] 70 (0, 0))) w1) := hide ⟨box_grown (hp_up (heap_alloc_new w _) _) hg (by simp), box_grown (alloc_next w _ _) hg (by simp)⟩
  clear HG hg CP
  have HG := HGn
  clear HGn
  go_upto_region 2 with (first | fail)
  refine wp_region_held_drew (S := fun W => W.heap[w.heap.size]? = some (.cells #[.slice (some ⟨g, o, none⟩) N cap] 159 (0, 0)) ∧ W.heap[w.heap.size + 1]? = some (.cells #[.int .i64 y0, .int .i64 y1, .int .i64 y2, .int .i64 y3, .int .i64 y4, .int .i64 y5, .int .i64 y6] 70 (0, 0))) (by kernel_rfl) HB.out (fun hHeld => ?_)
  have HGd : Hid (w.grownBy w1.drew none) := hide (grownBy_trans HG.out (grownBy_draws w1 1 none))
  have HBd : Hid ((fun W => W.heap[w.heap.size]? = some (.cells #[.slice (some ⟨g, o, none⟩) N cap] 159 (0, 0)) ∧ W.heap[w.heap.size + 1]? = some (.cells #[.int .i64 y0, .int .i64 y1, .int .i64 y2, .int .i64 y3, .int .i64 y4, .int .i64 y5, .int .i64 y6] 70 (0, 0))) w1.drew) := hide HB.out
  clear HG HB
  generalize w1.drew = W at *
  have HG := HGd
  have HB := HBd
  clear HGd HBd
  refine take_put (i := 0) (v := .pointer (some ⟨w.heap.size, 0, none⟩)) 13 rfl rfl (by kernel_rfl) (by kernel_rfl) (by kernel_rfl) (fun _ _ _ h => h) (Or.inl ⟨by rfl, by intro Wy hSW; go_simp⟩) (by assumption) ?_
  (try simp only [Act.put, List.setIfInBounds_toArray, List.set_cons_zero, List.set_cons_succ])
  refine take_put (i := 1) (v := .slice (some ⟨g, o, none⟩) N cap) 14 rfl rfl (by kernel_rfl) (by kernel_rfl) (by kernel_rfl) (fun _ _ _ h => h) (Or.inl ⟨by rfl, by intro Wy hSW; have hc := blk_cell hSW.1 0; go_simp⟩) (by assumption) ?_
  (try simp only [Act.put, List.setIfInBounds_toArray, List.set_cons_zero, List.set_cons_succ])
  refine take_put (i := 2) (v := .int .i64 (P : Nat)) 15 rfl rfl (by kernel_rfl) (by kernel_rfl) (by kernel_rfl) (fun _ _ _ h => h) (Or.inl ⟨by rfl, by intro Wy hSW; go_simp⟩) (by assumption) ?_
  (try simp only [Act.put, List.setIfInBounds_toArray, List.set_cons_zero, List.set_cons_succ])
  refine take_put (i := 3) (v := .slice (some ⟨g, o, none⟩) P cap) 16 rfl rfl (by kernel_rfl) (by kernel_rfl) (by kernel_rfl) (fun _ _ _ h => h) (Or.inl ⟨by rfl, by intro Wy hSW; have hc := (show ¬(cap < P) by omega); go_simp⟩) (by assumption) ?_
  (try simp only [Act.put, List.setIfInBounds_toArray, List.set_cons_zero, List.set_cons_succ])
  refine take_put (i := 4) (v := .agg #[.int .i64 y0, .int .i64 y1, .int .i64 y2, .int .i64 y3, .int .i64 y4, .int .i64 y5, .int .i64 y6]) 17 rfl rfl (by kernel_rfl) (by kernel_rfl) (by kernel_rfl) (fun _ _ _ h => h) (Or.inl ⟨by rfl, by intro Wy hSW; have hc := (⟨blk_cell hSW.2 0, blk_cell hSW.2 1, blk_cell hSW.2 2, blk_cell hSW.2 3, blk_cell hSW.2 4, blk_cell hSW.2 5, blk_cell hSW.2 6⟩ : _ ∧ _ ∧ _ ∧ _ ∧ _ ∧ _ ∧ _); go_simp⟩) (by assumption) ?_
  (try simp only [Act.put, List.setIfInBounds_toArray, List.set_cons_zero, List.set_cons_succ])
  refine take_put (i := 6) (v := .pointer (some ⟨w.heap.size, 0, none⟩)) 19 rfl rfl (by kernel_rfl) (by kernel_rfl) (by kernel_rfl) (fun _ _ _ h => h) (Or.inl ⟨by rfl, by intro Wy hSW; go_simp⟩) (by assumption) ?_
  (try simp only [Act.put, List.setIfInBounds_toArray, List.set_cons_zero, List.set_cons_succ])
  refine take_put (i := 7) (v := .slice (some ⟨g, o, none⟩) N cap) 20 rfl rfl (by kernel_rfl) (by kernel_rfl) (by kernel_rfl) (fun _ _ _ h => h) (Or.inl ⟨by rfl, by intro Wy hSW; have hc := blk_cell hSW.1 0; go_simp⟩) (by assumption) ?_
  (try simp only [Act.put, List.setIfInBounds_toArray, List.set_cons_zero, List.set_cons_succ])
  refine take_put (i := 8) (v := .int .i64 (P : Nat)) 21 rfl rfl (by kernel_rfl) (by kernel_rfl) (by kernel_rfl) (fun _ _ _ h => h) (Or.inl ⟨by rfl, by intro Wy hSW; go_simp⟩) (by assumption) ?_
  (try simp only [Act.put, List.setIfInBounds_toArray, List.set_cons_zero, List.set_cons_succ])
  refine take_put (i := 9) (v := .slice (some ⟨g, o + P * 7, none⟩) (N - P) (cap - P)) 22 rfl rfl (by kernel_rfl) (by kernel_rfl) (by kernel_rfl) (fun _ _ _ h => h) (Or.inl ⟨by rfl, by intro Wy hSW; have hc := (⟨show ¬(cap < P) by omega, show ¬(N < P) by omega, hne⟩ : _ ∧ _ ∧ _); go_simp⟩) (by assumption) ?_
  (try simp only [Act.put, List.setIfInBounds_toArray, List.set_cons_zero, List.set_cons_succ])
  refine wpAnyH_ready (rs := [5]) (by kernel_rfl) (by simp) ?_
  refine AllReadyH.cons rfl (fun Kx hKx => ?_) AllReadyH.nil
  go_simp
  have R1 := hide ((RL.out W).mono (Nat.zero_le _))
  have hg := World.grownBy_alloc W (.cells #[.int .i64 y0, .int .i64 y1, .int .i64 y2, .int .i64 y3, .int .i64 y4, .int .i64 y5, .int .i64 y6] 70) none
  have HGn := hide (grownBy_trans HG.out hg)
  have HBn : Hid ((fun W => W.heap[w.heap.size]? = some (.cells #[.slice (some ⟨g, o, none⟩) N cap] 159 (0, 0)) ∧ W.heap[w.heap.size + 1]? = some (.cells #[.int .i64 y0, .int .i64 y1, .int .i64 y2, .int .i64 y3, .int .i64 y4, .int .i64 y5, .int .i64 y6] 70 (0, 0))) (W.alloc (.cells #[.int .i64 y0, .int .i64 y1, .int .i64 y2, .int .i64 y3, .int .i64 y4, .int .i64 y5, .int .i64 y6] 70))) := hide ⟨box_grown HB.out.1 hg (by simp), box_grown HB.out.2 hg (by simp)⟩
  clear HG HB hg hHeld
  have HG := HGn
  have HB := HBn
  clear HGn HBn
  refine hKx.out _ _ HB.out (fun hHeld => ?_)
  clear hKx Kx
  (try simp only [Act.put])
  generalize W.alloc (.cells #[.int .i64 y0, .int .i64 y1, .int .i64 y2, .int .i64 y3, .int .i64 y4, .int .i64 y5, .int .i64 y6] 70) = W1 at *
  generalize W.heap.size = g1 at *
  refine wpAnyH_ready (rs := [10]) (by kernel_rfl) (by simp) ?_
  refine AllReadyH.cons rfl (fun Kx hKx => ?_) AllReadyH.nil
  go_simp
  have hg := World.grownBy_alloc W1 (.cells #[.slice (some ⟨g, o, none⟩) P cap, .slice (some ⟨g1, 0, none⟩) 1 1, .slice (some ⟨g, o + P * 7, none⟩) (N - P) (cap - P)] 57) none
  have HGn := hide (grownBy_trans HG.out hg)
  have HBn : Hid ((fun W => W.heap[w.heap.size]? = some (.cells #[.slice (some ⟨g, o, none⟩) N cap] 159 (0, 0)) ∧ W.heap[w.heap.size + 1]? = some (.cells #[.int .i64 y0, .int .i64 y1, .int .i64 y2, .int .i64 y3, .int .i64 y4, .int .i64 y5, .int .i64 y6] 70 (0, 0))) (W1.alloc (.cells #[.slice (some ⟨g, o, none⟩) P cap, .slice (some ⟨g1, 0, none⟩) 1 1, .slice (some ⟨g, o + P * 7, none⟩) (N - P) (cap - P)] 57))) := hide ⟨box_grown HB.out.1 hg (by simp), box_grown HB.out.2 hg (by simp)⟩
  have HX := hide (heap_alloc_new W1 (.cells #[.slice (some ⟨g, o, none⟩) P cap, .slice (some ⟨g1, 0, none⟩) 1 1, .slice (some ⟨g, o + P * 7, none⟩) (N - P) (cap - P)] 57))
  have R1n := hide (R1.out.grown hg)
  clear HG HB hg hHeld R1
  have HG := HGn
  have HB := HBn
  have R1 := R1n
  clear HGn HBn R1n
  refine hKx.out _ _ HB.out (fun hHeld => ?_)
  clear hKx Kx
  (try simp only [Act.put])
  generalize W1.alloc (.cells #[.slice (some ⟨g, o, none⟩) P cap, .slice (some ⟨g1, 0, none⟩) 1 1, .slice (some ⟨g, o + P * 7, none⟩) (N - P) (cap - P)] 57) = W2 at *
  generalize W1.heap.size = g3 at *
  refine wpAnyH_ready (rs := [11]) (by kernel_rfl) (by simp) ?_
  refine AllReadyH.cons rfl (fun Kx hKx => ?_) AllReadyH.nil
  go_simp
  have CK2 := CK.out (fun k => if k = 0 then .slice (some ⟨g, o, none⟩) P cap else if k = 1 then .slice (some ⟨g1, 0, none⟩) 1 1 else .slice (some ⟨g, o + P * 7, none⟩) (N - P) (cap - P)) XS g3 W2 (fun k hk => by rcases (by omega : k = 0 ∨ k = 1 ∨ k = 2) with rfl | rfl | rfl; (exact blk_cell HX.out 0); (exact blk_cell HX.out 1); (exact blk_cell HX.out 2)) (fun k hk => by rcases (by omega : k = 0 ∨ k = 1 ∨ k = 2) with rfl | rfl | rfl; (rw [X0.out]; exact R0.out _ HG.out); (rw [X1.out]; exact R1.out); (rw [X2.out]; exact R2.out _ HG.out)) (by rw [HC2.out, HLEN.out]; omega) (by rw [HC2.out, HLEN.out]; have := H16.out; omega) (by omega)
  refine CK2.mono ?_; rintro e W3 ⟨v9, rfl, ho, hg⟩
  have HO := hide ho
  have HG2 := hide (grownBy_trans HG.out hg)
  have HBS := hide HG.out.size
  have HB2 : Hid ((fun W => W.heap[w.heap.size]? = some (.cells #[.slice (some ⟨g, o, none⟩) N cap] 159 (0, 0)) ∧ W.heap[w.heap.size + 1]? = some (.cells #[.int .i64 y0, .int .i64 y1, .int .i64 y2, .int .i64 y3, .int .i64 y4, .int .i64 y5, .int .i64 y6] 70 (0, 0))) W3) := hide ⟨box_grown HB.out.1 hg (by simp), box_grown HB.out.2 hg (by simp)⟩
  clear hHeld ho hg CK2
  refine hKx.out _ _ HB2.out (fun hHeld => ?_)
  clear hKx Kx
  (try simp only [Act.put])
  refine take_put (i := 12) (v := v9) 4 rfl rfl (by kernel_rfl) (by kernel_rfl) (by kernel_rfl) (fun _ _ _ h => h) (Or.inl ⟨by rfl, by intro Wy hSW; go_simp⟩) (by assumption) ?_
  (try simp only [Act.put, List.setIfInBounds_toArray, List.set_cons_zero, List.set_cons_succ])
  refine wpAnyH_done (by kernel_rfl) ?_ _
  clear hHeld
  go_wp2
  go_ret
  exact ⟨_, rfl, by have := HO.out; rw [HC2.out] at this; exact this.base HBS.out, HG2.out⟩
set_option maxRecDepth 100000 in
set_option maxHeartbeats 8000000 in
theorem ins_nil0 {lo : Nat} (g o : Nat) (s : Option Nat) (js : List JobV) (j : JobV) (w : World) (hv : RowAt shJ lo w (.slice (some ⟨g, o, s⟩) 0 0) js) (hr : risesB js = true) (h16 : js.length ≤ 16) (hP : placeN js j = 0) :
    Calls Tryz.prog 114 #[.agg #[.slice (some ⟨g, o, s⟩) 0 0], jobVal j] w fun e w' => ∃ v', e = .returned v' ∧ Own w.heap.size w' v' (putL js j) ∧ w.grownBy w' none := by
  have CP := hide (fun W (hg : w.grownBy W none) => place_any (.slice (some ⟨g, o, s⟩) 0 0) js j W (hv.grown hg) hr h16)
  have R0 := hide (fun W (hg : w.grownBy W none) => ((show RowAt shJ 0 W (.slice (some ⟨g, o, s⟩) 0 0) (js.take 0) by rw [List.take_zero]; exact rowAt_nil _ _ _ _)))
  have R2 := hide (fun W (hg : w.grownBy W none) => (show RowAt shJ 0 W (.slice (some ⟨g, o, s⟩) 0 0) (js.drop 0) by have h0 : js = [] := List.length_eq_zero_iff.1 (by obtain ⟨-, a2, c2, e, -⟩ := hv; simp only [Value.slice.injEq] at e; exact e.2.1.symm); subst h0; exact rowAt_nil _ _ _ _))
  have HCAT := hide (put_cat js j)
  have HLEN := hide (put_len js j)
  have H16 := hide h16
  have hlen : js.length = 0 := by obtain ⟨-, a2, c2, e, -⟩ := hv; simp only [Value.slice.injEq] at e; exact e.2.1.symm
  have hPle := place_le js j
  have hcapN : 0 ≤ 0 := by
    omega
  rw [hlen] at h16
  rw [hP] at CP HCAT
  rw [hP, hlen] at hPle
  obtain ⟨Hs, hHs⟩ : ∃ b, hasB js j = b := ⟨_, rfl⟩
  rw [hHs] at CP
  clear hv hr hP hHs hlen
  have CK := hide (fun vs xs b W => concat_any (lo := 0) vs xs b 3 W)
  have RL := hide (fun W => row_lit1 W j)
  obtain ⟨XS, hXS⟩ : ∃ XS : Nat → List JobV, XS = (fun k => if k = 0 then js.take (0) else if k = 1 then [j] else js.drop (0)) := ⟨_, rfl⟩
  have X0 : Hid (XS 0 = js.take (0)) := hide (by rw [hXS]; rfl)
  have X1 : Hid (XS 1 = [j]) := hide (by rw [hXS]; rfl)
  have X2 : Hid (XS 2 = js.drop (0)) := hide (by rw [hXS]; rfl)
  have HC2 := hide (HCAT.out XS X0.out X1.out X2.out)
  clear hXS HCAT
  generalize putL js j = PL at *
  generalize js.take (0) = L0 at *
  generalize js.drop (0) = L2 at *
  generalize hjl : [j] = L1 at *
  clear hjl
  obtain ⟨y0, y1, y2, y3, y4, y5, y6⟩ := j
  dsimp only [jobVal, jobC] at CP RL
  have HG := hide (grownBy_trans (World.grownBy_alloc w (.cells #[.slice (some ⟨g, o, s⟩) 0 0] 159) none) (World.grownBy_alloc _ (.cells #[.int .i64 y0, .int .i64 y1, .int .i64 y2, .int .i64 y3, .int .i64 y4, .int .i64 y5, .int .i64 y6] 70) none))
  go_enter Tryz.func114, Tryz.ntmps114
  go_wp2_with (first | fail)
  refine (CP.out _ HG.out).mono ?_; rintro e w1 ⟨rfl, hg⟩
  have HGn := hide (grownBy_trans HG.out hg)
  have HB : Hid ((fun W => W.heap[w.heap.size]? = some (.cells #[.slice (some ⟨g, o, s⟩) 0 0] 159 (0, 0)) ∧ W.heap[w.heap.size + 1]? = some (.cells #[.int .i64 y0, .int .i64 y1, .int .i64 y2, .int .i64 y3, .int .i64 y4, .int .i64 y5, .int .i64 y6] 70 (0, 0))) w1) := hide ⟨box_grown (hp_up (heap_alloc_new w _) _) hg (by simp), box_grown (alloc_next w _ _) hg (by simp)⟩
  clear HG hg CP
  have HG := HGn
  clear HGn
  go_upto_region 2 with (first | fail)
  refine wp_region_held_drew (S := fun W => W.heap[w.heap.size]? = some (.cells #[.slice (some ⟨g, o, s⟩) 0 0] 159 (0, 0)) ∧ W.heap[w.heap.size + 1]? = some (.cells #[.int .i64 y0, .int .i64 y1, .int .i64 y2, .int .i64 y3, .int .i64 y4, .int .i64 y5, .int .i64 y6] 70 (0, 0))) (by kernel_rfl) HB.out (fun hHeld => ?_)
  have HGd : Hid (w.grownBy w1.drew none) := hide (grownBy_trans HG.out (grownBy_draws w1 1 none))
  have HBd : Hid ((fun W => W.heap[w.heap.size]? = some (.cells #[.slice (some ⟨g, o, s⟩) 0 0] 159 (0, 0)) ∧ W.heap[w.heap.size + 1]? = some (.cells #[.int .i64 y0, .int .i64 y1, .int .i64 y2, .int .i64 y3, .int .i64 y4, .int .i64 y5, .int .i64 y6] 70 (0, 0))) w1.drew) := hide HB.out
  clear HG HB
  generalize w1.drew = W at *
  have HG := HGd
  have HB := HBd
  clear HGd HBd
  refine take_put (i := 0) (v := .pointer (some ⟨w.heap.size, 0, none⟩)) 13 rfl rfl (by kernel_rfl) (by kernel_rfl) (by kernel_rfl) (fun _ _ _ h => h) (Or.inl ⟨by rfl, by intro Wy hSW; go_simp⟩) (by assumption) ?_
  (try simp only [Act.put, List.setIfInBounds_toArray, List.set_cons_zero, List.set_cons_succ])
  refine take_put (i := 1) (v := .slice (some ⟨g, o, s⟩) 0 0) 14 rfl rfl (by kernel_rfl) (by kernel_rfl) (by kernel_rfl) (fun _ _ _ h => h) (Or.inl ⟨by rfl, by intro Wy hSW; have hc := blk_cell hSW.1 0; go_simp⟩) (by assumption) ?_
  (try simp only [Act.put, List.setIfInBounds_toArray, List.set_cons_zero, List.set_cons_succ])
  refine take_put (i := 2) (v := .int .i64 (0 : Nat)) 15 rfl rfl (by kernel_rfl) (by kernel_rfl) (by kernel_rfl) (fun _ _ _ h => h) (Or.inl ⟨by rfl, by intro Wy hSW; go_simp⟩) (by assumption) ?_
  (try simp only [Act.put, List.setIfInBounds_toArray, List.set_cons_zero, List.set_cons_succ])
  refine take_put (i := 3) (v := .slice (some ⟨g, o, s⟩) 0 0) 16 rfl rfl (by kernel_rfl) (by kernel_rfl) (by kernel_rfl) (fun _ _ _ h => h) (Or.inl ⟨by rfl, by intro Wy hSW; go_simp⟩) (by assumption) ?_
  (try simp only [Act.put, List.setIfInBounds_toArray, List.set_cons_zero, List.set_cons_succ])
  refine take_put (i := 4) (v := .agg #[.int .i64 y0, .int .i64 y1, .int .i64 y2, .int .i64 y3, .int .i64 y4, .int .i64 y5, .int .i64 y6]) 17 rfl rfl (by kernel_rfl) (by kernel_rfl) (by kernel_rfl) (fun _ _ _ h => h) (Or.inl ⟨by rfl, by intro Wy hSW; have hc := (⟨blk_cell hSW.2 0, blk_cell hSW.2 1, blk_cell hSW.2 2, blk_cell hSW.2 3, blk_cell hSW.2 4, blk_cell hSW.2 5, blk_cell hSW.2 6⟩ : _ ∧ _ ∧ _ ∧ _ ∧ _ ∧ _ ∧ _); go_simp⟩) (by assumption) ?_
  (try simp only [Act.put, List.setIfInBounds_toArray, List.set_cons_zero, List.set_cons_succ])
  refine take_put (i := 6) (v := .pointer (some ⟨w.heap.size, 0, none⟩)) 19 rfl rfl (by kernel_rfl) (by kernel_rfl) (by kernel_rfl) (fun _ _ _ h => h) (Or.inl ⟨by rfl, by intro Wy hSW; go_simp⟩) (by assumption) ?_
  (try simp only [Act.put, List.setIfInBounds_toArray, List.set_cons_zero, List.set_cons_succ])
  refine take_put (i := 7) (v := .slice (some ⟨g, o, s⟩) 0 0) 20 rfl rfl (by kernel_rfl) (by kernel_rfl) (by kernel_rfl) (fun _ _ _ h => h) (Or.inl ⟨by rfl, by intro Wy hSW; have hc := blk_cell hSW.1 0; go_simp⟩) (by assumption) ?_
  (try simp only [Act.put, List.setIfInBounds_toArray, List.set_cons_zero, List.set_cons_succ])
  refine take_put (i := 8) (v := .int .i64 (0 : Nat)) 21 rfl rfl (by kernel_rfl) (by kernel_rfl) (by kernel_rfl) (fun _ _ _ h => h) (Or.inl ⟨by rfl, by intro Wy hSW; go_simp⟩) (by assumption) ?_
  (try simp only [Act.put, List.setIfInBounds_toArray, List.set_cons_zero, List.set_cons_succ])
  refine take_put (i := 9) (v := .slice (some ⟨g, o, s⟩) 0 0) 22 rfl rfl (by kernel_rfl) (by kernel_rfl) (by kernel_rfl) (fun _ _ _ h => h) (Or.inl ⟨by rfl, by intro Wy hSW; go_simp⟩) (by assumption) ?_
  (try simp only [Act.put, List.setIfInBounds_toArray, List.set_cons_zero, List.set_cons_succ])
  refine wpAnyH_ready (rs := [5]) (by kernel_rfl) (by simp) ?_
  refine AllReadyH.cons rfl (fun Kx hKx => ?_) AllReadyH.nil
  go_simp
  have R1 := hide ((RL.out W).mono (Nat.zero_le _))
  have hg := World.grownBy_alloc W (.cells #[.int .i64 y0, .int .i64 y1, .int .i64 y2, .int .i64 y3, .int .i64 y4, .int .i64 y5, .int .i64 y6] 70) none
  have HGn := hide (grownBy_trans HG.out hg)
  have HBn : Hid ((fun W => W.heap[w.heap.size]? = some (.cells #[.slice (some ⟨g, o, s⟩) 0 0] 159 (0, 0)) ∧ W.heap[w.heap.size + 1]? = some (.cells #[.int .i64 y0, .int .i64 y1, .int .i64 y2, .int .i64 y3, .int .i64 y4, .int .i64 y5, .int .i64 y6] 70 (0, 0))) (W.alloc (.cells #[.int .i64 y0, .int .i64 y1, .int .i64 y2, .int .i64 y3, .int .i64 y4, .int .i64 y5, .int .i64 y6] 70))) := hide ⟨box_grown HB.out.1 hg (by simp), box_grown HB.out.2 hg (by simp)⟩
  clear HG HB hg hHeld
  have HG := HGn
  have HB := HBn
  clear HGn HBn
  refine hKx.out _ _ HB.out (fun hHeld => ?_)
  clear hKx Kx
  (try simp only [Act.put])
  generalize W.alloc (.cells #[.int .i64 y0, .int .i64 y1, .int .i64 y2, .int .i64 y3, .int .i64 y4, .int .i64 y5, .int .i64 y6] 70) = W1 at *
  generalize W.heap.size = g1 at *
  refine wpAnyH_ready (rs := [10]) (by kernel_rfl) (by simp) ?_
  refine AllReadyH.cons rfl (fun Kx hKx => ?_) AllReadyH.nil
  go_simp
  have hg := World.grownBy_alloc W1 (.cells #[.slice (some ⟨g, o, s⟩) 0 0, .slice (some ⟨g1, 0, none⟩) 1 1, .slice (some ⟨g, o, s⟩) 0 0] 57) none
  have HGn := hide (grownBy_trans HG.out hg)
  have HBn : Hid ((fun W => W.heap[w.heap.size]? = some (.cells #[.slice (some ⟨g, o, s⟩) 0 0] 159 (0, 0)) ∧ W.heap[w.heap.size + 1]? = some (.cells #[.int .i64 y0, .int .i64 y1, .int .i64 y2, .int .i64 y3, .int .i64 y4, .int .i64 y5, .int .i64 y6] 70 (0, 0))) (W1.alloc (.cells #[.slice (some ⟨g, o, s⟩) 0 0, .slice (some ⟨g1, 0, none⟩) 1 1, .slice (some ⟨g, o, s⟩) 0 0] 57))) := hide ⟨box_grown HB.out.1 hg (by simp), box_grown HB.out.2 hg (by simp)⟩
  have HX := hide (heap_alloc_new W1 (.cells #[.slice (some ⟨g, o, s⟩) 0 0, .slice (some ⟨g1, 0, none⟩) 1 1, .slice (some ⟨g, o, s⟩) 0 0] 57))
  have R1n := hide (R1.out.grown hg)
  clear HG HB hg hHeld R1
  have HG := HGn
  have HB := HBn
  have R1 := R1n
  clear HGn HBn R1n
  refine hKx.out _ _ HB.out (fun hHeld => ?_)
  clear hKx Kx
  (try simp only [Act.put])
  generalize W1.alloc (.cells #[.slice (some ⟨g, o, s⟩) 0 0, .slice (some ⟨g1, 0, none⟩) 1 1, .slice (some ⟨g, o, s⟩) 0 0] 57) = W2 at *
  generalize W1.heap.size = g3 at *
  refine wpAnyH_ready (rs := [11]) (by kernel_rfl) (by simp) ?_
  refine AllReadyH.cons rfl (fun Kx hKx => ?_) AllReadyH.nil
  go_simp
  have CK2 := CK.out (fun k => if k = 0 then .slice (some ⟨g, o, s⟩) 0 0 else if k = 1 then .slice (some ⟨g1, 0, none⟩) 1 1 else .slice (some ⟨g, o, s⟩) 0 0) XS g3 W2 (fun k hk => by rcases (by omega : k = 0 ∨ k = 1 ∨ k = 2) with rfl | rfl | rfl; (exact blk_cell HX.out 0); (exact blk_cell HX.out 1); (exact blk_cell HX.out 2)) (fun k hk => by rcases (by omega : k = 0 ∨ k = 1 ∨ k = 2) with rfl | rfl | rfl; (rw [X0.out]; exact R0.out _ HG.out); (rw [X1.out]; exact R1.out); (rw [X2.out]; exact R2.out _ HG.out)) (by rw [HC2.out, HLEN.out]; omega) (by rw [HC2.out, HLEN.out]; have := H16.out; omega) (by omega)
  refine CK2.mono ?_; rintro e W3 ⟨v9, rfl, ho, hg⟩
  have HO := hide ho
  have HG2 := hide (grownBy_trans HG.out hg)
  have HBS := hide HG.out.size
  have HB2 : Hid ((fun W => W.heap[w.heap.size]? = some (.cells #[.slice (some ⟨g, o, s⟩) 0 0] 159 (0, 0)) ∧ W.heap[w.heap.size + 1]? = some (.cells #[.int .i64 y0, .int .i64 y1, .int .i64 y2, .int .i64 y3, .int .i64 y4, .int .i64 y5, .int .i64 y6] 70 (0, 0))) W3) := hide ⟨box_grown HB.out.1 hg (by simp), box_grown HB.out.2 hg (by simp)⟩
  clear hHeld ho hg CK2
  refine hKx.out _ _ HB2.out (fun hHeld => ?_)
  clear hKx Kx
  (try simp only [Act.put])
  refine take_put (i := 12) (v := v9) 4 rfl rfl (by kernel_rfl) (by kernel_rfl) (by kernel_rfl) (fun _ _ _ h => h) (Or.inl ⟨by rfl, by intro Wy hSW; go_simp⟩) (by assumption) ?_
  (try simp only [Act.put, List.setIfInBounds_toArray, List.set_cons_zero, List.set_cons_succ])
  refine wpAnyH_done (by kernel_rfl) ?_ _
  clear hHeld
  go_wp2
  go_ret
  exact ⟨_, rfl, by have := HO.out; rw [HC2.out] at this; exact this.base HBS.out, HG2.out⟩
set_option maxRecDepth 100000 in
set_option maxHeartbeats 8000000 in
theorem ins_nil1 {lo : Nat} (g o cap : Nat) (s : Option Nat) (hc0 : cap ≠ 0) (js : List JobV) (j : JobV) (w : World) (hv : RowAt shJ lo w (.slice (some ⟨g, o, s⟩) 0 cap) js) (hr : risesB js = true) (h16 : js.length ≤ 16) (hP : placeN js j = 0) :
    Calls Tryz.prog 114 #[.agg #[.slice (some ⟨g, o, s⟩) 0 cap], jobVal j] w fun e w' => ∃ v', e = .returned v' ∧ Own w.heap.size w' v' (putL js j) ∧ w.grownBy w' none := by
  have CP := hide (fun W (hg : w.grownBy W none) => place_any (.slice (some ⟨g, o, s⟩) 0 cap) js j W (hv.grown hg) hr h16)
  have R0 := hide (fun W (hg : w.grownBy W none) => ((show RowAt shJ 0 W (.slice (some ⟨g, o, s⟩) 0 cap) (js.take 0) by rw [List.take_zero]; exact rowAt_nil _ _ _ _)))
  have R2 := hide (fun W (hg : w.grownBy W none) => (show RowAt shJ 0 W (.slice (some ⟨g, o, s⟩) 0 cap) (js.drop 0) by have h0 : js = [] := List.length_eq_zero_iff.1 (by obtain ⟨-, a2, c2, e, -⟩ := hv; simp only [Value.slice.injEq] at e; exact e.2.1.symm); subst h0; exact rowAt_nil _ _ _ _))
  have HCAT := hide (put_cat js j)
  have HLEN := hide (put_len js j)
  have H16 := hide h16
  have hlen : js.length = 0 := by obtain ⟨-, a2, c2, e, -⟩ := hv; simp only [Value.slice.injEq] at e; exact e.2.1.symm
  have hPle := place_le js j
  have hcapN : 0 ≤ cap := by
    omega
  rw [hlen] at h16
  rw [hP] at CP HCAT
  rw [hP, hlen] at hPle
  obtain ⟨Hs, hHs⟩ : ∃ b, hasB js j = b := ⟨_, rfl⟩
  rw [hHs] at CP
  clear hv hr hP hHs hlen
  have CK := hide (fun vs xs b W => concat_any (lo := 0) vs xs b 3 W)
  have RL := hide (fun W => row_lit1 W j)
  obtain ⟨XS, hXS⟩ : ∃ XS : Nat → List JobV, XS = (fun k => if k = 0 then js.take (0) else if k = 1 then [j] else js.drop (0)) := ⟨_, rfl⟩
  have X0 : Hid (XS 0 = js.take (0)) := hide (by rw [hXS]; rfl)
  have X1 : Hid (XS 1 = [j]) := hide (by rw [hXS]; rfl)
  have X2 : Hid (XS 2 = js.drop (0)) := hide (by rw [hXS]; rfl)
  have HC2 := hide (HCAT.out XS X0.out X1.out X2.out)
  clear hXS HCAT
  generalize putL js j = PL at *
  generalize js.take (0) = L0 at *
  generalize js.drop (0) = L2 at *
  generalize hjl : [j] = L1 at *
  clear hjl
  obtain ⟨y0, y1, y2, y3, y4, y5, y6⟩ := j
  dsimp only [jobVal, jobC] at CP RL
  have HG := hide (grownBy_trans (World.grownBy_alloc w (.cells #[.slice (some ⟨g, o, s⟩) 0 cap] 159) none) (World.grownBy_alloc _ (.cells #[.int .i64 y0, .int .i64 y1, .int .i64 y2, .int .i64 y3, .int .i64 y4, .int .i64 y5, .int .i64 y6] 70) none))
  go_enter Tryz.func114, Tryz.ntmps114
  go_wp2_with (first | fail)
  refine (CP.out _ HG.out).mono ?_; rintro e w1 ⟨rfl, hg⟩
  have HGn := hide (grownBy_trans HG.out hg)
  have HB : Hid ((fun W => W.heap[w.heap.size]? = some (.cells #[.slice (some ⟨g, o, s⟩) 0 cap] 159 (0, 0)) ∧ W.heap[w.heap.size + 1]? = some (.cells #[.int .i64 y0, .int .i64 y1, .int .i64 y2, .int .i64 y3, .int .i64 y4, .int .i64 y5, .int .i64 y6] 70 (0, 0))) w1) := hide ⟨box_grown (hp_up (heap_alloc_new w _) _) hg (by simp), box_grown (alloc_next w _ _) hg (by simp)⟩
  clear HG hg CP
  have HG := HGn
  clear HGn
  go_upto_region 2 with (first | fail)
  refine wp_region_held_drew (S := fun W => W.heap[w.heap.size]? = some (.cells #[.slice (some ⟨g, o, s⟩) 0 cap] 159 (0, 0)) ∧ W.heap[w.heap.size + 1]? = some (.cells #[.int .i64 y0, .int .i64 y1, .int .i64 y2, .int .i64 y3, .int .i64 y4, .int .i64 y5, .int .i64 y6] 70 (0, 0))) (by kernel_rfl) HB.out (fun hHeld => ?_)
  have HGd : Hid (w.grownBy w1.drew none) := hide (grownBy_trans HG.out (grownBy_draws w1 1 none))
  have HBd : Hid ((fun W => W.heap[w.heap.size]? = some (.cells #[.slice (some ⟨g, o, s⟩) 0 cap] 159 (0, 0)) ∧ W.heap[w.heap.size + 1]? = some (.cells #[.int .i64 y0, .int .i64 y1, .int .i64 y2, .int .i64 y3, .int .i64 y4, .int .i64 y5, .int .i64 y6] 70 (0, 0))) w1.drew) := hide HB.out
  clear HG HB
  generalize w1.drew = W at *
  have HG := HGd
  have HB := HBd
  clear HGd HBd
  refine take_put (i := 0) (v := .pointer (some ⟨w.heap.size, 0, none⟩)) 13 rfl rfl (by kernel_rfl) (by kernel_rfl) (by kernel_rfl) (fun _ _ _ h => h) (Or.inl ⟨by rfl, by intro Wy hSW; go_simp⟩) (by assumption) ?_
  (try simp only [Act.put, List.setIfInBounds_toArray, List.set_cons_zero, List.set_cons_succ])
  refine take_put (i := 1) (v := .slice (some ⟨g, o, s⟩) 0 cap) 14 rfl rfl (by kernel_rfl) (by kernel_rfl) (by kernel_rfl) (fun _ _ _ h => h) (Or.inl ⟨by rfl, by intro Wy hSW; have hc := blk_cell hSW.1 0; go_simp⟩) (by assumption) ?_
  (try simp only [Act.put, List.setIfInBounds_toArray, List.set_cons_zero, List.set_cons_succ])
  refine take_put (i := 2) (v := .int .i64 (0 : Nat)) 15 rfl rfl (by kernel_rfl) (by kernel_rfl) (by kernel_rfl) (fun _ _ _ h => h) (Or.inl ⟨by rfl, by intro Wy hSW; go_simp⟩) (by assumption) ?_
  (try simp only [Act.put, List.setIfInBounds_toArray, List.set_cons_zero, List.set_cons_succ])
  refine take_put (i := 3) (v := .slice (some ⟨g, o, s⟩) 0 cap) 16 rfl rfl (by kernel_rfl) (by kernel_rfl) (by kernel_rfl) (fun _ _ _ h => h) (Or.inl ⟨by rfl, by intro Wy hSW; have hc := hc0; go_simp⟩) (by assumption) ?_
  (try simp only [Act.put, List.setIfInBounds_toArray, List.set_cons_zero, List.set_cons_succ])
  refine take_put (i := 4) (v := .agg #[.int .i64 y0, .int .i64 y1, .int .i64 y2, .int .i64 y3, .int .i64 y4, .int .i64 y5, .int .i64 y6]) 17 rfl rfl (by kernel_rfl) (by kernel_rfl) (by kernel_rfl) (fun _ _ _ h => h) (Or.inl ⟨by rfl, by intro Wy hSW; have hc := (⟨blk_cell hSW.2 0, blk_cell hSW.2 1, blk_cell hSW.2 2, blk_cell hSW.2 3, blk_cell hSW.2 4, blk_cell hSW.2 5, blk_cell hSW.2 6⟩ : _ ∧ _ ∧ _ ∧ _ ∧ _ ∧ _ ∧ _); go_simp⟩) (by assumption) ?_
  (try simp only [Act.put, List.setIfInBounds_toArray, List.set_cons_zero, List.set_cons_succ])
  refine take_put (i := 6) (v := .pointer (some ⟨w.heap.size, 0, none⟩)) 19 rfl rfl (by kernel_rfl) (by kernel_rfl) (by kernel_rfl) (fun _ _ _ h => h) (Or.inl ⟨by rfl, by intro Wy hSW; go_simp⟩) (by assumption) ?_
  (try simp only [Act.put, List.setIfInBounds_toArray, List.set_cons_zero, List.set_cons_succ])
  refine take_put (i := 7) (v := .slice (some ⟨g, o, s⟩) 0 cap) 20 rfl rfl (by kernel_rfl) (by kernel_rfl) (by kernel_rfl) (fun _ _ _ h => h) (Or.inl ⟨by rfl, by intro Wy hSW; have hc := blk_cell hSW.1 0; go_simp⟩) (by assumption) ?_
  (try simp only [Act.put, List.setIfInBounds_toArray, List.set_cons_zero, List.set_cons_succ])
  refine take_put (i := 8) (v := .int .i64 (0 : Nat)) 21 rfl rfl (by kernel_rfl) (by kernel_rfl) (by kernel_rfl) (fun _ _ _ h => h) (Or.inl ⟨by rfl, by intro Wy hSW; go_simp⟩) (by assumption) ?_
  (try simp only [Act.put, List.setIfInBounds_toArray, List.set_cons_zero, List.set_cons_succ])
  refine take_put (i := 9) (v := .slice (some ⟨g, o, s⟩) 0 cap) 22 rfl rfl (by kernel_rfl) (by kernel_rfl) (by kernel_rfl) (fun _ _ _ h => h) (Or.inl ⟨by rfl, by intro Wy hSW; have hc := hc0; go_simp⟩) (by assumption) ?_
  (try simp only [Act.put, List.setIfInBounds_toArray, List.set_cons_zero, List.set_cons_succ])
  refine wpAnyH_ready (rs := [5]) (by kernel_rfl) (by simp) ?_
  refine AllReadyH.cons rfl (fun Kx hKx => ?_) AllReadyH.nil
  go_simp
  have R1 := hide ((RL.out W).mono (Nat.zero_le _))
  have hg := World.grownBy_alloc W (.cells #[.int .i64 y0, .int .i64 y1, .int .i64 y2, .int .i64 y3, .int .i64 y4, .int .i64 y5, .int .i64 y6] 70) none
  have HGn := hide (grownBy_trans HG.out hg)
  have HBn : Hid ((fun W => W.heap[w.heap.size]? = some (.cells #[.slice (some ⟨g, o, s⟩) 0 cap] 159 (0, 0)) ∧ W.heap[w.heap.size + 1]? = some (.cells #[.int .i64 y0, .int .i64 y1, .int .i64 y2, .int .i64 y3, .int .i64 y4, .int .i64 y5, .int .i64 y6] 70 (0, 0))) (W.alloc (.cells #[.int .i64 y0, .int .i64 y1, .int .i64 y2, .int .i64 y3, .int .i64 y4, .int .i64 y5, .int .i64 y6] 70))) := hide ⟨box_grown HB.out.1 hg (by simp), box_grown HB.out.2 hg (by simp)⟩
  clear HG HB hg hHeld
  have HG := HGn
  have HB := HBn
  clear HGn HBn
  refine hKx.out _ _ HB.out (fun hHeld => ?_)
  clear hKx Kx
  (try simp only [Act.put])
  generalize W.alloc (.cells #[.int .i64 y0, .int .i64 y1, .int .i64 y2, .int .i64 y3, .int .i64 y4, .int .i64 y5, .int .i64 y6] 70) = W1 at *
  generalize W.heap.size = g1 at *
  refine wpAnyH_ready (rs := [10]) (by kernel_rfl) (by simp) ?_
  refine AllReadyH.cons rfl (fun Kx hKx => ?_) AllReadyH.nil
  go_simp
  have hg := World.grownBy_alloc W1 (.cells #[.slice (some ⟨g, o, s⟩) 0 cap, .slice (some ⟨g1, 0, none⟩) 1 1, .slice (some ⟨g, o, s⟩) 0 cap] 57) none
  have HGn := hide (grownBy_trans HG.out hg)
  have HBn : Hid ((fun W => W.heap[w.heap.size]? = some (.cells #[.slice (some ⟨g, o, s⟩) 0 cap] 159 (0, 0)) ∧ W.heap[w.heap.size + 1]? = some (.cells #[.int .i64 y0, .int .i64 y1, .int .i64 y2, .int .i64 y3, .int .i64 y4, .int .i64 y5, .int .i64 y6] 70 (0, 0))) (W1.alloc (.cells #[.slice (some ⟨g, o, s⟩) 0 cap, .slice (some ⟨g1, 0, none⟩) 1 1, .slice (some ⟨g, o, s⟩) 0 cap] 57))) := hide ⟨box_grown HB.out.1 hg (by simp), box_grown HB.out.2 hg (by simp)⟩
  have HX := hide (heap_alloc_new W1 (.cells #[.slice (some ⟨g, o, s⟩) 0 cap, .slice (some ⟨g1, 0, none⟩) 1 1, .slice (some ⟨g, o, s⟩) 0 cap] 57))
  have R1n := hide (R1.out.grown hg)
  clear HG HB hg hHeld R1
  have HG := HGn
  have HB := HBn
  have R1 := R1n
  clear HGn HBn R1n
  refine hKx.out _ _ HB.out (fun hHeld => ?_)
  clear hKx Kx
  (try simp only [Act.put])
  generalize W1.alloc (.cells #[.slice (some ⟨g, o, s⟩) 0 cap, .slice (some ⟨g1, 0, none⟩) 1 1, .slice (some ⟨g, o, s⟩) 0 cap] 57) = W2 at *
  generalize W1.heap.size = g3 at *
  refine wpAnyH_ready (rs := [11]) (by kernel_rfl) (by simp) ?_
  refine AllReadyH.cons rfl (fun Kx hKx => ?_) AllReadyH.nil
  go_simp
  have CK2 := CK.out (fun k => if k = 0 then .slice (some ⟨g, o, s⟩) 0 cap else if k = 1 then .slice (some ⟨g1, 0, none⟩) 1 1 else .slice (some ⟨g, o, s⟩) 0 cap) XS g3 W2 (fun k hk => by rcases (by omega : k = 0 ∨ k = 1 ∨ k = 2) with rfl | rfl | rfl; (exact blk_cell HX.out 0); (exact blk_cell HX.out 1); (exact blk_cell HX.out 2)) (fun k hk => by rcases (by omega : k = 0 ∨ k = 1 ∨ k = 2) with rfl | rfl | rfl; (rw [X0.out]; exact R0.out _ HG.out); (rw [X1.out]; exact R1.out); (rw [X2.out]; exact R2.out _ HG.out)) (by rw [HC2.out, HLEN.out]; omega) (by rw [HC2.out, HLEN.out]; have := H16.out; omega) (by omega)
  refine CK2.mono ?_; rintro e W3 ⟨v9, rfl, ho, hg⟩
  have HO := hide ho
  have HG2 := hide (grownBy_trans HG.out hg)
  have HBS := hide HG.out.size
  have HB2 : Hid ((fun W => W.heap[w.heap.size]? = some (.cells #[.slice (some ⟨g, o, s⟩) 0 cap] 159 (0, 0)) ∧ W.heap[w.heap.size + 1]? = some (.cells #[.int .i64 y0, .int .i64 y1, .int .i64 y2, .int .i64 y3, .int .i64 y4, .int .i64 y5, .int .i64 y6] 70 (0, 0))) W3) := hide ⟨box_grown HB.out.1 hg (by simp), box_grown HB.out.2 hg (by simp)⟩
  clear hHeld ho hg CK2
  refine hKx.out _ _ HB2.out (fun hHeld => ?_)
  clear hKx Kx
  (try simp only [Act.put])
  refine take_put (i := 12) (v := v9) 4 rfl rfl (by kernel_rfl) (by kernel_rfl) (by kernel_rfl) (fun _ _ _ h => h) (Or.inl ⟨by rfl, by intro Wy hSW; go_simp⟩) (by assumption) ?_
  (try simp only [Act.put, List.setIfInBounds_toArray, List.set_cons_zero, List.set_cons_succ])
  refine wpAnyH_done (by kernel_rfl) ?_ _
  clear hHeld
  go_wp2
  go_ret
  exact ⟨_, rfl, by have := HO.out; rw [HC2.out] at this; exact this.base HBS.out, HG2.out⟩
#print axioms ins_mid
end Go.Proofs.YtlppfocoonnpjaaGreatDoor.J

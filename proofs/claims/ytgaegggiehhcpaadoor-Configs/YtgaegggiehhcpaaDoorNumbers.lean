/- The contract of the writer's numbers, proved over the translation. -/
import Derived.Test.YtgaegggiehhcpaaDoorBytes
namespace Go.Proofs.YtgaegggiehhcpaaDoor
open Go.RowKit
attribute [local go_sem] alloc_drewN setCell_drewN

theorem be_length (k : Nat) (hk : k = 1 ∨ k = 2) (x : Int) : (be k x).length = k := by rcases hk with rfl | rfl <;> rfl
theorem flat_be_length (k : Nat) (hk : k = 1 ∨ k = 2) (xs : List Int) : (xs.flatMap (be k)).length = xs.length * k := by
  induction xs with
  | nil => simp
  | cons x xs ih => simp only [List.flatMap_cons, List.length_append, be_length k hk, ih, List.length_cons, Nat.add_mul]; omega
theorem lim_take {P L : List Int} {k : Nat} (h : P.length + k ≤ 1000000) {t : Nat} (ht : t ≤ 2 := by omega) : (P ++ L.take t).length ≤ 1000002 := by
  rw [List.length_append, List.length_take]; omega
theorem wrapU8 (x : Int) : IntKind.u8.wrap x = x % 256 := by rw [IntKind.wrap_u8]

set_option maxRecDepth 100000 in
set_option maxHeartbeats 2000000 in
theorem numbers_1 (b : Nat) (zs xs : List Int) (w0 : World) (v0 : Value) (hW : WAt w0 b v0 zs) (hlim : zs.length + xs.length * 1 ≤ 1000000) :
    Calls Tryd.prog 55 #[.pointer (some ⟨b, 0, none⟩), .int .i64 1, .slice (some ⟨w0.heap.size, 0, none⟩) xs.length xs.length] (w0.alloc (.cells (ints xs) 3)) fun e w' => e = .returned (.tuple #[]) ∧ ∃ v', WAt w' b v' (zs ++ xs.flatMap (be 1)) ∧ Wrote b v0 w0 v' w' := by
  obtain ⟨hbox, hown⟩ := hW
  have hbl := box_lt hbox
  have HB0 := hide (box_grown hbox (World.grownBy_alloc w0 (.cells (ints xs) 3) none) (by simp))
  have HO0 := hide (hown.alloc (.cells (ints xs) 3))
  have HN0 := hide (show v0.ownBlock ≠ some w0.heap.size from fun e => by have := (hown.lt _ e).2; omega)
  have HL0 := hide (Wrote.of_grown (b := b) (v := v0) (World.grownBy_alloc w0 (.cells (ints xs) 3) none))
  have HB1 := hide (show ∀ W v, Hid (Wrote b v0 w0 v W) → True from fun _ _ _ => trivial)
  clear HB1
  have HC0 := hide (show ∀ k, k < xs.length → (w0.alloc (.cells (ints xs) 3)).cell? ⟨w0.heap.size, k, none⟩ = some (.int .i64 (xs[k]?.getD 0)) from fun k hk => by simp [ints, List.getElem?_eq_getElem hk])
  clear hbox hown
  have hbh : b < w0.heap.size := hbl
  generalize hw1 : w0.alloc (.cells (ints xs) 3) = w1 at *
  clear hw1
  generalize hh : w0.heap.size = h at *
  have HXL := hide (fun j => show (xs.take j).length ≤ xs.length by rw [List.length_take]; omega)
  generalize hM : xs.length = M at *
  have HM := hide hM
  clear hM hh hbl
  have HLIM := hide hlim
  clear hlim
  have HM63 : (M : Int) ≤ 9223372036854775807 := by have := HLIM.out; omega
  go_enter Tryd.func55, Tryd.ntmps55
  go_wp2
  go_loopw [7, 8, 11, 16] (fun _ _ i _ W => ∃ (j : Nat) (v : Value), j ≤ M ∧ i = .int .i64 j ∧ Hid (W.heap[b]? = some (.cells #[v] 70 (0, 0))) ∧ Hid (W.ownsRow (b + 1) 5 1 v (zs ++ (xs.take j).flatMap (be 1)).length (bytes1 (zs ++ (xs.take j).flatMap (be 1)))) ∧ Hid (v.ownBlock ≠ some h) ∧ Hid (∀ k, k < M → W.cell? ⟨h, k, none⟩ = some (.int .i64 (xs[k]?.getD 0))) ∧ Hid (Wrote b v0 w0 v W)) (fun _ _ i _ _ => M - (intOf i).toNat)
  case atStart => exact ⟨0, v0, by omega, rfl, HB0, by simpa using HO0, HN0, HC0, HL0⟩
  case round =>
    obtain ⟨j, v, hj, rfl, HB, HO, HNE, HC, HL⟩ := hrel
    by_cases hlt : j < M
    · have c1 := HC.out j hlt
      have HS := hide (show (xs.take (j + 1)).flatMap (be 1) = (xs.take j).flatMap (be 1) ++ be 1 (xs[j]?.getD 0) by
        have hl : j < xs.length := by rw [HM.out]; exact hlt
        rw [List.take_succ_eq_append_getElem hl, List.flatMap_append, List.getElem?_eq_getElem hl]; simp)
      have HPL := hide (show (zs ++ (xs.take j).flatMap (be 1)).length + 1 ≤ 1000000 by
        rw [List.length_append, flat_be_length _ (by decide)]
        have h1 : (xs.take j).length ≤ j := by rw [List.length_take]; omega
        have := HLIM.out
        omega)
      generalize hx : xs[j]?.getD 0 = x at *
      clear hx
      generalize hP : zs ++ (xs.take j).flatMap (be 1) = P at *
      have HP := hide hP
      clear hP
      go_wp2
      go_loopw [8, 16] (fun _ i W => ∃ (t : Nat) (v : Value), t ≤ 1 ∧ i = .int .i64 t ∧ Hid (W.heap[b]? = some (.cells #[v] 70 (0, 0))) ∧ Hid (W.ownsRow (b + 1) 5 1 v (P ++ (be 1 x).take t).length (bytes1 (P ++ (be 1 x).take t))) ∧ Hid (v.ownBlock ≠ some h) ∧ Hid (∀ k, k < M → W.cell? ⟨h, k, none⟩ = some (.int .i64 (xs[k]?.getD 0))) ∧ Hid (Wrote b v0 w0 v W)) (fun _ i _ => 1 - (intOf i).toNat)
      case atStart => exact ⟨0, v, by omega, rfl, HB, by simpa using HO, HNE, HC, HL⟩
      case round =>
        obtain ⟨t, v, ht, rfl, HB, HO, HNE, HC, HL⟩ := hrel
        rcases (by omega : t = 0 ∨ t = 1) with rfl | rfl
        · have f1 := box_cell HB.out
          have f2 := box_free HB.out
          have HY := hide (show P ++ (be 1 x).take (0 + 1) = (P ++ (be 1 x).take 0) ++ [x % 256] by simp [be])
          have HQL := hide (show (P ++ (be 1 x).take 0).length ≤ 1000002 from lim_take HPL.out)
          have HVB := hide (show v.ownBlock ≠ some b from fun e => by have := (HO.out.lt b e).1; omega)
          have hbr := box_lt HB.out
          have r0 : IntKind.i64.wrap 0 = 0 := by rw [IntKind.wrap_i64]; decide
          have r1 : IntKind.i64.wrap 1 = 1 := by rw [IntKind.wrap_i64]; decide
          have r8 : IntKind.i64.wrap 8 = 8 := by rw [IntKind.wrap_i64]; decide
          have hw8 : IntKind.u8.wrap (x) = x % 256 := wrapU8 _
          generalize hR : P ++ (be 1 x).take 0 = R at *
          clear hR
          obtain ⟨va, vcap, rfl⟩ := own_form HO.out
          generalize hn : R.length = n at *
          have HR := hide hn
          clear hn
          go_wp2
          go_region_law ((refine step_bytes _ (by rfl) _ _ (by rfl) (b + 1) (.slice va n vcap) n R (by rfl) ((HO.out.alloc _).drew) ⟨wr.heap.size, 0, none⟩ 1 1 [x % 256] (by rfl) (by rfl) (fun i hi => by cases i with | zero => simp [Addr.add] | succ i => omega) (by omega) (by have := HQL.out; omega) (by simp; omega) ?_; intro g2 cap2 w2 hown2 hgrow2 hb2; have hbx := box_grown (box_grown HB.out (grownBy_trans (World.grownBy_alloc _ _ none) (grownBy_draws _ 1 _)) (by simp)) hgrow2 HVB.out; have k1 := box_cell hbx; have k2 := box_free hbx; have HST := hide (laid_step (m := 1) (y := x % 256) ⟨HB.out, by rw [HR.out]; exact HO.out⟩ (by rw [HR.out]; exact hown2) hgrow2 hb2); have HKH := hide (hgrow2.size); clear hown2 hgrow2 hb2 hbx))
          all_goals
            go_wp2
            go_roundw
            case rel =>
              obtain ⟨u, ⟨u1, u2⟩, u3⟩ := HST.out
              rw [HR.out] at u1 u2 u3
              refine ⟨0 + 1, u, by omega, by go_num, u1, ?_, ?_, ?_, HL.out.trans u3⟩
              · rw [HY.out]
                exact u2
              · intro e
                rcases u3.own h e with e | e
                · exact HNE.out e
                · have hh : h < wr.heap.size := World.block_lt_of_cell? wr _ (HC.out 0 (by omega))
                  omega
              · intro k hk
                refine (World.cell?_of_block (a := ⟨h, k, none⟩) (u3.block h ?_ (by omega) HNE.out)).trans (HC.out k hk)
                exact World.block_lt_of_cell? wr _ (HC.out 0 (by omega))
            case measure => simp [intOf]
        · go_wp2
          go_roundw
          case rel =>
            refine ⟨j + 1, v, by omega, by go_num, HB, ?_, HNE, HC, HL⟩
            have h2 := HO.out
            rw [HS.out, ← List.append_assoc, HP.out, show be 1 x = (be 1 x).take 1 from (List.take_of_length_le (by rw [be_length _ (by decide)]; exact Nat.le_refl _)).symm]
            exact h2
          case measure => simp [intOf]; omega
    · go_wp2
      go_end0
      have e : j = M := by omega
      subst e
      rw [show xs.take j = xs by rw [← HM.out, List.take_length]] at HO
      exact ⟨rfl, v, ⟨HB.out, HO.out⟩, HL.out⟩

set_option maxRecDepth 100000 in
set_option maxHeartbeats 2000000 in
theorem numbers_2 (b : Nat) (zs xs : List Int) (w0 : World) (v0 : Value) (hW : WAt w0 b v0 zs) (hlim : zs.length + xs.length * 2 ≤ 1000000) :
    Calls Tryd.prog 55 #[.pointer (some ⟨b, 0, none⟩), .int .i64 2, .slice (some ⟨w0.heap.size, 0, none⟩) xs.length xs.length] (w0.alloc (.cells (ints xs) 3)) fun e w' => e = .returned (.tuple #[]) ∧ ∃ v', WAt w' b v' (zs ++ xs.flatMap (be 2)) ∧ Wrote b v0 w0 v' w' := by
  obtain ⟨hbox, hown⟩ := hW
  have hbl := box_lt hbox
  have HB0 := hide (box_grown hbox (World.grownBy_alloc w0 (.cells (ints xs) 3) none) (by simp))
  have HO0 := hide (hown.alloc (.cells (ints xs) 3))
  have HN0 := hide (show v0.ownBlock ≠ some w0.heap.size from fun e => by have := (hown.lt _ e).2; omega)
  have HL0 := hide (Wrote.of_grown (b := b) (v := v0) (World.grownBy_alloc w0 (.cells (ints xs) 3) none))
  have HB1 := hide (show ∀ W v, Hid (Wrote b v0 w0 v W) → True from fun _ _ _ => trivial)
  clear HB1
  have HC0 := hide (show ∀ k, k < xs.length → (w0.alloc (.cells (ints xs) 3)).cell? ⟨w0.heap.size, k, none⟩ = some (.int .i64 (xs[k]?.getD 0)) from fun k hk => by simp [ints, List.getElem?_eq_getElem hk])
  clear hbox hown
  have hbh : b < w0.heap.size := hbl
  generalize hw1 : w0.alloc (.cells (ints xs) 3) = w1 at *
  clear hw1
  generalize hh : w0.heap.size = h at *
  have HXL := hide (fun j => show (xs.take j).length ≤ xs.length by rw [List.length_take]; omega)
  generalize hM : xs.length = M at *
  have HM := hide hM
  clear hM hh hbl
  have HLIM := hide hlim
  clear hlim
  have HM63 : (M : Int) ≤ 9223372036854775807 := by have := HLIM.out; omega
  go_enter Tryd.func55, Tryd.ntmps55
  go_wp2
  go_loopw [7, 8, 11, 16] (fun _ _ i _ W => ∃ (j : Nat) (v : Value), j ≤ M ∧ i = .int .i64 j ∧ Hid (W.heap[b]? = some (.cells #[v] 70 (0, 0))) ∧ Hid (W.ownsRow (b + 1) 5 1 v (zs ++ (xs.take j).flatMap (be 2)).length (bytes1 (zs ++ (xs.take j).flatMap (be 2)))) ∧ Hid (v.ownBlock ≠ some h) ∧ Hid (∀ k, k < M → W.cell? ⟨h, k, none⟩ = some (.int .i64 (xs[k]?.getD 0))) ∧ Hid (Wrote b v0 w0 v W)) (fun _ _ i _ _ => M - (intOf i).toNat)
  case atStart => exact ⟨0, v0, by omega, rfl, HB0, by simpa using HO0, HN0, HC0, HL0⟩
  case round =>
    obtain ⟨j, v, hj, rfl, HB, HO, HNE, HC, HL⟩ := hrel
    by_cases hlt : j < M
    · have c1 := HC.out j hlt
      have HS := hide (show (xs.take (j + 1)).flatMap (be 2) = (xs.take j).flatMap (be 2) ++ be 2 (xs[j]?.getD 0) by
        have hl : j < xs.length := by rw [HM.out]; exact hlt
        rw [List.take_succ_eq_append_getElem hl, List.flatMap_append, List.getElem?_eq_getElem hl]; simp)
      have HPL := hide (show (zs ++ (xs.take j).flatMap (be 2)).length + 2 ≤ 1000000 by
        rw [List.length_append, flat_be_length _ (by decide)]
        have h1 : (xs.take j).length ≤ j := by rw [List.length_take]; omega
        have := HLIM.out
        omega)
      generalize hx : xs[j]?.getD 0 = x at *
      clear hx
      generalize hP : zs ++ (xs.take j).flatMap (be 2) = P at *
      have HP := hide hP
      clear hP
      go_wp2
      go_loopw [8, 16] (fun _ i W => ∃ (t : Nat) (v : Value), t ≤ 2 ∧ i = .int .i64 t ∧ Hid (W.heap[b]? = some (.cells #[v] 70 (0, 0))) ∧ Hid (W.ownsRow (b + 1) 5 1 v (P ++ (be 2 x).take t).length (bytes1 (P ++ (be 2 x).take t))) ∧ Hid (v.ownBlock ≠ some h) ∧ Hid (∀ k, k < M → W.cell? ⟨h, k, none⟩ = some (.int .i64 (xs[k]?.getD 0))) ∧ Hid (Wrote b v0 w0 v W)) (fun _ i _ => 2 - (intOf i).toNat)
      case atStart => exact ⟨0, v, by omega, rfl, HB, by simpa using HO, HNE, HC, HL⟩
      case round =>
        obtain ⟨t, v, ht, rfl, HB, HO, HNE, HC, HL⟩ := hrel
        rcases (by omega : t = 0 ∨ t = 1 ∨ t = 2) with rfl | rfl | rfl
        · have f1 := box_cell HB.out
          have f2 := box_free HB.out
          have HY := hide (show P ++ (be 2 x).take (0 + 1) = (P ++ (be 2 x).take 0) ++ [x / 256 % 256] by simp [be])
          have HQL := hide (show (P ++ (be 2 x).take 0).length ≤ 1000002 from lim_take HPL.out)
          have HVB := hide (show v.ownBlock ≠ some b from fun e => by have := (HO.out.lt b e).1; omega)
          have hbr := box_lt HB.out
          have r0 : IntKind.i64.wrap 0 = 0 := by rw [IntKind.wrap_i64]; decide
          have r1 : IntKind.i64.wrap 1 = 1 := by rw [IntKind.wrap_i64]; decide
          have r8 : IntKind.i64.wrap 8 = 8 := by rw [IntKind.wrap_i64]; decide
          have hw8 : IntKind.u8.wrap (x / 256) = x / 256 % 256 := wrapU8 _
          generalize hR : P ++ (be 2 x).take 0 = R at *
          clear hR
          obtain ⟨va, vcap, rfl⟩ := own_form HO.out
          generalize hn : R.length = n at *
          have HR := hide hn
          clear hn
          go_wp2
          go_region_law ((refine step_bytes _ (by rfl) _ _ (by rfl) (b + 1) (.slice va n vcap) n R (by rfl) ((HO.out.alloc _).drew) ⟨wr.heap.size, 0, none⟩ 1 1 [x / 256 % 256] (by rfl) (by rfl) (fun i hi => by cases i with | zero => simp [Addr.add] | succ i => omega) (by omega) (by have := HQL.out; omega) (by simp; omega) ?_; intro g2 cap2 w2 hown2 hgrow2 hb2; have hbx := box_grown (box_grown HB.out (grownBy_trans (World.grownBy_alloc _ _ none) (grownBy_draws _ 1 _)) (by simp)) hgrow2 HVB.out; have k1 := box_cell hbx; have k2 := box_free hbx; have HST := hide (laid_step (m := 1) (y := x / 256 % 256) ⟨HB.out, by rw [HR.out]; exact HO.out⟩ (by rw [HR.out]; exact hown2) hgrow2 hb2); have HKH := hide (hgrow2.size); clear hown2 hgrow2 hb2 hbx))
          all_goals
            go_wp2
            go_roundw
            case rel =>
              obtain ⟨u, ⟨u1, u2⟩, u3⟩ := HST.out
              rw [HR.out] at u1 u2 u3
              refine ⟨0 + 1, u, by omega, by go_num, u1, ?_, ?_, ?_, HL.out.trans u3⟩
              · rw [HY.out]
                exact u2
              · intro e
                rcases u3.own h e with e | e
                · exact HNE.out e
                · have hh : h < wr.heap.size := World.block_lt_of_cell? wr _ (HC.out 0 (by omega))
                  omega
              · intro k hk
                refine (World.cell?_of_block (a := ⟨h, k, none⟩) (u3.block h ?_ (by omega) HNE.out)).trans (HC.out k hk)
                exact World.block_lt_of_cell? wr _ (HC.out 0 (by omega))
            case measure => simp [intOf]
        · have f1 := box_cell HB.out
          have f2 := box_free HB.out
          have HY := hide (show P ++ (be 2 x).take (1 + 1) = (P ++ (be 2 x).take 1) ++ [x % 256] by simp [be])
          have HQL := hide (show (P ++ (be 2 x).take 1).length ≤ 1000002 from lim_take HPL.out)
          have HVB := hide (show v.ownBlock ≠ some b from fun e => by have := (HO.out.lt b e).1; omega)
          have hbr := box_lt HB.out
          have r0 : IntKind.i64.wrap 0 = 0 := by rw [IntKind.wrap_i64]; decide
          have r1 : IntKind.i64.wrap 1 = 1 := by rw [IntKind.wrap_i64]; decide
          have r8 : IntKind.i64.wrap 8 = 8 := by rw [IntKind.wrap_i64]; decide
          have hw8 : IntKind.u8.wrap (x) = x % 256 := wrapU8 _
          generalize hR : P ++ (be 2 x).take 1 = R at *
          clear hR
          obtain ⟨va, vcap, rfl⟩ := own_form HO.out
          generalize hn : R.length = n at *
          have HR := hide hn
          clear hn
          go_wp2
          go_region_law ((refine step_bytes _ (by rfl) _ _ (by rfl) (b + 1) (.slice va n vcap) n R (by rfl) ((HO.out.alloc _).drew) ⟨wr.heap.size, 0, none⟩ 1 1 [x % 256] (by rfl) (by rfl) (fun i hi => by cases i with | zero => simp [Addr.add] | succ i => omega) (by omega) (by have := HQL.out; omega) (by simp; omega) ?_; intro g2 cap2 w2 hown2 hgrow2 hb2; have hbx := box_grown (box_grown HB.out (grownBy_trans (World.grownBy_alloc _ _ none) (grownBy_draws _ 1 _)) (by simp)) hgrow2 HVB.out; have k1 := box_cell hbx; have k2 := box_free hbx; have HST := hide (laid_step (m := 1) (y := x % 256) ⟨HB.out, by rw [HR.out]; exact HO.out⟩ (by rw [HR.out]; exact hown2) hgrow2 hb2); have HKH := hide (hgrow2.size); clear hown2 hgrow2 hb2 hbx))
          all_goals
            go_wp2
            go_roundw
            case rel =>
              obtain ⟨u, ⟨u1, u2⟩, u3⟩ := HST.out
              rw [HR.out] at u1 u2 u3
              refine ⟨1 + 1, u, by omega, by go_num, u1, ?_, ?_, ?_, HL.out.trans u3⟩
              · rw [HY.out]
                exact u2
              · intro e
                rcases u3.own h e with e | e
                · exact HNE.out e
                · have hh : h < wr.heap.size := World.block_lt_of_cell? wr _ (HC.out 0 (by omega))
                  omega
              · intro k hk
                refine (World.cell?_of_block (a := ⟨h, k, none⟩) (u3.block h ?_ (by omega) HNE.out)).trans (HC.out k hk)
                exact World.block_lt_of_cell? wr _ (HC.out 0 (by omega))
            case measure => simp [intOf]
        · go_wp2
          go_roundw
          case rel =>
            refine ⟨j + 1, v, by omega, by go_num, HB, ?_, HNE, HC, HL⟩
            have h2 := HO.out
            rw [HS.out, ← List.append_assoc, HP.out, show be 2 x = (be 2 x).take 2 from (List.take_of_length_le (by rw [be_length _ (by decide)]; exact Nat.le_refl _)).symm]
            exact h2
          case measure => simp [intOf]; omega
    · go_wp2
      go_end0
      have e : j = M := by omega
      subst e
      rw [show xs.take j = xs by rw [← HM.out, List.take_length]] at HO
      exact ⟨rfl, v, ⟨HB.out, HO.out⟩, HL.out⟩


#print axioms numbers_2
end Go.Proofs.YtgaegggiehhcpaaDoor

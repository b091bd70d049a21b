/- The walk of the statement SupplyMore: a part that has more windows has not less; proved over the translation. -/
import Derived.Test.YtgocfgjdafkjlabDoorAw7
import Derived.Test.YtgocfgjdafkjlabDoorLOne
import Derived.Test.YtgocfgjdafkjlabDoorLLeast
import Derived.Test.YtgocfgjdafkjlabDoorCopy
namespace Go.Proofs.YtgocfgjdafkjlabDoor.P7
open Go.RowKit
attribute [local go_sem] alloc_drewN setCell_drewN

theorem cells_set (ws : List WinV) (j : Nat) (p : Int) (hj : j < ws.length) : (shW.cells ws).set (j * 3 + 2) (.int .i64 p) = shW.cells (setPart ws j p) := by
  unfold setPart
  induction ws generalizing j with
  | nil => simp at hj
  | cons x xs ih =>
    cases j with
    | zero => rfl
    | succ j =>
      have hw : winAt (x :: xs) (j + 1) = winAt xs j := rfl
      rw [hw, List.set_cons_succ, shW.cells_cons, shW.cells_cons, ← ih j (by simpa using hj)]
      rw [show (j + 1) * 3 + 2 = (shW.f x).length + (j * 3 + 2) by rw [shW.len]; show _ = 3 + _; omega]
      rw [List.set_append_right _ _ (Nat.le_add_right _ _), Nat.add_sub_cancel_left]
/-- A window's Part written in an owned row. -/
theorem own_setPart {W : World} {base g n cap : Nat} {ws : List WinV} (h : W.ownsRow base 36 3 (.slice (some ⟨g, 0, none⟩) n cap) n (shW.cells ws)) (hn : ws.length = n) (j : Nat) (p : Int) (hj : j < n) : (W.setCell ⟨g, j * 3 + 2, none⟩ (.int .i64 p)).ownsRow base 36 3 (.slice (some ⟨g, 0, none⟩) n cap) n (shW.cells (setPart ws j p)) := by
  have hlen : (shW.cells ws).length = n * 3 := by rw [shW.cells_length, hn]; rfl
  refine ⟨by rw [shW.cells_length, setPart_length, hn]; rfl, ?_⟩
  rcases h.2 with ⟨h1, _⟩ | ⟨g', cap', cur, h1, hb, hc, h2, h3, h4, h5⟩
  · cases h1
  · simp only [Value.slice.injEq, Option.some.injEq, Addr.mk.injEq] at h1
    obtain ⟨⟨rfl, -, -⟩, -, rfl⟩ := h1
    refine .inr ⟨g, cap, cur.setIfInBounds (j * 3 + 2) (.int .i64 p), rfl, hb, ?_, h2, h3, by simpa using h4, ?_⟩
    · exact blk_set2 hc rfl
    · rw [Array.toList_setIfInBounds, List.take_set, h5]
      exact cells_set ws j p (by omega)

set_option maxRecDepth 100000 in
set_option maxHeartbeats 4000000 in
theorem supplyMore_any {lo : Nat} (c : Value) (C : ConfV) (hbig : Big C) (p x2 x3 : Int) (w : World) (hT : Tab w) (hc : ConfAt lo w c C) :
    Calls Tryd.prog 4 #[c, .int .i64 p, .int .i64 x2, .int .i64 x3] w fun e w' => e = .returned (.bool true) ∧ w.grownBy w' none := by
  have NUM : Hid (∀ (e : Int) (W : World), Calls Tryd.prog 9 #[.int .i64 e] W fun r w' => r = .returned (.int .i64 e) ∧ W = w') := fun e W => (num_any e W).mono fun _ _ h => ⟨h.1, h.2.symm⟩
  have CA := hide (fun W (hg : w.grownBy W none) => awake_any W (hT.grown hg))
  have CL := hide (fun k W (hg : w.grownBy W none) => least_any c C p k W (hT.grown hg) (hc.grown hg))
  have CC := hide (fun W (hg : w.grownBy W none) => copy_any c C hbig W (hc.grown hg))
  have HT := hide hT
  obtain ⟨vp, vw, vo, rfl, ⟨qs, hlen, ⟨hl, pa, pc, rfl, -⟩, -⟩, ⟨hlw, wa, wc, rfl, -⟩, ⟨-, oa, oc, rfl, -⟩⟩ := hc
  clear hT
  obtain ⟨k, hk, hk2⟩ := and8 x2
  generalize hn1 : C.wins.length = n1 at *
  have HN1 := hide hn1
  clear hn1
  by_cases hok : leOK C p k = true
  · have hok2 := hok
    unfold leOK at hok2
    simp only [Bool.and_eq_true, decide_eq_true_eq] at hok2
    obtain ⟨hck, p0, p1, -, -⟩ := hok2
    clear hok
    have HFI := hide (fine_of hck)
    have f0 := HFI.out.f0
    have w1 := HFI.out.w1
    rw [HN1.out] at w1
    obtain ⟨P, rfl⟩ : ∃ P : Nat, p = P := ⟨p.toNat, by omega⟩
    obtain ⟨F, hF⟩ : ∃ F : Nat, (F : Int) = C.frame := ⟨C.frame.toNat, by omega⟩
    have HMORE := hide (fun j => set_more hck j P k F (by omega) hF (by omega))
    have HL1e := hide (le_in hck P F k (by omega) hF (by omega)).2
    clear HFI hck p1 hF f0 hlen
    generalize qs.length = N at *
    generalize C.ports.length = n2 at *
    have HSET : Hid (∀ (base : Nat) (V : World) (vp vo : Value) (g cap j : Nat), POwn base V vp C.parts → V.ownsRow base 36 3 (.slice (some ⟨g, 0, none⟩) n1 cap) n1 (shW.cells C.wins) → V.ownsRow base 53 4 vo C.ports.length (shO.cells C.ports) → j < n1 → ConfAt base (V.setCell ⟨g, j * 3 + 2, none⟩ (.int .i64 P)) (.agg #[.int .i64 C.frame, .int .i64 C.quiet, vp, .slice (some ⟨g, 0, none⟩) n1 cap, vo]) (setC C j P)) := by
      intro base V vp vo g cap j h1 h2 h3 hj
      have T := type_own h2
      have hg := grownBy_set V g (j * 3 + 2) (.int .i64 P)
      have h4 := own_setPart h2 HN1.out j P hj
      have e : n1 = (setPart C.wins j P).length := by rw [setPart_length]; exact HN1.out.symm
      refine ⟨_, _, _, rfl, (h1.type hg T (by decide) (by decide) (by decide)).at, ?_, rowAt_own (S := shO) (own_type h3 hg T (by decide))⟩
      refine rowAt_own (S := shW) (e := 36) ?_
      show World.ownsRow _ _ _ _ _ (setPart C.wins j P).length _
      rw [← e]
      exact h4
    generalize hwb : w.alloc (.cells #[.int .i64 C.frame, .int .i64 C.quiet, .slice pa N pc, .slice wa n1 wc, .slice oa n2 oc] 30) = wb
    have HG0 := hide (show w.grownBy wb none by rw [← hwb]; exact World.grownBy_alloc _ _ none)
    have KEEP : Hid (∀ V, wb.grownBy V none → V.cell? ⟨w.heap.size, 0, none⟩ = some (.int .i64 C.frame) ∧ V.cell? ⟨w.heap.size, 1, none⟩ = some (.int .i64 C.quiet) ∧ V.cell? ⟨w.heap.size, 2, none⟩ = some (.slice pa N pc) ∧ V.cell? ⟨w.heap.size, 3, none⟩ = some (.slice wa n1 wc) ∧ V.cell? ⟨w.heap.size, 4, none⟩ = some (.slice oa n2 oc)) := by
      intro V hV
      have b := fun k => World.cell?_of_block (a := ⟨w.heap.size, k, none⟩) (hV.block w.heap.size (by rw [← hwb]; simp) (by simp))
      exact ⟨(b 0).trans (by rw [← hwb]; simp), (b 1).trans (by rw [← hwb]; simp), (b 2).trans (by rw [← hwb]; simp), (b 3).trans (by rw [← hwb]; simp), (b 4).trans (by rw [← hwb]; simp)⟩
    go_enter Tryd.func4, Tryd.ntmps4
    go_wp2_with (first | fail)
    have HWB := hide hwb
    clear hwb
    refine (CA.out _ HG0.out).mono ?_; rintro e w1' ⟨rfl, hg⟩
    have G1 := hide hg
    clear hg CA
    obtain ⟨k0, k1, k2, k3, k4⟩ := KEEP.out w1' G1.out
    go_wp2_with (first | fail)
    refine (CL.out k _ (grownBy_trans HG0.out G1.out)).mono ?_; rintro e w2 ⟨rfl, hg⟩
    have G2 := hide (grownBy_trans G1.out hg)
    rw [HL1e.out]
    clear hg k0 k1 k2 k3 k4
    obtain ⟨k0, k1, k2, k3, k4⟩ := KEEP.out w2 G2.out
    generalize hA : leV C P k = A at *
    by_cases hn : n1 = 0
    · subst hn
      go_wp2_with (go_at_call 9; refine (NUM.out _ _).mono ?_; rintro e w' ⟨rfl, rfl⟩)
      go_ret
      exact ⟨rfl, grownBy_trans HG0.out G2.out⟩
    · have hnb : ((n1 : Int) == 0) = false := by simp; omega
      obtain ⟨j, hj, hj2⟩ := umod x3 (n1 : Int) (by omega)
      have HMJ := hide (HMORE.out j)
      have HSJ := hide (fun base V vp vo g cap h1 h2 h3 => HSET.out base V vp vo g cap j h1 h2 h3 (by omega))
      have HA := hide hA
      clear hA HMORE HSET
      go_upto_region 7 with (go_at_call 9; refine (NUM.out _ _).mono ?_; rintro e w' ⟨rfl, rfl⟩)
      go_wp2_with (first | fail)
      refine (CC.out _ (grownBy_trans HG0.out G2.out)).mono ?_; rintro e w3 ⟨c', rfl, ⟨vp, vw, vo, rfl, hp, hw, ho⟩, hg⟩
      have G3 := hide (grownBy_trans G2.out hg)
      rw [HN1.out] at hw
      obtain ⟨a5, c5, rfl⟩ := own_form hw
      obtain ⟨g, rfl, hgb, hgc, hgm⟩ := own_cap hw (by omega)
      have sp : ∃ a n c, vp = .slice a n c := by obtain ⟨qs', _, h, _⟩ := hp; obtain ⟨a, cap, rfl⟩ := own_form h; exact ⟨_, _, _, rfl⟩
      have so : ∃ a n c, vo = .slice a n c := by obtain ⟨a, cap, rfl⟩ := own_form ho; exact ⟨_, _, _, rfl⟩
      obtain ⟨pa', pn', pc', rfl⟩ := sp
      obtain ⟨oa', on', oc', rfl⟩ := so
      have HP3 := hide hp
      have HW3 := hide hw
      have HO3 := hide ho
      clear hg hp hw ho k0 k1 k2 k3 k4
      go_upto_region 8 with fail
      have A4 := hide (World.grownBy_alloc w3 (.cells #[.int .i64 C.frame, .int .i64 C.quiet, .slice pa' pn' pc', .slice (some ⟨g, 0, none⟩) n1 c5, .slice oa' on' oc'] 30) none)
      have HD := hide (heap_alloc_new w3 (.cells #[.int .i64 C.frame, .int .i64 C.quiet, .slice pa' pn' pc', .slice (some ⟨g, 0, none⟩) n1 c5, .slice oa' on' oc'] 30))
      generalize w3.alloc (.cells #[.int .i64 C.frame, .int .i64 C.quiet, .slice pa' pn' pc', .slice (some ⟨g, 0, none⟩) n1 c5, .slice oa' on' oc'] 30) = w4 at *
      generalize w3.heap.size = D at *
      have HP4 := hide (HP3.out.grown A4.out)
      have HW4 := hide (own_kept HW3.out A4.out)
      have HO4 := hide (own_kept HO3.out A4.out)
      have G4 := hide (grownBy_trans HG0.out (grownBy_trans G3.out A4.out))
      have hg0 : w.heap.size ≤ g := by have := G2.out.size; have := HG0.out.size; omega
      have HCELL : Hid (w4.cell? ⟨g, j * 3 + 2, none⟩ = some (.int .i64 (winAt C.wins j).part)) := by
        have h := HW4.out.cells (g := g) rfl _ _ (shW.cells_get C.wins j _ (winAt_mem (by rw [HN1.out]; omega)) 2 _ rfl)
        rw [Go.WideShapes.add_plain, Nat.zero_add] at h
        exact h
      have HFREE : Hid (w4.frozen? ⟨g, j * 3 + 2, none⟩ = false) := by
        rcases HW4.out.2 with ⟨h1, _⟩ | ⟨g', cap', cur, h1, hb, hc, _⟩
        · cases h1
        · simp only [Value.slice.injEq, Option.some.injEq, Addr.mk.injEq] at h1
          obtain ⟨⟨rfl, -, -⟩, -⟩ := h1
          exact blk_free hc _
      have T4 := hide (type_own HW4.out)
      have HC5 := hide (HSJ.out _ w4 _ _ g c5 HP4.out HW4.out HO4.out)
      have HD5 := hide (box_type HD.out (grownBy_set w4 g (j * 3 + 2) (.int .i64 P)) T4.out (by decide))
      have G5 := hide (grown_spoil G4.out hg0 (grownBy_set w4 g (j * 3 + 2) (.int .i64 P)))
      clear HP3 HW3 HO3 HP4 HW4 HO4 A4 HSJ T4
      have d3 : w4.cell? ⟨D, 3, none⟩ = some (.slice (some ⟨g, 0, none⟩) n1 c5) := blk_cell HD.out 3
      have c2 := HCELL.out
      have cf2 := HFREE.out
      have CL2 := hide (fun W (hg : (w4.setCell ⟨g, j * 3 + 2, none⟩ (.int .i64 P)).grownBy W none) => least_any _ (setC C j P) P k W (HT.out.grown (grownBy_trans G5.out hg)) (HC5.out.grown hg))
      have HMA := HMJ.out
      obtain ⟨mA, mE⟩ := HMA
      have hne : (n1 : Int) ≠ 0 := by omega
      have hjn : j < n1 := by omega
      generalize (winAt C.wins j).part = xp at *
      go_region
      all_goals
        generalize hw6 : (w4.setCell ⟨g, j * 3 + 2, none⟩ (.int .i64 P)) = w5 at *
        clear hw6
        have e0 : w5.cell? ⟨D, 0, none⟩ = some (.int .i64 C.frame) := blk_cell HD5.out 0
        have e1 : w5.cell? ⟨D, 1, none⟩ = some (.int .i64 C.quiet) := blk_cell HD5.out 1
        have e2 : w5.cell? ⟨D, 2, none⟩ = some (.slice pa' pn' pc') := blk_cell HD5.out 2
        have e3 : w5.cell? ⟨D, 3, none⟩ = some (.slice (some ⟨g, 0, none⟩) n1 c5) := blk_cell HD5.out 3
        have e4 : w5.cell? ⟨D, 4, none⟩ = some (.slice oa' on' oc') := blk_cell HD5.out 4
        go_wp2_with (go_at_call 7; refine (CL2.out _ (grownBy_draws _ 1 none)).mono ?_; rintro e w7 ⟨rfl, hg⟩; have G7 := hide (grownBy_trans G5.out (grownBy_trans (grownBy_draws w5 1 none) hg)); clear hg; rw [mE])
        generalize leV (setC C j P) P k = bv at *
        go_wp2_with (go_at_call 9; refine (NUM.out _ _).mono ?_; rintro e w' ⟨rfl, rfl⟩)
        go_ret
        exact ⟨rfl, G7.out⟩
  · have L1e : leE C p k = 700 := by unfold leE; rw [if_neg hok]
    have HL1e := hide L1e
    clear L1e hok hlen
    generalize leV C = lV at *
    generalize leE C = lE at *
    generalize C.quiet = qt at *
    generalize C.ports.length = n2 at *
    generalize qs.length = N at *
    generalize C.frame = fr at *
    generalize hwb : w.alloc (.cells #[.int .i64 fr, .int .i64 qt, .slice pa N pc, .slice wa n1 wc, .slice oa n2 oc] 30) = wb
    have HG0 := hide (show w.grownBy wb none by rw [← hwb]; exact World.grownBy_alloc _ _ none)
    have KEEP : Hid (∀ V, wb.grownBy V none → V.cell? ⟨w.heap.size, 0, none⟩ = some (.int .i64 fr) ∧ V.cell? ⟨w.heap.size, 1, none⟩ = some (.int .i64 qt) ∧ V.cell? ⟨w.heap.size, 2, none⟩ = some (.slice pa N pc) ∧ V.cell? ⟨w.heap.size, 3, none⟩ = some (.slice wa n1 wc) ∧ V.cell? ⟨w.heap.size, 4, none⟩ = some (.slice oa n2 oc)) := by
      intro V hV
      have b := fun k => World.cell?_of_block (a := ⟨w.heap.size, k, none⟩) (hV.block w.heap.size (by rw [← hwb]; simp) (by simp))
      exact ⟨(b 0).trans (by rw [← hwb]; simp), (b 1).trans (by rw [← hwb]; simp), (b 2).trans (by rw [← hwb]; simp), (b 3).trans (by rw [← hwb]; simp), (b 4).trans (by rw [← hwb]; simp)⟩
    go_enter Tryd.func4, Tryd.ntmps4
    go_wp2_with (first | fail)
    have HWB := hide hwb
    clear hwb
    refine (CA.out _ HG0.out).mono ?_; rintro e w1 ⟨rfl, hg⟩
    have G1 := hide hg
    clear hg CA
    obtain ⟨k0, k1, k2, k3, k4⟩ := KEEP.out w1 G1.out
    go_wp2_with (first | fail)
    refine (CL.out k _ (grownBy_trans HG0.out G1.out)).mono ?_; rintro e w2 ⟨rfl, hg⟩
    have G2 := hide (grownBy_trans G1.out hg)
    rw [HL1e.out]
    clear hg k0 k1 k2 k3 k4
    generalize lV p k = lvv at *
    go_wp2_with (go_at_call 9; refine (NUM.out _ _).mono ?_; rintro e w' ⟨rfl, rfl⟩)
    go_ret
    exact ⟨rfl, grownBy_trans HG0.out G2.out⟩
#print axioms supplyMore_any
end Go.Proofs.YtgocfgjdafkjlabDoor.P7

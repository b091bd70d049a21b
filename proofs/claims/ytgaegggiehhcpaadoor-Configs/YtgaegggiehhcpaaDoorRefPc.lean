/- The contract of the document's own PutCode of a program that may be, proved over the translation. -/
import Derived.Test.YtgaegggiehhcpaaDoorLay
import Derived.Test.YtgaegggiehhcpaaDoorRefMay
import Derived.Test.YtgaegggiehhcpaaDoorRefBe
namespace Go.Proofs.YtgaegggiehhcpaaDoor.R5
open Go.RowKit
attribute [local go_sem] alloc_drewN setCell_drewN
attribute [local go_sem ↓] Go.wp_at_zero Go.wp_at_succ

def flatI (zs : List Ins) : List Int := zs.flatMap layIns
theorem flatI_length (zs : List Ins) : (flatI zs).length = 2 * zs.length := by
  induction zs with
  | nil => rfl
  | cons x xs ih => unfold flatI at ih ⊢; rw [List.flatMap_cons, List.length_append, ih]; simp [layIns, be]; omega
theorem flatI_step (zs : List Ins) (j : Nat) (h : j < zs.length) : flatI (zs.take (j + 1)) = flatI (zs.take j) ++ [(zs[j]?.getD (0, 0)).1 % 256, (zs[j]?.getD (0, 0)).2 % 256] := by
  unfold flatI
  rw [List.take_add_one, List.getElem?_eq_getElem h, List.flatMap_append]
  rfl

set_option maxRecDepth 100000 in
set_option maxHeartbeats 2000000 in
theorem putCode_ref (v : Value) (zs : List Ins) (hm : codeMay zs = true) (hz : zs.length ≤ 9223372036854775807) (w : World) (hv : PReads w v zs) :
    Calls Tryd.prog 32 #[v] w fun e w' => e = .returned (.tuple #[.string (strOfNums (flatI zs)), .int .i64 0]) ∧ w.grownBy w' none := by
  have C := hide (R6.codeMay_ref v zs hz w hv)
  rw [hm] at C
  have hN : zs.length ≤ 64 := by
    unfold codeMay at hm
    simp only [Bool.and_eq_true, decide_eq_true_eq] at hm
    omega
  have HV := hide (fun W => hv.grown (W := W))
  clear hm
  obtain ⟨va, vcap, rfl, -⟩ := hv
  generalize hl : zs.length = N at *
  have HN := hide hl
  clear hl
  go_enter Tryd.func32, Tryd.ntmps32
  go_wp2_with (first | fail)
  refine C.out.mono ?_; rintro e w2 ⟨rfl, hg⟩
  have HG := hide hg
  clear hg C
  go_wp2
  go_loopw [4, 5] (fun u i W => ∃ (j cap' : Nat) (a' : Option Addr), j ≤ N ∧ i = .int .i64 j ∧ u = .slice a' (2 * j) cap' ∧ Hid (w2.grownBy W none) ∧ Hid (W.ownsRow w2.heap.size 5 1 u (2 * j) (bytes1 (flatI (zs.take j))))) (fun _ i _ => N - (intOf i).toNat)
  case atStart => exact ⟨0, 0, none, by omega, rfl, rfl, grownBy_refl _ _, rfl, .inl ⟨rfl, rfl⟩⟩
  case round =>
    obtain ⟨j, cap', a', hj, rfl, rfl, HG2, HO⟩ := hrel
    by_cases hlt : j < N
    · obtain ⟨va', vcap', e, hc⟩ := HV.out wr (grownBy_trans HG.out HG2.out)
      simp only [Value.slice.injEq] at e
      obtain ⟨rfl, -, rfl⟩ := e
      obtain ⟨g, o, rfl, hc2⟩ := hc (by rw [HN.out]; omega)
      obtain ⟨c1, c2⟩ := hc2 j (by rw [HN.out]; omega)
      have HS := hide (flatI_step zs j (by rw [HN.out]; omega))
      have KEEP : ∀ W ob m, ((wr.alloc ob).drewN m).grownBy W (Value.slice a' (2 * j) cap').ownBlock → W.cell? ⟨g, o + j * 2, none⟩ = some (.int .i64 (zs[j]?.getD (0, 0)).1) ∧ W.cell? ⟨g, o + j * 2 + 1, none⟩ = some (.int .i64 (zs[j]?.getD (0, 0)).2) := by
        intro W ob m hgW
        have h3 := HV.out W (grownBy_trans HG.out (grown_append HG2.out (fun g hg => (HO.out.lt g hg).1) hgW))
        obtain ⟨va2, vcap2, e2, hc3⟩ := h3
        simp only [Value.slice.injEq] at e2
        obtain ⟨rfl, -, rfl⟩ := e2
        obtain ⟨g2, o2, h, hc4⟩ := hc3 (by rw [HN.out]; omega)
        cases h
        exact hc4 j (by rw [HN.out]; omega)
      have HK := hide KEEP
      clear hc hc2 KEEP
      generalize (zs[j]?.getD (0, 0)).1 = x at *
      generalize (zs[j]?.getD (0, 0)).2 = y at *
      have hwx : IntKind.u8.wrap x = x % 256 := by rw [IntKind.wrap_u8]
      have hwy : IntKind.u8.wrap y = y % 256 := by rw [IntKind.wrap_u8]
      go_wp2
      go_region_held3 (fun W => W.cell? ⟨g, o + j * 2, none⟩ = some (.int .i64 x) ∧ W.cell? ⟨g, o + j * 2 + 1, none⟩ = some (.int .i64 y)) (first | go_keep | exact HK.out _ _ 1 hgrow3)
        ((refine step_bytes _ (by rfl) _ _ (by rfl) w2.heap.size (.slice a' (2 * j) cap') (2 * j) (flatI (zs.take j)) (by rfl) ((HO.out.alloc _).drew) ⟨wr.heap.size, 0, none⟩ 2 2 [x % 256, y % 256] (by rfl) (by rfl) (fun i hi => by match i, hi with | 0, _ => simp [Addr.add] | 1, _ => simp [Addr.add]) (by omega) (by omega) (by have := HG2.out.size; simp; omega) ?_; intro g3 cap3 w3 hown3 hgrow3 _))
      all_goals
        have HO3 := hide hown3
        have HG3 := hide (grown_append (m := 1) HG2.out (fun g hg => (HO.out.lt g hg).1) hgrow3)
        clear hown3 hgrow3
        go_wp2
        go_roundw
        case rel =>
          refine ⟨j + 1, cap3, _, by omega, by go_num, rfl, HG3, ?_⟩
          have h := HO3.out
          rw [← HS.out] at h
          exact h
        case measure => simp [intOf]; omega
    · have e : j = N := by omega
      subst e
      have hcv := conv_own HO.out
      rw [show zs.take j = zs by rw [← HN.out, List.take_length]] at hcv
      go_wp2
      go_ret2
      exact ⟨rfl, grownBy_trans HG.out HG2.out⟩
#print axioms putCode_ref
end Go.Proofs.YtgaegggiehhcpaaDoor.R5

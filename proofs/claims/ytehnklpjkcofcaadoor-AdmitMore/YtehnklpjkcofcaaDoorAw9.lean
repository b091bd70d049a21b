/- The walk of the statements' own awake (of the layer of admission), proved over the translation. -/
import Derived.Test.YtehnklpjkcofcaaDoorPlain9
import Derived.Test.YtehnklpjkcofcaaDoorAdmD
namespace Go.Proofs.YtehnklpjkcofcaaDoor.P9
open Go.RowKit R6
attribute [local go_sem] alloc_drewN setCell_drewN

def czero : ConfV := ⟨0, 0, [], [], []⟩
theorem zero_at (W : World) : ConfAt 0 W (.agg #[.int .i64 0, .int .i64 0, .slice none 0 0, .slice none 0 0, .slice none 0 0]) czero := ⟨_, _, _, rfl, ⟨[], rfl, rowAt_nil _ _ _ _, fun i q p h => by simp at h⟩, rowAt_nil _ _ _ _, rowAt_nil _ _ _ _⟩
def plainOf (d : Int) (ws : List WinV) : ConfV := ⟨10, 2, [⟨1, [⟨0, 10, d, 2, 4, 1⟩], [(1, 7), (9, 0)]⟩, ⟨0, [pt1], []⟩], ws, [po0]⟩
theorem plain_eq : plainC = plainOf 10 [px0, px1] := rfl
theorem pv0 : reV plainC 0 0 = 9 := by kernel_rfl
theorem pe0 : reE plainC 0 0 = 0 := by kernel_rfl
theorem pe1 : reE plainC 1 0 = 900 := by kernel_rfl
theorem pad : adN plainC = 0 := by kernel_rfl
theorem plate : adN (plainOf 8 [px0, px1]) = 901 := by kernel_rfl
theorem plow : adN (plainOf 10 [px0]) = 902 := by kernel_rfl
theorem pzero : adN czero = 501 := by kernel_rfl
theorem RowAt.take {α : Type} {S : Shape α} {lo n c : Nat} {W : World} {a : Option Addr} {xs : List α} (h : RowAt S lo W (.slice a n c) xs) (m : Nat) (hm : m ≤ xs.length) : RowAt S lo W (.slice a m c) (xs.take m) := by
  obtain ⟨hl, a2, c2, e, hc⟩ := h
  simp only [Value.slice.injEq] at e
  obtain ⟨rfl, rfl, rfl⟩ := e
  refine ⟨by rw [List.length_take]; omega, a, c, by rw [List.length_take, Nat.min_eq_left hm], fun h0 => ?_⟩
  rw [List.length_take] at h0
  obtain ⟨g, o, rfl, hlo, hc2⟩ := hc (by omega)
  refine ⟨g, o, rfl, ⟨hlo.1, by rw [List.length_take]; omega⟩, fun i x hx j u hu => ?_⟩
  rw [List.getElem?_take] at hx
  split at hx
  · exact hc2 i x hx j u hu
  · cases hx
theorem grown_set_new {w W : World} {R j : Nat} {r : Option Nat} {u : Value} (hR : w.heap.size ≤ R) (h : w.grownBy W r) : w.grownBy (W.setCell ⟨R, j, none⟩ u) r :=
  ⟨h.os, h.tape, h.output, by simpa [World.setCell] using h.size, fun k hk hn => (Below.heap_setCell _ _ _ _ (by simp; omega)).trans (h.block k hk hn)⟩

/-- A write ahead of Plain's memory. -/
theorem Mem.off {W : World} {n : Nat} {l0 l1 : Int} {t0 t1 : TaskV} {i0 i1 : Ins} {x0 x1 : WinV} {o0 : PortV} (h : Mem W n l0 l1 t0 t1 i0 i1 x0 x1 o0) (b j : Nat) (u : Value) (hb : b < n) : Mem (W.setCell ⟨b, j, none⟩ u) n l0 l1 t0 t1 i0 i1 x0 x1 o0 := h.kept fun k _ hk => (grownBy_set W b j u).block k (by have := h.lt; omega) (by simp; omega)

set_option maxRecDepth 100000 in
set_option maxHeartbeats 4000000 in
theorem awake_any (w : World) (hT : Tab w) :
    Calls Tryd.prog 16 #[] w fun e w' => e = .returned (.bool true) ∧ w.grownBy w' none := by
  have HT := hide hT
  clear hT
  have NUM : Hid (∀ (e : Int) (W : World), Calls Tryd.prog 13 #[.int .i64 e] W fun r w' => r = .returned (.int .i64 e) ∧ W = w') := fun e W => (num_any e W).mono fun _ _ h => ⟨h.1, h.2.symm⟩
  go_enter Tryd.func16, Tryd.ntmps16
  go_wp2_with (first | fail)
  refine (plain_any w).mono ?_; rintro e w1 ⟨n, hn, rfl, hm, hg⟩
  have M1 := hide hm
  have G1 := hide hg
  have hn2 := hm.lt
  have HN := hide (show w.heap.size ≤ n by omega)
  clear hm hg
  go_upto_region 2 with fail
  have A2 := hide (World.grownBy_alloc w1 (.cells #[.int .i64 10, .int .i64 2, .slice (some ⟨n + 3, 0, none⟩) 2 2, .slice (some ⟨n + 4, 0, none⟩) 2 2, .slice (some ⟨n + 5, 0, none⟩) 1 1] 26) none)
  have B2 := hide (heap_alloc_new w1 (.cells #[.int .i64 10, .int .i64 2, .slice (some ⟨n + 3, 0, none⟩) 2 2, .slice (some ⟨n + 4, 0, none⟩) 2 2, .slice (some ⟨n + 5, 0, none⟩) 1 1] 26))
  have HD := hide (show w.heap.size ≤ w1.heap.size from G1.out.size)
  generalize hw2 : w1.alloc (.cells #[.int .i64 10, .int .i64 2, .slice (some ⟨n + 3, 0, none⟩) 2 2, .slice (some ⟨n + 4, 0, none⟩) 2 2, .slice (some ⟨n + 5, 0, none⟩) 1 1] 26) = w2 at *
  clear hw2
  have M2 := hide (M1.out.grown A2.out)
  have G2 := hide (grownBy_trans G1.out A2.out)
  generalize w1.heap.size = D at *
  clear A2 M1
  have KEEP : Hid (∀ V, w2.grownBy V none → V.cell? ⟨D, 0, none⟩ = some (.int .i64 10) ∧ V.cell? ⟨D, 1, none⟩ = some (.int .i64 2) ∧ V.cell? ⟨D, 2, none⟩ = some (.slice (some ⟨n + 3, 0, none⟩) 2 2) ∧ V.cell? ⟨D, 3, none⟩ = some (.slice (some ⟨n + 4, 0, none⟩) 2 2) ∧ V.cell? ⟨D, 4, none⟩ = some (.slice (some ⟨n + 5, 0, none⟩) 1 1)) := fun V hV => by
    have b := box_grown B2.out hV (by simp)
    exact ⟨blk_cell b 0, blk_cell b 1, blk_cell b 2, blk_cell b 3, blk_cell b 4⟩
  have CF : Hid (∀ V, w2.grownBy V none → ConfAt n V (.agg #[.int .i64 10, .int .i64 2, .slice (some ⟨n + 3, 0, none⟩) 2 2, .slice (some ⟨n + 4, 0, none⟩) 2 2, .slice (some ⟨n + 5, 0, none⟩) 1 1]) plainC) := fun V hV => (M2.out.conf 10 2).grown hV
  have TB : Hid (∀ V, w2.grownBy V none → Tab V) := fun V hV => HT.out.grown (grownBy_trans G2.out hV)
  have I2 := hide (grownBy_refl w2 none)
  obtain ⟨k0, k1, k2, k3, k4⟩ := KEEP.out _ I2.out
  go_wp2_with (first | fail)
  refine (resp_any _ plainC 0 0 _ (TB.out _ I2.out) (CF.out _ I2.out)).mono ?_; rintro e w3 ⟨rfl, hg⟩
  rw [pv0, pe0]
  have I3 := hide (grownBy_trans I2.out hg)
  clear hg k0 k1 k2 k3 k4
  obtain ⟨k0, k1, k2, k3, k4⟩ := KEEP.out _ I3.out
  go_wp2_with (first | fail)
  refine (admit_any _ plainC _ (TB.out _ I3.out) (CF.out _ I3.out)).mono ?_; rintro e w4 ⟨rfl, hg⟩
  rw [pad]
  have I4 := hide (grownBy_trans I3.out hg)
  clear hg k0 k1 k2 k3 k4
  obtain ⟨k0, k1, k2, k3, k4⟩ := KEEP.out _ I4.out
  go_wp2_with (first | fail)
  refine (resp_any _ plainC 1 0 _ (TB.out _ I4.out) (CF.out _ I4.out)).mono ?_; rintro e w5 ⟨rfl, hg⟩
  rw [pe1]
  have I5 := hide (grownBy_trans I4.out hg)
  clear hg k0 k1 k2 k3 k4
  have M5 := hide (M2.out.grown I5.out)
  have B5 := hide (box_grown B2.out I5.out (by simp))
  have G5 := hide (grownBy_trans G2.out I5.out)
  clear KEEP CF TB M2 B2 I2 I3 I4 I5
  have k2 : w5.cell? ⟨D, 2, none⟩ = some (.slice (some ⟨n + 3, 0, none⟩) 2 2) := blk_cell B5.out 2
  have p1 : w5.cell? ⟨n + 3, 1, none⟩ = some (.slice (some ⟨n, 0, none⟩) 1 1) := blk_cell M5.out.bp 1
  have t2 : w5.cell? ⟨n, 2, none⟩ = some (.int .i64 10) := blk_cell M5.out.bt0 2
  have fz : w5.frozen? ⟨n, 2, none⟩ = false := blk_free' M5.out.bt0 2
  have M6 := hide (M5.out.sett0 2 (.int .i64 8) ⟨0, 10, 8, 2, 4, 1⟩ rfl)
  have G6 := hide (grown_set_new (j := 2) (u := .int .i64 8) (R := n) HN.out G5.out)
  have B6 := hide (blk_other (j := 2) (u := .int .i64 8) (b := n) B5.out (by omega))
  go_upto_region 6 with fail
  generalize w5.setCell ⟨n, 2, none⟩ (.int .i64 8) = w6 at *
  clear k2 p1 t2 fz M5 B5 G5
  have k0 : w6.cell? ⟨D, 0, none⟩ = some (.int .i64 10) := blk_cell B6.out 0
  have k1 : w6.cell? ⟨D, 1, none⟩ = some (.int .i64 2) := blk_cell B6.out 1
  have k2 : w6.cell? ⟨D, 2, none⟩ = some (.slice (some ⟨n + 3, 0, none⟩) 2 2) := blk_cell B6.out 2
  have k3 : w6.cell? ⟨D, 3, none⟩ = some (.slice (some ⟨n + 4, 0, none⟩) 2 2) := blk_cell B6.out 3
  have k4 : w6.cell? ⟨D, 4, none⟩ = some (.slice (some ⟨n + 5, 0, none⟩) 1 1) := blk_cell B6.out 4
  go_wp2_with (first | fail)
  refine (admit_any _ (plainOf 8 [px0, px1]) _ (HT.out.grown G6.out) (M6.out.conf 10 2)).mono ?_; rintro e w7 ⟨rfl, hg⟩
  rw [plate]
  have G7 := hide (grownBy_trans G6.out hg)
  have B7 := hide (box_grown B6.out hg (by simp))
  clear hg k0 k1 k2 k3 k4 M6 B6 G6
  go_wp2_with (first | fail)
  refine (plain_any w7).mono ?_; rintro e w8 ⟨m, hm0, rfl, hm, hg⟩
  have M8 := hide hm
  have G8 := hide (grownBy_trans G7.out hg)
  have B8 := hide (box_grown B7.out hg (by simp))
  have hm2 := hm.lt
  have hDm : D < m := by have := box_lt B7.out; omega
  clear hm hg B7 G7
  have k0 : w8.cell? ⟨D, 0, none⟩ = some (.int .i64 10) := blk_cell B8.out 0
  have k1 : w8.cell? ⟨D, 1, none⟩ = some (.int .i64 2) := blk_cell B8.out 1
  have k2 : w8.cell? ⟨D, 2, none⟩ = some (.slice (some ⟨n + 3, 0, none⟩) 2 2) := blk_cell B8.out 2
  have k3 : w8.cell? ⟨D, 3, none⟩ = some (.slice (some ⟨n + 4, 0, none⟩) 2 2) := blk_cell B8.out 3
  have k4 : w8.cell? ⟨D, 4, none⟩ = some (.slice (some ⟨n + 5, 0, none⟩) 1 1) := blk_cell B8.out 4
  have z0 : w8.frozen? ⟨D, 0, none⟩ = false := blk_free' B8.out 0
  have z1 : w8.frozen? ⟨D, 1, none⟩ = false := blk_free' B8.out 1
  have z2 : w8.frozen? ⟨D, 2, none⟩ = false := blk_free' B8.out 2
  have z3 : w8.frozen? ⟨D, 3, none⟩ = false := blk_free' B8.out 3
  have z4 : w8.frozen? ⟨D, 4, none⟩ = false := blk_free' B8.out 4
  go_upto_region 8 with fail
  have B9 := hide (blk_set (j := 4) (u := .slice (some ⟨m + 5, 0, none⟩) 1 1) (blk_set (j := 3) (u := .slice (some ⟨m + 4, 0, none⟩) 2 2) (blk_set (j := 2) (u := .slice (some ⟨m + 3, 0, none⟩) 2 2) (blk_set (j := 1) (u := .int .i64 2) (blk_set (j := 0) (u := .int .i64 10) B8.out rfl) rfl) rfl) rfl) rfl)
  have G9 := hide (grown_set_new (j := 4) (u := .slice (some ⟨m + 5, 0, none⟩) 1 1) HD.out (grown_set_new (j := 3) (u := .slice (some ⟨m + 4, 0, none⟩) 2 2) HD.out (grown_set_new (j := 2) (u := .slice (some ⟨m + 3, 0, none⟩) 2 2) HD.out (grown_set_new (j := 1) (u := .int .i64 2) HD.out (grown_set_new (j := 0) (u := .int .i64 10) HD.out G8.out)))))
  have M9 := hide ((((((M8.out.off D 0 (.int .i64 10) hDm).off D 1 (.int .i64 2) hDm).off D 2 (.slice (some ⟨m + 3, 0, none⟩) 2 2) hDm).off D 3 (.slice (some ⟨m + 4, 0, none⟩) 2 2) hDm).off D 4 (.slice (some ⟨m + 5, 0, none⟩) 1 1) hDm))
  generalize ((((w8.setCell ⟨D, 0, none⟩ (.int .i64 10)).setCell ⟨D, 1, none⟩ (.int .i64 2)).setCell ⟨D, 2, none⟩ (.slice (some ⟨m + 3, 0, none⟩) 2 2)).setCell ⟨D, 3, none⟩ (.slice (some ⟨m + 4, 0, none⟩) 2 2)).setCell ⟨D, 4, none⟩ (.slice (some ⟨m + 5, 0, none⟩) 1 1) = w9 at *
  clear k0 k1 k2 k3 k4 z0 z1 z2 z3 z4 B8 G8 M8
  have k3 : w9.cell? ⟨D, 3, none⟩ = some (.slice (some ⟨m + 4, 0, none⟩) 2 2) := blk_cell B9.out 3
  have z3 : w9.frozen? ⟨D, 3, none⟩ = false := blk_free' B9.out 3
  go_upto_region 9 with fail
  have B10 := hide (blk_set (j := 3) (u := .slice (some ⟨m + 4, 0, none⟩) 1 2) B9.out rfl)
  have G10 := hide (grown_set_new (j := 3) (u := .slice (some ⟨m + 4, 0, none⟩) 1 2) HD.out G9.out)
  have M10 := hide (M9.out.off D 3 (.slice (some ⟨m + 4, 0, none⟩) 1 2) hDm)
  generalize w9.setCell ⟨D, 3, none⟩ (.slice (some ⟨m + 4, 0, none⟩) 1 2) = w10 at *
  clear k3 z3 B9 G9 M9
  have CF10 : Hid (ConfAt m w10 (.agg #[.int .i64 10, .int .i64 2, .slice (some ⟨m + 3, 0, none⟩) 2 2, .slice (some ⟨m + 4, 0, none⟩) 1 2, .slice (some ⟨m + 5, 0, none⟩) 1 1]) (plainOf 10 [px0])) := by
    obtain ⟨vp, vw, vo, e, h1, h2, h3⟩ := M10.out.conf 10 2
    simp only [Value.agg.injEq, Array.mk.injEq, List.cons.injEq, and_true, true_and] at e
    obtain ⟨rfl, rfl, rfl⟩ := e
    exact ⟨_, _, _, rfl, h1, RowAt.take h2 1 (by simp), h3⟩
  have k0 : w10.cell? ⟨D, 0, none⟩ = some (.int .i64 10) := blk_cell B10.out 0
  have k1 : w10.cell? ⟨D, 1, none⟩ = some (.int .i64 2) := blk_cell B10.out 1
  have k2 : w10.cell? ⟨D, 2, none⟩ = some (.slice (some ⟨m + 3, 0, none⟩) 2 2) := blk_cell B10.out 2
  have k3 : w10.cell? ⟨D, 3, none⟩ = some (.slice (some ⟨m + 4, 0, none⟩) 1 2) := blk_cell B10.out 3
  have k4 : w10.cell? ⟨D, 4, none⟩ = some (.slice (some ⟨m + 5, 0, none⟩) 1 1) := blk_cell B10.out 4
  go_wp2_with (first | fail)
  refine (admit_any _ (plainOf 10 [px0]) _ (HT.out.grown G10.out) CF10.out).mono ?_; rintro e w11 ⟨rfl, hg⟩
  rw [plow]
  have G11 := hide (grownBy_trans G10.out hg)
  clear hg k0 k1 k2 k3 k4 CF10 M10 B10 G10
  go_wp2_with (first | fail)
  refine (admit_any _ czero _ (HT.out.grown G11.out) (zero_at _)).mono ?_; rintro e w12 ⟨rfl, hg⟩
  rw [pzero]
  have G12 := hide (grownBy_trans G11.out hg)
  clear hg
  go_wp2_with (go_at_call 13; refine (NUM.out _ _).mono ?_; rintro e w' ⟨rfl, rfl⟩)
  go_ret
  exact ⟨rfl, G12.out⟩
#print axioms awake_any
end Go.Proofs.YtehnklpjkcofcaaDoor.P9

/- The walk of the statement ConfigFirst, bits 32, 16 and 8 being 1, 1, 1; proved over the translation. -/
import Derived.Test.YtgaegggiehhcpaaDoorLawF1
namespace Go.Proofs.YtgaegggiehhcpaaDoor
open Go.RowKit
attribute [local go_sem] alloc_drewN setCell_drewN

set_option maxRecDepth 100000 in
set_option maxHeartbeats 8000000 in
theorem first_111 (a : Int) (h32 : bits .and .i64 a 32 = 32) (h16 : bits .and .i64 a 16 = 16) (h8 : bits .and .i64 a 8 = 8) (w : World) (hT : Tab w) :
    Calls Tryd.prog 6 #[.int .i64 a] w fun e w' => e = .returned (.bool true) ∧ w.grownBy w' none := by
  have HT := hide hT
  have CA := hide (awake_any w hT)
  clear hT
  go_enter Tryd.func6, Tryd.ntmps6
  go_wp2_with (first | fail)
  refine CA.out.mono ?_; rintro e w1 ⟨rfl, hg⟩
  have G1 := hide hg
  clear hg CA
  go_wp2_with (first | fail)
  refine (plain_any w1).mono ?_; rintro e w2 ⟨n, hn, rfl, hm, hg⟩
  have M2 := hide hm
  have G2 := hide (grownBy_trans G1.out hg)
  have hn2 := hm.lt
  have HN := hide (show w.heap.size ≤ n by have := G1.out.size; omega)
  clear hm hg
  go_upto_region 4 with fail
  have A3 := hide (World.grownBy_alloc w2 (.cells #[.int .i64 10, .int .i64 2, .slice (some ⟨n + 3, 0, none⟩) 2 2, .slice (some ⟨n + 4, 0, none⟩) 2 2, .slice (some ⟨n + 5, 0, none⟩) 1 1] 26) none)
  have B3' := hide (heap_alloc_new w2 (.cells #[.int .i64 10, .int .i64 2, .slice (some ⟨n + 3, 0, none⟩) 2 2, .slice (some ⟨n + 4, 0, none⟩) 2 2, .slice (some ⟨n + 5, 0, none⟩) 1 1] 26))
  generalize hw3 : w2.alloc (.cells #[.int .i64 10, .int .i64 2, .slice (some ⟨n + 3, 0, none⟩) 2 2, .slice (some ⟨n + 4, 0, none⟩) 2 2, .slice (some ⟨n + 5, 0, none⟩) 1 1] 26) = w3 at *
  clear hw3
  have M3 := hide (M2.out.grown A3.out)
  have G3 := hide (grownBy_trans G2.out A3.out)
  generalize hB : w2.heap.size = B at *
  have B3 := hide B3'.out
  clear hB A3 M2 B3'
  have f0 : w3.cell? ⟨B, 0, none⟩ = some (.int .i64 10) := blk_cell B3.out 0
  have f1 : w3.cell? ⟨B, 1, none⟩ = some (.int .i64 2) := blk_cell B3.out 1
  have f2 : w3.cell? ⟨B, 2, none⟩ = some (.slice (some ⟨n + 3, 0, none⟩) 2 2) := blk_cell B3.out 2
  have f3 : w3.cell? ⟨B, 3, none⟩ = some (.slice (some ⟨n + 4, 0, none⟩) 2 2) := blk_cell B3.out 3
  have f4 : w3.cell? ⟨B, 4, none⟩ = some (.slice (some ⟨n + 5, 0, none⟩) 1 1) := blk_cell B3.out 4
  have F0 := hide (FM.start G3.out HN.out hn2 M3.out B3.out)
  clear f0 f1 f2 f3 f4 M3 B3 G3
  have c1 : w3.cell? ⟨B, 2, none⟩ = some (.slice (some ⟨n + 3, 0, none⟩) 2 2) := blk_cell F0.out.bx 2
  have c2 : w3.cell? ⟨n + 3, 2, none⟩ = some (.slice (some ⟨n + 1, 0, none⟩) 2 2) := blk_cell F0.out.bp 2
  have c3 := blk_free F0.out.bp
  have hb3 := box_lt F0.out.bx
  have hlt3 : n + 3 < w3.heap.size := by omega
  have F1' := hide (F0.out.code [(99, 0)])
  go_upto_region 8 with fail
  generalize hw4 : (w3.setCell ⟨n + 3, 2, none⟩ (.slice (some ⟨w3.heap.size, 0, none⟩) 1 1)).alloc (.cells #[.int .i64 99, .int .i64 0] 54) = w4
  have F1 : Hid (FM w w4 n B w3.heap.size [(99, 0)] pt1 px1 po0) := by rw [← hw4]; exact F1'
  clear hw4 F1' F0 c1 c2 c3 hb3 hlt3
  generalize w3.heap.size = g at *
  have d1 : w4.cell? ⟨B, 4, none⟩ = some (.slice (some ⟨n + 5, 0, none⟩) 1 1) := blk_cell F1.out.bx 4
  have d2 : w4.cell? ⟨n + 5, 0, none⟩ = some (.int .i64 1) := blk_cell F1.out.bo 0
  have d3 := blk_free F1.out.bo 0
  go_upto_region 11 with fail
  have K1' := hide (F1.out.seto (r0 := ⟨9, 0, 1, 2⟩) 0 (.int .i64 9) rfl)
  generalize w4.setCell ⟨n + 5, 0, none⟩ (.int .i64 9) = v1 at K1' ⊢
  have K1 := K1'
  clear K1' F1
  clear d1 d2 d3
  have d1 : v1.cell? ⟨B, 3, none⟩ = some (.slice (some ⟨n + 4, 0, none⟩) 2 2) := blk_cell K1.out.bx 3
  have d2 : v1.cell? ⟨n + 4, 3, none⟩ = some (.int .i64 6) := blk_cell K1.out.bw 3
  have d3 := blk_free K1.out.bw 3
  go_upto_region 14 with fail
  have K2' := hide (K1.out.setw (y1 := ⟨9, 9, 1⟩) 3 (.int .i64 9) rfl)
  generalize v1.setCell ⟨n + 4, 3, none⟩ (.int .i64 9) = v2 at K2' ⊢
  have K2 := K2'
  clear K2' K1
  clear d1 d2 d3
  by_cases h4 : bits BinOp.and IntKind.i64 a 4 = 4
  · have d1 : v2.cell? ⟨B, 2, none⟩ = some (.slice (some ⟨n + 3, 0, none⟩) 2 2) := blk_cell K2.out.bx 2
    have d2 : v2.cell? ⟨n + 3, 4, none⟩ = some (.slice (some ⟨n + 2, 0, none⟩) 1 1) := blk_cell K2.out.bp 4
    have d3 : v2.cell? ⟨n + 2, 1, none⟩ = some (.int .i64 5) := blk_cell K2.out.bt1 1
    have d4 := blk_free K2.out.bt1 1
    go_upto_region 17 with fail
    have K3' := hide (K2.out.sett (s1 := ⟨1, 0, 5, 3, 3, 0⟩) 1 (.int .i64 0) rfl)
    generalize v2.setCell ⟨n + 2, 1, none⟩ (.int .i64 0) = v3 at K3' ⊢
    have K3 := K3'
    clear K3' K2
    clear d1 d2 d3 d4
    by_cases h2 : bits BinOp.and IntKind.i64 a 2 = 2
    · have d1 : v3.cell? ⟨B, 2, none⟩ = some (.slice (some ⟨n + 3, 0, none⟩) 2 2) := blk_cell K3.out.bx 2
      go_wp2_with (at_builtin; refine app_row (S := shP) _ rfl _ _ 22 50 _ 56 Tryd.underlying22 info50 rfl rfl (n + 3) (.slice (some ⟨n + 3, 0, none⟩) 2 2) 2 [⟨1, some ⟨n, 0, none⟩, 1, 1, some ⟨g, 0, none⟩, ([(99, 0)] : List Ins).length, ([(99, 0)] : List Ins).length⟩, ⟨0, some ⟨n + 2, 0, none⟩, 1, 1, none, 0, 0⟩] rfl ?c0 ⟨v3.heap.size, 0, none⟩ 1 1 [⟨5, none, 0, 0, none, 0, 0⟩] rfl rfl ?c1 ?c2 ?c3 ?c4 ?_)
      case c0 => exact K3.out.own.alloc _
      case c1 => exact one_cells shP ⟨5, none, 0, 0, none, 0, 0⟩ v3 50
      case c2 => omega
      case c3 => omega
      case c4 => have := box_lt K3.out.bp; simp; omega
      intro a5 cap5 w5 hown hgrow hnew
      have E5' := hide (K3.out.push (by decide) hown hgrow hnew)
      have bx5 := box_grown (box_grown K3.out.bx (World.grownBy_alloc v3 _ none) (by simp)) hgrow (by have := K3.out.hB; simp [Value.ownBlock]; omega)
      have p5 : w5.cell? ⟨B, 2, none⟩ = some (.slice (some ⟨n + 3, 0, none⟩) 2 2) := blk_cell bx5 2
      have q5 := blk_free bx5 2
      clear hown hgrow hnew bx5 d1
      go_upto_region 20 with fail
      generalize w5.setCell ⟨B, 2, none⟩ (.slice a5 3 cap5) = w6 at E5' ⊢
      have E6 := E5'
      clear E5' p5 q5 K3
      by_cases h1 : bits BinOp.and IntKind.i64 a 1 = 1
      · have y0 : w6.cell? ⟨B, 0, none⟩ = some (.int .i64 10) := blk_cell E6.out.bx 0
        have y1 : w6.cell? ⟨B, 1, none⟩ = some (.int .i64 2) := blk_cell E6.out.bx 1
        have y2 : w6.cell? ⟨B, 2, none⟩ = some (.slice a5 3 cap5) := blk_cell E6.out.bx 2
        have y3 : w6.cell? ⟨B, 3, none⟩ = some (.slice (some ⟨n + 4, 0, none⟩) 2 2) := blk_cell E6.out.bx 3
        have y4 : w6.cell? ⟨B, 4, none⟩ = some (.slice (some ⟨n + 5, 0, none⟩) 1 1) := blk_cell E6.out.bx 4
        have yf := blk_free E6.out.bx
        have CF : Hid (ConfAt 0 (w6.setCell ⟨B, 1, none⟩ (.int .i64 0)) _ ⟨10, 0, [⟨1, [pt0], [(99, 0)]⟩, ⟨0, [⟨1, 0, 5, 3, 3, 0⟩], []⟩, ⟨5, [], []⟩], [px0, ⟨9, 9, 1⟩], [⟨9, 0, 1, 2⟩]⟩) := E6.out.keep _ (fun k hk => Below.heap_setCell _ _ _ _ (by simp; omega)) 0
        have GL := hide (grown_set_new (j := 1) (u := .int .i64 0) (R := B) E6.out.hwB E6.out.gr)
        go_wp2_with (first | fail)
        refine (check_any _ ⟨10, 0, [⟨1, [pt0], [(99, 0)]⟩, ⟨0, [⟨1, 0, 5, 3, 3, 0⟩], []⟩, ⟨5, [], []⟩], [px0, ⟨9, 9, 1⟩], [⟨9, 0, 1, 2⟩]⟩ _ (HT.out.grown GL.out) CF.out).mono ?_; rintro e w9 ⟨rfl, hg⟩
        rw [show checkN ⟨10, 0, [⟨1, [pt0], [(99, 0)]⟩, ⟨0, [⟨1, 0, 5, 3, 3, 0⟩], []⟩, ⟨5, [], []⟩], [px0, ⟨9, 9, 1⟩], [⟨9, 0, 1, 2⟩]⟩ = 501 by kernel_rfl]
        have GE := hide (grownBy_trans GL.out hg)
        clear hg
        go_wp2_with (first | (go_at_call 15; refine (num_any _ _).mono ?_; rintro e w' ⟨rfl, rfl⟩))
        go_ret
        exact ⟨rfl, GE.out⟩
      · have y0 : w6.cell? ⟨B, 0, none⟩ = some (.int .i64 10) := blk_cell E6.out.bx 0
        have y1 : w6.cell? ⟨B, 1, none⟩ = some (.int .i64 2) := blk_cell E6.out.bx 1
        have y2 : w6.cell? ⟨B, 2, none⟩ = some (.slice a5 3 cap5) := blk_cell E6.out.bx 2
        have y3 : w6.cell? ⟨B, 3, none⟩ = some (.slice (some ⟨n + 4, 0, none⟩) 2 2) := blk_cell E6.out.bx 3
        have y4 : w6.cell? ⟨B, 4, none⟩ = some (.slice (some ⟨n + 5, 0, none⟩) 1 1) := blk_cell E6.out.bx 4
        have z1 : (bits BinOp.and IntKind.i64 a 1 == 1) = false := by simp [h1]
        have CF : Hid (ConfAt 0 w6 _ ⟨10, 2, [⟨1, [pt0], [(99, 0)]⟩, ⟨0, [⟨1, 0, 5, 3, 3, 0⟩], []⟩, ⟨5, [], []⟩], [px0, ⟨9, 9, 1⟩], [⟨9, 0, 1, 2⟩]⟩) := E6.out.keep _ (fun k _ => rfl) 2
        have GL := hide E6.out.gr
        go_wp2_with (first | fail)
        refine (check_any _ ⟨10, 2, [⟨1, [pt0], [(99, 0)]⟩, ⟨0, [⟨1, 0, 5, 3, 3, 0⟩], []⟩, ⟨5, [], []⟩], [px0, ⟨9, 9, 1⟩], [⟨9, 0, 1, 2⟩]⟩ _ (HT.out.grown GL.out) CF.out).mono ?_; rintro e w9 ⟨rfl, hg⟩
        rw [show checkN ⟨10, 2, [⟨1, [pt0], [(99, 0)]⟩, ⟨0, [⟨1, 0, 5, 3, 3, 0⟩], []⟩, ⟨5, [], []⟩], [px0, ⟨9, 9, 1⟩], [⟨9, 0, 1, 2⟩]⟩ = 502 by kernel_rfl]
        have GE := hide (grownBy_trans GL.out hg)
        clear hg
        go_wp2_with (first | (go_at_call 15; refine (num_any _ _).mono ?_; rintro e w' ⟨rfl, rfl⟩))
        go_ret
        exact ⟨rfl, GE.out⟩
    · have e2 : (bits BinOp.and IntKind.i64 a 2 == 2) = false := by simp [h2]
      go_upto_region 20 with fail
      have E6 := hide (K3.out.fe (by decide))
      clear K3
      by_cases h1 : bits BinOp.and IntKind.i64 a 1 = 1
      · have y0 : v3.cell? ⟨B, 0, none⟩ = some (.int .i64 10) := blk_cell E6.out.bx 0
        have y1 : v3.cell? ⟨B, 1, none⟩ = some (.int .i64 2) := blk_cell E6.out.bx 1
        have y2 : v3.cell? ⟨B, 2, none⟩ = some (.slice (some ⟨n + 3, 0, none⟩) 2 2) := blk_cell E6.out.bx 2
        have y3 : v3.cell? ⟨B, 3, none⟩ = some (.slice (some ⟨n + 4, 0, none⟩) 2 2) := blk_cell E6.out.bx 3
        have y4 : v3.cell? ⟨B, 4, none⟩ = some (.slice (some ⟨n + 5, 0, none⟩) 1 1) := blk_cell E6.out.bx 4
        have yf := blk_free E6.out.bx
        have CF : Hid (ConfAt 0 (v3.setCell ⟨B, 1, none⟩ (.int .i64 0)) _ ⟨10, 0, [⟨1, [pt0], [(99, 0)]⟩, ⟨0, [⟨1, 0, 5, 3, 3, 0⟩], []⟩], [px0, ⟨9, 9, 1⟩], [⟨9, 0, 1, 2⟩]⟩) := E6.out.keep _ (fun k hk => Below.heap_setCell _ _ _ _ (by simp; omega)) 0
        have GL := hide (grown_set_new (j := 1) (u := .int .i64 0) (R := B) E6.out.hwB E6.out.gr)
        go_wp2_with (first | fail)
        refine (check_any _ ⟨10, 0, [⟨1, [pt0], [(99, 0)]⟩, ⟨0, [⟨1, 0, 5, 3, 3, 0⟩], []⟩], [px0, ⟨9, 9, 1⟩], [⟨9, 0, 1, 2⟩]⟩ _ (HT.out.grown GL.out) CF.out).mono ?_; rintro e w9 ⟨rfl, hg⟩
        rw [show checkN ⟨10, 0, [⟨1, [pt0], [(99, 0)]⟩, ⟨0, [⟨1, 0, 5, 3, 3, 0⟩], []⟩], [px0, ⟨9, 9, 1⟩], [⟨9, 0, 1, 2⟩]⟩ = 501 by kernel_rfl]
        have GE := hide (grownBy_trans GL.out hg)
        clear hg
        go_wp2_with (first | (go_at_call 15; refine (num_any _ _).mono ?_; rintro e w' ⟨rfl, rfl⟩))
        go_ret
        exact ⟨rfl, GE.out⟩
      · have y0 : v3.cell? ⟨B, 0, none⟩ = some (.int .i64 10) := blk_cell E6.out.bx 0
        have y1 : v3.cell? ⟨B, 1, none⟩ = some (.int .i64 2) := blk_cell E6.out.bx 1
        have y2 : v3.cell? ⟨B, 2, none⟩ = some (.slice (some ⟨n + 3, 0, none⟩) 2 2) := blk_cell E6.out.bx 2
        have y3 : v3.cell? ⟨B, 3, none⟩ = some (.slice (some ⟨n + 4, 0, none⟩) 2 2) := blk_cell E6.out.bx 3
        have y4 : v3.cell? ⟨B, 4, none⟩ = some (.slice (some ⟨n + 5, 0, none⟩) 1 1) := blk_cell E6.out.bx 4
        have z1 : (bits BinOp.and IntKind.i64 a 1 == 1) = false := by simp [h1]
        have CF : Hid (ConfAt 0 v3 _ ⟨10, 2, [⟨1, [pt0], [(99, 0)]⟩, ⟨0, [⟨1, 0, 5, 3, 3, 0⟩], []⟩], [px0, ⟨9, 9, 1⟩], [⟨9, 0, 1, 2⟩]⟩) := E6.out.keep _ (fun k _ => rfl) 2
        have GL := hide E6.out.gr
        go_wp2_with (first | fail)
        refine (check_any _ ⟨10, 2, [⟨1, [pt0], [(99, 0)]⟩, ⟨0, [⟨1, 0, 5, 3, 3, 0⟩], []⟩], [px0, ⟨9, 9, 1⟩], [⟨9, 0, 1, 2⟩]⟩ _ (HT.out.grown GL.out) CF.out).mono ?_; rintro e w9 ⟨rfl, hg⟩
        rw [show checkN ⟨10, 2, [⟨1, [pt0], [(99, 0)]⟩, ⟨0, [⟨1, 0, 5, 3, 3, 0⟩], []⟩], [px0, ⟨9, 9, 1⟩], [⟨9, 0, 1, 2⟩]⟩ = 503 by kernel_rfl]
        have GE := hide (grownBy_trans GL.out hg)
        clear hg
        go_wp2_with (first | (go_at_call 15; refine (num_any _ _).mono ?_; rintro e w' ⟨rfl, rfl⟩))
        go_ret
        exact ⟨rfl, GE.out⟩
  · have e4 : (bits BinOp.and IntKind.i64 a 4 == 4) = false := by simp [h4]
    go_upto_region 17 with fail
    by_cases h2 : bits BinOp.and IntKind.i64 a 2 = 2
    · have d1 : v2.cell? ⟨B, 2, none⟩ = some (.slice (some ⟨n + 3, 0, none⟩) 2 2) := blk_cell K2.out.bx 2
      go_wp2_with (at_builtin; refine app_row (S := shP) _ rfl _ _ 22 50 _ 56 Tryd.underlying22 info50 rfl rfl (n + 3) (.slice (some ⟨n + 3, 0, none⟩) 2 2) 2 [⟨1, some ⟨n, 0, none⟩, 1, 1, some ⟨g, 0, none⟩, ([(99, 0)] : List Ins).length, ([(99, 0)] : List Ins).length⟩, ⟨0, some ⟨n + 2, 0, none⟩, 1, 1, none, 0, 0⟩] rfl ?c0 ⟨v2.heap.size, 0, none⟩ 1 1 [⟨5, none, 0, 0, none, 0, 0⟩] rfl rfl ?c1 ?c2 ?c3 ?c4 ?_)
      case c0 => exact K2.out.own.alloc _
      case c1 => exact one_cells shP ⟨5, none, 0, 0, none, 0, 0⟩ v2 50
      case c2 => omega
      case c3 => omega
      case c4 => have := box_lt K2.out.bp; simp; omega
      intro a5 cap5 w5 hown hgrow hnew
      have E5' := hide (K2.out.push (by decide) hown hgrow hnew)
      have bx5 := box_grown (box_grown K2.out.bx (World.grownBy_alloc v2 _ none) (by simp)) hgrow (by have := K2.out.hB; simp [Value.ownBlock]; omega)
      have p5 : w5.cell? ⟨B, 2, none⟩ = some (.slice (some ⟨n + 3, 0, none⟩) 2 2) := blk_cell bx5 2
      have q5 := blk_free bx5 2
      clear hown hgrow hnew bx5 d1
      go_upto_region 20 with fail
      generalize w5.setCell ⟨B, 2, none⟩ (.slice a5 3 cap5) = w6 at E5' ⊢
      have E6 := E5'
      clear E5' p5 q5 K2
      by_cases h1 : bits BinOp.and IntKind.i64 a 1 = 1
      · have y0 : w6.cell? ⟨B, 0, none⟩ = some (.int .i64 10) := blk_cell E6.out.bx 0
        have y1 : w6.cell? ⟨B, 1, none⟩ = some (.int .i64 2) := blk_cell E6.out.bx 1
        have y2 : w6.cell? ⟨B, 2, none⟩ = some (.slice a5 3 cap5) := blk_cell E6.out.bx 2
        have y3 : w6.cell? ⟨B, 3, none⟩ = some (.slice (some ⟨n + 4, 0, none⟩) 2 2) := blk_cell E6.out.bx 3
        have y4 : w6.cell? ⟨B, 4, none⟩ = some (.slice (some ⟨n + 5, 0, none⟩) 1 1) := blk_cell E6.out.bx 4
        have yf := blk_free E6.out.bx
        have CF : Hid (ConfAt 0 (w6.setCell ⟨B, 1, none⟩ (.int .i64 0)) _ ⟨10, 0, [⟨1, [pt0], [(99, 0)]⟩, ⟨0, [pt1], []⟩, ⟨5, [], []⟩], [px0, ⟨9, 9, 1⟩], [⟨9, 0, 1, 2⟩]⟩) := E6.out.keep _ (fun k hk => Below.heap_setCell _ _ _ _ (by simp; omega)) 0
        have GL := hide (grown_set_new (j := 1) (u := .int .i64 0) (R := B) E6.out.hwB E6.out.gr)
        go_wp2_with (first | fail)
        refine (check_any _ ⟨10, 0, [⟨1, [pt0], [(99, 0)]⟩, ⟨0, [pt1], []⟩, ⟨5, [], []⟩], [px0, ⟨9, 9, 1⟩], [⟨9, 0, 1, 2⟩]⟩ _ (HT.out.grown GL.out) CF.out).mono ?_; rintro e w9 ⟨rfl, hg⟩
        rw [show checkN ⟨10, 0, [⟨1, [pt0], [(99, 0)]⟩, ⟨0, [pt1], []⟩, ⟨5, [], []⟩], [px0, ⟨9, 9, 1⟩], [⟨9, 0, 1, 2⟩]⟩ = 501 by kernel_rfl]
        have GE := hide (grownBy_trans GL.out hg)
        clear hg
        go_wp2_with (first | (go_at_call 15; refine (num_any _ _).mono ?_; rintro e w' ⟨rfl, rfl⟩))
        go_ret
        exact ⟨rfl, GE.out⟩
      · have y0 : w6.cell? ⟨B, 0, none⟩ = some (.int .i64 10) := blk_cell E6.out.bx 0
        have y1 : w6.cell? ⟨B, 1, none⟩ = some (.int .i64 2) := blk_cell E6.out.bx 1
        have y2 : w6.cell? ⟨B, 2, none⟩ = some (.slice a5 3 cap5) := blk_cell E6.out.bx 2
        have y3 : w6.cell? ⟨B, 3, none⟩ = some (.slice (some ⟨n + 4, 0, none⟩) 2 2) := blk_cell E6.out.bx 3
        have y4 : w6.cell? ⟨B, 4, none⟩ = some (.slice (some ⟨n + 5, 0, none⟩) 1 1) := blk_cell E6.out.bx 4
        have z1 : (bits BinOp.and IntKind.i64 a 1 == 1) = false := by simp [h1]
        have CF : Hid (ConfAt 0 w6 _ ⟨10, 2, [⟨1, [pt0], [(99, 0)]⟩, ⟨0, [pt1], []⟩, ⟨5, [], []⟩], [px0, ⟨9, 9, 1⟩], [⟨9, 0, 1, 2⟩]⟩) := E6.out.keep _ (fun k _ => rfl) 2
        have GL := hide E6.out.gr
        go_wp2_with (first | fail)
        refine (check_any _ ⟨10, 2, [⟨1, [pt0], [(99, 0)]⟩, ⟨0, [pt1], []⟩, ⟨5, [], []⟩], [px0, ⟨9, 9, 1⟩], [⟨9, 0, 1, 2⟩]⟩ _ (HT.out.grown GL.out) CF.out).mono ?_; rintro e w9 ⟨rfl, hg⟩
        rw [show checkN ⟨10, 2, [⟨1, [pt0], [(99, 0)]⟩, ⟨0, [pt1], []⟩, ⟨5, [], []⟩], [px0, ⟨9, 9, 1⟩], [⟨9, 0, 1, 2⟩]⟩ = 502 by kernel_rfl]
        have GE := hide (grownBy_trans GL.out hg)
        clear hg
        go_wp2_with (first | (go_at_call 15; refine (num_any _ _).mono ?_; rintro e w' ⟨rfl, rfl⟩))
        go_ret
        exact ⟨rfl, GE.out⟩
    · have e2 : (bits BinOp.and IntKind.i64 a 2 == 2) = false := by simp [h2]
      go_upto_region 20 with fail
      have E6 := hide (K2.out.fe (by decide))
      clear K2
      by_cases h1 : bits BinOp.and IntKind.i64 a 1 = 1
      · have y0 : v2.cell? ⟨B, 0, none⟩ = some (.int .i64 10) := blk_cell E6.out.bx 0
        have y1 : v2.cell? ⟨B, 1, none⟩ = some (.int .i64 2) := blk_cell E6.out.bx 1
        have y2 : v2.cell? ⟨B, 2, none⟩ = some (.slice (some ⟨n + 3, 0, none⟩) 2 2) := blk_cell E6.out.bx 2
        have y3 : v2.cell? ⟨B, 3, none⟩ = some (.slice (some ⟨n + 4, 0, none⟩) 2 2) := blk_cell E6.out.bx 3
        have y4 : v2.cell? ⟨B, 4, none⟩ = some (.slice (some ⟨n + 5, 0, none⟩) 1 1) := blk_cell E6.out.bx 4
        have yf := blk_free E6.out.bx
        have CF : Hid (ConfAt 0 (v2.setCell ⟨B, 1, none⟩ (.int .i64 0)) _ ⟨10, 0, [⟨1, [pt0], [(99, 0)]⟩, ⟨0, [pt1], []⟩], [px0, ⟨9, 9, 1⟩], [⟨9, 0, 1, 2⟩]⟩) := E6.out.keep _ (fun k hk => Below.heap_setCell _ _ _ _ (by simp; omega)) 0
        have GL := hide (grown_set_new (j := 1) (u := .int .i64 0) (R := B) E6.out.hwB E6.out.gr)
        go_wp2_with (first | fail)
        refine (check_any _ ⟨10, 0, [⟨1, [pt0], [(99, 0)]⟩, ⟨0, [pt1], []⟩], [px0, ⟨9, 9, 1⟩], [⟨9, 0, 1, 2⟩]⟩ _ (HT.out.grown GL.out) CF.out).mono ?_; rintro e w9 ⟨rfl, hg⟩
        rw [show checkN ⟨10, 0, [⟨1, [pt0], [(99, 0)]⟩, ⟨0, [pt1], []⟩], [px0, ⟨9, 9, 1⟩], [⟨9, 0, 1, 2⟩]⟩ = 501 by kernel_rfl]
        have GE := hide (grownBy_trans GL.out hg)
        clear hg
        go_wp2_with (first | (go_at_call 15; refine (num_any _ _).mono ?_; rintro e w' ⟨rfl, rfl⟩))
        go_ret
        exact ⟨rfl, GE.out⟩
      · have y0 : v2.cell? ⟨B, 0, none⟩ = some (.int .i64 10) := blk_cell E6.out.bx 0
        have y1 : v2.cell? ⟨B, 1, none⟩ = some (.int .i64 2) := blk_cell E6.out.bx 1
        have y2 : v2.cell? ⟨B, 2, none⟩ = some (.slice (some ⟨n + 3, 0, none⟩) 2 2) := blk_cell E6.out.bx 2
        have y3 : v2.cell? ⟨B, 3, none⟩ = some (.slice (some ⟨n + 4, 0, none⟩) 2 2) := blk_cell E6.out.bx 3
        have y4 : v2.cell? ⟨B, 4, none⟩ = some (.slice (some ⟨n + 5, 0, none⟩) 1 1) := blk_cell E6.out.bx 4
        have z1 : (bits BinOp.and IntKind.i64 a 1 == 1) = false := by simp [h1]
        have CF : Hid (ConfAt 0 v2 _ ⟨10, 2, [⟨1, [pt0], [(99, 0)]⟩, ⟨0, [pt1], []⟩], [px0, ⟨9, 9, 1⟩], [⟨9, 0, 1, 2⟩]⟩) := E6.out.keep _ (fun k _ => rfl) 2
        have GL := hide E6.out.gr
        go_wp2_with (first | fail)
        refine (check_any _ ⟨10, 2, [⟨1, [pt0], [(99, 0)]⟩, ⟨0, [pt1], []⟩], [px0, ⟨9, 9, 1⟩], [⟨9, 0, 1, 2⟩]⟩ _ (HT.out.grown GL.out) CF.out).mono ?_; rintro e w9 ⟨rfl, hg⟩
        rw [show checkN ⟨10, 2, [⟨1, [pt0], [(99, 0)]⟩, ⟨0, [pt1], []⟩], [px0, ⟨9, 9, 1⟩], [⟨9, 0, 1, 2⟩]⟩ = 504 by kernel_rfl]
        have GE := hide (grownBy_trans GL.out hg)
        clear hg
        go_wp2_with (first | (go_at_call 15; refine (num_any _ _).mono ?_; rintro e w' ⟨rfl, rfl⟩))
        go_ret
        exact ⟨rfl, GE.out⟩

#print axioms first_111
end Go.Proofs.YtgaegggiehhcpaaDoor

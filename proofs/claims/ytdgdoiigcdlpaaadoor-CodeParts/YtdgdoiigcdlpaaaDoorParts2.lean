/- The walk of the statement CodeParts where one instruction more may be. -/
import Derived.Test.YtdgdoiigcdlpaaaDoorParts
namespace Go.Proofs.YtdgdoiigcdlpaaaDoor
open Go.RowKit
attribute [local go_sem] alloc_drewN setCell_drewN

set_option maxRecDepth 100000 in
set_option maxHeartbeats 4000000 in
theorem parts_some (ad : Addr) (vcap : Nat) (zs : List Ins) (hz : zs.length ≤ 8796093021952) (y : Int) (hm : codeMay zs = true) (hlt : zs.length < 64) (w : World) (hT : Tab w) (hv : PReads w (.slice (some ad) zs.length vcap) zs) :
    Calls Tryd.prog 6 #[.slice (some ad) zs.length vcap, .int .i64 y] w fun e w' => e = .returned (.bool true) ∧ w.grownBy w' none := by
  have AW := hide (awake_any w hT)
  have HT := hide (fun W => hT.grown (W' := W))
  have HV := hide (fun W => hv.grown (W := W))
  have HZ := hide hz
  have HM := hide hm
  obtain ⟨c, hc0, hc1, hc2, hc3⟩ := and255 y
  clear hT hm
  have HMQ := hide (codeMay_more HM.out hlt hc0 hc1)
  obtain ⟨b1, b2, b3⟩ := back_may HM.out
  have HE2 := hide (show strOfNums (flat (zs ++ [(1, c)])) = strOfNums (flat zs) ++ strOfNums [1, c] by rw [flat_append, ← strOfNums_append]; rfl)
  have HX := hide (fun (k : Nat) (hk : k < (strOfNums (flat zs)).size) => index_at (strOfNums (flat zs)) k hk)
  have HNS := hide (nums_strOfNums (flat zs) (flat_bytes HM.out))
  have HF := hide (flat_at0 zs)
  have HBY := hide (codeMay_true HM.out)
  have HE1 := hide (show strOfNums (flat zs) = strOfNums (flat zs) from rfl)
  generalize hT1 : strOfNums (flat zs) = t1 at *
  have HT1 := hide hT1
  generalize hU : strOfNums [1, c] = u at *
  have HU := hide hU
  clear hT1 hU HE1 b1 b2
  obtain ⟨va, vcap, e0, ha⟩ := hv
  simp only [Value.slice.injEq] at e0
  obtain ⟨rfl, -, rfl⟩ := e0
  have hcell : ∀ i, i < zs.length → w.cell? (ad.add (i * 2)) = some (.int .i64 (zs[i]?.getD (0, 0)).1) ∧ w.cell? (ad.add (i * 2 + 1)) = some (.int .i64 (zs[i]?.getD (0, 0)).2) := fun i hi => by
    obtain ⟨g, o, h, hc⟩ := ha (by omega)
    cases h
    rw [Go.WideShapes.add_plain, Go.WideShapes.add_plain]
    exact hc i hi
  have HC := hide hcell
  clear ha hcell
  generalize hN : zs.length = N at *
  have HN := hide hN
  clear hN
  go_enter Tryd.func6, Tryd.ntmps6
  go_wp2_with (first | fail)
  refine AW.out.mono ?_; rintro e w1 ⟨rfl, g1⟩
  have G1 := hide g1
  clear g1 AW
  go_wp2_with (first | fail)
  refine (putYes HM.out HT1.out (by have := HN.out; have := HZ.out; omega) _ _ (HT.out _ G1.out) (HV.out _ G1.out)).mono ?_; rintro e w2 ⟨rfl, g2⟩
  have G2 := hide (grownBy_trans G1.out g2)
  clear g2 G1
  go_wp2_with (at_builtin; refine app_ins _ rfl _ _ rfl w2.heap.size _ 0 [] rfl ?c0 ad N vcap zs rfl HN.out ?c1 ?c2 ?c3 ?_)
  case c0 => exact World.ownsRow_lit w2 #[] 0 (Nat.le_refl _) (by unfold maxLen; omega) rfl
  case c1 =>
    intro i hi
    have hc := HC.out i hi
    have hlt : (ad.add (i * 2)).block < w.heap.size := World.block_lt_of_cell? w (ad.add (i * 2)) hc.1
    have hlt' : (ad.add (i * 2 + 1)).block < w.heap.size := World.block_lt_of_cell? w (ad.add (i * 2 + 1)) hc.2
    have gg := grownBy_trans G2.out (World.grownBy_alloc w2 (.cells #[] 39) none)
    exact ⟨(World.cell?_of_block (a := ad.add (i * 2)) (gg.block _ hlt (by simp))).trans hc.1, (World.cell?_of_block (a := ad.add (i * 2 + 1)) (gg.block _ hlt' (by simp))).trans hc.2⟩
  case c2 => have := HZ.out; omega
  case c3 => simp
  intro a3 cap3 w3 own3 grow3
  have O3 := hide (show w3.ownsRow w2.heap.size 39 2 (.slice a3 N cap3) N (cells2 zs) by simpa using own3)
  have G23 := hide (grown_append (m := 0) (grownBy_refl w2 none) (v := .slice (some ⟨w2.heap.size, 0, none⟩) 0 0) (fun g hg => by simp [Value.ownBlock] at hg; omega) grow3)
  have G3 := hide (grownBy_trans G2.out G23.out)
  clear own3 grow3
  go_wp2_with (at_builtin; refine app_ins _ rfl _ _ rfl w2.heap.size (.slice a3 N cap3) N zs rfl ?c0 ⟨w3.heap.size, 0, none⟩ 1 1 [(1, c)] rfl rfl ?c1 ?c2 ?c3 ?_)
  case c0 => exact O3.out.alloc _
  case c1 =>
    intro i hi
    match i, hi with
    | 0, _ => simp [Addr.add]
  case c2 => have := HZ.out; omega
  case c3 => have := G23.out.size; simp; omega
  intro a4 cap4 w4 own4 grow4
  have G4 := hide (grownBy_trans G2.out (grown_append (m := 0) G23.out (fun g hg => (O3.out.lt g hg).1) grow4))
  have P4 := hide (show PReads w4 (.slice a4 (N + 1) cap4) (zs ++ [(1, c)]) from preads_own (base := w2.heap.size) (by rw [List.length_append, HN.out, List.length_singleton]; exact own4))
  clear own4 grow4 O3 G23 G3 G2
  go_wp2_with (first | fail)
  refine (putYes HMQ.out HE2.out (by rw [List.length_append, HN.out, List.length_singleton]; have := HZ.out; omega) _ _ (HT.out _ G4.out) P4.out).mono ?_; rintro e w5 ⟨rfl, g5⟩
  have G5 := hide (grownBy_trans G4.out g5)
  clear g5 G4 P4
  have HCV := hide (fun W : World => conv_own (World.ownsRow_lit (base := W.heap.size) (e := 5) (size := 1) W (bytes1 [1, c]).toArray 2 (Nat.le_refl _) (by unfold maxLen; omega) rfl))
  rw [HU.out] at HCV
  have hus : u.size = 2 := by rw [← HU.out, strOfNums_size]; rfl
  have HLT := hide hlt
  have hne : ((N : Int) == 64) = false := by rw [beq_eq_false_iff_ne]; omega
  go_wp2_with (go_at_call 12; refine (num_any _ _).mono ?_; rintro e w' ⟨rfl, rfl⟩)
  go_loopw [10] (fun i W => ∃ (j : Nat), j ≤ N ∧ i = .int .i64 j ∧ Hid (w.grownBy W none)) (fun i _ => N - (intOf i).toNat)
  case atStart => exact ⟨0, by omega, rfl, G5⟩
  case round =>
    obtain ⟨j, hj, rfl, HG⟩ := hrel
    by_cases hlt2 : j < N
    · obtain ⟨va', vcap', e, hc⟩ := HV.out wr HG.out
      simp only [Value.slice.injEq] at e
      obtain ⟨rfl, -, rfl⟩ := e
      obtain ⟨g, o, h, hc2⟩ := hc (by rw [HN.out]; omega)
      cases h
      obtain ⟨c1, c2⟩ := hc2 j (by rw [HN.out]; omega)
      have i1 := HX.out (2 * j) (by omega)
      have i2 := HX.out (2 * j + 1) (by omega)
      obtain ⟨f1, f2⟩ := HF.out j hlt2
      have hb := HBY.out.2 j hlt2
      rw [HNS.out, f1] at i1
      rw [HNS.out, f2] at i2
      clear hc hc2 f1 f2
      obtain ⟨x0, x1, y0, y1⟩ := may_bytes HBY.out.1 (x := (zs[j]?.getD (0, 0)).1) (y := (zs[j]?.getD (0, 0)).2) hb
      clear hb
      generalize (zs[j]?.getD (0, 0)).1 = x at *
      generalize (zs[j]?.getD (0, 0)).2 = z at *
      have i1' : ∀ W, (Instr.index 9 (.string t1) (.int .i64 (2 * (j : Int)))).run Tryd.prog W = .ok (.int .u8 x) W := fun W => by simpa using i1 W
      have i2' : ∀ W, (Instr.index 9 (.string t1) (.int .i64 (2 * (j : Int) + 1))).run Tryd.prog W = .ok (.int .u8 z) W := fun W => by simpa using i2 W
      clear i1 i2
      have hw1 : IntKind.i64.wrap (2 * (j : Int)) = 2 * (j : Int) := by rw [IntKind.wrap_i64]; omega
      have hw2 : IntKind.i64.wrap (2 * (j : Int) + 1) = 2 * (j : Int) + 1 := by rw [IntKind.wrap_i64]; omega
      have hwx : IntKind.i64.wrap x = x := by rw [IntKind.wrap_i64]; omega
      have hwz : IntKind.i64.wrap z = z := by rw [IntKind.wrap_i64]; omega
      go_wp2
      go_quiet (fail)
      go_wp2
      go_roundw
      case rel => exact ⟨j + 1, by omega, by go_num, hide (grownBy_trans HG.out (grownBy_draws _ _ _))⟩
      case measure => simp [intOf]; omega
    · have hcv : (convert 42 9 (.slice (some ⟨wr.heap.size, 0, none⟩) 2 2)).run Tryd.prog (wr.alloc (.cells #[.int .u8 1, .int .u8 c] 5)) = .ok (.string u) (wr.alloc (.cells #[.int .u8 1, .int .u8 c] 5)) := HCV.out wr
      go_wp2
      go_ret
      exact ⟨by simp, grownBy_trans HG.out (World.grownBy_alloc _ _ _)⟩

set_option maxRecDepth 100000 in
set_option maxHeartbeats 4000000 in
theorem parts_none (vcap : Nat) (zs : List Ins) (hz : zs.length ≤ 8796093021952) (h0 : zs.length = 0) (y : Int) (hm : codeMay zs = true) (hlt : zs.length < 64) (w : World) (hT : Tab w) (hv : PReads w (.slice none 0 vcap) zs) :
    Calls Tryd.prog 6 #[.slice none 0 vcap, .int .i64 y] w fun e w' => e = .returned (.bool true) ∧ w.grownBy w' none := by
  have AW := hide (awake_any w hT)
  have HT := hide (fun W => hT.grown (W' := W))
  have HV := hide (fun W => hv.grown (W := W))
  have HZ := hide hz
  have HM := hide hm
  obtain ⟨c, hc0, hc1, hc2, hc3⟩ := and255 y
  clear hT hm
  have HMQ := hide (codeMay_more HM.out hlt hc0 hc1)
  obtain ⟨b1, b2, b3⟩ := back_may HM.out
  have HE2 := hide (show strOfNums (flat (zs ++ [(1, c)])) = strOfNums (flat zs) ++ strOfNums [1, c] by rw [flat_append, ← strOfNums_append]; rfl)
  have HX := hide (fun (k : Nat) (hk : k < (strOfNums (flat zs)).size) => index_at (strOfNums (flat zs)) k hk)
  have HNS := hide (nums_strOfNums (flat zs) (flat_bytes HM.out))
  have HF := hide (flat_at0 zs)
  have HBY := hide (codeMay_true HM.out)
  have HE1 := hide (show strOfNums (flat zs) = strOfNums (flat zs) from rfl)
  generalize hT1 : strOfNums (flat zs) = t1 at *
  have HT1 := hide hT1
  generalize hU : strOfNums [1, c] = u at *
  have HU := hide hU
  clear hT1 hU HE1 b1 b2
  obtain rfl := List.length_eq_zero_iff.1 h0
  clear hv
  go_enter Tryd.func6, Tryd.ntmps6
  go_wp2_with (first | fail)
  refine AW.out.mono ?_; rintro e w1 ⟨rfl, g1⟩
  have G1 := hide g1
  clear g1 AW
  go_wp2_with (first | fail)
  refine (putYes HM.out HT1.out (by decide) _ _ (HT.out _ G1.out) (HV.out _ G1.out)).mono ?_; rintro e w2 ⟨rfl, g2⟩
  have G2 := hide (grownBy_trans G1.out g2)
  clear g2 G1
  go_wp2_with (at_builtin; refine app_ins _ rfl _ _ rfl w2.heap.size (.slice (some ⟨w2.heap.size, 0, none⟩) 0 0) 0 [] rfl ?c0 ⟨w2.heap.size + 1, 0, none⟩ 1 1 [(1, c)] rfl rfl ?c1 ?c2 ?c3 ?_)
  case c0 => exact (World.ownsRow_lit w2 #[] 0 (Nat.le_refl _) (by unfold maxLen; omega) rfl).alloc _
  case c1 =>
    intro i hi
    match i, hi with
    | 0, _ => simp [Addr.add]
  case c2 => omega
  case c3 => simp; omega
  intro a4 cap4 w4 own4 grow4
  have G4 := hide (grownBy_trans G2.out (grown_append (m := 0) (World.grownBy_alloc w2 (.cells #[] 39) none) (v := .slice (some ⟨w2.heap.size, 0, none⟩) 0 0) (fun g hg => by simp [Value.ownBlock] at hg; omega) grow4))
  have P4 := hide (show PReads w4 (.slice a4 (0 + 1) cap4) ([] ++ [(1, c)]) from preads_own (base := w2.heap.size) own4)
  clear own4 grow4 G2
  go_wp2_with (first | fail)
  refine (putYes HMQ.out HE2.out (by simp) _ _ (HT.out _ G4.out) P4.out).mono ?_; rintro e w5 ⟨rfl, g5⟩
  have G5 := hide (grownBy_trans G4.out g5)
  clear g5 G4 P4
  have HCV := hide (fun W : World => conv_own (World.ownsRow_lit (base := W.heap.size) (e := 5) (size := 1) W (bytes1 [1, c]).toArray 2 (Nat.le_refl _) (by unfold maxLen; omega) rfl))
  rw [HU.out] at HCV
  have hus : u.size = 2 := by rw [← HU.out, strOfNums_size]; rfl
  have hb3 : t1.size = 0 := b3
  clear b3
  go_wp2_with (go_at_call 12; refine (num_any _ _).mono ?_; rintro e w' ⟨rfl, rfl⟩)
  go_loopw [10] (fun i W => ∃ (j : Nat), j ≤ 0 ∧ i = .int .i64 j ∧ Hid (w.grownBy W none)) (fun i _ => 0 - (intOf i).toNat)
  case atStart => exact ⟨0, by omega, rfl, G5⟩
  case round =>
    obtain ⟨j, hj, rfl, HG⟩ := hrel
    by_cases hlt2 : j < 0
    · exact absurd hlt2 (Nat.not_lt_zero _)
    · have hcv : (convert 42 9 (.slice (some ⟨wr.heap.size, 0, none⟩) 2 2)).run Tryd.prog (wr.alloc (.cells #[.int .u8 1, .int .u8 c] 5)) = .ok (.string u) (wr.alloc (.cells #[.int .u8 1, .int .u8 c] 5)) := HCV.out wr
      go_wp2
      go_ret
      exact ⟨by simp, grownBy_trans HG.out (World.grownBy_alloc _ _ _)⟩

theorem parts_any (a : Option Addr) (len vcap : Nat) (zs : List Ins) (hz : zs.length ≤ 8796093021952) (y : Int) (w : World) (hT : Tab w) (hv : PReads w (.slice a len vcap) zs) :
    Calls Tryd.prog 6 #[.slice a len vcap, .int .i64 y] w fun e w' => e = .returned (.bool true) ∧ w.grownBy w' none := by
  obtain ⟨a', cap', e, ha⟩ := hv
  simp only [Value.slice.injEq] at e
  obtain ⟨rfl, rfl, rfl⟩ := e
  have hv : PReads w (.slice a zs.length vcap) zs := ⟨a, vcap, rfl, ha⟩
  cases a with
  | none =>
    have h0 : zs.length = 0 := by
      rcases Nat.eq_zero_or_pos zs.length with e | e
      · exact e
      · obtain ⟨g, o, h, _⟩ := ha e; cases h
    obtain rfl := List.length_eq_zero_iff.1 h0
    exact parts_none vcap [] hz rfl y (by decide) (by decide) w hT hv
  | some ad =>
    cases hm : codeMay zs with
    | false => exact parts_not ad vcap zs hz y hm w hT hv
    | true =>
      have hl := (codeMay_true hm).1
      by_cases h64 : zs.length = 64
      · exact parts_full ad vcap zs hz y hm h64 w hT hv
      · exact parts_some ad vcap zs hz y hm (by omega) w hT hv
#print axioms parts_any
end Go.Proofs.YtdgdoiigcdlpaaaDoor

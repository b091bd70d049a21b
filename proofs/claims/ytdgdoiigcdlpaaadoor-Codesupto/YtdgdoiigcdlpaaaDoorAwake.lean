/- Contracts of the statements' own Num and SameInstrs, and the walk of their awake, proved over the translation. -/
import Derived.Test.YtdgdoiigcdlpaaaDoorGet
namespace Go.Proofs.YtdgdoiigcdlpaaaDoor
open Go.RowKit
attribute [local go_sem] alloc_drewN setCell_drewN

theorem num_any (e : Int) (w : World) :
    Calls Tryd.prog 12 #[.int .i64 e] w fun r w' => r = .returned (.int .i64 e) ∧ w' = w := by
  go_enter Tryd.func12, Tryd.ntmps12
  go_wp2
  go_ret
  exact ⟨rfl, rfl⟩

set_option maxRecDepth 100000 in
set_option maxHeartbeats 1000000 in
theorem same_any (u v : Value) (zs : List Ins) (hz : zs.length ≤ 9223372036854775807) (w : World) (hu : PReads w u zs) (hv : PReads w v zs) :
    Calls Tryd.prog 13 #[u, v] w fun e w' => e = .returned (.bool true) ∧ ∃ n, w' = w.drewN n := by
  obtain ⟨a, cap, rfl, ha⟩ := hu
  obtain ⟨b, cap', rfl, hb⟩ := hv
  have HA := hide ha
  have HB := hide hb
  clear ha hb
  generalize hN : zs.length = N at *
  clear hN
  go_enter Tryd.func13, Tryd.ntmps13
  go_wp2
  go_loopw [5] (fun i W => ∃ (j n : Nat), j ≤ N ∧ i = .int .i64 j ∧ W = w.drewN n) (fun i _ => N - (intOf i).toNat)
  case atStart => exact ⟨0, 0, by omega, rfl, rfl⟩
  case round =>
    obtain ⟨j, n, hj, rfl, rfl⟩ := hrel
    by_cases hlt : j < N
    · obtain ⟨g, o, rfl, hc⟩ := HA.out (by omega)
      obtain ⟨g', o', rfl, hc'⟩ := HB.out (by omega)
      obtain ⟨c1, c2⟩ := hc j hlt
      obtain ⟨d1, d2⟩ := hc' j hlt
      clear hc hc'
      generalize (zs[j]?.getD (0, 0)).1 = x at *
      generalize (zs[j]?.getD (0, 0)).2 = y at *
      go_wp2
      go_quiet (fail)
      go_wp2
      go_roundw
      case rel => exact ⟨j + 1, _, by omega, by go_num, rfl⟩
      case measure => simp [intOf]; omega
    · go_wp2
      go_ret
      exact ⟨rfl, _, rfl⟩
#print axioms same_any

theorem putOk {zs : List Ins} {l : List UInt8} (h : codeMay zs = true) (e : strOfNums (flat zs) = ⟨l.toArray⟩) (hz : zs.length ≤ 9223372036854775807) (v : Value) (w : World) (hT : Tab w) (hv : PReads w v zs) :
    Calls Tryd.prog 8 #[v] w fun e w' => e = .returned (.tuple #[.string ⟨l.toArray⟩, .int .i64 0]) ∧ w.grownBy w' none := by
  have := put_any v zs hz w hT hv
  rw [h, show putS zs = strOfNums (flat zs) from if_pos h, e] at this
  exact this
theorem putNot {zs : List Ins} (h : codeMay zs = false) (hz : zs.length ≤ 9223372036854775807) (v : Value) (w : World) (hT : Tab w) (hv : PReads w v zs) :
    Calls Tryd.prog 8 #[v] w fun e w' => e = .returned (.tuple #[.string ⟨#[]⟩, .int .i64 400]) ∧ w.grownBy w' none := by
  have := put_any v zs hz w hT hv
  rw [h, show putS zs = ⟨#[]⟩ from if_neg (by rw [h]; decide)] at this
  exact this
theorem getOk {s : ByteArray} {zs : List Ins} (h : getMay s = true) (e : pairs (nums s) = zs) (hs : s.size ≤ 9223372036854775807) (w : World) (hT : Tab w) :
    Calls Tryd.prog 10 #[.string s] w fun e w' => ∃ v, e = .returned (.tuple #[v, .int .i64 0]) ∧ PReads w' v zs ∧ w.grownBy w' none := by
  have := get_any s hs w hT
  rw [h, show getL s = pairs (nums s) from if_pos h, e] at this
  exact this
theorem getNot {s : ByteArray} (h : getMay s = false) (hs : s.size ≤ 9223372036854775807) (w : World) (hT : Tab w) :
    Calls Tryd.prog 10 #[.string s] w fun e w' => ∃ v, e = .returned (.tuple #[v, .int .i64 400]) ∧ PReads w' v [] ∧ w.grownBy w' none := by
  have := get_any s hs w hT
  rw [h, show getL s = [] from if_neg (by rw [h]; decide)] at this
  exact this
theorem aw1 : codeMay [(1, 200), (6, 1)] = true := by decide
theorem aw2 : strOfNums (flat [(1, 200), (6, 1)]) = ⟨#[1, 200, 6, 1]⟩ := by decide
theorem aw3 : codeMay [(6, 1)] = false := by decide
theorem aw4 : getMay ⟨#[1, 200, 6, 1]⟩ = true := by decide
theorem aw5 : pairs (nums ⟨#[1, 200, 6, 1]⟩) = [(1, 200), (6, 1)] := by decide
theorem aw6 : getMay ⟨#[1]⟩ = false := by decide

set_option maxRecDepth 100000 in
set_option maxHeartbeats 2000000 in
theorem awake_any (w : World) (hT : Tab w) :
    Calls Tryd.prog 17 #[] w fun e w' => e = .returned (.bool true) ∧ w.grownBy w' none := by
  have HT := hide hT
  clear hT
  go_enter Tryd.func17, Tryd.ntmps17
  have G0 := World.grownBy_alloc w (.cells (cells2 [(1, 200), (6, 1)]).toArray 39) none
  go_wp2_with (first | fail)
  refine (putOk (l := [1, 200, 6, 1]) aw1 aw2 (by decide) _ _ (HT.out.grown G0) (preads_lit w [(1, 200), (6, 1)] 39)).mono ?_
  rintro e w1 ⟨rfl, g1⟩
  have G1 := hide (grownBy_trans G0 g1)
  have P1 := hide ((preads_lit w [(1, 200), (6, 1)] 39).grown g1)
  clear G0 g1
  go_wp2_with (first | fail)
  refine (getOk aw4 aw5 (by decide) _ (HT.out.grown G1.out)).mono ?_
  rintro e w2 ⟨q, rfl, P2, g2⟩
  have G2 := hide (grownBy_trans G1.out g2)
  have Q2 := hide (P1.out.grown g2)
  have P2' := hide P2
  clear G1 P1 g2 P2
  have G0 := World.grownBy_alloc w2 (.cells (cells2 [(6, 1)]).toArray 39) none
  go_wp2_with (first | fail)
  refine (putNot aw3 (by decide) _ _ (HT.out.grown (grownBy_trans G2.out G0)) (preads_lit w2 [(6, 1)] 39)).mono ?_
  rintro e w3 ⟨rfl, g3⟩
  have G3 := hide (grownBy_trans G2.out (grownBy_trans G0 g3))
  have Q3 := hide (Q2.out.grown (grownBy_trans G0 g3))
  have P3 := hide (P2'.out.grown (grownBy_trans G0 g3))
  clear G0 g3 G2 Q2 P2'
  go_wp2_with (first | fail)
  refine (getNot aw6 (by decide) _ (HT.out.grown G3.out)).mono ?_
  rintro e w4 ⟨q4, rfl, -, g4⟩
  have G4 := hide (grownBy_trans G3.out g4)
  have Q4 := hide (Q3.out.grown g4)
  have P4 := hide (P3.out.grown g4)
  clear g4 G3 Q3 P3
  go_wp2_with (first
    | (go_at_call 12; refine (num_any _ _).mono ?_; rintro e w' ⟨rfl, rfl⟩)
    | (go_at_call 13; refine (same_any _ _ [(1, 200), (6, 1)] (by decide) _ P4.out Q4.out).mono ?_; rintro e w' ⟨rfl, n5, rfl⟩)
    | (go_at_call 14; refine (may_any (.slice none 0 0) [] (by decide) _ (HT.out.grown (grownBy_trans G4.out (grownBy_draws _ _ _))) (preads_nil _ _ _)).mono ?_; rintro e w6 ⟨rfl, g6⟩))
  go_ret
  exact ⟨rfl, grownBy_trans G4.out (grownBy_trans (grownBy_draws _ _ _) g6)⟩
#print axioms awake_any
end Go.Proofs.YtdgdoiigcdlpaaaDoor

/- The walk of the statement CodeForms: its last way (too many instructions), and all eleven together. -/
import Derived.Test.YtdgdoiigcdlpaaaDoorForms
namespace Go.Proofs.YtdgdoiigcdlpaaaDoor
open Go.RowKit
attribute [local go_sem] alloc_drewN setCell_drewN

theorem made_at (n i : Nat) (hi : i < n) : (madeCells #[Value.int .i64 0, .int .i64 0] n)[i]? = some (.int .i64 0) := by
  have h2 : i % 2 = 0 ∨ i % 2 = 1 := by omega
  simp only [madeCells, Array.getElem?_map]
  rw [Array.getElem?_eq_getElem (by simpa using hi)]
  simp
  rcases h2 with h | h <;> rw [h] <;> rfl
theorem make_ins (n : Nat) (hn : n ≤ 1000) (w : World) : (Instr.makeSlice 22 (.int .i64 n) (.int .i64 n)).run Tryd.prog w = .ok (.slice (some ⟨w.heap.size, 0, none⟩) n n) (w.alloc (.cells (madeCells #[.int .i64 0, .int .i64 0] (n * 2)) 39)) := by
  obtain ⟨i0, hi, hz0, hz1, hz2⟩ := info_parts infoIns
  have := run_make (P := Tryd.prog) w 22 39 i0 (.agg #[.int .i64 0, .int .i64 0]) Tryd.underlying22 hi hz0 .i64 .i64 n n (by omega) (Int.le_refl _) (by rw [hz2]; omega) (by omega)
  rw [hz1] at this
  simpa [Value.cells] using this
theorem made_reads (n : Nat) (w : World) : PReads (w.alloc (.cells (madeCells #[.int .i64 0, .int .i64 0] (n * 2)) 39)) (.slice (some ⟨w.heap.size, 0, none⟩) n n) (List.replicate n (0, 0)) := by
  refine ⟨_, n, by rw [List.length_replicate], fun _ => ⟨w.heap.size, 0, rfl, fun i hi => ?_⟩⟩
  rw [List.length_replicate] at hi
  have e : (List.replicate n ((0 : Int), (0 : Int)))[i]?.getD (0, 0) = (0, 0) := by rw [List.getElem?_replicate, if_pos hi]; rfl
  rw [e]
  simp [made_at _ (i * 2) (show i * 2 < n * 2 by omega), made_at _ (i * 2 + 1) (show i * 2 + 1 < n * 2 by omega)]

set_option maxRecDepth 100000 in
set_option maxHeartbeats 2000000 in
theorem forms_10 (a x : Int) (hk : (IntKind.u64.wrap a).tmod 11 = 10) (w : World) (hT : Tab w) :
    Calls Tryd.prog 5 #[.int .i64 a, .int .i64 x] w fun e w' => e = .returned (.bool true) ∧ w.grownBy w' none := by
  have AW := hide (awake_any w hT)
  have HT := hide hT
  obtain ⟨m, hm, hx⟩ := and63 x
  clear hT
  go_enter Tryd.func5, Tryd.ntmps5
  go_wp2_with (first | fail)
  refine AW.out.mono ?_; rintro e w1 ⟨rfl, g1⟩
  have G1 := hide g1
  clear g1 AW
  have G0 := hide (World.grownBy_alloc w1 (.cells (cells2 five).toArray 39) none)
  go_wp2_with (first | fail)
  refine (mayOk five_may _ (by decide) _ (HT.out.grown (grownBy_trans G1.out G0.out)) (preads_lit w1 five 39)).mono ?_
  rintro e w2 ⟨rfl, g2⟩
  have hmk := make_ins (64 + (1 + m)) (by omega) w2
  simp only [Int.natCast_add, Int.cast_ofNat_Int] at hmk
  have P3 := hide (made_reads (64 + (1 + m)) w2)
  have G3 := hide (grownBy_trans (grownBy_trans G1.out (grownBy_trans G0.out g2)) (World.grownBy_alloc w2 (.cells (madeCells #[.int .i64 0, .int .i64 0] ((64 + (1 + m)) * 2)) 39) none))
  have HBAD := hide (show codeMay (List.replicate (64 + (1 + m)) (0, 0)) = false from codeMay_long (by rw [List.length_replicate]; omega))
  clear g2 G0
  go_wp2_with (first | fail)
  refine (putNot HBAD.out (by rw [List.length_replicate]; omega) _ _ (HT.out.grown G3.out) P3.out).mono ?_
  rintro e w4 ⟨rfl, g4⟩
  have P4 := hide (P3.out.grown g4)
  have G4 := hide (grownBy_trans G3.out g4)
  clear g4 P3 G3
  go_wp2_with (first
    | (go_at_call 12; refine (num_any _ _).mono ?_; rintro e w' ⟨rfl, rfl⟩)
    | (go_at_call 14; refine (mayNot HBAD.out _ (by rw [List.length_replicate]; omega) _ (HT.out.grown G4.out) P4.out).mono ?_; rintro e w5 ⟨rfl, g5⟩))
  go_ret
  exact ⟨rfl, grownBy_trans G4.out g5⟩

theorem forms_any (a x : Int) (w : World) (hT : Tab w) :
    Calls Tryd.prog 5 #[.int .i64 a, .int .i64 x] w fun e w' => e = .returned (.bool true) ∧ w.grownBy w' none := by
  have h0 : 0 ≤ IntKind.u64.wrap a := by rw [IntKind.wrap_u64]; omega
  have h1 : (IntKind.u64.wrap a).tmod 11 = IntKind.u64.wrap a % 11 := Int.tmod_eq_emod_of_nonneg h0
  have h2 : IntKind.u64.wrap a % 11 = 0 ∨ IntKind.u64.wrap a % 11 = 1 ∨ IntKind.u64.wrap a % 11 = 2 ∨ IntKind.u64.wrap a % 11 = 3 ∨ IntKind.u64.wrap a % 11 = 4 ∨ IntKind.u64.wrap a % 11 = 5 ∨ IntKind.u64.wrap a % 11 = 6 ∨ IntKind.u64.wrap a % 11 = 7 ∨ IntKind.u64.wrap a % 11 = 8 ∨ IntKind.u64.wrap a % 11 = 9 ∨ IntKind.u64.wrap a % 11 = 10 := by omega
  rcases h2 with h | h | h | h | h | h | h | h | h | h | h <;> rw [h] at h1
  · exact forms_0 a x h1 w hT
  · exact forms_1 a x h1 w hT
  · exact forms_2 a x h1 w hT
  · exact forms_3 a x h1 w hT
  · exact forms_4 a x h1 w hT
  · exact forms_5 a x h1 w hT
  · exact forms_6 a x h1 w hT
  · exact forms_7 a x h1 w hT
  · exact forms_8 a x h1 w hT
  · exact forms_9 a x h1 w hT
  · exact forms_10 a x h1 w hT
#print axioms forms_any
end Go.Proofs.YtdgdoiigcdlpaaaDoor

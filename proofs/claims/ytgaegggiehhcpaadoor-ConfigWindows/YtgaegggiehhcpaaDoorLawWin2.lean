/- The walk of the statement ConfigWindows, its last way and all together; proved over the translation. -/
import Derived.Test.YtgaegggiehhcpaaDoorLawWin
namespace Go.Proofs.YtgaegggiehhcpaaDoor
open Go.RowKit
attribute [local go_sem] alloc_drewN setCell_drewN

theorem make_new {α : Type} (S : Shape α) (z0 : α) (n e : Nat) (w : World) (hn : n ≤ 9223372036854775807) : RowAt S w.heap.size (w.alloc (.cells (madeCells (S.f z0).toArray (n * S.k)) e)) (.slice (some ⟨w.heap.size, 0, none⟩) n n) (List.replicate n z0) := by
  refine ⟨by simpa using hn, _, n, by rw [List.length_replicate], fun _ => ⟨w.heap.size, 0, rfl, ⟨Nat.le_refl _, by simp⟩, fun i x hx j u hu => ?_⟩⟩
  have hi : i < n := by
    rcases Nat.lt_or_ge i n with h | h
    · exact h
    · rw [List.getElem?_eq_none (by simpa using h)] at hx; cases hx
  obtain rfl : x = z0 := by
    rw [List.getElem?_replicate, if_pos hi] at hx
    exact (Option.some.inj hx).symm
  have hj : j < S.k := by
    rcases Nat.lt_or_ge j S.k with h | h
    · exact h
    · rw [List.getElem?_eq_none (by rw [S.len]; exact h)] at hu; cases hu
  have hlt : i * S.k + j < n * S.k := by
    have : (i + 1) * S.k ≤ n * S.k := Nat.mul_le_mul_right _ hi
    rw [Nat.add_mul] at this
    omega
  have hmod : (i * S.k + j) % S.k = j := by rw [Nat.add_comm, Nat.add_mul_mod_self_right, Nat.mod_eq_of_lt hj]
  rw [blk_cell (heap_alloc_new w _), Nat.zero_add]
  simp only [madeCells, Array.getElem?_map, Array.getElem?_range, hlt, if_true, Option.map_some, List.size_toArray, S.len, hmod]
  rw [← hu]
  have hjl : j < (S.f x).length := by rw [S.len]; exact hj
  simp [hjl]
theorem make_wins (k : Int) (h0 : 0 ≤ k) (h1 : k ≤ 1000) (w : World) : (Instr.makeSlice 23 (.int .i64 k) (.int .i64 k)).run Tryd.prog w = .ok (.slice (some ⟨w.heap.size, 0, none⟩) k.toNat k.toNat) (w.alloc (.cells (madeCells #[.int .i64 0, .int .i64 0, .int .i64 0] (k.toNat * 3)) 59)) := by
  obtain ⟨i0, hi, hz0, hz1, hz2⟩ := info_parts info59
  have := run_make (P := Tryd.prog) w 23 59 i0 _ Tryd.underlying23 hi hz0 .i64 .i64 k k h0 (Int.le_refl _) (by rw [hz2]; omega) (by omega)
  rw [hz1] at this
  exact this
set_option maxRecDepth 100000 in
set_option maxHeartbeats 2000000 in
theorem win_5 (a x : Int) (hk : (IntKind.u64.wrap a).tmod 12 = 5) (w : World) (hT : Tab w) :
    Calls Tryd.prog 7 #[.int .i64 a, .int .i64 x] w fun e w' => e = .returned (.bool true) ∧ w.grownBy w' none := by
  have HT := hide hT
  have CA := hide (awake_any w hT)
  clear hT
  obtain ⟨m, m0, m1, e1⟩ := and63 x
  have HCK : Hid (checkN ⟨10, 2, plainP, List.replicate (32 + (1 + m)).toNat wz, [po0]⟩ = 504) := hide (chkW _ _ (by unfold winsB; rw [List.length_replicate, decide_eq_false (by omega)]; rfl))
  have hmk := make_wins (32 + (1 + m)) (by omega) (by omega)
  have hm33 : 33 ≤ (32 + (1 + m)).toNat := by omega
  have hm96 : (32 + (1 + m)).toNat ≤ 96 := by omega
  go_enter Tryd.func7, Tryd.ntmps7
  go_wp2_with (first | fail)
  refine CA.out.mono ?_; rintro e w1 ⟨rfl, hg⟩
  have G1 := hide hg
  clear hg CA
  go_wp2_with (first | fail)
  refine (plain_any w1).mono ?_; rintro e w2 ⟨n, hn, rfl, hm, hg⟩
  have M2 := hide hm
  have G2 := hide (grownBy_trans G1.out hg)
  have hn2 := hm.lt
  have HN := hide (show w.heap.size ≤ n by have := G1.out.size; omega)
  clear hm hg
  go_upto_region 4 with fail
  have A3 := hide (World.grownBy_alloc w2 (.cells #[.int .i64 10, .int .i64 2, .slice (some ⟨n + 3, 0, none⟩) 2 2, .slice (some ⟨n + 4, 0, none⟩) 2 2, .slice (some ⟨n + 5, 0, none⟩) 1 1] 26) none)
  have B3' := hide (heap_alloc_new w2 (.cells #[.int .i64 10, .int .i64 2, .slice (some ⟨n + 3, 0, none⟩) 2 2, .slice (some ⟨n + 4, 0, none⟩) 2 2, .slice (some ⟨n + 5, 0, none⟩) 1 1] 26))
  generalize hw3 : w2.alloc (.cells #[.int .i64 10, .int .i64 2, .slice (some ⟨n + 3, 0, none⟩) 2 2, .slice (some ⟨n + 4, 0, none⟩) 2 2, .slice (some ⟨n + 5, 0, none⟩) 1 1] 26) = w3 at *
  clear hw3
  have M3 := hide (M2.out.grown A3.out)
  have G3 := hide (grownBy_trans G2.out A3.out)
  generalize hB : w2.heap.size = B at *
  have B3 := hide B3'.out
  clear hB A3 M2 B3'
  have f0 : w3.cell? ⟨B, 0, none⟩ = some (.int .i64 10) := blk_cell B3.out 0
  have f1 : w3.cell? ⟨B, 1, none⟩ = some (.int .i64 2) := blk_cell B3.out 1
  have f2 : w3.cell? ⟨B, 2, none⟩ = some (.slice (some ⟨n + 3, 0, none⟩) 2 2) := blk_cell B3.out 2
  have f3 : w3.cell? ⟨B, 3, none⟩ = some (.slice (some ⟨n + 4, 0, none⟩) 2 2) := blk_cell B3.out 3
  have f4 : w3.cell? ⟨B, 4, none⟩ = some (.slice (some ⟨n + 5, 0, none⟩) 1 1) := blk_cell B3.out 4
  have kf := blk_free B3.out
  have hB := box_lt B3.out
  have hBn : B ≠ w3.heap.size := by omega
  have hwb : w.heap.size ≤ B := by have := HN.out; omega
  have G4 := hide (grown_set_new (j := 3) (u := .slice (some ⟨w3.heap.size, 0, none⟩) (32 + (1 + m)).toNat (32 + (1 + m)).toNat) (R := B) hwb G3.out)
  have B4 := hide (blk_set (j := 3) (u := .slice (some ⟨w3.heap.size, 0, none⟩) (32 + (1 + m)).toNat (32 + (1 + m)).toNat) B3.out (cs' := #[.int .i64 10, .int .i64 2, .slice (some ⟨n + 3, 0, none⟩) 2 2, .slice (some ⟨w3.heap.size, 0, none⟩) (32 + (1 + m)).toNat (32 + (1 + m)).toNat, .slice (some ⟨n + 5, 0, none⟩) 1 1]) rfl)
  have M4 := hide (M3.out.above B 3 (.slice (some ⟨w3.heap.size, 0, none⟩) (32 + (1 + m)).toNat (32 + (1 + m)).toNat) (by omega))
  have hsz : (w3.setCell ⟨B, 3, none⟩ (.slice (some ⟨w3.heap.size, 0, none⟩) (32 + (1 + m)).toNat (32 + (1 + m)).toNat)).heap.size = w3.heap.size := by simp [World.setCell]
  have R5 := make_new shW wz (32 + (1 + m)).toNat 59 (w3.setCell ⟨B, 3, none⟩ (.slice (some ⟨w3.heap.size, 0, none⟩) (32 + (1 + m)).toNat (32 + (1 + m)).toNat)) (by omega)
  rw [hsz] at R5
  have HR5 := hide R5
  clear R5 hsz
  have A5 := hide (World.grownBy_alloc (w3.setCell ⟨B, 3, none⟩ (.slice (some ⟨w3.heap.size, 0, none⟩) (32 + (1 + m)).toNat (32 + (1 + m)).toNat)) (.cells (madeCells #[.int .i64 0, .int .i64 0, .int .i64 0] ((32 + (1 + m)).toNat * 3)) 59) none)
  have B5 := hide (box_grown B4.out A5.out (by simp))
  have G5 := hide (grownBy_trans G4.out A5.out)
  have M5 := hide (M4.out.grown A5.out)
  have HCF : Hid (ConfAt 0 ((w3.setCell ⟨B, 3, none⟩ (.slice (some ⟨w3.heap.size, 0, none⟩) (32 + (1 + m)).toNat (32 + (1 + m)).toNat)).alloc (.cells (madeCells #[.int .i64 0, .int .i64 0, .int .i64 0] ((32 + (1 + m)).toNat * 3)) 59)) (.agg #[.int .i64 10, .int .i64 2, .slice (some ⟨n + 3, 0, none⟩) 2 2, .slice (some ⟨w3.heap.size, 0, none⟩) (32 + (1 + m)).toNat (32 + (1 + m)).toNat, .slice (some ⟨n + 5, 0, none⟩) 1 1]) ⟨10, 2, plainP, List.replicate (32 + (1 + m)).toNat wz, [po0]⟩) := by
    obtain ⟨vp, vw, vo, e, h1, h2, h3⟩ := M5.out.conf 10 2
    simp only [Value.agg.injEq, List.cons.injEq, Array.mk.injEq, true_and, and_true] at e
    obtain ⟨rfl, rfl, rfl⟩ := e
    exact ⟨_, _, _, rfl, h1.mono (Nat.zero_le _), HR5.out.mono (Nat.zero_le _), h3.mono (Nat.zero_le _)⟩
  go_wp2_with (first | fail)
  refine (check_any _ ⟨10, 2, plainP, List.replicate (32 + (1 + m)).toNat wz, [po0]⟩ _ (HT.out.grown G5.out) HCF.out).mono ?_; rintro e w6 ⟨rfl, hg⟩
  rw [HCK.out]
  have G6 := hide (grownBy_trans G5.out hg)
  have C6 := hide (ConfAt.grown HCF.out hg)
  have B6 := hide (box_grown B5.out hg (by simp))
  clear hg
  have g0 : w6.cell? ⟨B, 0, none⟩ = some (.int .i64 10) := blk_cell B6.out 0
  have g1 : w6.cell? ⟨B, 1, none⟩ = some (.int .i64 2) := blk_cell B6.out 1
  have g2 : w6.cell? ⟨B, 2, none⟩ = some (.slice (some ⟨n + 3, 0, none⟩) 2 2) := blk_cell B6.out 2
  have g3 : w6.cell? ⟨B, 3, none⟩ = some (.slice (some ⟨w3.heap.size, 0, none⟩) (32 + (1 + m)).toNat (32 + (1 + m)).toNat) := blk_cell B6.out 3
  have g4 : w6.cell? ⟨B, 4, none⟩ = some (.slice (some ⟨n + 5, 0, none⟩) 1 1) := blk_cell B6.out 4
  have HPS := hide (putS_bad HCK.out (by decide))
  go_wp2_with (first | fail)
  refine (put_any _ ⟨10, 2, plainP, List.replicate (32 + (1 + m)).toNat wz, [po0]⟩ _ (HT.out.grown G6.out) C6.out).mono ?_; rintro e w7 ⟨rfl, hg⟩
  rw [HPS.out, HCK.out]
  have G7 := hide (grownBy_trans G6.out hg)
  clear hg
  go_wp2_with (first | (go_at_call 15; refine (num_any _ _).mono ?_; rintro e w' ⟨rfl, rfl⟩))
  go_ret
  exact ⟨rfl, G7.out⟩

theorem configWindows_any (a x : Int) (w : World) (hT : Tab w) :
    Calls Tryd.prog 7 #[.int .i64 a, .int .i64 x] w fun e w' => e = .returned (.bool true) ∧ w.grownBy w' none := by
  have h0 : 0 ≤ IntKind.u64.wrap a := by rw [IntKind.wrap_u64]; omega
  have h1 : (IntKind.u64.wrap a).tmod 12 = IntKind.u64.wrap a % 12 := Int.tmod_eq_emod_of_nonneg h0
  have h2 : 0 ≤ IntKind.u64.wrap a % 12 ∧ IntKind.u64.wrap a % 12 < 12 := by omega
  rw [← h1] at h2
  rcases (by omega : (IntKind.u64.wrap a).tmod 12 = 0 ∨ (IntKind.u64.wrap a).tmod 12 = 1 ∨ (IntKind.u64.wrap a).tmod 12 = 2 ∨ (IntKind.u64.wrap a).tmod 12 = 3 ∨ (IntKind.u64.wrap a).tmod 12 = 4 ∨ (IntKind.u64.wrap a).tmod 12 = 5 ∨ (IntKind.u64.wrap a).tmod 12 = 6 ∨ (IntKind.u64.wrap a).tmod 12 = 7 ∨ (IntKind.u64.wrap a).tmod 12 = 8 ∨ (IntKind.u64.wrap a).tmod 12 = 9 ∨ (IntKind.u64.wrap a).tmod 12 = 10 ∨ (IntKind.u64.wrap a).tmod 12 = 11) with h | h | h | h | h | h | h | h | h | h | h | h
  · exact win_0 a x h w hT
  · exact win_1 a x h w hT
  · exact win_2 a x h w hT
  · exact win_3 a x h w hT
  · exact win_4 a x h w hT
  · exact win_5 a x h w hT
  · exact win_6 a x h w hT
  · exact win_7 a x h w hT
  · exact win_8 a x h w hT
  · exact win_9 a x h w hT
  · exact win_10 a x h w hT
  · exact win_11 a x h w hT

#print axioms configWindows_any
end Go.Proofs.YtgaegggiehhcpaaDoor

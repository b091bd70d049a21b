/- Contract of package ring's All: the row in new memory. -/
import Derived.Test.YtiffpmleeaenjaaRing
namespace Go.Proofs.Ytiffpmleeaenjaa
open Go.RowKit
attribute [local go_sem] alloc_drewN setCell_drewN
attribute [local go_sem ↓] Go.wp_at_zero Go.wp_at_succ

theorem infoI64 : (Try.prog.info? 3).map (fun i => (i.zero, i.size, i.bytes)) = some (some (.int .i64 0), 1, 8) := by kernel_rfl

/-- The numbers as values. -/
def vals (zs : List Int) : List Value := zs.map (Value.int .i64)
theorem vals_length (zs : List Int) : (vals zs).length = zs.length := by simp [vals]
theorem vals_get (zs : List Int) (j : Nat) (h : j < zs.length) : (vals zs)[j]? = some (.int .i64 (zs[j]?.getD 0)) := by
  simp [vals, List.getElem?_map, List.getElem?_eq_getElem h]
theorem vals_set (zs : List Int) (j : Nat) (x : Int) : (vals zs).set j (.int .i64 x) = vals (zs.set j x) := by simp [vals, List.map_set]

def made (n : Nat) : Array Value := madeCells #[.int .i64 0] n
theorem make_any (n : Nat) (hn : n ≤ 64) (w : World) : (Instr.makeSlice 22 (.int .i64 n) (.int .i64 n)).run Try.prog w = .ok (.slice (some ⟨w.heap.size, 0, none⟩) n n) (w.alloc (.cells (made n) 3)) := by
  obtain ⟨i0, hi, hz0, hz1, hz2⟩ := info_parts infoI64
  have := run_make (P := Try.prog) w 22 3 i0 (.int .i64 0) Try.underlying22 hi hz0 .i64 .i64 n n (by omega) (Int.le_refl _) (by rw [hz2]; omega) (by omega)
  rw [hz1] at this
  simpa [made, Value.cells] using this
theorem made_own (w : World) (n : Nat) (hn : n ≤ 64) : (w.alloc (.cells (made n) 3)).ownsRow w.heap.size 3 1 (.slice (some ⟨w.heap.size, 0, none⟩) n n) n (vals (List.replicate n 0)) := by
  have := World.ownsRow_lit (base := w.heap.size) (e := 3) (size := 1) w (made n) n (Nat.le_refl _) (by unfold maxLen; omega) (by simp [made, size_madeCells])
  rw [made, toList_madeCells_one] at this
  simpa [made, vals] using this

theorem behind_nat (x y m : Nat) (hx : x ≤ 65) (hy : y ≤ 65) (hm : (x + y) % 65 = m) (w : World) :
    Calls Try.prog 22 #[.int .i64 x, .int .i64 y] w fun e w' => e = .returned (.int .i64 m) ∧ w' = w := by
  have c := behind_any x y (by omega) (by omega) (by omega) (by omega) w
  rw [show ((x : Int) + (y : Int)) % 65 = (m : Int) by omega] at c
  exact c

theorem take_set_succ {ys row : List Int} {j : Nat} (h : ys.take j = row.take j) (h1 : j < ys.length) (h2 : j < row.length) : (ys.set j (row[j]?.getD 0)).take (j + 1) = row.take (j + 1) := by
  rw [List.take_succ_eq_append_getElem (by simpa using h1), List.take_succ_eq_append_getElem h2, List.getElem_set_self, List.take_set_of_le (Nat.le_refl _), h, List.getElem?_eq_getElem h2]
  rfl
set_option maxRecDepth 100000 in
set_option maxHeartbeats 1000000 in
theorem all_any (b k : Nat) (row : List Int) (w : World) (h : RingAt w b k row) :
    Calls Try.prog 19 #[.pointer (some ⟨b, 0, none⟩)] w fun e w' => e = .returned (.slice (some ⟨w.heap.size, 0, none⟩) row.length row.length) ∧ w'.ownsRow w.heap.size 3 1 (.slice (some ⟨w.heap.size, 0, none⟩) row.length row.length) row.length (vals row) ∧ w.grownBy w' none := by
  have hb := h.lt
  obtain ⟨h1, h2, f, v, h3, hr, h4⟩ := h
  have hn : row.length ≤ 64 := by omega
  have C := hide (fun w hr => length_l b k f (((f + row.length) % 65 : Nat) : Int) row.length v (by omega) (by omega) (by omega) (by omega) (by omega) w hr)
  have HR := hide hr
  have H4 := hide h4
  clear hr h4
  generalize hN : row.length = N at *
  have HN := hide hN
  clear hN
  go_enter Try.func19, Try.ntmps19
  go_wp2_with (first | fail)
  refine (C.out _ HR.out).mono ?_; rintro e w' ⟨rfl, n1, rfl⟩
  go_wp2_with (simp only [make_any N hn])
  refine (C.out _ ((HR.out.kept (Below.heap_alloc w _ b hb)).draws _)).mono ?_; rintro e w' ⟨rfl, n2, rfl⟩
  go_wp2_with (first | fail)
  go_loopw [12] (fun c W => ∃ (j : Nat) (ys : List Int), j ≤ N ∧ c = .int .i64 j ∧ ys.length = N ∧ ys.take j = row.take j ∧ W.ownsRow w.heap.size 3 1 (.slice (some ⟨w.heap.size, 0, none⟩) N N) N (vals ys) ∧ w.grownBy W none) (fun c _ => N - (intOf c).toNat)
  case atStart =>
    refine ⟨0, List.replicate N 0, by omega, rfl, by simp, by simp, ?_, ?_⟩
    · exact own_draws (made_own w N hn) _
    · exact grownBy_trans (World.grownBy_alloc w _ none) (grownBy_draws _ _ _)
  case round =>
    obtain ⟨j, ys, hj, rfl, hy, ht, hown, hg⟩ := hrel
    by_cases hlt : j < N
    · have hrw := HR.out.kept (hg.block b hb (by simp))
      have c1 := hrw.first
      have c2 := hrw.val ((f + j) % 65) (by omega)
      have c3 := hown.cellAt j (by omega)
      rw [vals_get _ _ (by omega)] at c3
      have c4 := hown.frozenAt j
      have e1 := H4.out j hlt
      rw [e1] at c2
      have CB := hide (behind_nat f j ((f + j) % 65) (by omega) (by omega) rfl)
      generalize hm : (f + j) % 65 = m at c2 CB
      have hm' : m < 65 := by omega
      clear hm e1
      have HO := hide hown
      have HG := hide hg
      have HT := hide ht
      clear hown hg ht hrw
      go_wp2_with (first | fail)
      go_region_with (first | (go_at_call 22; refine (CB.out _).mono ?_; rintro e w' ⟨rfl, rfl⟩))
      all_goals go_wp2
      all_goals
        go_roundw
        case rel =>
          refine ⟨j + 1, ys.set j (row[j]?.getD 0), by omega, by go_num, by simpa using hy, ?_, ?_, ?_⟩
          · exact take_set_succ HT.out (by omega) (by have := HN.out; omega)
          · rw [← vals_set]; exact own_draws (HO.out.stored j _).1 1
          · exact grownBy_trans (grown_new HG.out j _) (grownBy_draws _ 1 _)
        case measure => simp [intOf]; omega
    · have e : j = N := by omega
      subst e
      have HO := hide hown
      have HG := hide hg
      have HT := hide ht
      clear hown hg ht
      go_wp2
      go_ret
      refine ⟨rfl, ?_, HG.out⟩
      have e2 : ys = row := by
        have := HT.out
        rwa [List.take_of_length_le (by omega), List.take_of_length_le (by have := HN.out; omega)] at this
      rw [← e2]
      exact HO.out

/-- The value is a slice that reads as the numbers. -/
def Reads (W : World) (v : Value) (zs : List Int) : Prop :=
  ∃ a cap, v = .slice a zs.length cap ∧ (0 < zs.length → ∃ g o, a = some ⟨g, o, none⟩ ∧ ∀ i, i < zs.length → W.cell? ⟨g, o + i, none⟩ = some (.int .i64 (zs[i]?.getD 0)))
theorem Reads.draws {W : World} {v : Value} {zs : List Int} (h : Reads W v zs) (n : Nat) : Reads (W.drewN n) v zs := h
theorem reads_own {w : World} {base : Nat} {v : Value} {zs : List Int} (h : w.ownsRow base 3 1 v zs.length (vals zs)) : Reads w v zs := by
  by_cases hl : 0 < zs.length
  · obtain ⟨g, cap, rfl, _, _⟩ := h.form hl
    refine ⟨_, cap, rfl, fun _ => ⟨g, 0, rfl, fun i hi => ?_⟩⟩
    rw [Nat.zero_add, h.cellAt i (by omega), vals_get _ _ hi]
  · rcases h.2 with ⟨rfl, _⟩ | ⟨g, cap, cur, rfl, _⟩
    · exact ⟨none, 0, by rw [show zs.length = 0 by omega], fun h => absurd h hl⟩
    · exact ⟨_, cap, rfl, fun h => absurd h hl⟩

#print axioms all_any
end Go.Proofs.Ytiffpmleeaenjaa

/- Contracts of the writer's task, instr, window and port, and of layList over them, proved over the translation. -/
import Derived.Test.YtgaegggiehhcpaaDoorNumbers
namespace Go.Proofs.YtgaegggiehhcpaaDoor
open Go.RowKit
attribute [local go_sem] alloc_drewN setCell_drewN

theorem box_cells {w w1 : World} {cs : Array Value} {t : Nat} (h : w1.heap[w.heap.size]? = (w.alloc (.cells cs t)).heap[w.heap.size]?) (k : Nat) : w1.cell? ⟨w.heap.size, k, none⟩ = cs[k]? := by
  rw [heap_alloc_new] at h
  simp [World.cell?, h]
theorem flat_take_le {α : Type} (f : α → List Int) (xs : List α) (j : Nat) : ((xs.take j).flatMap f).length ≤ (xs.flatMap f).length := by
  conv => rhs; rw [← List.take_append_drop j xs, List.flatMap_append, List.length_append]
  omega
theorem flat_take_succ {α : Type} (f : α → List Int) (xs : List α) (j : Nat) (x : α) (h : xs[j]? = some x) : (xs.take (j + 1)).flatMap f = (xs.take j).flatMap f ++ f x := by
  obtain ⟨hj, e⟩ := List.getElem?_eq_some_iff.1 h
  rw [List.take_succ_eq_append_getElem hj, List.flatMap_append, e]; simp
def layTask (t : TaskV) : List Int := be 1 t.kind ++ (be 2 t.period ++ (be 2 t.deadline ++ (be 2 t.clow ++ (be 2 t.chigh ++ be 1 t.prio))))
def layIns (x : Ins) : List Int := be 1 x.1 ++ be 1 x.2
def layWin (x : WinV) : List Int := be 2 x.fr ++ (be 2 x.til ++ be 1 x.part)
def layPort (x : PortV) : List Int := be 1 x.kind ++ (be 1 x.fr ++ (be 1 x.til ++ be 1 x.size))
/-- How many there are, and each. -/
def layAll {α : Type} (f : α → List Int) (xs : List α) : List Int := be 1 (xs.length : Int) ++ xs.flatMap f

theorem num_1_1 (b : Nat) (zs : List Int) (x0 : Int) (w0 : World) (v0 : Value) (h : Nat) (hh : w0.heap.size = h) (hW : WAt w0 b v0 zs) (hlim : zs.length + 1 ≤ 1000000) :
    Calls Tryd.prog 55 #[.pointer (some ⟨b, 0, none⟩), .int .i64 1, .slice (some ⟨h, 0, none⟩) 1 1] (w0.alloc (.cells #[.int .i64 x0] 3)) fun e w' => e = .returned (.tuple #[]) ∧ ∃ v', WAt w' b v' (zs ++ [x0].flatMap (be 1)) ∧ Wrote b v0 w0 v' w' := by
  subst hh
  exact numbers_1 b zs [x0] w0 v0 hW hlim
theorem num_1_2 (b : Nat) (zs : List Int) (x0 x1 : Int) (w0 : World) (v0 : Value) (h : Nat) (hh : w0.heap.size = h) (hW : WAt w0 b v0 zs) (hlim : zs.length + 2 ≤ 1000000) :
    Calls Tryd.prog 55 #[.pointer (some ⟨b, 0, none⟩), .int .i64 1, .slice (some ⟨h, 0, none⟩) 2 2] (w0.alloc (.cells #[.int .i64 x0, .int .i64 x1] 3)) fun e w' => e = .returned (.tuple #[]) ∧ ∃ v', WAt w' b v' (zs ++ [x0, x1].flatMap (be 1)) ∧ Wrote b v0 w0 v' w' := by
  subst hh
  exact numbers_1 b zs [x0, x1] w0 v0 hW hlim
theorem num_1_4 (b : Nat) (zs : List Int) (x0 x1 x2 x3 : Int) (w0 : World) (v0 : Value) (h : Nat) (hh : w0.heap.size = h) (hW : WAt w0 b v0 zs) (hlim : zs.length + 4 ≤ 1000000) :
    Calls Tryd.prog 55 #[.pointer (some ⟨b, 0, none⟩), .int .i64 1, .slice (some ⟨h, 0, none⟩) 4 4] (w0.alloc (.cells #[.int .i64 x0, .int .i64 x1, .int .i64 x2, .int .i64 x3] 3)) fun e w' => e = .returned (.tuple #[]) ∧ ∃ v', WAt w' b v' (zs ++ [x0, x1, x2, x3].flatMap (be 1)) ∧ Wrote b v0 w0 v' w' := by
  subst hh
  exact numbers_1 b zs [x0, x1, x2, x3] w0 v0 hW hlim
theorem num_2_1 (b : Nat) (zs : List Int) (x0 : Int) (w0 : World) (v0 : Value) (h : Nat) (hh : w0.heap.size = h) (hW : WAt w0 b v0 zs) (hlim : zs.length + 2 ≤ 1000000) :
    Calls Tryd.prog 55 #[.pointer (some ⟨b, 0, none⟩), .int .i64 2, .slice (some ⟨h, 0, none⟩) 1 1] (w0.alloc (.cells #[.int .i64 x0] 3)) fun e w' => e = .returned (.tuple #[]) ∧ ∃ v', WAt w' b v' (zs ++ [x0].flatMap (be 2)) ∧ Wrote b v0 w0 v' w' := by
  subst hh
  exact numbers_2 b zs [x0] w0 v0 hW hlim
theorem num_2_2 (b : Nat) (zs : List Int) (x0 x1 : Int) (w0 : World) (v0 : Value) (h : Nat) (hh : w0.heap.size = h) (hW : WAt w0 b v0 zs) (hlim : zs.length + 4 ≤ 1000000) :
    Calls Tryd.prog 55 #[.pointer (some ⟨b, 0, none⟩), .int .i64 2, .slice (some ⟨h, 0, none⟩) 2 2] (w0.alloc (.cells #[.int .i64 x0, .int .i64 x1] 3)) fun e w' => e = .returned (.tuple #[]) ∧ ∃ v', WAt w' b v' (zs ++ [x0, x1].flatMap (be 2)) ∧ Wrote b v0 w0 v' w' := by
  subst hh
  exact numbers_2 b zs [x0, x1] w0 v0 hW hlim
theorem num_2_4 (b : Nat) (zs : List Int) (x0 x1 x2 x3 : Int) (w0 : World) (v0 : Value) (h : Nat) (hh : w0.heap.size = h) (hW : WAt w0 b v0 zs) (hlim : zs.length + 8 ≤ 1000000) :
    Calls Tryd.prog 55 #[.pointer (some ⟨b, 0, none⟩), .int .i64 2, .slice (some ⟨h, 0, none⟩) 4 4] (w0.alloc (.cells #[.int .i64 x0, .int .i64 x1, .int .i64 x2, .int .i64 x3] 3)) fun e w' => e = .returned (.tuple #[]) ∧ ∃ v', WAt w' b v' (zs ++ [x0, x1, x2, x3].flatMap (be 2)) ∧ Wrote b v0 w0 v' w' := by
  subst hh
  exact numbers_2 b zs [x0, x1, x2, x3] w0 v0 hW hlim

set_option maxRecDepth 100000 in
set_option maxHeartbeats 1000000 in
theorem lay_T (b : Nat) (zs : List Int) (q : TaskV) (v : Value) (w : World) (hW : WAt w b v zs) (hlim : (zs ++ layTask q).length ≤ 1000000) :
    Calls Tryd.prog 87 #[.pointer (some ⟨b, 0, none⟩), .agg #[.int .i64 q.kind, .int .i64 q.period, .int .i64 q.deadline, .int .i64 q.clow, .int .i64 q.chigh, .int .i64 q.prio]] w fun e w' => e = .returned (.tuple #[]) ∧ ∃ v', WAt w' b v' (zs ++ layTask q) ∧ Wrote b v w v' w' := by
  have hl : zs.length + 10 ≤ 1000000 := by simpa [layTask, be] using hlim
  have HL := hide hl
  clear hl hlim
  obtain ⟨x0, x1, x2, x3, x4, x5⟩ := q
  have HW0 := hide hW
  have HW1 := hide (hW.alloc (.cells #[.int .i64 x0, .int .i64 x1, .int .i64 x2, .int .i64 x3, .int .i64 x4, .int .i64 x5] 52))
  clear hW
  go_enter Tryd.func87, Tryd.ntmps87
  go_wp2_with (first | fail)
  refine (num_1_1 b (zs) x0 _ _ _ (by simp) HW1.out (by have := HL.out; omega)).mono ?_; rintro e w2 ⟨rfl, v2, hw, hr⟩
  have HW2 := hide hw
  have HR2 := hide hr
  clear hw hr
  have fb := box_cells (HR2.out.new HW0.out)
  have f2_1 : w2.cell? ⟨w.heap.size, 1, none⟩ = some (.int .i64 x1) := fb 1
  have f2_2 : w2.cell? ⟨w.heap.size, 2, none⟩ = some (.int .i64 x2) := fb 2
  have f2_3 : w2.cell? ⟨w.heap.size, 3, none⟩ = some (.int .i64 x3) := fb 3
  have f2_4 : w2.cell? ⟨w.heap.size, 4, none⟩ = some (.int .i64 x4) := fb 4
  have f2_5 : w2.cell? ⟨w.heap.size, 5, none⟩ = some (.int .i64 x5) := fb 5
  clear fb
  go_wp2_with (first | fail)
  refine (num_2_4 b (zs ++ [x0].flatMap (be 1)) x1 x2 x3 x4 _ _ _ (by simp) HW2.out (by have := HL.out; simp [be]; omega)).mono ?_; rintro e w3 ⟨rfl, v3, hw, hr⟩
  have HW3 := hide hw
  have HR3 := hide (HR2.out.trans hr)
  clear hw hr
  have fb := box_cells (HR3.out.new HW0.out)
  have f3_5 : w3.cell? ⟨w.heap.size, 5, none⟩ = some (.int .i64 x5) := fb 5
  clear fb
  go_wp2_with (first | fail)
  refine (num_1_1 b (zs ++ [x0].flatMap (be 1) ++ [x1, x2, x3, x4].flatMap (be 2)) x5 _ _ _ (by simp) HW3.out (by have := HL.out; simp [be]; omega)).mono ?_; rintro e w4 ⟨rfl, v4, hw, hr⟩
  have HW4 := hide hw
  have HR4 := hide (HR3.out.trans hr)
  clear hw hr
  go_wp2
  go_end0
  refine ⟨rfl, v4, ?_, HR4.out.alloc⟩
  have := HW4.out
  simpa [layTask, List.append_assoc] using this

set_option maxRecDepth 100000 in
set_option maxHeartbeats 1000000 in
theorem lay_I (b : Nat) (zs : List Int) (q : Ins) (v : Value) (w : World) (hW : WAt w b v zs) (hlim : (zs ++ layIns q).length ≤ 1000000) :
    Calls Tryd.prog 89 #[.pointer (some ⟨b, 0, none⟩), .agg #[.int .i64 q.1, .int .i64 q.2]] w fun e w' => e = .returned (.tuple #[]) ∧ ∃ v', WAt w' b v' (zs ++ layIns q) ∧ Wrote b v w v' w' := by
  have hl : zs.length + 2 ≤ 1000000 := by simpa [layIns, be] using hlim
  have HL := hide hl
  clear hl hlim
  obtain ⟨x0, x1⟩ := q
  have HW0 := hide hW
  have HW1 := hide (hW.alloc (.cells #[.int .i64 x0, .int .i64 x1] 54))
  clear hW
  go_enter Tryd.func89, Tryd.ntmps89
  go_wp2_with (first | fail)
  refine (num_1_2 b (zs) x0 x1 _ _ _ (by simp) HW1.out (by have := HL.out; omega)).mono ?_; rintro e w2 ⟨rfl, v2, hw, hr⟩
  have HW2 := hide hw
  have HR2 := hide hr
  clear hw hr
  go_wp2
  go_end0
  refine ⟨rfl, v2, ?_, HR2.out.alloc⟩
  have := HW2.out
  simpa [layIns, List.append_assoc] using this

set_option maxRecDepth 100000 in
set_option maxHeartbeats 1000000 in
theorem lay_W (b : Nat) (zs : List Int) (q : WinV) (v : Value) (w : World) (hW : WAt w b v zs) (hlim : (zs ++ layWin q).length ≤ 1000000) :
    Calls Tryd.prog 59 #[.pointer (some ⟨b, 0, none⟩), .agg #[.int .i64 q.fr, .int .i64 q.til, .int .i64 q.part]] w fun e w' => e = .returned (.tuple #[]) ∧ ∃ v', WAt w' b v' (zs ++ layWin q) ∧ Wrote b v w v' w' := by
  have hl : zs.length + 5 ≤ 1000000 := by simpa [layWin, be] using hlim
  have HL := hide hl
  clear hl hlim
  obtain ⟨x0, x1, x2⟩ := q
  have HW0 := hide hW
  have HW1 := hide (hW.alloc (.cells #[.int .i64 x0, .int .i64 x1, .int .i64 x2] 59))
  clear hW
  go_enter Tryd.func59, Tryd.ntmps59
  go_wp2_with (first | fail)
  refine (num_2_2 b (zs) x0 x1 _ _ _ (by simp) HW1.out (by have := HL.out; omega)).mono ?_; rintro e w2 ⟨rfl, v2, hw, hr⟩
  have HW2 := hide hw
  have HR2 := hide hr
  clear hw hr
  have fb := box_cells (HR2.out.new HW0.out)
  have f2_2 : w2.cell? ⟨w.heap.size, 2, none⟩ = some (.int .i64 x2) := fb 2
  clear fb
  go_wp2_with (first | fail)
  refine (num_1_1 b (zs ++ [x0, x1].flatMap (be 2)) x2 _ _ _ (by simp) HW2.out (by have := HL.out; simp [be]; omega)).mono ?_; rintro e w3 ⟨rfl, v3, hw, hr⟩
  have HW3 := hide hw
  have HR3 := hide (HR2.out.trans hr)
  clear hw hr
  go_wp2
  go_end0
  refine ⟨rfl, v3, ?_, HR3.out.alloc⟩
  have := HW3.out
  simpa [layWin, List.append_assoc] using this

set_option maxRecDepth 100000 in
set_option maxHeartbeats 1000000 in
theorem lay_O (b : Nat) (zs : List Int) (q : PortV) (v : Value) (w : World) (hW : WAt w b v zs) (hlim : (zs ++ layPort q).length ≤ 1000000) :
    Calls Tryd.prog 61 #[.pointer (some ⟨b, 0, none⟩), .agg #[.int .i64 q.kind, .int .i64 q.fr, .int .i64 q.til, .int .i64 q.size]] w fun e w' => e = .returned (.tuple #[]) ∧ ∃ v', WAt w' b v' (zs ++ layPort q) ∧ Wrote b v w v' w' := by
  have hl : zs.length + 4 ≤ 1000000 := by simpa [layPort, be] using hlim
  have HL := hide hl
  clear hl hlim
  obtain ⟨x0, x1, x2, x3⟩ := q
  have HW0 := hide hW
  have HW1 := hide (hW.alloc (.cells #[.int .i64 x0, .int .i64 x1, .int .i64 x2, .int .i64 x3] 57))
  clear hW
  go_enter Tryd.func61, Tryd.ntmps61
  go_wp2_with (first | fail)
  refine (num_1_4 b (zs) x0 x1 x2 x3 _ _ _ (by simp) HW1.out (by have := HL.out; omega)).mono ?_; rintro e w2 ⟨rfl, v2, hw, hr⟩
  have HW2 := hide hw
  have HR2 := hide hr
  clear hw hr
  go_wp2
  go_end0
  refine ⟨rfl, v2, ?_, HR2.out.alloc⟩
  have := HW2.out
  simpa [layPort, List.append_assoc] using this

set_option maxRecDepth 100000 in
set_option maxHeartbeats 2000000 in
theorem layAll_T {lo : Nat} (b : Nat) (zs : List Int) (vx : Value) (xs : List TaskV) (v : Value) (w : World) (hW : WAt w b v zs) (hR : ∀ W, Below b w W → RowAt shT lo W vx xs) (hlim : (zs ++ layAll layTask xs).length ≤ 1000000) :
    Calls Tryd.prog 86 #[.pointer (some ⟨b, 0, none⟩), vx, .func (.func 87) #[.pointer (some ⟨b, 0, none⟩)] #[]] w fun e w' => e = .returned (.tuple #[]) ∧ ∃ v', WAt w' b v' (zs ++ layAll layTask xs) ∧ Wrote b v w v' w' := by
  have HV := hide hR
  obtain ⟨hl, va, vcap, rfl, -⟩ := hR w (Below.refl _ _)
  have HW0 := hide hW
  have HL1 := hide (show zs.length + 1 ≤ 1000000 by unfold layAll at hlim; simp [be] at hlim; omega)
  have HL2 := hide (show ∀ (j : Nat) (x : TaskV), xs[j]? = some x → ((zs ++ be 1 (xs.length : Int) ++ (xs.take j).flatMap layTask) ++ layTask x).length ≤ 1000000 from fun j x hx => by
    have h1 := flat_take_le layTask xs (j + 1)
    rw [flat_take_succ layTask xs j x hx] at h1
    unfold layAll at hlim
    simp only [List.length_append] at h1 hlim ⊢
    omega)
  clear hW hR hlim
  unfold layAll
  generalize hN : xs.length = N at *
  have HN := hide hN
  clear hN
  go_enter Tryd.func86, Tryd.ntmps86
  go_wp2_with (first | fail)
  refine (numbers_1 b zs [(N : Int)] _ _ HW0.out (by simpa using HL1.out)).mono ?_; rintro e w1 ⟨rfl, v1, hw, hr⟩
  have HW1 := hide hw
  have HR1 := hide hr
  clear hw hr
  go_wp2
  go_loopw [7, 15] (fun _ i W => ∃ (j : Nat) (u : Value), j ≤ N ∧ i = .int .i64 j ∧ Hid (WAt W b u (zs ++ be 1 (N : Int) ++ (xs.take j).flatMap layTask)) ∧ Hid (Wrote b v w u W)) (fun _ i _ => N - (intOf i).toNat)
  case atStart => exact ⟨0, v1, by omega, rfl, hide (by simpa using HW1.out), HR1⟩
  case round =>
    obtain ⟨j, u, hj, rfl, HW, HR⟩ := hrel
    by_cases hlt : j < N
    · obtain ⟨-, a2, cap2, e2, hc⟩ := HV.out wr (HR.out.below HW0.out)
      simp only [Value.slice.injEq] at e2
      obtain ⟨rfl, -, rfl⟩ := e2
      obtain ⟨g, o, rfl, -, hc2⟩ := hc (by rw [HN.out]; omega)
      obtain ⟨q, hq⟩ : ∃ q, xs[j]? = some q := ⟨_, List.getElem?_eq_getElem (by rw [HN.out]; exact hlt)⟩
      have hc3 := hc2 j q hq
      have HS := hide (flat_take_succ layTask xs j q hq)
      have HC := hide (lay_T b _ q u (wr.alloc (.cells #[.int .i64 q.kind, .int .i64 q.period, .int .i64 q.deadline, .int .i64 q.clow, .int .i64 q.chigh, .int .i64 q.prio] 52)) (HW.out.alloc _) (HL2.out j q hq))
      obtain ⟨x0, x1, x2, x3, x4, x5⟩ := q
      have c0 : wr.cell? ⟨g, o + j * 6, none⟩ = some (.int .i64 x0) := hc3 0 _ rfl
      have c1 : wr.cell? ⟨g, o + j * 6 + 1, none⟩ = some (.int .i64 x1) := hc3 1 _ rfl
      have c2 : wr.cell? ⟨g, o + j * 6 + 2, none⟩ = some (.int .i64 x2) := hc3 2 _ rfl
      have c3 : wr.cell? ⟨g, o + j * 6 + 3, none⟩ = some (.int .i64 x3) := hc3 3 _ rfl
      have c4 : wr.cell? ⟨g, o + j * 6 + 4, none⟩ = some (.int .i64 x4) := hc3 4 _ rfl
      have c5 : wr.cell? ⟨g, o + j * 6 + 5, none⟩ = some (.int .i64 x5) := hc3 5 _ rfl
      clear hc hc2 hc3 hq
      go_wp2_with (first | fail)
      refine HC.out.mono ?_; rintro e w2 ⟨rfl, v2, hw, hr⟩
      have HW2 := hide hw
      have HR2 := hide (HR.out.trans hr.alloc)
      clear hw hr
      go_wp2
      go_roundw
      case rel =>
        refine ⟨j + 1, v2, by omega, by go_num, ?_, HR2⟩
        rw [HS.out, ← List.append_assoc]
        exact HW2.out
      case measure => simp [intOf]; omega
    · go_wp2
      go_end0
      have e : j = N := by omega
      subst e
      rw [show xs.take j = xs by rw [← HN.out, List.take_length], List.append_assoc] at HW
      exact ⟨rfl, u, HW.out, HR.out⟩

set_option maxRecDepth 100000 in
set_option maxHeartbeats 2000000 in
theorem layAll_I {lo : Nat} (b : Nat) (zs : List Int) (vx : Value) (xs : List Ins) (v : Value) (w : World) (hW : WAt w b v zs) (hR : ∀ W, Below b w W → RowAt shI lo W vx xs) (hlim : (zs ++ layAll layIns xs).length ≤ 1000000) :
    Calls Tryd.prog 88 #[.pointer (some ⟨b, 0, none⟩), vx, .func (.func 89) #[.pointer (some ⟨b, 0, none⟩)] #[]] w fun e w' => e = .returned (.tuple #[]) ∧ ∃ v', WAt w' b v' (zs ++ layAll layIns xs) ∧ Wrote b v w v' w' := by
  have HV := hide hR
  obtain ⟨hl, va, vcap, rfl, -⟩ := hR w (Below.refl _ _)
  have HW0 := hide hW
  have HL1 := hide (show zs.length + 1 ≤ 1000000 by unfold layAll at hlim; simp [be] at hlim; omega)
  have HL2 := hide (show ∀ (j : Nat) (x : Ins), xs[j]? = some x → ((zs ++ be 1 (xs.length : Int) ++ (xs.take j).flatMap layIns) ++ layIns x).length ≤ 1000000 from fun j x hx => by
    have h1 := flat_take_le layIns xs (j + 1)
    rw [flat_take_succ layIns xs j x hx] at h1
    unfold layAll at hlim
    simp only [List.length_append] at h1 hlim ⊢
    omega)
  clear hW hR hlim
  unfold layAll
  generalize hN : xs.length = N at *
  have HN := hide hN
  clear hN
  go_enter Tryd.func88, Tryd.ntmps88
  go_wp2_with (first | fail)
  refine (numbers_1 b zs [(N : Int)] _ _ HW0.out (by simpa using HL1.out)).mono ?_; rintro e w1 ⟨rfl, v1, hw, hr⟩
  have HW1 := hide hw
  have HR1 := hide hr
  clear hw hr
  go_wp2
  go_loopw [7, 15] (fun _ i W => ∃ (j : Nat) (u : Value), j ≤ N ∧ i = .int .i64 j ∧ Hid (WAt W b u (zs ++ be 1 (N : Int) ++ (xs.take j).flatMap layIns)) ∧ Hid (Wrote b v w u W)) (fun _ i _ => N - (intOf i).toNat)
  case atStart => exact ⟨0, v1, by omega, rfl, hide (by simpa using HW1.out), HR1⟩
  case round =>
    obtain ⟨j, u, hj, rfl, HW, HR⟩ := hrel
    by_cases hlt : j < N
    · obtain ⟨-, a2, cap2, e2, hc⟩ := HV.out wr (HR.out.below HW0.out)
      simp only [Value.slice.injEq] at e2
      obtain ⟨rfl, -, rfl⟩ := e2
      obtain ⟨g, o, rfl, -, hc2⟩ := hc (by rw [HN.out]; omega)
      obtain ⟨q, hq⟩ : ∃ q, xs[j]? = some q := ⟨_, List.getElem?_eq_getElem (by rw [HN.out]; exact hlt)⟩
      have hc3 := hc2 j q hq
      have HS := hide (flat_take_succ layIns xs j q hq)
      have HC := hide (lay_I b _ q u (wr.alloc (.cells #[.int .i64 q.1, .int .i64 q.2] 54)) (HW.out.alloc _) (HL2.out j q hq))
      obtain ⟨x0, x1⟩ := q
      have c0 : wr.cell? ⟨g, o + j * 2, none⟩ = some (.int .i64 x0) := hc3 0 _ rfl
      have c1 : wr.cell? ⟨g, o + j * 2 + 1, none⟩ = some (.int .i64 x1) := hc3 1 _ rfl
      clear hc hc2 hc3 hq
      go_wp2_with (first | fail)
      refine HC.out.mono ?_; rintro e w2 ⟨rfl, v2, hw, hr⟩
      have HW2 := hide hw
      have HR2 := hide (HR.out.trans hr.alloc)
      clear hw hr
      go_wp2
      go_roundw
      case rel =>
        refine ⟨j + 1, v2, by omega, by go_num, ?_, HR2⟩
        rw [HS.out, ← List.append_assoc]
        exact HW2.out
      case measure => simp [intOf]; omega
    · go_wp2
      go_end0
      have e : j = N := by omega
      subst e
      rw [show xs.take j = xs by rw [← HN.out, List.take_length], List.append_assoc] at HW
      exact ⟨rfl, u, HW.out, HR.out⟩

set_option maxRecDepth 100000 in
set_option maxHeartbeats 2000000 in
theorem layAll_W {lo : Nat} (b : Nat) (zs : List Int) (vx : Value) (xs : List WinV) (v : Value) (w : World) (hW : WAt w b v zs) (hR : ∀ W, Below b w W → RowAt shW lo W vx xs) (hlim : (zs ++ layAll layWin xs).length ≤ 1000000) :
    Calls Tryd.prog 58 #[.pointer (some ⟨b, 0, none⟩), vx, .func (.func 59) #[.pointer (some ⟨b, 0, none⟩)] #[]] w fun e w' => e = .returned (.tuple #[]) ∧ ∃ v', WAt w' b v' (zs ++ layAll layWin xs) ∧ Wrote b v w v' w' := by
  have HV := hide hR
  obtain ⟨hl, va, vcap, rfl, -⟩ := hR w (Below.refl _ _)
  have HW0 := hide hW
  have HL1 := hide (show zs.length + 1 ≤ 1000000 by unfold layAll at hlim; simp [be] at hlim; omega)
  have HL2 := hide (show ∀ (j : Nat) (x : WinV), xs[j]? = some x → ((zs ++ be 1 (xs.length : Int) ++ (xs.take j).flatMap layWin) ++ layWin x).length ≤ 1000000 from fun j x hx => by
    have h1 := flat_take_le layWin xs (j + 1)
    rw [flat_take_succ layWin xs j x hx] at h1
    unfold layAll at hlim
    simp only [List.length_append] at h1 hlim ⊢
    omega)
  clear hW hR hlim
  unfold layAll
  generalize hN : xs.length = N at *
  have HN := hide hN
  clear hN
  go_enter Tryd.func58, Tryd.ntmps58
  go_wp2_with (first | fail)
  refine (numbers_1 b zs [(N : Int)] _ _ HW0.out (by simpa using HL1.out)).mono ?_; rintro e w1 ⟨rfl, v1, hw, hr⟩
  have HW1 := hide hw
  have HR1 := hide hr
  clear hw hr
  go_wp2
  go_loopw [7, 15] (fun _ i W => ∃ (j : Nat) (u : Value), j ≤ N ∧ i = .int .i64 j ∧ Hid (WAt W b u (zs ++ be 1 (N : Int) ++ (xs.take j).flatMap layWin)) ∧ Hid (Wrote b v w u W)) (fun _ i _ => N - (intOf i).toNat)
  case atStart => exact ⟨0, v1, by omega, rfl, hide (by simpa using HW1.out), HR1⟩
  case round =>
    obtain ⟨j, u, hj, rfl, HW, HR⟩ := hrel
    by_cases hlt : j < N
    · obtain ⟨-, a2, cap2, e2, hc⟩ := HV.out wr (HR.out.below HW0.out)
      simp only [Value.slice.injEq] at e2
      obtain ⟨rfl, -, rfl⟩ := e2
      obtain ⟨g, o, rfl, -, hc2⟩ := hc (by rw [HN.out]; omega)
      obtain ⟨q, hq⟩ : ∃ q, xs[j]? = some q := ⟨_, List.getElem?_eq_getElem (by rw [HN.out]; exact hlt)⟩
      have hc3 := hc2 j q hq
      have HS := hide (flat_take_succ layWin xs j q hq)
      have HC := hide (lay_W b _ q u (wr.alloc (.cells #[.int .i64 q.fr, .int .i64 q.til, .int .i64 q.part] 59)) (HW.out.alloc _) (HL2.out j q hq))
      obtain ⟨x0, x1, x2⟩ := q
      have c0 : wr.cell? ⟨g, o + j * 3, none⟩ = some (.int .i64 x0) := hc3 0 _ rfl
      have c1 : wr.cell? ⟨g, o + j * 3 + 1, none⟩ = some (.int .i64 x1) := hc3 1 _ rfl
      have c2 : wr.cell? ⟨g, o + j * 3 + 2, none⟩ = some (.int .i64 x2) := hc3 2 _ rfl
      clear hc hc2 hc3 hq
      go_wp2_with (first | fail)
      refine HC.out.mono ?_; rintro e w2 ⟨rfl, v2, hw, hr⟩
      have HW2 := hide hw
      have HR2 := hide (HR.out.trans hr.alloc)
      clear hw hr
      go_wp2
      go_roundw
      case rel =>
        refine ⟨j + 1, v2, by omega, by go_num, ?_, HR2⟩
        rw [HS.out, ← List.append_assoc]
        exact HW2.out
      case measure => simp [intOf]; omega
    · go_wp2
      go_end0
      have e : j = N := by omega
      subst e
      rw [show xs.take j = xs by rw [← HN.out, List.take_length], List.append_assoc] at HW
      exact ⟨rfl, u, HW.out, HR.out⟩

set_option maxRecDepth 100000 in
set_option maxHeartbeats 2000000 in
theorem layAll_O {lo : Nat} (b : Nat) (zs : List Int) (vx : Value) (xs : List PortV) (v : Value) (w : World) (hW : WAt w b v zs) (hR : ∀ W, Below b w W → RowAt shO lo W vx xs) (hlim : (zs ++ layAll layPort xs).length ≤ 1000000) :
    Calls Tryd.prog 60 #[.pointer (some ⟨b, 0, none⟩), vx, .func (.func 61) #[.pointer (some ⟨b, 0, none⟩)] #[]] w fun e w' => e = .returned (.tuple #[]) ∧ ∃ v', WAt w' b v' (zs ++ layAll layPort xs) ∧ Wrote b v w v' w' := by
  have HV := hide hR
  obtain ⟨hl, va, vcap, rfl, -⟩ := hR w (Below.refl _ _)
  have HW0 := hide hW
  have HL1 := hide (show zs.length + 1 ≤ 1000000 by unfold layAll at hlim; simp [be] at hlim; omega)
  have HL2 := hide (show ∀ (j : Nat) (x : PortV), xs[j]? = some x → ((zs ++ be 1 (xs.length : Int) ++ (xs.take j).flatMap layPort) ++ layPort x).length ≤ 1000000 from fun j x hx => by
    have h1 := flat_take_le layPort xs (j + 1)
    rw [flat_take_succ layPort xs j x hx] at h1
    unfold layAll at hlim
    simp only [List.length_append] at h1 hlim ⊢
    omega)
  clear hW hR hlim
  unfold layAll
  generalize hN : xs.length = N at *
  have HN := hide hN
  clear hN
  go_enter Tryd.func60, Tryd.ntmps60
  go_wp2_with (first | fail)
  refine (numbers_1 b zs [(N : Int)] _ _ HW0.out (by simpa using HL1.out)).mono ?_; rintro e w1 ⟨rfl, v1, hw, hr⟩
  have HW1 := hide hw
  have HR1 := hide hr
  clear hw hr
  go_wp2
  go_loopw [7, 15] (fun _ i W => ∃ (j : Nat) (u : Value), j ≤ N ∧ i = .int .i64 j ∧ Hid (WAt W b u (zs ++ be 1 (N : Int) ++ (xs.take j).flatMap layPort)) ∧ Hid (Wrote b v w u W)) (fun _ i _ => N - (intOf i).toNat)
  case atStart => exact ⟨0, v1, by omega, rfl, hide (by simpa using HW1.out), HR1⟩
  case round =>
    obtain ⟨j, u, hj, rfl, HW, HR⟩ := hrel
    by_cases hlt : j < N
    · obtain ⟨-, a2, cap2, e2, hc⟩ := HV.out wr (HR.out.below HW0.out)
      simp only [Value.slice.injEq] at e2
      obtain ⟨rfl, -, rfl⟩ := e2
      obtain ⟨g, o, rfl, -, hc2⟩ := hc (by rw [HN.out]; omega)
      obtain ⟨q, hq⟩ : ∃ q, xs[j]? = some q := ⟨_, List.getElem?_eq_getElem (by rw [HN.out]; exact hlt)⟩
      have hc3 := hc2 j q hq
      have HS := hide (flat_take_succ layPort xs j q hq)
      have HC := hide (lay_O b _ q u (wr.alloc (.cells #[.int .i64 q.kind, .int .i64 q.fr, .int .i64 q.til, .int .i64 q.size] 57)) (HW.out.alloc _) (HL2.out j q hq))
      obtain ⟨x0, x1, x2, x3⟩ := q
      have c0 : wr.cell? ⟨g, o + j * 4, none⟩ = some (.int .i64 x0) := hc3 0 _ rfl
      have c1 : wr.cell? ⟨g, o + j * 4 + 1, none⟩ = some (.int .i64 x1) := hc3 1 _ rfl
      have c2 : wr.cell? ⟨g, o + j * 4 + 2, none⟩ = some (.int .i64 x2) := hc3 2 _ rfl
      have c3 : wr.cell? ⟨g, o + j * 4 + 3, none⟩ = some (.int .i64 x3) := hc3 3 _ rfl
      clear hc hc2 hc3 hq
      go_wp2_with (first | fail)
      refine HC.out.mono ?_; rintro e w2 ⟨rfl, v2, hw, hr⟩
      have HW2 := hide hw
      have HR2 := hide (HR.out.trans hr.alloc)
      clear hw hr
      go_wp2
      go_roundw
      case rel =>
        refine ⟨j + 1, v2, by omega, by go_num, ?_, HR2⟩
        rw [HS.out, ← List.append_assoc]
        exact HW2.out
      case measure => simp [intOf]; omega
    · go_wp2
      go_end0
      have e : j = N := by omega
      subst e
      rw [show xs.take j = xs by rw [← HN.out, List.take_length], List.append_assoc] at HW
      exact ⟨rfl, u, HW.out, HR.out⟩


#print axioms layAll_O
end Go.Proofs.YtgaegggiehhcpaaDoor

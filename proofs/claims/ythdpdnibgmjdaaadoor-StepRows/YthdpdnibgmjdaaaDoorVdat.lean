/- A part's machine and its effect as values, and what may be: contracts of package pvm's isWord, mayGets and mayVm, proved over the translation. -/
import Derived.Test.YthdpdnibgmjdaaaDoorProgram
import Derived.Lib.MinMax
namespace Go.Proofs.YthdpdnibgmjdaaaDoor
open Go.RowKit
attribute [local go_sem] alloc_drewN setCell_drewN

/-- A machine. -/
structure VmS where
  pc : Int
  acc : Int
  mem : Nat → Int
/-- An effect. -/
structure EfS where
  took : Bool
  wr : Int
  gt : Int
  val : Int
  fault : Bool
abbrev memA (m : Nat → Int) : Array Value := #[.int .i64 (m 0), .int .i64 (m 1), .int .i64 (m 2), .int .i64 (m 3), .int .i64 (m 4), .int .i64 (m 5), .int .i64 (m 6), .int .i64 (m 7), .int .i64 (m 8), .int .i64 (m 9), .int .i64 (m 10), .int .i64 (m 11), .int .i64 (m 12), .int .i64 (m 13), .int .i64 (m 14), .int .i64 (m 15)]
abbrev vmV (v : VmS) : Value := .agg #[.int .i64 v.pc, .int .i64 v.acc, .int .i64 (v.mem 0), .int .i64 (v.mem 1), .int .i64 (v.mem 2), .int .i64 (v.mem 3), .int .i64 (v.mem 4), .int .i64 (v.mem 5), .int .i64 (v.mem 6), .int .i64 (v.mem 7), .int .i64 (v.mem 8), .int .i64 (v.mem 9), .int .i64 (v.mem 10), .int .i64 (v.mem 11), .int .i64 (v.mem 12), .int .i64 (v.mem 13), .int .i64 (v.mem 14), .int .i64 (v.mem 15)]
abbrev efV (f : EfS) : Value := .agg #[.bool f.took, .int .i64 f.wr, .int .i64 f.gt, .int .i64 f.val, .bool f.fault]
def shN : Shape Int := ⟨1, fun x => [.int .i64 x], fun _ => rfl, by decide, fun x u h => by simp at h; subst h; rfl⟩

theorem memA_at (m : Nat → Int) (j : Nat) (h : j < 16) : (memA m)[j]? = some (.int .i64 (m j)) := by
  have : j = 0 ∨ j = 1 ∨ j = 2 ∨ j = 3 ∨ j = 4 ∨ j = 5 ∨ j = 6 ∨ j = 7 ∨ j = 8 ∨ j = 9 ∨ j = 10 ∨ j = 11 ∨ j = 12 ∨ j = 13 ∨ j = 14 ∨ j = 15 := by omega
  rcases this with rfl | rfl | rfl | rfl | rfl | rfl | rfl | rfl | rfl | rfl | rfl | rfl | rfl | rfl | rfl | rfl <;> rfl
/-- A word. -/
def isW (x : Int) : Bool := decide (0 ≤ x) && decide (x < 4294967296)
/-- A machine that may be, for so many instructions. -/
def vmMay (N : Nat) (v : VmS) : Bool := decide (0 ≤ v.pc) && (decide (v.pc < max (N : Int) 1) && (isW v.acc && allB 16 (fun i => isW (v.mem i))))
/-- What may be got: words, or none. -/
def getMay (x : Int) : Bool := decide (x = -1) || isW x
def getsMay (zs : List Int) : Bool := decide (zs.length ≤ 8) && zs.all getMay

theorem isWord_any (x : Int) (w : World) :
    Calls Tryd.prog 21 #[.int .i64 x] w fun e w' => e = .returned (.bool (isW x)) ∧ w = w' := by
  unfold isW
  by_cases h0 : 0 ≤ x
  · by_cases h1 : x < 4294967296
    · rw [decide_eq_true h0, decide_eq_true h1]
      go_enter Tryd.func21, Tryd.ntmps21
      go_wp2
      go_ret
      exact ⟨rfl, rfl⟩
    · rw [decide_eq_true h0, decide_eq_false h1]
      go_enter Tryd.func21, Tryd.ntmps21
      go_wp2
      go_ret
      exact ⟨rfl, rfl⟩
  · rw [decide_eq_false h0]
    go_enter Tryd.func21, Tryd.ntmps21
    go_wp2
    go_ret
    exact ⟨rfl, rfl⟩

theorem notGet_any (x : Int) (w : World) :
    Calls Tryd.prog 32 #[.int .i64 x] w fun e w' => e = .returned (.bool (!getMay x)) ∧ w = w' := by
  have C := hide (isWord_any x w)
  unfold getMay
  by_cases h0 : x = -1
  · subst h0
    go_enter Tryd.func32, Tryd.ntmps32
    go_wp2
    go_ret
    exact ⟨rfl, rfl⟩
  · rw [decide_eq_false h0]
    simp only [Bool.false_or]
    generalize isW x = b at *
    have hne : (x != -1) = true := by simpa using h0
    go_enter Tryd.func32, Tryd.ntmps32
    go_wp2_with (first | fail)
    refine C.out.mono ?_; rintro e w' ⟨rfl, rfl⟩
    go_wp2
    go_ret
    exact ⟨rfl, rfl⟩
#print axioms notGet_any

set_option maxRecDepth 100000 in
set_option maxHeartbeats 1000000 in
/-- The library's IndexFunc, with that closure. -/
theorem indexN_any {lo : Nat} (v : Value) (zs : List Int) (w : World) (hv : RowAt shN lo w v zs) :
    Calls Tryd.prog 40 #[v, .func (.func 32) #[] #[]] w fun e w' => ∃ r : Int, e = .returned (.int .i64 r) ∧ decide (0 ≤ r) = (!zs.all getMay) ∧ w = w' := by
  obtain ⟨hl, a, cap, rfl, ha⟩ := hv
  have HA := hide ha
  have HALL := hide (fun (h : ∀ i, i < zs.length → getMay (zs[i]?.getD 0) = true) => (show zs.all getMay = true by
    rw [List.all_eq_true]; intro x hx
    obtain ⟨i, hi, rfl⟩ := List.getElem_of_mem hx
    have := h i hi
    rwa [List.getElem?_eq_getElem hi] at this))
  have HNOT := hide (fun (i : Nat) (hi : i < zs.length) (h : getMay (zs[i]?.getD 0) = false) => (show zs.all getMay = false by
    rw [List.all_eq_false]; refine ⟨zs[i], List.getElem_mem hi, ?_⟩
    rw [List.getElem?_eq_getElem hi] at h
    simp only [Option.getD_some] at h
    rw [h]; simp))
  clear ha
  generalize hN : zs.length = N at *
  have HN := hide hN
  clear hN
  go_enter Tryd.func40, Tryd.ntmps40
  go_wp2
  go_loopw [5, 8] (fun _ i W => ∃ (j : Nat), j ≤ N ∧ i = .int .i64 j ∧ W = w ∧ Hid (∀ i, i < j → getMay (zs[i]?.getD 0) = true)) (fun _ i _ => N - (intOf i).toNat)
  case atStart => exact ⟨0, by omega, rfl, rfl, fun i hi => absurd hi (Nat.not_lt_zero _)⟩
  case round =>
    obtain ⟨j, hj, rfl, rfl, HP⟩ := hrel
    by_cases hlt : j < N
    · obtain ⟨g, o, rfl, -, hc⟩ := HA.out (by omega)
      have hq : zs[j]? = some (zs[j]?.getD 0) := by rw [List.getElem?_eq_getElem (by rw [HN.out]; exact hlt)]; rfl
      have c1 : wr.cell? ⟨g, o + j * 1, none⟩ = some (.int .i64 (zs[j]?.getD 0)) := hc j _ hq 0 _ rfl
      rw [Nat.mul_one] at c1
      clear hc hq
      have C := hide (notGet_any (zs[j]?.getD 0) wr)
      generalize hm : getMay (zs[j]?.getD 0) = b at *
      have HM := hide hm
      clear hm
      generalize zs[j]?.getD 0 = x at c1 C
      cases b with
      | true =>
        go_wp2_with (first | fail)
        refine C.out.mono ?_; rintro e w' ⟨rfl, rfl⟩
        go_wp2
        go_roundw
        case rel =>
          refine ⟨j + 1, by omega, by go_num, by first | rfl | trivial, fun i hi => ?_⟩
          rcases (by omega : i < j ∨ i = j) with h | rfl
          · exact HP.out i h
          · exact HM.out
        case measure => simp [intOf]; omega
      | false =>
        go_wp2_with (first | fail)
        refine C.out.mono ?_; rintro e w' ⟨rfl, rfl⟩
        go_wp2
        go_ret
        refine ⟨_, rfl, ?_, rfl⟩
        rw [HNOT.out j hlt HM.out]
        simp
    · obtain rfl : j = N := by omega
      go_wp2
      go_ret
      refine ⟨_, rfl, ?_, rfl⟩
      rw [HALL.out HP.out]
      simp
#print axioms indexN_any

set_option maxRecDepth 100000 in
set_option maxHeartbeats 1000000 in
theorem mayGets_any {lo : Nat} (v : Value) (zs : List Int) (w : World) (hv : RowAt shN lo w v zs) :
    Calls Tryd.prog 22 #[v] w fun e w' => e = .returned (.bool (getsMay zs)) ∧ w = w' := by
  have C0 := hide (indexN_any v zs w hv)
  obtain ⟨hl, a, cap, rfl, -⟩ := hv
  have C1 : Hid (Calls Tryd.prog 33 #[.slice a zs.length cap, .func (.func 32) #[] #[]] w fun e w' => e = .returned (.bool (!zs.all getMay)) ∧ w = w') := by
    refine hide ?_
    generalize (!zs.all getMay) = b at *
    generalize zs.length = N at *
    go_enter Tryd.func33, Tryd.ntmps33
    go_wp2_with (first | fail)
    refine C0.out.mono ?_; rintro e w' ⟨r, rfl, hr, rfl⟩
    have HR := hide hr
    clear hr C0
    go_wp2
    go_ret
    refine ⟨?_, rfl⟩
    rw [← HR.out]
    rfl
  clear C0
  unfold getsMay
  generalize zs.all getMay = b at *
  generalize zs.length = N at *
  by_cases hN : N ≤ 8
  · rw [decide_eq_true hN]
    simp only [Bool.true_and]
    go_enter Tryd.func22, Tryd.ntmps22
    go_wp2_with (first | fail)
    refine C1.out.mono ?_; rintro e w' ⟨rfl, rfl⟩
    go_wp2
    go_ret
    exact ⟨by simp, rfl⟩
  · rw [decide_eq_false hN]
    simp only [Bool.false_and]
    go_enter Tryd.func22, Tryd.ntmps22
    go_wp2
    go_ret
    exact ⟨rfl, rfl⟩
#print axioms mayGets_any
end Go.Proofs.YthdpdnibgmjdaaaDoor

/- Contracts of package tick's Counter, proved over the translation: New, Count, Value and Full over a counter in memory. -/
import Derived.Test.YtnepbdbalniodaaSum
import Derived.RegionTactic
namespace Go.Proofs.Ytnepbdbalniodaa
open Go.RowKit Go.Lib

theorem drew_set (w : World) (a : Addr) {x y : Int} (h : x = y) : (w.setCell a (.int .i64 x)).drew = (w.setCell a (.int .i64 y)).drewN 1 := by rw [h]; rfl

theorem drewN_set (w : World) (n : Nat) (a : Addr) {x y : Int} (h : x = y) : (w.drewN n).setCell a (.int .i64 x) = (w.setCell a (.int .i64 y)).drewN n := by rw [h]; rfl
theorem alloc_drewN (w : World) (n : Nat) (o : Obj) : (w.drewN n).alloc o = (w.alloc o).drewN n := rfl
theorem setCell_drewN (w : World) (n : Nat) (a : Addr) (v : Value) : (w.drewN n).setCell a v = (w.setCell a v).drewN n := rfl

set_option maxHeartbeats 400000 in
theorem new_ok (l : Int) (h : 0 ≤ l) (w : World) :
    Calls Try.prog 20 #[.int .i64 l] w fun e w' => e = .returned (.tuple #[.pointer (some ⟨w.heap.size, 0, none⟩), .int .i64 0]) ∧ w' = w.alloc (.cells #[.int .i64 l, .int .i64 0] 56) := by
  go_enter Try.func20, Try.ntmps20
  go_wp2
  go_ret2
  exact ⟨rfl, rfl⟩

set_option maxHeartbeats 400000 in
theorem new_no (l : Int) (h : l < 0) (w : World) :
    Calls Try.prog 20 #[.int .i64 l] w fun e w' => e = .returned (.tuple #[.pointer none, .int .i64 101]) ∧ w' = w := by
  go_enter Try.func20, Try.ntmps20
  go_wp2
  go_ret2
  exact ⟨rfl, rfl⟩

set_option maxHeartbeats 400000 in
theorem value_any (b : Nat) (v : Int) (w : World) (h1 : w.cell? ⟨b, 1, none⟩ = some (.int .i64 v)) :
    Calls Try.prog 24 #[.pointer (some ⟨b, 0, none⟩)] w fun e w' => e = .returned (.int .i64 v) ∧ w' = w := by
  go_enter Try.func24, Try.ntmps24
  go_wp2
  go_ret
  exact ⟨rfl, rfl⟩

set_option maxHeartbeats 400000 in
theorem full_any (b : Nat) (l v : Int) (w : World) (h0 : w.cell? ⟨b, 0, none⟩ = some (.int .i64 l)) (h1 : w.cell? ⟨b, 1, none⟩ = some (.int .i64 v)) :
    Calls Try.prog 25 #[.pointer (some ⟨b, 0, none⟩)] w fun e w' => e = .returned (.bool (v == l)) ∧ ∃ n, w' = w.drewN n := by
  go_enter Try.func25, Try.ntmps25
  go_wp2
  go_quiet (fail)
  go_wp2
  go_ret
  exact ⟨rfl, _, rfl⟩

set_option maxHeartbeats 400000 in
theorem count_no (b : Nat) (k : Int) (hk : k < 0) (w : World) :
    Calls Try.prog 22 #[.pointer (some ⟨b, 0, none⟩), .int .i64 k] w fun e w' => e = .returned (.int .i64 101) ∧ w' = w := by
  go_enter Try.func22, Try.ntmps22
  go_wp2
  go_ret
  exact ⟨rfl, rfl⟩

set_option maxHeartbeats 400000 in
theorem count_ok (b : Nat) (l v k : Int) (hk : 0 ≤ k) (hk' : k ≤ 9223372036854775807) (hv : 0 ≤ v) (hl : v ≤ l) (hl' : l ≤ 9223372036854775807) (w : World) (h0 : w.cell? ⟨b, 0, none⟩ = some (.int .i64 l)) (h1 : w.cell? ⟨b, 1, none⟩ = some (.int .i64 v)) (h2 : w.frozen? ⟨b, 1, none⟩ = false) :
    Calls Try.prog 22 #[.pointer (some ⟨b, 0, none⟩), .int .i64 k] w fun e w' => e = .returned (.int .i64 0) ∧ ∃ n, w' = (w.setCell ⟨b, 1, none⟩ (.int .i64 (min (v + k) l))).drewN n := by
  go_enter Try.func22, Try.ntmps22
  go_wp2
  go_region
  all_goals go_wp2
  all_goals (go_ret; exact ⟨rfl, 1, drew_set _ _ (by omega)⟩)

/-! The document's own counter: its value lies first, its limit behind it. -/
set_option maxHeartbeats 400000 in
theorem rnew_ok (l : Int) (h : 0 ≤ l) (w : World) :
    Calls Try.prog 21 #[.int .i64 l] w fun e w' => e = .returned (.tuple #[.pointer (some ⟨w.heap.size, 0, none⟩), .int .i64 0]) ∧ w' = w.alloc (.cells #[.int .i64 0, .int .i64 l] 47) := by
  go_enter Try.func21, Try.ntmps21
  go_wp2
  go_ret2
  exact ⟨rfl, rfl⟩

set_option maxHeartbeats 400000 in
theorem rnew_no (l : Int) (h : l < 0) (w : World) :
    Calls Try.prog 21 #[.int .i64 l] w fun e w' => e = .returned (.tuple #[.pointer none, .int .i64 101]) ∧ w' = w := by
  go_enter Try.func21, Try.ntmps21
  go_wp2
  go_ret2
  exact ⟨rfl, rfl⟩

set_option maxHeartbeats 400000 in
theorem rfull_any (b : Nat) (l v : Int) (w : World) (h0 : w.cell? ⟨b, 0, none⟩ = some (.int .i64 v)) (h1 : w.cell? ⟨b, 1, none⟩ = some (.int .i64 l)) :
    Calls Try.prog 26 #[.pointer (some ⟨b, 0, none⟩)] w fun e w' => e = .returned (.bool (v == l)) ∧ ∃ n, w' = w.drewN n := by
  go_enter Try.func26, Try.ntmps26
  go_wp2
  go_quiet (fail)
  go_wp2
  go_ret
  exact ⟨rfl, _, rfl⟩

set_option maxHeartbeats 400000 in
theorem rcount_no (b : Nat) (k : Int) (hk : k < 0) (w : World) :
    Calls Try.prog 23 #[.pointer (some ⟨b, 0, none⟩), .int .i64 k] w fun e w' => e = .returned (.int .i64 101) ∧ w' = w := by
  go_enter Try.func23, Try.ntmps23
  go_wp2
  go_ret
  exact ⟨rfl, rfl⟩

set_option maxHeartbeats 400000 in
theorem rcount_ok (b : Nat) (l v k : Int) (hk : 0 ≤ k) (hk' : k ≤ 9223372036854775807) (hv : 0 ≤ v) (hl : v ≤ l) (hl' : l ≤ 9223372036854775807) (w : World) (h0 : w.cell? ⟨b, 0, none⟩ = some (.int .i64 v)) (h1 : w.cell? ⟨b, 1, none⟩ = some (.int .i64 l)) (h2 : w.frozen? ⟨b, 0, none⟩ = false) :
    Calls Try.prog 23 #[.pointer (some ⟨b, 0, none⟩), .int .i64 k] w fun e w' => e = .returned (.int .i64 0) ∧ ∃ n, w' = (w.setCell ⟨b, 0, none⟩ (.int .i64 (min (v + k) l))).drewN n := by
  by_cases hlt : l - v < k
  all_goals
    go_enter Try.func23, Try.ntmps23
    go_wp2
    go_quiet (fail)
    go_wp2
    go_ret
    exact ⟨rfl, nq, drewN_set _ _ _ (by omega)⟩
#print axioms rcount_ok
end Go.Proofs.Ytnepbdbalniodaa

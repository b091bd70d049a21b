/- Contracts of package ring's New, length and behind, and of the statements' own small functions, proved over the translation. -/
import Derived.Test.YtkdemmbcdfcbjaaRows
import Derived.WalkKit
import Derived.WalkSpells
import Derived.WalkLawsBesides
import Derived.RegionTactic
import Derived.BigQuiet
import Derived.Deep.QuietTactic
namespace Go.Proofs.Ytkdemmbcdfcbjaa
open Go.RowKit

theorem hide {p : Prop} (h : p) : Hid p := h
theorem alloc_drewN (w : World) (n : Nat) (o : Obj) : (w.drewN n).alloc o = (w.alloc o).drewN n := rfl
theorem setCell_drewN (w : World) (n : Nat) (a : Addr) (v : Value) : (w.drewN n).setCell a v = (w.setCell a v).drewN n := rfl

theorem num_any (e : Int) (w : World) :
    Calls Try.prog 9 #[.int .i64 e] w fun r w' => r = .returned (.int .i64 e) ∧ w' = w := by
  go_enter Try.func9, Try.ntmps9
  go_wp2
  go_ret
  exact ⟨rfl, rfl⟩

set_option maxHeartbeats 400000 in
theorem new_no (l : Int) (h : l < 1 ∨ 64 < l) (w : World) :
    Calls Try.prog 7 #[.int .i64 l] w fun e w' => e = .returned (.tuple #[.pointer none, .int .i64 200]) ∧ w' = w := by
  rcases h with h | h
  · go_enter Try.func7, Try.ntmps7
    go_wp2
    go_ret2
    exact ⟨rfl, rfl⟩
  · have h' : 1 ≤ l := by omega
    go_enter Try.func7, Try.ntmps7
    go_wp2
    go_ret2
    exact ⟨rfl, rfl⟩

/-- The 68 cells of a Ring that is all zero: 65 places, the size, the first, the one past. -/
def zs : Array Value := Array.replicate 68 (.int .i64 0)
theorem zs_size : zs.size = 68 := by simp [zs]
theorem zero46 (w : World) : (zeroValue 46).run Try.prog w = .ok (.agg zs) w := by kernel_rfl

set_option maxHeartbeats 400000 in
theorem new_ok (l : Int) (h : 1 ≤ l) (h' : l ≤ 64) (w : World) :
    Calls Try.prog 7 #[.int .i64 l] w fun e w' => e = .returned (.tuple #[.pointer (some ⟨w.heap.size, 0, none⟩), .int .i64 0]) ∧ w' = w.alloc (.cells (zs.setIfInBounds 65 (.int .i64 l)) 46) := by
  have hz := zs_size
  go_enter Try.func7, Try.ntmps7
  go_wp2_with (simp only [zero46, Result.andThen, hz])
  go_ret2
  exact ⟨rfl, rfl⟩

set_option maxHeartbeats 400000 in
theorem behind_any (x y : Int) (hx : 0 ≤ x) (hx' : x ≤ 65) (hy : 0 ≤ y) (hy' : y ≤ 65) (w : World) :
    Calls Try.prog 21 #[.int .i64 x, .int .i64 y] w fun e w' => e = .returned (.int .i64 ((x + y) % 65)) ∧ w' = w := by
  go_enter Try.func21, Try.ntmps21
  go_wp2
  go_ret
  exact ⟨rfl, rfl⟩

set_option maxHeartbeats 400000 in
theorem length_raw (b : Nat) (f p : Int) (hf : 0 ≤ f) (hf' : f < 65) (hp : 0 ≤ p) (hp' : p < 65) (w : World) (h2 : w.cell? ⟨b, 66, none⟩ = some (.int .i64 f)) (h3 : w.cell? ⟨b, 67, none⟩ = some (.int .i64 p)) :
    Calls Try.prog 20 #[.pointer (some ⟨b, 0, none⟩)] w fun e w' => e = .returned (.int .i64 ((p - f + 65) % 65)) ∧ ∃ n, w' = w.drewN n := by
  go_enter Try.func20, Try.ntmps20
  go_wp2
  go_quiet (fail)
  go_wp2
  go_ret
  exact ⟨rfl, _, rfl⟩
#print axioms length_raw
end Go.Proofs.Ytkdemmbcdfcbjaa

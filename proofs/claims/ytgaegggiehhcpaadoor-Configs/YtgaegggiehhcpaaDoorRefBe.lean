/- The contract of the document's own Be, proved over the translation: a number's bytes, one or two. -/
import Derived.Test.YtgaegggiehhcpaaDoorCheck
import Derived.Laws.BytesArg
namespace Go.Proofs.YtgaegggiehhcpaaDoor.R5
open Go.RowKit
attribute [local go_sem] alloc_drewN setCell_drewN

/-- x & (2^k - 1). -/
theorem and_low (z : Int) (k : Nat) (hk : k < 63) (m : Int) (hm2 : (BitVec.ofInt 64 m).toNat = 2 ^ k - 1) : bits .and .i64 z m = z % 2 ^ k := by
  have key : (BitVec.ofInt 64 z &&& BitVec.ofInt 64 m).toNat = (z % ((2 ^ 64 : Nat) : Int)).toNat % 2 ^ k := by
    rw [BitVec.toNat_and, BitVec.toNat_ofInt, hm2, Nat.and_two_pow_sub_one_eq_mod]
  show IntKind.i64.wrap ((BitVec.ofInt 64 z &&& BitVec.ofInt 64 m).toNat : Nat) = z % 2 ^ k
  rw [key, IntKind.wrap_i64]
  have hp : (2 : Nat) ^ k ∣ 2 ^ 64 := Nat.pow_dvd_pow 2 (by omega)
  have hlt : (2 : Nat) ^ k ≤ 2 ^ 62 := Nat.pow_le_pow_right (by decide) (by omega)
  have hpos : 0 < (2 : Nat) ^ k := Nat.pow_pos (by decide)
  have e1 : (((z % ((2 ^ 64 : Nat) : Int)).toNat % 2 ^ k : Nat) : Int) = z % 2 ^ k := by
    rw [Int.natCast_emod, Int.toNat_of_nonneg (Int.emod_nonneg _ (by decide))]
    have : ((2 ^ k : Nat) : Int) ∣ ((2 ^ 64 : Nat) : Int) := Int.natCast_dvd_natCast.2 hp
    rw [Int.emod_emod_of_dvd _ this]
    simp
  have h2 : (z % ((2 ^ 64 : Nat) : Int)).toNat % 2 ^ k < 2 ^ k := Nat.mod_lt _ hpos
  rw [← e1]
  have h3 : (((z % ((2 ^ 64 : Nat) : Int)).toNat % 2 ^ k : Nat) : Int) < 4611686018427387904 := by
    have : (2 : Nat) ^ 62 = 4611686018427387904 := by decide
    omega
  generalize (z % ((2 ^ 64 : Nat) : Int)).toNat % 2 ^ k = x at *
  omega
theorem and255 (z : Int) : bits .and .i64 z 255 = z % 256 := and_low z 8 (by decide) 255 (by decide)
theorem make_b (n : Nat) (hn : n ≤ 2) (w : World) : (Instr.makeSlice 61 (.int .i64 n) (.int .i64 n)).run Tryd.prog w = .ok (.slice (some ⟨w.heap.size, 0, none⟩) n n) (w.alloc (.cells (madeCells #[.int .u8 0] n) 5)) := by
  obtain ⟨i0, hi, hz0, hz1, hz2⟩ := info_parts infoU8
  have := run_make (P := Tryd.prog) w 61 5 i0 (.int .u8 0) Tryd.underlying61 hi hz0 .i64 .i64 n n (by omega) (Int.le_refl _) (by rw [hz2]; omega) (by omega)
  rw [hz1] at this
  simpa [Value.cells] using this
theorem made1 : madeCells #[.int .u8 0] 1 = #[.int .u8 0] := by apply Array.ext'; rw [toList_madeCells_one]; rfl
theorem made2 : madeCells #[.int .u8 0] 2 = #[.int .u8 0, .int .u8 0] := by apply Array.ext'; rw [toList_madeCells_one]; rfl
theorem blk_cell {W : World} {b t : Nat} {cs : Array Value} (h : W.heap[b]? = some (.cells cs t (0, 0))) (j : Nat) : W.cell? ⟨b, j, none⟩ = cs[j]? := by simp [World.cell?, h]
theorem blk_free {W : World} {b t : Nat} {cs : Array Value} (h : W.heap[b]? = some (.cells cs t (0, 0))) (j : Nat) : W.frozen? ⟨b, j, none⟩ = false := by simp [World.frozen?, h]
theorem blk_set {W : World} {b t j : Nat} {u : Value} {cs cs' : Array Value} (h : W.heap[b]? = some (.cells cs t (0, 0))) (e : cs.setIfInBounds j u = cs') : (W.setCell ⟨b, j, none⟩ u).heap[b]? = some (.cells cs' t (0, 0)) := by
  subst e
  simp [World.setCell, Array.getElem?_modify, h]
theorem conv_blk {W : World} {g n : Nat} (zs : List Int) (h : W.heap[g]? = some (.cells (bytes1 zs).toArray 5 (0, 0))) (hn : zs.length = n) : (convert 61 9 (.slice (some ⟨g, 0, none⟩) n n)).run Tryd.prog W = .ok (.string (strOfNums zs)) W := by
  refine run_convert_bytes_arg W 61 5 Tryd.underlying61 Tryd.underlying5 g 0 n n zs hn (fun i hi => ?_) 9 Tryd.underlying9
  rw [Nat.zero_add, blk_cell h, List.getElem?_toArray, bytes1_get _ _ (by omega)]
  simp [List.getD]

set_option maxRecDepth 100000 in
set_option maxHeartbeats 1000000 in
theorem be1_any (x : Int) (w : World) :
    Calls Tryd.prog 31 #[.int .i64 x, .int .i64 1] w fun e w' => e = .returned (.string (strOfNums [x % 256])) ∧ w.grownBy w' none := by
  have hmk : ∀ W, (Instr.makeSlice 61 (.int .i64 1) (.int .i64 1)).run Tryd.prog W = .ok (.slice (some ⟨W.heap.size, 0, none⟩) 1 1) (W.alloc (.cells #[.int .u8 0] 5)) := fun W => by have := make_b 1 (by omega) W; rw [made1] at this; exact this
  have ha := and255 x
  have hb0 : 0 ≤ x % 256 := by omega
  have hb1 : x % 256 < 256 := by omega
  have HH := hide (heap_alloc_new w (.cells #[.int .u8 0] 5))
  have HG := hide (World.grownBy_alloc w (.cells #[.int .u8 0] 5) none)
  generalize hxb : x % 256 = xb at *
  clear hxb
  generalize hw1 : w.alloc (.cells #[.int .u8 0] 5) = w1 at *
  have HCV : Hid ((convert 61 9 (.slice (some ⟨w.heap.size, 0, none⟩) 1 1)).run Tryd.prog (w1.setCell ⟨w.heap.size, 0, none⟩ (.int .u8 xb)) = .ok (.string (strOfNums [xb])) (w1.setCell ⟨w.heap.size, 0, none⟩ (.int .u8 xb))) := conv_blk [xb] (blk_set HH.out rfl) rfl
  have k0 : w1.cell? ⟨w.heap.size, 0, none⟩ = some (.int .u8 0) := blk_cell HH.out 0
  have kf := blk_free HH.out
  go_enter Tryd.func31, Tryd.ntmps31
  go_wp2
  go_loopw [0, 6] (fun y s V => (s = .int .i64 0 ∧ y = .int .i64 x ∧ V = w1) ∨ (s = .int .i64 (-1) ∧ V = w1.setCell ⟨w.heap.size, 0, none⟩ (.int .u8 xb))) (fun _ s _ => (intOf s + 1).toNat)
  case atStart => exact .inl ⟨rfl, rfl, rfl⟩
  case round =>
    rcases hrel with ⟨rfl, rfl, rfl⟩ | ⟨rfl, rfl⟩
    · go_wp2
      go_roundw
      case rel => exact .inr (by simp)
      case measure => simp [intOf]
    · have hcv := HCV.out
      go_wp2
      go_ret
      exact ⟨rfl, grown_spoil HG.out (Nat.le_refl _) (grownBy_set _ _ _ _)⟩

set_option maxRecDepth 100000 in
set_option maxHeartbeats 1000000 in
theorem be2_any (x : Int) (x0 : 0 ≤ x) (x1 : x < 65536) (w : World) :
    Calls Tryd.prog 31 #[.int .i64 x, .int .i64 2] w fun e w' => e = .returned (.string (strOfNums [x / 256 % 256, x % 256])) ∧ w.grownBy w' none := by
  have hmk : ∀ W, (Instr.makeSlice 61 (.int .i64 2) (.int .i64 2)).run Tryd.prog W = .ok (.slice (some ⟨W.heap.size, 0, none⟩) 2 2) (W.alloc (.cells #[.int .u8 0, .int .u8 0] 5)) := fun W => by have := make_b 2 (by omega) W; rw [made2] at this; exact this
  have ha := and255 x
  have ha2 := and255 (x / 256)
  have hb0 : 0 ≤ x % 256 := by omega
  have hb1 : x % 256 < 256 := by omega
  have hc0 : 0 ≤ x / 256 % 256 := by omega
  have hc1 : x / 256 % 256 < 256 := by omega
  have hd0 : 0 ≤ x / 256 := by omega
  have hd1 : x / 256 < 256 := by omega
  have HH := hide (heap_alloc_new w (.cells #[.int .u8 0, .int .u8 0] 5))
  have HG := hide (World.grownBy_alloc w (.cells #[.int .u8 0, .int .u8 0] 5) none)
  generalize x / 256 % 256 = xc at *
  generalize x % 256 = xb at *
  generalize hw1 : w.alloc (.cells #[.int .u8 0, .int .u8 0] 5) = w1 at *
  have HH1 : Hid ((w1.setCell ⟨w.heap.size, 1, none⟩ (.int .u8 xb)).heap[w.heap.size]? = some (.cells #[.int .u8 0, .int .u8 xb] 5 (0, 0))) := blk_set HH.out rfl
  have HCV : Hid ((convert 61 9 (.slice (some ⟨w.heap.size, 0, none⟩) 2 2)).run Tryd.prog ((w1.setCell ⟨w.heap.size, 1, none⟩ (.int .u8 xb)).setCell ⟨w.heap.size, 0, none⟩ (.int .u8 xc)) = .ok (.string (strOfNums [xc, xb])) ((w1.setCell ⟨w.heap.size, 1, none⟩ (.int .u8 xb)).setCell ⟨w.heap.size, 0, none⟩ (.int .u8 xc))) := conv_blk [xc, xb] (blk_set HH1.out rfl) rfl
  have k0 : w1.cell? ⟨w.heap.size, 1, none⟩ = some (.int .u8 0) := blk_cell HH.out 1
  have kf := blk_free HH.out
  have j0 : (w1.setCell ⟨w.heap.size, 1, none⟩ (.int .u8 xb)).cell? ⟨w.heap.size, 0, none⟩ = some (.int .u8 0) := blk_cell HH1.out 0
  have jf := blk_free HH1.out
  go_enter Tryd.func31, Tryd.ntmps31
  go_wp2
  go_loopw [0, 6] (fun y s V => (s = .int .i64 1 ∧ y = .int .i64 x ∧ V = w1) ∨ (s = .int .i64 0 ∧ y = .int .i64 (x / 256) ∧ V = w1.setCell ⟨w.heap.size, 1, none⟩ (.int .u8 xb)) ∨ (s = .int .i64 (-1) ∧ V = (w1.setCell ⟨w.heap.size, 1, none⟩ (.int .u8 xb)).setCell ⟨w.heap.size, 0, none⟩ (.int .u8 xc))) (fun _ s _ => (intOf s + 1).toNat)
  case atStart => exact .inl ⟨rfl, rfl, rfl⟩
  case round =>
    rcases hrel with ⟨rfl, rfl, rfl⟩ | ⟨rfl, rfl, rfl⟩ | ⟨rfl, rfl⟩
    · go_wp2
      go_roundw
      case rel => exact .inr (.inl (by simp))
      case measure => simp [intOf]
    · go_wp2
      go_roundw
      case rel => exact .inr (.inr (by simp))
      case measure => simp [intOf]
    · have hcv := HCV.out
      go_wp2
      go_ret
      exact ⟨rfl, grown_spoil HG.out (Nat.le_refl _) (grownBy_trans (grownBy_set _ _ _ _) (grownBy_set _ _ _ _))⟩
/-- A number's bytes, one or two. -/
def beI (k x : Int) : List Int := if k = 1 then [x % 256] else [x / 256 % 256, x % 256]
theorem be_any (x k : Int) (hk : k = 1 ∨ k = 2) (x0 : 0 ≤ x) (x1 : x < 65536) (w : World) :
    Calls Tryd.prog 31 #[.int .i64 x, .int .i64 k] w fun e w' => e = .returned (.string (strOfNums (beI k x))) ∧ w.grownBy w' none := by
  rcases hk with rfl | rfl
  · exact be1_any x w
  · exact be2_any x x0 x1 w
#print axioms be_any
end Go.Proofs.YtgaegggiehhcpaaDoor.R5

/- The walk of the statement ConfigLaid: how a configuration is laid; proved over the translation. -/
import Derived.Test.YtgaegggiehhcpaaDoorLaw0
namespace Go.Proofs.YtgaegggiehhcpaaDoor
open Go.RowKit
attribute [local go_sem] alloc_drewN setCell_drewN

theorem conv_at {W : World} {g n : Nat} {zs : List Int} (hn : zs.length = n) (h : W.heap[g]? = some (.cells (bytes1 zs).toArray 5 (0, 0))) :
    (convert 61 9 (.slice (some ⟨g, 0, none⟩) n n)).run Tryd.prog W = .ok (.string (strOfNums zs)) W := by
  refine run_convert_bytes_arg W 61 5 Tryd.underlying61 Tryd.underlying5 g 0 n n zs hn (fun i hi => ?_) 9 Tryd.underlying9
  rw [Nat.zero_add, blk_cell h]
  have := bytes1_get zs i (by omega)
  simpa [List.getD] using this

set_option maxRecDepth 100000 in
set_option maxHeartbeats 2000000 in
theorem configLaid_any (a0 a1 a2 a3 : Int) (w : World) (hT : Tab w) :
    Calls Tryd.prog 8 #[.int .i64 a0, .int .i64 a1, .int .i64 a2, .int .i64 a3] w fun e w' => e = .returned (.bool true) ∧ w.grownBy w' none := by
  have HT := hide hT
  have CA := hide (awake_any w hT)
  clear hT
  obtain ⟨c0, p00, p01, e0⟩ := and127 a0
  obtain ⟨c1, p10, p11, e1⟩ := and15 a1
  obtain ⟨c2, p20, p21, e2⟩ := and511 a2
  obtain ⟨c3, p30, p31, e3⟩ := and255 a3
  have HOK := hide (laid_ok (5 + c0) (1 + c1) (3 + c2) c3 (by omega) (by omega) (by omega) (by omega) (by omega) (by omega) p30 p31)
  have HBY := hide (laid_bytes (5 + c0) (1 + c1) (3 + c2) c3 (by omega) (by omega) (by omega) (by omega) (by omega) (by omega) p30 p31)
  have u0 : IntKind.u8.wrap (5 + c0) = 5 + c0 := by rw [IntKind.wrap_u8]; omega
  have u1 : IntKind.u8.wrap (1 + c1) = 1 + c1 := by rw [IntKind.wrap_u8]; omega
  have u2 : IntKind.u8.wrap ((3 + c2) / 256) = (3 + c2) / 256 := by rw [IntKind.wrap_u8]; omega
  have u3 : IntKind.u8.wrap (3 + c2) = (3 + c2) % 256 := by rw [IntKind.wrap_u8]
  have u4 : IntKind.u8.wrap c3 = c3 := by rw [IntKind.wrap_u8]; omega
  go_enter Tryd.func8, Tryd.ntmps8
  go_wp2_with (first | fail)
  refine CA.out.mono ?_; rintro e w1 ⟨rfl, hg⟩
  have G1 := hide hg
  clear hg CA
  have A1 : Hid (w1.grownBy ((((((w1.alloc (.cells #[.int .i64 1, .int .i64 (3 + c2), .int .i64 3, .int .i64 1, .int .i64 2, .int .i64 c3] 52)).alloc (.cells #[.int .i64 1, .int .i64 c3] 54)).alloc (.cells #[.int .i64 1, .slice (some ⟨w1.heap.size, 0, none⟩) 1 1, .slice (some ⟨w1.heap.size + 1, 0, none⟩) 1 1, .int .i64 0, .slice none 0 0, .slice none 0 0] 50)).alloc (.cells #[.int .i64 1, .int .i64 5, .int .i64 1] 59)).alloc (.cells #[.int .i64 1, .int .i64 0, .int .i64 1, .int .i64 6] 57)).alloc (.cells #[.int .i64 (5 + c0), .int .i64 (1 + c1), .slice (some ⟨w1.heap.size + 1 + 1, 0, none⟩) 2 2, .slice (some ⟨w1.heap.size + 1 + 1 + 1, 0, none⟩) 1 1, .slice (some ⟨w1.heap.size + 1 + 1 + 1 + 1, 0, none⟩) 1 1] 26)) none) := by
    repeat (first | exact World.grownBy_alloc _ _ _ | refine grownBy_trans ?_ (World.grownBy_alloc _ _ _))
  have HCF : Hid (ConfAt 0 ((((((w1.alloc (.cells #[.int .i64 1, .int .i64 (3 + c2), .int .i64 3, .int .i64 1, .int .i64 2, .int .i64 c3] 52)).alloc (.cells #[.int .i64 1, .int .i64 c3] 54)).alloc (.cells #[.int .i64 1, .slice (some ⟨w1.heap.size, 0, none⟩) 1 1, .slice (some ⟨w1.heap.size + 1, 0, none⟩) 1 1, .int .i64 0, .slice none 0 0, .slice none 0 0] 50)).alloc (.cells #[.int .i64 1, .int .i64 5, .int .i64 1] 59)).alloc (.cells #[.int .i64 1, .int .i64 0, .int .i64 1, .int .i64 6] 57)).alloc (.cells #[.int .i64 (5 + c0), .int .i64 (1 + c1), .slice (some ⟨w1.heap.size + 1 + 1, 0, none⟩) 2 2, .slice (some ⟨w1.heap.size + 1 + 1 + 1, 0, none⟩) 1 1, .slice (some ⟨w1.heap.size + 1 + 1 + 1 + 1, 0, none⟩) 1 1] 26)) (.agg #[.int .i64 (5 + c0), .int .i64 (1 + c1), .slice (some ⟨w1.heap.size + 1 + 1, 0, none⟩) 2 2, .slice (some ⟨w1.heap.size + 1 + 1 + 1, 0, none⟩) 1 1, .slice (some ⟨w1.heap.size + 1 + 1 + 1 + 1, 0, none⟩) 1 1]) (laidC (5 + c0) (1 + c1) (3 + c2) c3)) := by
    have b0 : ((((((w1.alloc (.cells #[.int .i64 1, .int .i64 (3 + c2), .int .i64 3, .int .i64 1, .int .i64 2, .int .i64 c3] 52)).alloc (.cells #[.int .i64 1, .int .i64 c3] 54)).alloc (.cells #[.int .i64 1, .slice (some ⟨w1.heap.size, 0, none⟩) 1 1, .slice (some ⟨w1.heap.size + 1, 0, none⟩) 1 1, .int .i64 0, .slice none 0 0, .slice none 0 0] 50)).alloc (.cells #[.int .i64 1, .int .i64 5, .int .i64 1] 59)).alloc (.cells #[.int .i64 1, .int .i64 0, .int .i64 1, .int .i64 6] 57)).alloc (.cells #[.int .i64 (5 + c0), .int .i64 (1 + c1), .slice (some ⟨w1.heap.size + 1 + 1, 0, none⟩) 2 2, .slice (some ⟨w1.heap.size + 1 + 1 + 1, 0, none⟩) 1 1, .slice (some ⟨w1.heap.size + 1 + 1 + 1 + 1, 0, none⟩) 1 1] 26)).heap[w1.heap.size]? = some (.cells #[.int .i64 1, .int .i64 (3 + c2), .int .i64 3, .int .i64 1, .int .i64 2, .int .i64 c3] 52) := by
      repeat (first | exact heap_at _ _ _ (by simp) | refine heap_up _ _ _ _ ?_)
    have b1 : ((((((w1.alloc (.cells #[.int .i64 1, .int .i64 (3 + c2), .int .i64 3, .int .i64 1, .int .i64 2, .int .i64 c3] 52)).alloc (.cells #[.int .i64 1, .int .i64 c3] 54)).alloc (.cells #[.int .i64 1, .slice (some ⟨w1.heap.size, 0, none⟩) 1 1, .slice (some ⟨w1.heap.size + 1, 0, none⟩) 1 1, .int .i64 0, .slice none 0 0, .slice none 0 0] 50)).alloc (.cells #[.int .i64 1, .int .i64 5, .int .i64 1] 59)).alloc (.cells #[.int .i64 1, .int .i64 0, .int .i64 1, .int .i64 6] 57)).alloc (.cells #[.int .i64 (5 + c0), .int .i64 (1 + c1), .slice (some ⟨w1.heap.size + 1 + 1, 0, none⟩) 2 2, .slice (some ⟨w1.heap.size + 1 + 1 + 1, 0, none⟩) 1 1, .slice (some ⟨w1.heap.size + 1 + 1 + 1 + 1, 0, none⟩) 1 1] 26)).heap[w1.heap.size + 1]? = some (.cells #[.int .i64 1, .int .i64 c3] 54) := by
      repeat (first | exact heap_at _ _ _ (by simp) | refine heap_up _ _ _ _ ?_)
    have b2 : ((((((w1.alloc (.cells #[.int .i64 1, .int .i64 (3 + c2), .int .i64 3, .int .i64 1, .int .i64 2, .int .i64 c3] 52)).alloc (.cells #[.int .i64 1, .int .i64 c3] 54)).alloc (.cells #[.int .i64 1, .slice (some ⟨w1.heap.size, 0, none⟩) 1 1, .slice (some ⟨w1.heap.size + 1, 0, none⟩) 1 1, .int .i64 0, .slice none 0 0, .slice none 0 0] 50)).alloc (.cells #[.int .i64 1, .int .i64 5, .int .i64 1] 59)).alloc (.cells #[.int .i64 1, .int .i64 0, .int .i64 1, .int .i64 6] 57)).alloc (.cells #[.int .i64 (5 + c0), .int .i64 (1 + c1), .slice (some ⟨w1.heap.size + 1 + 1, 0, none⟩) 2 2, .slice (some ⟨w1.heap.size + 1 + 1 + 1, 0, none⟩) 1 1, .slice (some ⟨w1.heap.size + 1 + 1 + 1 + 1, 0, none⟩) 1 1] 26)).heap[w1.heap.size + 1 + 1]? = some (.cells #[.int .i64 1, .slice (some ⟨w1.heap.size, 0, none⟩) 1 1, .slice (some ⟨w1.heap.size + 1, 0, none⟩) 1 1, .int .i64 0, .slice none 0 0, .slice none 0 0] 50) := by
      repeat (first | exact heap_at _ _ _ (by simp) | refine heap_up _ _ _ _ ?_)
    have b3 : ((((((w1.alloc (.cells #[.int .i64 1, .int .i64 (3 + c2), .int .i64 3, .int .i64 1, .int .i64 2, .int .i64 c3] 52)).alloc (.cells #[.int .i64 1, .int .i64 c3] 54)).alloc (.cells #[.int .i64 1, .slice (some ⟨w1.heap.size, 0, none⟩) 1 1, .slice (some ⟨w1.heap.size + 1, 0, none⟩) 1 1, .int .i64 0, .slice none 0 0, .slice none 0 0] 50)).alloc (.cells #[.int .i64 1, .int .i64 5, .int .i64 1] 59)).alloc (.cells #[.int .i64 1, .int .i64 0, .int .i64 1, .int .i64 6] 57)).alloc (.cells #[.int .i64 (5 + c0), .int .i64 (1 + c1), .slice (some ⟨w1.heap.size + 1 + 1, 0, none⟩) 2 2, .slice (some ⟨w1.heap.size + 1 + 1 + 1, 0, none⟩) 1 1, .slice (some ⟨w1.heap.size + 1 + 1 + 1 + 1, 0, none⟩) 1 1] 26)).heap[w1.heap.size + 1 + 1 + 1]? = some (.cells #[.int .i64 1, .int .i64 5, .int .i64 1] 59) := by
      repeat (first | exact heap_at _ _ _ (by simp) | refine heap_up _ _ _ _ ?_)
    have b4 : ((((((w1.alloc (.cells #[.int .i64 1, .int .i64 (3 + c2), .int .i64 3, .int .i64 1, .int .i64 2, .int .i64 c3] 52)).alloc (.cells #[.int .i64 1, .int .i64 c3] 54)).alloc (.cells #[.int .i64 1, .slice (some ⟨w1.heap.size, 0, none⟩) 1 1, .slice (some ⟨w1.heap.size + 1, 0, none⟩) 1 1, .int .i64 0, .slice none 0 0, .slice none 0 0] 50)).alloc (.cells #[.int .i64 1, .int .i64 5, .int .i64 1] 59)).alloc (.cells #[.int .i64 1, .int .i64 0, .int .i64 1, .int .i64 6] 57)).alloc (.cells #[.int .i64 (5 + c0), .int .i64 (1 + c1), .slice (some ⟨w1.heap.size + 1 + 1, 0, none⟩) 2 2, .slice (some ⟨w1.heap.size + 1 + 1 + 1, 0, none⟩) 1 1, .slice (some ⟨w1.heap.size + 1 + 1 + 1 + 1, 0, none⟩) 1 1] 26)).heap[w1.heap.size + 1 + 1 + 1 + 1]? = some (.cells #[.int .i64 1, .int .i64 0, .int .i64 1, .int .i64 6] 57) := by
      repeat (first | exact heap_at _ _ _ (by simp) | refine heap_up _ _ _ _ ?_)
    refine ⟨_, _, _, rfl, ⟨[⟨1, some ⟨w1.heap.size, 0, none⟩, 1, 1, some ⟨w1.heap.size + 1, 0, none⟩, 1, 1⟩, ⟨0, none, 0, 0, none, 0, 0⟩], rfl, row_blk (S := shP) [_, _] rfl (by simp) b2 0 (by omega), ?_⟩, row_blk (S := shW) [⟨1, 5, 1⟩] rfl (by simp) b3 0 (by omega), row_blk (S := shO) [⟨1, 0, 1, 6⟩] rfl (by simp) b4 0 (by omega)⟩
    intro i q p hq hp
    match i, hq, hp with
    | 0, hq, hp =>
      simp only [laidC, List.getElem?_cons_zero, Option.some.injEq] at hq hp
      subst hq hp
      exact ⟨rfl, row_blk (S := shT) [⟨1, 3 + c2, 3, 1, 2, c3⟩] rfl (by simp) b0 0 (by omega), row_blk (S := shI) [(1, c3)] rfl (by simp) b1 0 (by omega)⟩
    | 1, hq, hp =>
      simp only [laidC, List.getElem?_cons_succ, List.getElem?_cons_zero, Option.some.injEq] at hq hp
      subst hq hp
      exact ⟨rfl, rowAt_nil _ _ _ _, rowAt_nil _ _ _ _⟩
    | k + 2, hq, _ => simp at hq
  go_wp2_with (first | fail)
  refine (put_any _ (laidC (5 + c0) (1 + c1) (3 + c2) c3) _ (HT.out.grown (grownBy_trans G1.out A1.out)) HCF.out).mono ?_; rintro e w2 ⟨rfl, hg⟩
  rw [HOK.out]
  have HS := hide (show putS (laidC (5 + c0) (1 + c1) (3 + c2) c3) = _ from if_pos HOK.out)
  have G2 := hide (grownBy_trans G1.out (grownBy_trans A1.out hg))
  clear hg A1 HCF
  generalize putS (laidC (5 + c0) (1 + c1) (3 + c2) c3) = sp at *
  have v1 : (convert 61 9 (.slice (some ⟨w2.heap.size, 0, none⟩) 2 2)).run Tryd.prog (w2.alloc (.cells #[.int .u8 (5 + c0), .int .u8 (1 + c1)] 5)) = .ok (.string (strOfNums [5 + c0, 1 + c1])) (w2.alloc (.cells #[.int .u8 (5 + c0), .int .u8 (1 + c1)] 5)) := conv_at rfl (heap_alloc_new _ _)
  have v2 : (convert 61 9 (.slice (some ⟨w2.heap.size + 1, 0, none⟩) 2 2)).run Tryd.prog ((w2.alloc (.cells #[.int .u8 (5 + c0), .int .u8 (1 + c1)] 5)).alloc (.cells #[.int .u8 ((3 + c2) / 256), .int .u8 ((3 + c2) % 256)] 5)) = .ok (.string (strOfNums [(3 + c2) / 256, (3 + c2) % 256])) ((w2.alloc (.cells #[.int .u8 (5 + c0), .int .u8 (1 + c1)] 5)).alloc (.cells #[.int .u8 ((3 + c2) / 256), .int .u8 ((3 + c2) % 256)] 5)) := conv_at rfl (heap_at _ _ _ (by simp))
  have v3 : (convert 61 9 (.slice (some ⟨w2.heap.size + 1 + 1, 0, none⟩) 4 4)).run Tryd.prog (((w2.alloc (.cells #[.int .u8 (5 + c0), .int .u8 (1 + c1)] 5)).alloc (.cells #[.int .u8 ((3 + c2) / 256), .int .u8 ((3 + c2) % 256)] 5)).alloc (.cells #[.int .u8 c3, .int .u8 1, .int .u8 1, .int .u8 c3] 5)) = .ok (.string (strOfNums [c3, 1, 1, c3])) (((w2.alloc (.cells #[.int .u8 (5 + c0), .int .u8 (1 + c1)] 5)).alloc (.cells #[.int .u8 ((3 + c2) / 256), .int .u8 ((3 + c2) % 256)] 5)).alloc (.cells #[.int .u8 c3, .int .u8 1, .int .u8 1, .int .u8 c3] 5)) := conv_at rfl (heap_at _ _ _ (by simp))
  have z1 : (strOfNums [5 + c0, 1 + c1]).size = 2 := strOfNums_size _
  have z2 : (strOfNums [(3 + c2) / 256, (3 + c2) % 256]).size = 2 := strOfNums_size _
  have z3 : (strOfNums [c3, 1, 1, c3]).size = 4 := strOfNums_size _
  have HEQ : Hid (sp = ⟨#[78, 67, 0]⟩ ++ strOfNums [5 + c0, 1 + c1] ++ ⟨#[2, 1, 1, 1]⟩ ++ strOfNums [(3 + c2) / 256, (3 + c2) % 256] ++ ⟨#[0, 3, 0, 1, 0, 2]⟩ ++ strOfNums [c3, 1, 1, c3] ++ ⟨#[0, 0, 0, 1, 0, 1, 0, 5, 1, 1, 1, 0, 1, 6]⟩) := by
    refine hide (HS.out.trans ?_)
    rw [HBY.out]
    simp only [strOfNums_append]
    rfl
  go_wp2_with (first | (go_at_call 15; refine (num_any _ _).mono ?_; rintro e w' ⟨rfl, rfl⟩))
  go_ret
  refine ⟨?_, grownBy_trans G2.out ?_⟩
  · show Ending.returned (Value.bool (sp.toList == _)) = _
    rw [HEQ.out]
    simp
  · repeat (first | exact World.grownBy_alloc _ _ _ | refine grownBy_trans ?_ (World.grownBy_alloc _ _ _))

#print axioms configLaid_any
end Go.Proofs.YtgaegggiehhcpaaDoor

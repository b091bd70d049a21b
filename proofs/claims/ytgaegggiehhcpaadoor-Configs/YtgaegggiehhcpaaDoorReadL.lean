/- Contracts of readList over instructions, tasks, windows and ports, and of the reader of a part, proved over the translation. -/
import Derived.Test.YtgaegggiehhcpaaDoorReadE
namespace Go.Proofs.YtgaegggiehhcpaaDoor
open Go.RowKit
attribute [local go_sem] alloc_drewN setCell_drewN

/-- So many, one behind the other. -/
def manyR {α : Type} (f : St → α × St) : Nat → St → List α × St
  | 0, st => ([], st)
  | n + 1, st => ((manyR f n st).1 ++ [(f (manyR f n st).2).1], (f (manyR f n st).2).2)
/-- How many there are, and each. -/
def allR {α : Type} (f : St → α × St) (st : St) : List α × St := manyR f (numR 1 st).1.toNat (numR 1 st).2
theorem manyR_length {α : Type} (f : St → α × St) (st : St) : ∀ n, (manyR f n st).1.length = n
  | 0 => rfl
  | n + 1 => by simp [manyR, manyR_length f st n]
theorem val_one (l : List Int) (hl : l.length ≤ 1) (hb : ∀ x ∈ l, 0 ≤ x ∧ x < 256) : 0 ≤ val l ∧ val l < 256 := by
  match l, hl with
  | [], _ => simp [val]
  | [x], _ => have := hb x (by simp); simp [val]; omega
theorem nums_mem {s : ByteArray} {x : Int} (h : x ∈ nums s) : 0 ≤ x ∧ x < 256 := by
  unfold nums at h
  obtain ⟨b, _, rfl⟩ := List.mem_map.1 h
  have := b.toNat_lt
  omega
theorem RAt.bytes {W : World} {b : Nat} {st : St} (h : RAt W b st) : ∀ x ∈ st.1, 0 ≤ x ∧ x < 256 := by
  obtain ⟨_, s, h1, _⟩ := h
  rw [← h1]
  exact fun x hx => nums_mem hx
theorem num1_byte {st : St} (h : ∀ x ∈ st.1, 0 ≤ x ∧ x < 256) : 0 ≤ (numR 1 st).1 ∧ (numR 1 st).1 < 256 := by
  unfold numR takeR
  split
  · simp [val]
  · exact val_one _ (by rw [List.length_take]; omega) (fun x hx => h x (List.mem_of_mem_take hx))
theorem one_cells {α : Type} (S : Shape α) (x : α) (W : World) (t : Nat) : ∀ i y, [x][i]? = some y → ∀ j u, (S.f y)[j]? = some u → (W.alloc (.cells (S.f x).toArray t)).cell? ((⟨W.heap.size, 0, none⟩ : Addr).add (i * S.k + j)) = some u := by
  intro i y hy j u hu
  cases i with
  | zero =>
    simp only [List.getElem?_cons_zero, Option.some.injEq] at hy
    subst hy
    rw [Nat.zero_mul, Nat.zero_add, Go.WideShapes.add_plain]
    simpa using hu
  | succ i => simp at hy
theorem grown_append_some {w w1 w2 : World} {v : Value} {o : Obj} {b : Nat} (h : w.grownBy w1 (some b)) (hlt : ∀ g, v.ownBlock = some g → w.heap.size ≤ g) (hgrow : (w1.alloc o).grownBy w2 v.ownBlock) : w.grownBy w2 (some b) := by
  have g0 := World.grownBy_alloc w1 o none
  refine ⟨hgrow.os.trans (g0.os.trans h.os), hgrow.tape.trans (g0.tape.trans h.tape), hgrow.output.trans (g0.output.trans h.output), Nat.le_trans h.size (Nat.le_trans g0.size hgrow.size), fun k hk hn => ?_⟩
  have h1 := hgrow.block k (by have := h.size; have := g0.size; omega) (fun e => by have := hlt k e.symm; omega)
  exact h1.trans ((g0.block k (by have := h.size; omega) (by simp)).trans (h.block k hk hn))
theorem RAt.append {W W2 : World} {b : Nat} {st : St} {v : Value} {o : Obj} (h : RAt W b st) (hne : v.ownBlock ≠ some b) (hgrow : (W.alloc o).grownBy W2 v.ownBlock) : RAt W2 b st := by
  obtain ⟨h0, s, h1, h2⟩ := h
  exact ⟨h0, s, h1, box_grown (box_grown h2 (World.grownBy_alloc _ _ none) (by simp)) hgrow hne⟩

theorem info52 : (Tryd.prog.info? 52).map (fun i => (i.zero, i.size, i.bytes)) = some (some (.agg #[.int .i64 0, .int .i64 0, .int .i64 0, .int .i64 0, .int .i64 0, .int .i64 0]), 6, 48) := by kernel_rfl
set_option maxRecDepth 100000 in
set_option maxHeartbeats 2000000 in
theorem readAll_T (b : Nat) (st : St) (w : World) (h : RAt w b st) :
    Calls Tryd.prog 90 #[.pointer (some ⟨b, 0, none⟩), .func (.func 91) #[.pointer (some ⟨b, 0, none⟩)] #[]] w fun e w' => ∃ v, e = .returned v ∧ w'.ownsRow w.heap.size 52 6 v (allR taskR st).1.length (shT.cells (allR taskR st).1) ∧ RAt w' b (allR taskR st).2 ∧ w.grownBy w' (some b) := by
  have CN := hide (number_1 b st w h)
  have HB := num1_byte h.bytes
  have hbl := h.lt
  clear h
  unfold allR
  generalize numR 1 st = r0 at *
  obtain ⟨c0, st1⟩ := r0
  dsimp only at CN HB ⊢
  obtain ⟨N, rfl⟩ : ∃ N : Nat, c0 = N := ⟨c0.toNat, by omega⟩
  simp only [Int.toNat_natCast]
  have hN : N < 256 := by omega
  rw [manyR_length]
  go_enter Tryd.func90, Tryd.ntmps90
  go_wp2_with (first | fail)
  refine CN.out.mono ?_; rintro e w1 ⟨rfl, hr, hg⟩
  have HR1 := hide hr
  have HG1 := hide hg
  clear hr hg CN
  go_wp2
  go_loopw [5, 10] (fun u i W => ∃ (j cap' : Nat) (a' : Option Addr), j ≤ N ∧ i = .int .i64 j ∧ u = .slice a' j cap' ∧ Hid (W.ownsRow w.heap.size 52 6 u j (shT.cells (manyR taskR j st1).1)) ∧ Hid (RAt W b (manyR taskR j st1).2) ∧ Hid (w.grownBy W (some b))) (fun _ i _ => N - (intOf i).toNat)
  case atStart => exact ⟨0, 0, none, by omega, rfl, rfl, ⟨rfl, .inl ⟨rfl, rfl⟩⟩, HR1, HG1⟩
  case round =>
    obtain ⟨j, cap', a', hj, rfl, rfl, HO, HR, HG⟩ := hrel
    by_cases hlt : j < N
    · have HC := hide (read_T b _ wr HR.out)
      have HS := hide (show manyR taskR (j + 1) st1 = ((manyR taskR j st1).1 ++ [(taskR (manyR taskR j st1).2).1], (taskR (manyR taskR j st1).2).2) from rfl)
      generalize (manyR taskR j st1).1 = P at *
      generalize taskR (manyR taskR j st1).2 = r at *
      obtain ⟨q, st2⟩ := r
      dsimp only at HC HS
      go_wp2_with (first | fail)
      refine HC.out.mono ?_; rintro e w2 ⟨rfl, hr, hg⟩
      have HR2 := hide hr
      have HG2 := hide (grownBy_trans HG.out hg)
      have HO2 := hide (own_off HO.out hg hbl)
      clear hr hg
      go_wp2_with (at_builtin; refine app_row (S := shT) _ rfl _ _ 47 52 _ 48 Tryd.underlying47 info52 rfl rfl w.heap.size (.slice a' j cap') j P rfl ?c0 ⟨w2.heap.size, 0, none⟩ 1 1 [q] rfl rfl ?c1 ?c2 ?c3 ?c4 ?_)
      case c0 => exact HO2.out.alloc _
      case c1 => exact one_cells shT q w2 52
      case c2 => omega
      case c3 => omega
      case c4 => have := HG2.out.size; simp; omega
      intro a3 cap3 w3 hown hgrow _
      have HO3 := hide hown
      have HG3 := hide (grown_append_some HG2.out (fun g hg => (HO.out.lt g hg).1) hgrow)
      have HR3 := hide (HR2.out.append (fun e => by have := (HO.out.lt _ e).1; omega) hgrow)
      clear hown hgrow
      go_wp2
      go_roundw
      case rel =>
        refine ⟨j + 1, cap3, a3, by omega, by go_num, rfl, ?_, ?_, HG3⟩
        · rw [HS.out]; exact HO3.out
        · rw [HS.out]; exact HR3.out
      case measure => simp [intOf]; omega
    · go_wp2
      go_ret
      have e : j = N := by omega
      subst e
      exact ⟨_, rfl, HO.out, HR.out, HG.out⟩

theorem info54 : (Tryd.prog.info? 54).map (fun i => (i.zero, i.size, i.bytes)) = some (some (.agg #[.int .i64 0, .int .i64 0]), 2, 16) := by kernel_rfl
set_option maxRecDepth 100000 in
set_option maxHeartbeats 2000000 in
theorem readAll_I (b : Nat) (st : St) (w : World) (h : RAt w b st) :
    Calls Tryd.prog 92 #[.pointer (some ⟨b, 0, none⟩), .func (.func 93) #[.pointer (some ⟨b, 0, none⟩)] #[]] w fun e w' => ∃ v, e = .returned v ∧ w'.ownsRow w.heap.size 54 2 v (allR insR st).1.length (shI.cells (allR insR st).1) ∧ RAt w' b (allR insR st).2 ∧ w.grownBy w' (some b) := by
  have CN := hide (number_1 b st w h)
  have HB := num1_byte h.bytes
  have hbl := h.lt
  clear h
  unfold allR
  generalize numR 1 st = r0 at *
  obtain ⟨c0, st1⟩ := r0
  dsimp only at CN HB ⊢
  obtain ⟨N, rfl⟩ : ∃ N : Nat, c0 = N := ⟨c0.toNat, by omega⟩
  simp only [Int.toNat_natCast]
  have hN : N < 256 := by omega
  rw [manyR_length]
  go_enter Tryd.func92, Tryd.ntmps92
  go_wp2_with (first | fail)
  refine CN.out.mono ?_; rintro e w1 ⟨rfl, hr, hg⟩
  have HR1 := hide hr
  have HG1 := hide hg
  clear hr hg CN
  go_wp2
  go_loopw [5, 10] (fun u i W => ∃ (j cap' : Nat) (a' : Option Addr), j ≤ N ∧ i = .int .i64 j ∧ u = .slice a' j cap' ∧ Hid (W.ownsRow w.heap.size 54 2 u j (shI.cells (manyR insR j st1).1)) ∧ Hid (RAt W b (manyR insR j st1).2) ∧ Hid (w.grownBy W (some b))) (fun _ i _ => N - (intOf i).toNat)
  case atStart => exact ⟨0, 0, none, by omega, rfl, rfl, ⟨rfl, .inl ⟨rfl, rfl⟩⟩, HR1, HG1⟩
  case round =>
    obtain ⟨j, cap', a', hj, rfl, rfl, HO, HR, HG⟩ := hrel
    by_cases hlt : j < N
    · have HC := hide (read_I b _ wr HR.out)
      have HS := hide (show manyR insR (j + 1) st1 = ((manyR insR j st1).1 ++ [(insR (manyR insR j st1).2).1], (insR (manyR insR j st1).2).2) from rfl)
      generalize (manyR insR j st1).1 = P at *
      generalize insR (manyR insR j st1).2 = r at *
      obtain ⟨q, st2⟩ := r
      dsimp only at HC HS
      go_wp2_with (first | fail)
      refine HC.out.mono ?_; rintro e w2 ⟨rfl, hr, hg⟩
      have HR2 := hide hr
      have HG2 := hide (grownBy_trans HG.out hg)
      have HO2 := hide (own_off HO.out hg hbl)
      clear hr hg
      go_wp2_with (at_builtin; refine app_row (S := shI) _ rfl _ _ 48 54 _ 16 Tryd.underlying48 info54 rfl rfl w.heap.size (.slice a' j cap') j P rfl ?c0 ⟨w2.heap.size, 0, none⟩ 1 1 [q] rfl rfl ?c1 ?c2 ?c3 ?c4 ?_)
      case c0 => exact HO2.out.alloc _
      case c1 => exact one_cells shI q w2 54
      case c2 => omega
      case c3 => omega
      case c4 => have := HG2.out.size; simp; omega
      intro a3 cap3 w3 hown hgrow _
      have HO3 := hide hown
      have HG3 := hide (grown_append_some HG2.out (fun g hg => (HO.out.lt g hg).1) hgrow)
      have HR3 := hide (HR2.out.append (fun e => by have := (HO.out.lt _ e).1; omega) hgrow)
      clear hown hgrow
      go_wp2
      go_roundw
      case rel =>
        refine ⟨j + 1, cap3, a3, by omega, by go_num, rfl, ?_, ?_, HG3⟩
        · rw [HS.out]; exact HO3.out
        · rw [HS.out]; exact HR3.out
      case measure => simp [intOf]; omega
    · go_wp2
      go_ret
      have e : j = N := by omega
      subst e
      exact ⟨_, rfl, HO.out, HR.out, HG.out⟩

theorem info59 : (Tryd.prog.info? 59).map (fun i => (i.zero, i.size, i.bytes)) = some (some (.agg #[.int .i64 0, .int .i64 0, .int .i64 0]), 3, 24) := by kernel_rfl
set_option maxRecDepth 100000 in
set_option maxHeartbeats 2000000 in
theorem readAll_W (b : Nat) (st : St) (w : World) (h : RAt w b st) :
    Calls Tryd.prog 66 #[.pointer (some ⟨b, 0, none⟩), .func (.func 67) #[.pointer (some ⟨b, 0, none⟩)] #[]] w fun e w' => ∃ v, e = .returned v ∧ w'.ownsRow w.heap.size 59 3 v (allR winR st).1.length (shW.cells (allR winR st).1) ∧ RAt w' b (allR winR st).2 ∧ w.grownBy w' (some b) := by
  have CN := hide (number_1 b st w h)
  have HB := num1_byte h.bytes
  have hbl := h.lt
  clear h
  unfold allR
  generalize numR 1 st = r0 at *
  obtain ⟨c0, st1⟩ := r0
  dsimp only at CN HB ⊢
  obtain ⟨N, rfl⟩ : ∃ N : Nat, c0 = N := ⟨c0.toNat, by omega⟩
  simp only [Int.toNat_natCast]
  have hN : N < 256 := by omega
  rw [manyR_length]
  go_enter Tryd.func66, Tryd.ntmps66
  go_wp2_with (first | fail)
  refine CN.out.mono ?_; rintro e w1 ⟨rfl, hr, hg⟩
  have HR1 := hide hr
  have HG1 := hide hg
  clear hr hg CN
  go_wp2
  go_loopw [5, 10] (fun u i W => ∃ (j cap' : Nat) (a' : Option Addr), j ≤ N ∧ i = .int .i64 j ∧ u = .slice a' j cap' ∧ Hid (W.ownsRow w.heap.size 59 3 u j (shW.cells (manyR winR j st1).1)) ∧ Hid (RAt W b (manyR winR j st1).2) ∧ Hid (w.grownBy W (some b))) (fun _ i _ => N - (intOf i).toNat)
  case atStart => exact ⟨0, 0, none, by omega, rfl, rfl, ⟨rfl, .inl ⟨rfl, rfl⟩⟩, HR1, HG1⟩
  case round =>
    obtain ⟨j, cap', a', hj, rfl, rfl, HO, HR, HG⟩ := hrel
    by_cases hlt : j < N
    · have HC := hide (read_W b _ wr HR.out)
      have HS := hide (show manyR winR (j + 1) st1 = ((manyR winR j st1).1 ++ [(winR (manyR winR j st1).2).1], (winR (manyR winR j st1).2).2) from rfl)
      generalize (manyR winR j st1).1 = P at *
      generalize winR (manyR winR j st1).2 = r at *
      obtain ⟨q, st2⟩ := r
      dsimp only at HC HS
      go_wp2_with (first | fail)
      refine HC.out.mono ?_; rintro e w2 ⟨rfl, hr, hg⟩
      have HR2 := hide hr
      have HG2 := hide (grownBy_trans HG.out hg)
      have HO2 := hide (own_off HO.out hg hbl)
      clear hr hg
      go_wp2_with (at_builtin; refine app_row (S := shW) _ rfl _ _ 23 59 _ 24 Tryd.underlying23 info59 rfl rfl w.heap.size (.slice a' j cap') j P rfl ?c0 ⟨w2.heap.size, 0, none⟩ 1 1 [q] rfl rfl ?c1 ?c2 ?c3 ?c4 ?_)
      case c0 => exact HO2.out.alloc _
      case c1 => exact one_cells shW q w2 59
      case c2 => omega
      case c3 => omega
      case c4 => have := HG2.out.size; simp; omega
      intro a3 cap3 w3 hown hgrow _
      have HO3 := hide hown
      have HG3 := hide (grown_append_some HG2.out (fun g hg => (HO.out.lt g hg).1) hgrow)
      have HR3 := hide (HR2.out.append (fun e => by have := (HO.out.lt _ e).1; omega) hgrow)
      clear hown hgrow
      go_wp2
      go_roundw
      case rel =>
        refine ⟨j + 1, cap3, a3, by omega, by go_num, rfl, ?_, ?_, HG3⟩
        · rw [HS.out]; exact HO3.out
        · rw [HS.out]; exact HR3.out
      case measure => simp [intOf]; omega
    · go_wp2
      go_ret
      have e : j = N := by omega
      subst e
      exact ⟨_, rfl, HO.out, HR.out, HG.out⟩

theorem info57 : (Tryd.prog.info? 57).map (fun i => (i.zero, i.size, i.bytes)) = some (some (.agg #[.int .i64 0, .int .i64 0, .int .i64 0, .int .i64 0]), 4, 32) := by kernel_rfl
set_option maxRecDepth 100000 in
set_option maxHeartbeats 2000000 in
theorem readAll_O (b : Nat) (st : St) (w : World) (h : RAt w b st) :
    Calls Tryd.prog 68 #[.pointer (some ⟨b, 0, none⟩), .func (.func 69) #[.pointer (some ⟨b, 0, none⟩)] #[]] w fun e w' => ∃ v, e = .returned v ∧ w'.ownsRow w.heap.size 57 4 v (allR portR st).1.length (shO.cells (allR portR st).1) ∧ RAt w' b (allR portR st).2 ∧ w.grownBy w' (some b) := by
  have CN := hide (number_1 b st w h)
  have HB := num1_byte h.bytes
  have hbl := h.lt
  clear h
  unfold allR
  generalize numR 1 st = r0 at *
  obtain ⟨c0, st1⟩ := r0
  dsimp only at CN HB ⊢
  obtain ⟨N, rfl⟩ : ∃ N : Nat, c0 = N := ⟨c0.toNat, by omega⟩
  simp only [Int.toNat_natCast]
  have hN : N < 256 := by omega
  rw [manyR_length]
  go_enter Tryd.func68, Tryd.ntmps68
  go_wp2_with (first | fail)
  refine CN.out.mono ?_; rintro e w1 ⟨rfl, hr, hg⟩
  have HR1 := hide hr
  have HG1 := hide hg
  clear hr hg CN
  go_wp2
  go_loopw [5, 10] (fun u i W => ∃ (j cap' : Nat) (a' : Option Addr), j ≤ N ∧ i = .int .i64 j ∧ u = .slice a' j cap' ∧ Hid (W.ownsRow w.heap.size 57 4 u j (shO.cells (manyR portR j st1).1)) ∧ Hid (RAt W b (manyR portR j st1).2) ∧ Hid (w.grownBy W (some b))) (fun _ i _ => N - (intOf i).toNat)
  case atStart => exact ⟨0, 0, none, by omega, rfl, rfl, ⟨rfl, .inl ⟨rfl, rfl⟩⟩, HR1, HG1⟩
  case round =>
    obtain ⟨j, cap', a', hj, rfl, rfl, HO, HR, HG⟩ := hrel
    by_cases hlt : j < N
    · have HC := hide (read_O b _ wr HR.out)
      have HS := hide (show manyR portR (j + 1) st1 = ((manyR portR j st1).1 ++ [(portR (manyR portR j st1).2).1], (portR (manyR portR j st1).2).2) from rfl)
      generalize (manyR portR j st1).1 = P at *
      generalize portR (manyR portR j st1).2 = r at *
      obtain ⟨q, st2⟩ := r
      dsimp only at HC HS
      go_wp2_with (first | fail)
      refine HC.out.mono ?_; rintro e w2 ⟨rfl, hr, hg⟩
      have HR2 := hide hr
      have HG2 := hide (grownBy_trans HG.out hg)
      have HO2 := hide (own_off HO.out hg hbl)
      clear hr hg
      go_wp2_with (at_builtin; refine app_row (S := shO) _ rfl _ _ 24 57 _ 32 Tryd.underlying24 info57 rfl rfl w.heap.size (.slice a' j cap') j P rfl ?c0 ⟨w2.heap.size, 0, none⟩ 1 1 [q] rfl rfl ?c1 ?c2 ?c3 ?c4 ?_)
      case c0 => exact HO2.out.alloc _
      case c1 => exact one_cells shO q w2 57
      case c2 => omega
      case c3 => omega
      case c4 => have := HG2.out.size; simp; omega
      intro a3 cap3 w3 hown hgrow _
      have HO3 := hide hown
      have HG3 := hide (grown_append_some HG2.out (fun g hg => (HO.out.lt g hg).1) hgrow)
      have HR3 := hide (HR2.out.append (fun e => by have := (HO.out.lt _ e).1; omega) hgrow)
      clear hown hgrow
      go_wp2
      go_roundw
      case rel =>
        refine ⟨j + 1, cap3, a3, by omega, by go_num, rfl, ?_, ?_, HG3⟩
        · rw [HS.out]; exact HO3.out
        · rw [HS.out]; exact HR3.out
      case measure => simp [intOf]; omega
    · go_wp2
      go_ret
      have e : j = N := by omega
      subst e
      exact ⟨_, rfl, HO.out, HR.out, HG.out⟩


#print axioms readAll_O
end Go.Proofs.YtgaegggiehhcpaaDoor

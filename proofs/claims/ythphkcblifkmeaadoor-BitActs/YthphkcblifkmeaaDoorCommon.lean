/- Lemmas on worlds, on rows of numbers that a call owns, and append's law at the seat's own types: nothing of the program's functions. -/
import Derived.Test.YthphkcblifkmeaaDoorRows
import Derived.WalkKit
import Derived.WalkSpells
import Derived.WalkLawsBesides
import Derived.RegionTactic
import Derived.BigQuiet
import Derived.Deep.QuietTactic
import Derived.Deep.AppendLies
import Derived.Deep.RegionWith
import Derived.Deep.DrawnRows
import Derived.Deep.DeepFit
import Derived.Lib.MinMax
namespace Go.Proofs.YthphkcblifkmeaaDoor
open Go.RowKit

theorem hide {p : Prop} (h : p) : Hid p := h
theorem alloc_drewN (w : World) (n : Nat) (o : Obj) : (w.drewN n).alloc o = (w.alloc o).drewN n := rfl
theorem setCell_drewN (w : World) (n : Nat) (a : Addr) (v : Value) : (w.drewN n).setCell a v = (w.setCell a v).drewN n := rfl

/-! Worlds that have grown. -/
theorem grownBy_draws (w : World) (n : Nat) (r : Option Nat) : w.grownBy (w.drewN n) r := ⟨rfl, rfl, rfl, Nat.le_refl _, fun _ _ _ => rfl⟩
theorem grownBy_set (w : World) (b j : Nat) (u : Value) : w.grownBy (w.setCell ⟨b, j, none⟩ u) (some b) :=
  ⟨rfl, rfl, rfl, by simp [World.setCell], fun k _ hk => Below.heap_setCell _ _ _ _ (fun e => hk (by rw [e]))⟩
theorem grownBy_trans {a b c : World} {r : Option Nat} (h : a.grownBy b r) (h' : b.grownBy c r) : a.grownBy c r :=
  ⟨h'.os.trans h.os, h'.tape.trans h.tape, h'.output.trans h.output, Nat.le_trans h.size h'.size, fun k hk hn => (h'.block k (Nat.lt_of_lt_of_le hk h.size) hn).trans (h.block k hk hn)⟩
theorem grownBy_any {a b : World} {r : Option Nat} (h : a.grownBy b none) : a.grownBy b r := ⟨h.os, h.tape, h.output, h.size, fun k hk _ => h.block k hk (by simp)⟩
theorem grownBy_refl (w : World) (r : Option Nat) : w.grownBy w r := ⟨rfl, rfl, rfl, Nat.le_refl _, fun _ _ _ => rfl⟩
theorem below_of_grown {a b : World} (h : a.grownBy b none) : Below a.heap.size a b := ⟨h.os, h.tape, h.output, h.size, fun k hk => h.block k hk (by simp)⟩
theorem grown_of_below {a b : World} (h : Below a.heap.size a b) : a.grownBy b none := ⟨h.os, h.tape, h.output, h.size, fun k hk _ => h.block k hk⟩
theorem grown_below {B b : Nat} {w w' w'' : World} (h : Below B w w') (hg : w'.grownBy w'' (some b)) (hB : B ≤ w'.heap.size) (hb : B ≤ b) : Below B w w'' :=
  h.grown hg hB (fun k hk => by cases hk; exact hb)
theorem grown_below0 {B : Nat} {w w' w'' : World} (h : Below B w w') (hg : w'.grownBy w'' none) (hB : B ≤ w'.heap.size) : Below B w w'' :=
  h.grown hg hB (fun k hk => by cases hk)
theorem grown_new {w W : World} (h : w.grownBy W none) (j : Nat) (u : Value) : w.grownBy (W.setCell ⟨w.heap.size, j, none⟩ u) none :=
  ⟨h.os, h.tape, h.output, by simpa [World.setCell] using h.size, fun k hk hn => (Below.heap_setCell _ _ _ _ (by simp; omega)).trans (h.block k hk hn)⟩
/-- What is made new and then written over: nothing old has turned. -/
theorem grown_spoil {w w1 w2 : World} {g : Nat} (h : w.grownBy w1 none) (hg : w.heap.size ≤ g) (h' : w1.grownBy w2 (some g)) : w.grownBy w2 none :=
  ⟨h'.os.trans h.os, h'.tape.trans h.tape, h'.output.trans h.output, Nat.le_trans h.size h'.size, fun k hk _ => (h'.block k (Nat.lt_of_lt_of_le hk h.size) (by simp; omega)).trans (h.block k hk (by simp))⟩
theorem other (W : World) (b j i : Nat) (u : Value) (h : i ≠ j) : (W.setCell ⟨b, i, none⟩ u).cell? ⟨b, j, none⟩ = W.cell? ⟨b, j, none⟩ :=
  World.cell?_setCell_other _ _ _ _ (fun e => absurd (congrArg Addr.off e) h)

/-! Rows that a call owns. -/
theorem own_kept {w w' : World} {base e size n : Nat} {v : Value} {xs : List Value} (h : w.ownsRow base e size v n xs) (hg : w.grownBy w' none) : w'.ownsRow base e size v n xs :=
  h.kept hg (by cases v.ownBlock <;> simp)
theorem own_draws {w : World} {base e size n : Nat} {v : Value} {xs : List Value} (h : w.ownsRow base e size v n xs) (m : Nat) : (w.drewN m).ownsRow base e size v n xs := own_kept h (grownBy_draws _ _ _)
theorem own_form {w : World} {base e size n : Nat} {v : Value} {xs : List Value} (h : w.ownsRow base e size v n xs) : ∃ a cap, v = .slice a n cap := by
  rcases h.2 with ⟨rfl, rfl⟩ | ⟨g, cap, cur, rfl, _⟩
  · exact ⟨_, _, rfl⟩
  · exact ⟨_, _, rfl⟩
/-- A row that is owned from base on keeps while a block below base is written. -/
theorem own_off {W W1 : World} {base e size n g : Nat} {v : Value} {xs : List Value} (h : W.ownsRow base e size v n xs) (hg : W.grownBy W1 (some g)) (hb : g < base) : W1.ownsRow base e size v n xs :=
  h.kept hg (by right; intro e; have := (h.lt g e).1; omega)
/-- Behind an append onto a row that is owned from b + 1 on: up to b all is as it was. -/
theorem below_of_own {w w1 : World} {b m : Nat} {v : Value} {o : Obj} (hb : b < w.heap.size) (hlt : ∀ g, v.ownBlock = some g → b + 1 ≤ g) (hgrow : ((w.alloc o).drewN m).grownBy w1 v.ownBlock) : Below (b + 1) w w1 := by
  refine (below_drewN ((Below.refl (b + 1) w).alloc hb o) m).grown hgrow (by simp; omega) ?_
  intro g hg
  exact hlt g hg
/-- Where an owned row that is not empty lies. -/
theorem own_cap {W : World} {base e size n : Nat} {a : Option Addr} {cap : Nat} {xs : List Value} (h : W.ownsRow base e size (.slice a n cap) n xs) (hn : 0 < n) : ∃ g, a = some ⟨g, 0, none⟩ ∧ base ≤ g ∧ n ≤ cap ∧ cap ≤ 9223372036854775807 := by
  rcases h.2 with ⟨_, h0⟩ | ⟨g, cap, cur, hv, hb, _, h1, h2, _⟩
  · omega
  · simp only [Value.slice.injEq, true_and] at hv
    obtain ⟨rfl, rfl⟩ := hv
    unfold maxLen at h2
    exact ⟨g, rfl, hb, h1, h2⟩

/-! Rows of whole numbers (kind i64). -/
def vals (zs : List Int) : List Value := zs.map (Value.int .i64)
theorem vals_length (zs : List Int) : (vals zs).length = zs.length := by simp [vals]
theorem vals_get (zs : List Int) (j : Nat) (h : j < zs.length) : (vals zs)[j]? = some (.int .i64 (zs[j]?.getD 0)) := by
  simp [vals, List.getElem?_map, List.getElem?_eq_getElem h]
theorem vals_set (zs : List Int) (j : Nat) (x : Int) : (vals zs).set j (.int .i64 x) = vals (zs.set j x) := by simp [vals, List.map_set]
theorem vals_append (xs ys : List Int) : vals (xs ++ ys) = vals xs ++ vals ys := by simp [vals]
theorem take_set_succ {ys row : List Int} {j : Nat} (h : ys.take j = row.take j) (h1 : j < ys.length) (h2 : j < row.length) : (ys.set j (row[j]?.getD 0)).take (j + 1) = row.take (j + 1) := by
  rw [List.take_succ_eq_append_getElem (by simpa using h1), List.take_succ_eq_append_getElem h2, List.getElem_set_self, List.take_set_of_le (Nat.le_refl _), h, List.getElem?_eq_getElem h2]
  rfl

/-- The value is a slice that reads as the numbers. -/
def Reads (W : World) (v : Value) (zs : List Int) : Prop :=
  ∃ a cap, v = .slice a zs.length cap ∧ (0 < zs.length → ∃ g o, a = some ⟨g, o, none⟩ ∧ ∀ i, i < zs.length → W.cell? ⟨g, o + i, none⟩ = some (.int .i64 (zs[i]?.getD 0)))
theorem Reads.draws {W : World} {v : Value} {zs : List Int} (h : Reads W v zs) (n : Nat) : Reads (W.drewN n) v zs := h
theorem reads_own {w : World} {base : Nat} {v : Value} {zs : List Int} (h : w.ownsRow base 3 1 v zs.length (vals zs)) : Reads w v zs := by
  by_cases hl : 0 < zs.length
  · obtain ⟨g, cap, rfl, _, _⟩ := h.form hl
    refine ⟨_, cap, rfl, fun _ => ⟨g, 0, rfl, fun i hi => ?_⟩⟩
    rw [Nat.zero_add, h.cellAt i (by omega), vals_get _ _ hi]
  · rcases h.2 with ⟨rfl, _⟩ | ⟨g, cap, cur, rfl, _⟩
    · exact ⟨none, 0, by rw [show zs.length = 0 by omega], fun h => absurd h hl⟩
    · exact ⟨_, cap, rfl, fun h => absurd h hl⟩
theorem reads_at {W : World} {b o n c : Nat} {row : List Int} (hr : row.length = n) (hc : ∀ i, i < n → W.cell? ⟨b, o + i, none⟩ = some (.int .i64 (row[i]?.getD 0))) : Reads W (.slice (some ⟨b, o, none⟩) n c) row := by
  subst hr
  exact ⟨_, c, rfl, fun _ => ⟨b, o, rfl, hc⟩⟩
theorem reads_nil (W : World) (a : Option Addr) (c : Nat) : Reads W (.slice a 0 c) [] := ⟨a, c, rfl, fun h => by simp at h⟩

theorem infoI64 : (Tryd.prog.info? 3).map (fun i => (i.zero, i.size, i.bytes)) = some (some (.int .i64 0), 1, 8) := by kernel_rfl

/-- append of numbers onto a row of numbers that is owned. -/
theorem app_ints {ops : Array Oper} {rest : List Oper} {o : Oper} {a : Act} {Q : Exit → Act → World → Prop} (w : World) (hgd : o.guard = none) (s x : Operand)
    (ho : o.op = .call { callee := .builtin .append, args := #[s, x], argTypes := #[22, 22] })
    (base : Nat) (v : Value) (n : Nat) (xs : List Int) (hs : a.eval s = v) (hown : w.ownsRow base 3 1 v n (vals xs))
    (ad : Addr) (m c : Nat) (ys : List Int) (hx : a.eval x = .slice (some ad) m c) (hl : ys.length = m) (hcells : ∀ j, j < m → w.cell? (ad.add j) = some (.int .i64 (ys[j]?.getD 0)))
    (hlim : n + m ≤ 17592186044416) (hbase : base ≤ w.heap.size)
    (h : ∀ a' cap' w', w'.ownsRow base 3 1 (.slice a' (n + m) cap') (n + m) (vals (xs ++ ys)) → w.grownBy w' v.ownBlock → wpList Tryd.prog ops Q rest (a.put o.dst (.slice a' (n + m) cap')) w') :
    wpList Tryd.prog ops Q (o :: rest) a w := by
  obtain ⟨i0, hi, hz0, hz1, hz2⟩ := info_parts infoI64
  refine wpList_append_own w hgd s x 22 ho base 3 i0 (.int .i64 0) 1 8 Tryd.underlying22 hi hz0 hz1 hz2 rfl (by decide) v n (vals xs) hs hown ad m c (vals ys) hx (by rw [vals_length, hl]; omega) ?_ ?_ (by unfold maxLen; omega) (by omega) hbase ?_
  · intro j u hu
    have hj : j < (vals ys).length := by
      rcases Nat.lt_or_ge j (vals ys).length with h | h
      · exact h
      · rw [List.getElem?_eq_none h] at hu; cases hu
    rw [vals_length] at hj
    rw [vals_get _ _ hj] at hu
    cases hu
    exact hcells j (by omega)
  · intro u hu
    simp [vals] at hu
    obtain ⟨z, _, rfl⟩ := hu
    rfl
  · intro v' w' hown' hgrow _
    obtain ⟨a', cap', rfl⟩ := own_form hown'
    refine h a' cap' w' ?_ hgrow
    rw [vals_append]
    exact hown'

/-- make of a row of n numbers. -/
def made (n : Nat) : Array Value := madeCells #[.int .i64 0] n
theorem make_any (n : Nat) (hn : n ≤ 35184372088832) (w : World) : (Instr.makeSlice 22 (.int .i64 n) (.int .i64 n)).run Tryd.prog w = .ok (.slice (some ⟨w.heap.size, 0, none⟩) n n) (w.alloc (.cells (made n) 3)) := by
  obtain ⟨i0, hi, hz0, hz1, hz2⟩ := info_parts infoI64
  have := run_make (P := Tryd.prog) w 22 3 i0 (.int .i64 0) Tryd.underlying22 hi hz0 .i64 .i64 n n (by omega) (Int.le_refl _) (by rw [hz2]; omega) (by omega)
  rw [hz1] at this
  simpa [made, Value.cells] using this
theorem made_own (w : World) (n : Nat) (hn : n ≤ 35184372088832) : (w.alloc (.cells (made n) 3)).ownsRow w.heap.size 3 1 (.slice (some ⟨w.heap.size, 0, none⟩) n n) n (vals (List.replicate n 0)) := by
  have := World.ownsRow_lit (base := w.heap.size) (e := 3) (size := 1) w (made n) n (Nat.le_refl _) (by unfold maxLen; omega) (by simp [made, size_madeCells])
  rw [made, toList_madeCells_one] at this
  simpa [made, vals] using this
#print axioms made_own
end Go.Proofs.YthphkcblifkmeaaDoor

/- Lemmas on worlds, on rows of instructions and of bytes that a call owns, and append's law at the seat's own types: nothing of the program's functions. -/
import Derived.Test.YtdgdoiigcdlpaaaDoorRows
import Derived.WalkKit
import Derived.WalkSpells
import Derived.WalkLawsBesides
import Derived.RegionTactic
import Derived.BigQuiet
import Derived.Deep.QuietTactic
import Derived.Deep.AppendLies
import Derived.Deep.RegionWith
import Derived.Deep.DrawnRows
import Derived.Deep.DeepFit
import Derived.Laws.BytesArg
import Derived.Deep.CutBlock
import Derived.Deep.DeepCutAuto
namespace Go.Proofs.YtdgdoiigcdlpaaaDoor
open Go.RowKit

theorem hide {p : Prop} (h : p) : Hid p := h
theorem alloc_drewN (w : World) (n : Nat) (o : Obj) : (w.drewN n).alloc o = (w.alloc o).drewN n := rfl
theorem setCell_drewN (w : World) (n : Nat) (a : Addr) (v : Value) : (w.drewN n).setCell a v = (w.setCell a v).drewN n := rfl

/-! Worlds that have grown. -/
theorem grownBy_draws (w : World) (n : Nat) (r : Option Nat) : w.grownBy (w.drewN n) r := ⟨rfl, rfl, rfl, Nat.le_refl _, fun _ _ _ => rfl⟩
theorem grownBy_set (w : World) (b j : Nat) (u : Value) : w.grownBy (w.setCell ⟨b, j, none⟩ u) (some b) :=
  ⟨rfl, rfl, rfl, by simp [World.setCell], fun k _ hk => Below.heap_setCell _ _ _ _ (fun e => hk (by rw [e]))⟩
theorem grownBy_trans {a b c : World} {r : Option Nat} (h : a.grownBy b r) (h' : b.grownBy c r) : a.grownBy c r :=
  ⟨h'.os.trans h.os, h'.tape.trans h.tape, h'.output.trans h.output, Nat.le_trans h.size h'.size, fun k hk hn => (h'.block k (Nat.lt_of_lt_of_le hk h.size) hn).trans (h.block k hk hn)⟩
theorem grownBy_any {a b : World} {r : Option Nat} (h : a.grownBy b none) : a.grownBy b r := ⟨h.os, h.tape, h.output, h.size, fun k hk _ => h.block k hk (by simp)⟩
theorem grownBy_refl (w : World) (r : Option Nat) : w.grownBy w r := ⟨rfl, rfl, rfl, Nat.le_refl _, fun _ _ _ => rfl⟩
theorem below_of_grown {a b : World} (h : a.grownBy b none) : Below a.heap.size a b := ⟨h.os, h.tape, h.output, h.size, fun k hk => h.block k hk (by simp)⟩
theorem grown_of_below {a b : World} (h : Below a.heap.size a b) : a.grownBy b none := ⟨h.os, h.tape, h.output, h.size, fun k hk _ => h.block k hk⟩
theorem grown_below {B b : Nat} {w w' w'' : World} (h : Below B w w') (hg : w'.grownBy w'' (some b)) (hB : B ≤ w'.heap.size) (hb : B ≤ b) : Below B w w'' :=
  h.grown hg hB (fun k hk => by cases hk; exact hb)
theorem grown_below0 {B : Nat} {w w' w'' : World} (h : Below B w w') (hg : w'.grownBy w'' none) (hB : B ≤ w'.heap.size) : Below B w w'' :=
  h.grown hg hB (fun k hk => by cases hk)
theorem grown_new {w W : World} (h : w.grownBy W none) (j : Nat) (u : Value) : w.grownBy (W.setCell ⟨w.heap.size, j, none⟩ u) none :=
  ⟨h.os, h.tape, h.output, by simpa [World.setCell] using h.size, fun k hk hn => (Below.heap_setCell _ _ _ _ (by simp; omega)).trans (h.block k hk hn)⟩
/-- What is made new and then written over: nothing old has turned. -/
theorem grown_spoil {w w1 w2 : World} {g : Nat} (h : w.grownBy w1 none) (hg : w.heap.size ≤ g) (h' : w1.grownBy w2 (some g)) : w.grownBy w2 none :=
  ⟨h'.os.trans h.os, h'.tape.trans h.tape, h'.output.trans h.output, Nat.le_trans h.size h'.size, fun k hk _ => (h'.block k (Nat.lt_of_lt_of_le hk h.size) (by simp; omega)).trans (h.block k hk (by simp))⟩
theorem other (W : World) (b j i : Nat) (u : Value) (h : i ≠ j) : (W.setCell ⟨b, i, none⟩ u).cell? ⟨b, j, none⟩ = W.cell? ⟨b, j, none⟩ :=
  World.cell?_setCell_other _ _ _ _ (fun e => absurd (congrArg Addr.off e) h)

/-! Rows that a call owns. -/
theorem own_kept {w w' : World} {base e size n : Nat} {v : Value} {xs : List Value} (h : w.ownsRow base e size v n xs) (hg : w.grownBy w' none) : w'.ownsRow base e size v n xs :=
  h.kept hg (by cases v.ownBlock <;> simp)
theorem own_draws {w : World} {base e size n : Nat} {v : Value} {xs : List Value} (h : w.ownsRow base e size v n xs) (m : Nat) : (w.drewN m).ownsRow base e size v n xs := own_kept h (grownBy_draws _ _ _)
theorem own_form {w : World} {base e size n : Nat} {v : Value} {xs : List Value} (h : w.ownsRow base e size v n xs) : ∃ a cap, v = .slice a n cap := by
  rcases h.2 with ⟨rfl, rfl⟩ | ⟨g, cap, cur, rfl, _⟩
  · exact ⟨_, _, rfl⟩
  · exact ⟨_, _, rfl⟩
/-- A row that is owned from base on keeps while a block below base is written. -/
theorem own_off {W W1 : World} {base e size n g : Nat} {v : Value} {xs : List Value} (h : W.ownsRow base e size v n xs) (hg : W.grownBy W1 (some g)) (hb : g < base) : W1.ownsRow base e size v n xs :=
  h.kept hg (by right; intro e; have := (h.lt g e).1; omega)
/-- Behind an append onto a row that is owned from b + 1 on: up to b all is as it was. -/
theorem below_of_own {w w1 : World} {b m : Nat} {v : Value} {o : Obj} (hb : b < w.heap.size) (hlt : ∀ g, v.ownBlock = some g → b + 1 ≤ g) (hgrow : ((w.alloc o).drewN m).grownBy w1 v.ownBlock) : Below (b + 1) w w1 := by
  refine (below_drewN ((Below.refl (b + 1) w).alloc hb o) m).grown hgrow (by simp; omega) ?_
  intro g hg
  exact hlt g hg
/-- Where an owned row that is not empty lies. -/
theorem own_cap {W : World} {base e size n : Nat} {a : Option Addr} {cap : Nat} {xs : List Value} (h : W.ownsRow base e size (.slice a n cap) n xs) (hn : 0 < n) : ∃ g, a = some ⟨g, 0, none⟩ ∧ base ≤ g ∧ n ≤ cap ∧ cap ≤ 9223372036854775807 := by
  rcases h.2 with ⟨_, h0⟩ | ⟨g, cap, cur, hv, hb, _, h1, h2, _⟩
  · omega
  · simp only [Value.slice.injEq, true_and] at hv
    obtain ⟨rfl, rfl⟩ := hv
    unfold maxLen at h2
    exact ⟨g, rfl, hb, h1, h2⟩

/-! grown_append, from the rounds before. -/
/-- Behind an append onto what is owned from base on: from w on nothing old has turned. -/
theorem grown_append {w w1 w2 : World} {m : Nat} {v : Value} {o : Obj} (h : w.grownBy w1 none) (hlt : ∀ g, v.ownBlock = some g → w.heap.size ≤ g) (hgrow : ((w1.alloc o).drewN m).grownBy w2 v.ownBlock) : w.grownBy w2 none := by
  have h2 : w.grownBy ((w1.alloc o).drewN m) none := grownBy_trans h (grownBy_trans (World.grownBy_alloc _ _ _) (grownBy_draws _ _ _))
  cases hv : v.ownBlock with
  | none => rw [hv] at hgrow; exact grownBy_trans h2 hgrow
  | some g => rw [hv] at hgrow; exact grown_spoil h2 (hlt g hv) hgrow

/-! Rows of pairs of whole numbers: two cells an element. -/
abbrev Ins := Int × Int
def cells2 (zs : List Ins) : List Value := zs.flatMap fun z => [.int .i64 z.1, .int .i64 z.2]
theorem cells2_cons (z : Ins) (zs : List Ins) : cells2 (z :: zs) = .int .i64 z.1 :: .int .i64 z.2 :: cells2 zs := by simp [cells2]
theorem cells2_length (zs : List Ins) : (cells2 zs).length = zs.length * 2 := by
  induction zs with
  | nil => rfl
  | cons z zs ih => rw [cells2_cons]; simp [ih]; omega
theorem cells2_append (xs ys : List Ins) : cells2 (xs ++ ys) = cells2 xs ++ cells2 ys := by simp [cells2]
theorem cells2_get0 : ∀ (zs : List Ins) (j : Nat), j < zs.length → (cells2 zs)[j * 2]? = some (.int .i64 (zs[j]?.getD (0, 0)).1)
  | [], j, h => by simp at h
  | z :: zs, 0, _ => by simp [cells2_cons]
  | z :: zs, j + 1, h => by
    rw [cells2_cons, show (j + 1) * 2 = j * 2 + 1 + 1 by omega]
    simpa using cells2_get0 zs j (by simpa using h)
theorem cells2_get1 : ∀ (zs : List Ins) (j : Nat), j < zs.length → (cells2 zs)[j * 2 + 1]? = some (.int .i64 (zs[j]?.getD (0, 0)).2)
  | [], j, h => by simp at h
  | z :: zs, 0, _ => by simp [cells2_cons]
  | z :: zs, j + 1, h => by
    rw [cells2_cons, show (j + 1) * 2 + 1 = j * 2 + 1 + 1 + 1 by omega]
    simpa using cells2_get1 zs j (by simpa using h)
theorem cells2_one (zs : List Ins) : ∀ u ∈ cells2 zs, u.oneCell' = true := by
  intro u hu
  simp [cells2] at hu
  obtain ⟨a, b, _, rfl | rfl⟩ := hu <;> rfl
theorem cells2_at {zs : List Ins} {j : Nat} {u : Value} (h : (cells2 zs)[j]? = some u) : j / 2 < zs.length ∧ ((j = j / 2 * 2 ∧ u = .int .i64 (zs[j / 2]?.getD (0, 0)).1) ∨ (j = j / 2 * 2 + 1 ∧ u = .int .i64 (zs[j / 2]?.getD (0, 0)).2)) := by
  have hj : j < (cells2 zs).length := by
    rcases Nat.lt_or_ge j (cells2 zs).length with h' | h'
    · exact h'
    · rw [List.getElem?_eq_none h'] at h; cases h
  rw [cells2_length] at hj
  have hl : j / 2 < zs.length := by omega
  refine ⟨hl, ?_⟩
  rcases (by omega : j = j / 2 * 2 ∨ j = j / 2 * 2 + 1) with e | e
  · left
    refine ⟨e, ?_⟩
    rw [e, cells2_get0 _ _ hl] at h
    exact (Option.some.inj h).symm
  · right
    refine ⟨e, ?_⟩
    rw [e, cells2_get1 _ _ hl] at h
    exact (Option.some.inj h).symm

/-- The value is a slice that reads as the instructions. -/
def PReads (W : World) (v : Value) (zs : List Ins) : Prop :=
  ∃ a cap, v = .slice a zs.length cap ∧ (0 < zs.length → ∃ g o, a = some ⟨g, o, none⟩ ∧ ∀ i, i < zs.length → W.cell? ⟨g, o + i * 2, none⟩ = some (.int .i64 (zs[i]?.getD (0, 0)).1) ∧ W.cell? ⟨g, o + i * 2 + 1, none⟩ = some (.int .i64 (zs[i]?.getD (0, 0)).2))
theorem PReads.draws {W : World} {v : Value} {zs : List Ins} (h : PReads W v zs) (n : Nat) : PReads (W.drewN n) v zs := h
theorem PReads.grown {w W : World} {v : Value} {zs : List Ins} (h : PReads w v zs) (hg : w.grownBy W none) : PReads W v zs := by
  obtain ⟨a, cap, rfl, ha⟩ := h
  refine ⟨a, cap, rfl, fun hl => ?_⟩
  obtain ⟨g, o, rfl, hc⟩ := ha hl
  refine ⟨g, o, rfl, fun i hi => ?_⟩
  have hlt : g < w.heap.size := World.block_lt_of_cell? w ⟨g, o + i * 2, none⟩ (hc i hi).1
  have e := hg.block g hlt (by simp)
  exact ⟨(World.cell?_of_block (a := ⟨g, o + i * 2, none⟩) e).trans (hc i hi).1, (World.cell?_of_block (a := ⟨g, o + i * 2 + 1, none⟩) e).trans (hc i hi).2⟩
theorem preads_own {w : World} {base : Nat} {v : Value} {zs : List Ins} (h : w.ownsRow base 39 2 v zs.length (cells2 zs)) : PReads w v zs := by
  by_cases hl : 0 < zs.length
  · obtain ⟨g, cap, rfl, _, _⟩ := h.form hl
    refine ⟨_, cap, rfl, fun _ => ⟨g, 0, rfl, fun i hi => ?_⟩⟩
    rw [Nat.zero_add, h.cellAt (i * 2) (by omega), h.cellAt (i * 2 + 1) (by omega), cells2_get0 _ _ hi, cells2_get1 _ _ hi]
    exact ⟨rfl, rfl⟩
  · rcases h.2 with ⟨rfl, _⟩ | ⟨g, cap, cur, rfl, _⟩
    · exact ⟨none, 0, by rw [show zs.length = 0 by omega], fun h => absurd h hl⟩
    · exact ⟨_, cap, rfl, fun h => absurd h hl⟩
theorem preads_nil (W : World) (a : Option Addr) (c : Nat) : PReads W (.slice a 0 c) [] := ⟨a, c, rfl, fun h => by simp at h⟩
theorem preads_lit (w : World) (zs : List Ins) (t : Nat) : PReads (w.alloc (.cells (cells2 zs).toArray t)) (.slice (some ⟨w.heap.size, 0, none⟩) zs.length zs.length) zs := by
  refine ⟨_, _, rfl, fun _ => ⟨w.heap.size, 0, rfl, fun i hi => ?_⟩⟩
  simp [cells2_get0 _ _ hi, cells2_get1 _ _ hi]

theorem infoIns : (Tryd.prog.info? 39).map (fun i => (i.zero, i.size, i.bytes)) = some (some (.agg #[.int .i64 0, .int .i64 0]), 2, 16) := by kernel_rfl

/-- append of instructions onto a row of instructions that is owned. -/
theorem app_ins {ops : Array Oper} {rest : List Oper} {o : Oper} {a : Act} {Q : Exit → Act → World → Prop} (w : World) (hgd : o.guard = none) (s x : Operand)
    (ho : o.op = .call { callee := .builtin .append, args := #[s, x], argTypes := #[22, 22] })
    (base : Nat) (v : Value) (n : Nat) (xs : List Ins) (hs : a.eval s = v) (hown : w.ownsRow base 39 2 v n (cells2 xs))
    (ad : Addr) (m c : Nat) (ys : List Ins) (hx : a.eval x = .slice (some ad) m c) (hl : ys.length = m) (hcells : ∀ j, j < m → w.cell? (ad.add (j * 2)) = some (.int .i64 (ys[j]?.getD (0, 0)).1) ∧ w.cell? (ad.add (j * 2 + 1)) = some (.int .i64 (ys[j]?.getD (0, 0)).2))
    (hlim : n + m ≤ 8796093022208) (hbase : base ≤ w.heap.size)
    (h : ∀ a' cap' w', w'.ownsRow base 39 2 (.slice a' (n + m) cap') (n + m) (cells2 (xs ++ ys)) → w.grownBy w' v.ownBlock → wpList Tryd.prog ops Q rest (a.put o.dst (.slice a' (n + m) cap')) w') :
    wpList Tryd.prog ops Q (o :: rest) a w := by
  obtain ⟨i0, hi, hz0, hz1, hz2⟩ := info_parts infoIns
  refine wpList_append_own w hgd s x 22 ho base 39 i0 (.agg #[.int .i64 0, .int .i64 0]) 2 16 Tryd.underlying22 hi hz0 hz1 hz2 rfl (by decide) v n (cells2 xs) hs hown ad m c (cells2 ys) hx (by rw [cells2_length, hl]) ?_ (cells2_one ys) (by unfold maxLen; omega) (by omega) hbase ?_
  · intro j u hu
    obtain ⟨hj, ⟨e, rfl⟩ | ⟨e, rfl⟩⟩ := cells2_at hu
    · rw [e, Nat.mul_div_cancel _ (by decide)]
      exact (hcells (j / 2) (by omega)).1
    · have h2 := (hcells (j / 2) (by omega)).2
      rwa [← e] at h2
  · intro v' w' hown' hgrow _
    obtain ⟨a', cap', rfl⟩ := own_form hown'
    refine h a' cap' w' ?_ hgrow
    rw [cells2_append]
    exact hown'

/-! Rows of bytes. -/
def bytes1 (zs : List Int) : List Value := zs.map (Value.int .u8)
theorem bytes1_length (zs : List Int) : (bytes1 zs).length = zs.length := by simp [bytes1]
theorem bytes1_get (zs : List Int) (j : Nat) (h : j < zs.length) : (bytes1 zs)[j]? = some (.int .u8 (zs[j]?.getD 0)) := by
  simp [bytes1, List.getElem?_map, List.getElem?_eq_getElem h]
theorem bytes1_append (xs ys : List Int) : bytes1 (xs ++ ys) = bytes1 xs ++ bytes1 ys := by simp [bytes1]
theorem infoU8 : (Tryd.prog.info? 5).map (fun i => (i.zero, i.size, i.bytes)) = some (some (.int .u8 0), 1, 1) := by kernel_rfl
theorem app_bytes {ops : Array Oper} {rest : List Oper} {o : Oper} {a : Act} {Q : Exit → Act → World → Prop} (w : World) (hgd : o.guard = none) (s x : Operand)
    (ho : o.op = .call { callee := .builtin .append, args := #[s, x], argTypes := #[42, 42] })
    (base : Nat) (v : Value) (n : Nat) (xs : List Int) (hs : a.eval s = v) (hown : w.ownsRow base 5 1 v n (bytes1 xs))
    (ad : Addr) (m c : Nat) (ys : List Int) (hx : a.eval x = .slice (some ad) m c) (hl : ys.length = m) (hcells : ∀ j, j < m → w.cell? (ad.add j) = some (.int .u8 (ys[j]?.getD 0)))
    (hlim : n + m ≤ 140737488355328) (hbase : base ≤ w.heap.size)
    (h : ∀ a' cap' w', w'.ownsRow base 5 1 (.slice a' (n + m) cap') (n + m) (bytes1 (xs ++ ys)) → w.grownBy w' v.ownBlock → wpList Tryd.prog ops Q rest (a.put o.dst (.slice a' (n + m) cap')) w') :
    wpList Tryd.prog ops Q (o :: rest) a w := by
  obtain ⟨i0, hi, hz0, hz1, hz2⟩ := info_parts infoU8
  refine wpList_append_own w hgd s x 42 ho base 5 i0 (.int .u8 0) 1 1 Tryd.underlying42 hi hz0 hz1 hz2 rfl (by decide) v n (bytes1 xs) hs hown ad m c (bytes1 ys) hx (by rw [bytes1_length, hl]; omega) ?_ ?_ (by unfold maxLen; omega) (by omega) hbase ?_
  · intro j u hu
    have hj : j < (bytes1 ys).length := by
      rcases Nat.lt_or_ge j (bytes1 ys).length with h | h
      · exact h
      · rw [List.getElem?_eq_none h] at hu; cases hu
    rw [bytes1_length] at hj
    rw [bytes1_get _ _ hj] at hu
    cases hu
    exact hcells j (by omega)
  · intro u hu
    simp [bytes1] at hu
    obtain ⟨z, _, rfl⟩ := hu
    rfl
  · intro v' w' hown' hgrow _
    obtain ⟨a', cap', rfl⟩ := own_form hown'
    refine h a' cap' w' ?_ hgrow
    rw [bytes1_append]
    exact hown'
/-- string(b) of a row of bytes that is owned. -/
theorem conv_own {W : World} {base : Nat} {a : Option Addr} {n cap : Nat} {zs : List Int} (h : W.ownsRow base 5 1 (.slice a n cap) n (bytes1 zs)) :
    (convert 42 9 (.slice a n cap)).run Tryd.prog W = .ok (.string (strOfNums zs)) W := by
  have hn : zs.length = n := by have := h.1; rw [bytes1_length] at this; omega
  rcases h.2 with ⟨hv, h0⟩ | ⟨g, cap', cur, hv, _⟩
  · simp only [Value.slice.injEq] at hv
    obtain ⟨rfl, rfl, rfl⟩ := hv
    obtain rfl := List.length_eq_zero_iff.1 hn
    exact run_convert_bytes_nil W 42 5 Tryd.underlying42 Tryd.underlying5 0 0 9 Tryd.underlying9
  · simp only [Value.slice.injEq, true_and] at hv
    obtain ⟨rfl, rfl⟩ := hv
    refine run_convert_bytes_arg W 42 5 Tryd.underlying42 Tryd.underlying5 g 0 n cap zs hn (fun i hi => ?_) 9 Tryd.underlying9
    rw [Nat.zero_add, h.cellAt i (by omega), bytes1_get _ _ (by omega)]
    simp [List.getD]
#print axioms conv_own
end Go.Proofs.YtdgdoiigcdlpaaaDoor

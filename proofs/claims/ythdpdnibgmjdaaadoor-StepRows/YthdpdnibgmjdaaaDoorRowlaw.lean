/- Whole structs loaded and stored by one law each, whatever the number of their cells, where the operation stands in a list and where it stands in a region that draws. -/
import Derived.Test.YthdpdnibgmjdaaaDoorRes
import Derived.Test.YthdpdnibgmjdaaaDoorSbox
import Derived.Laws.Tables
import Derived.Deep.MidRow
import Derived.BigFrame
namespace Go.Proofs.YthdpdnibgmjdaaaDoor
open Go.RowKit

section
variable {P : Program} {ops : Array Oper} {rest : List Oper} {a : Act} {w : World} {Q : Exit → Act → World → Prop} {d : Option Nat} {τ : TypeId} {p : String} {af : Array Edge} {gd : Option (Nat × Bool)}

theorem list_load (ty : TypeId) (x : Operand) (g : Nat) (t : TypeId) (cs : Array Value) (fr : Nat × Nat) (e : TypeDesc)
    (hw : Region.wanted { dst := d, op := .load ty x, type := τ, pos := p, after := af, guard := gd } (yielded ops a.tmps) = true)
    (hx : a.eval x = .pointer (some ⟨g, 0, none⟩)) (hg : w.heap[g]? = some (.cells cs t fr))
    (hu : P.underlying ty = some e) (hd : (match e with | .struct _ | .array _ _ => true | _ => false) = true) (hi : (P.info? ty).map (·.size) = some cs.size)
    (h : wpList P ops Q rest (a.put d (.agg cs)) w) : wpList P ops Q ({ dst := d, op := .load ty x, type := τ, pos := p, after := af, guard := gd } :: rest) a w :=
  wpList_step fun _ hK => by rw [if_pos hw]; exact wp_load_row ty x rfl g hx t cs fr e hg hu hd hi (hK _ _ h)

theorem row_facts {W : World} {g t : Nat} {old : Array Value} (cs : Array Value) (hg : W.heap[g]? = some (.cells old t (0, 0))) :
    (W.setRow g cs).heap[g]? = some (.cells cs t (0, 0)) ∧ (∀ c, c ≠ g → (W.setRow g cs).heap[c]? = W.heap[c]?) ∧ W.grownBy (W.setRow g cs) (some g) := by
  refine ⟨setRow_heap W g old cs t (0, 0) hg, fun c hc => ?_, rfl, rfl, rfl, ?_, fun k _ hk => ?_⟩
  · simp only [World.setRow, Array.getElem?_modify]
    rw [if_neg (fun e => hc e.symm)]
  · simp [World.setRow]
  · simp only [World.setRow, Array.getElem?_modify]
    rw [if_neg (fun e => hk (by rw [e]))]

theorem list_store (ty : TypeId) (x y : Operand) (g : Nat) (cells : Array Value) (t : TypeId) (old : Array Value)
    (hx : a.eval x = .pointer (some ⟨g, 0, none⟩)) (hy : a.eval y = .agg cells) (hgh : w.heap[g]? = some (.cells old t (0, 0)))
    (hi : (P.info? ty).map (·.size) = some cells.size) (hold : old.size = cells.size) (h1 : cells.all (·.oneCell') = true)
    (h : ∀ w', w'.heap[g]? = some (.cells cells t (0, 0)) → (∀ c, c ≠ g → w'.heap[c]? = w.heap[c]?) → w.grownBy w' (some g) → wpList P ops Q rest (a.put d undef) w') :
    wpList P ops Q ({ dst := d, op := .store ty x y, type := τ, pos := p, after := af, guard := none } :: rest) a w :=
  wpList_plain rfl fun _ hK => wp_store_row ty x y rfl g cells hx hy t old hgh hi hold h1 (hK _ _ (h _ (row_facts cells hgh).1 (row_facts cells hgh).2.1 (row_facts cells hgh).2.2))

theorem step_store {K : Act → World → Prop} {E : Prop} (ty : TypeId) (x y : Operand) (g : Nat) (cells : Array Value) (t : TypeId) (old : Array Value)
    (hx : a.eval x = .pointer (some ⟨g, 0, none⟩)) (hy : a.eval y = .agg cells) (hgh : w.heap[g]? = some (.cells old t (0, 0)))
    (hi : (P.info? ty).map (·.size) = some cells.size) (hold : old.size = cells.size) (h1 : cells.all (·.oneCell') = true)
    (h : ∀ w', w'.heap[g]? = some (.cells cells t (0, 0)) → (∀ c, c ≠ g → w'.heap[c]? = w.heap[c]?) → w.grownBy w' (some g) → K (a.put d undef) w') :
    if Region.wanted { dst := d, op := .store ty x y, type := τ, pos := p, after := af, guard := none } (yielded ops a.tmps) = true then Oper.wp P { dst := d, op := .store ty x y, type := τ, pos := p, after := af, guard := none } a w K Q else E := by
  rw [if_pos (by simp [Region.wanted])]
  exact wp_store_row ty x y rfl g cells hx hy t old hgh hi hold h1 (h _ (row_facts cells hgh).1 (row_facts cells hgh).2.1 (row_facts cells hgh).2.2)

theorem take_put {md : Region.Mode} {S : World → Prop} {i : Nat} {oi : Oper} {v : Value} {fuel : Nat} {listed : Array Bool} (k : Nat) (hi : ops[i]? = some oi) (hd : oi.dst = some k)
    (hs : Region.noSelect ops = true) (hf : Region.free md ops listed i = true) (hr : (Region.ready md ops listed).contains i = true)
    (hQ : ∀ c a w, Q (.panic c) (a.put oi.dst v) w → Q (.panic c) a w) (hy : YieldsIf P ops S oi v a) (hS : S w)
    (h : wpAnyH P md ops Q S fuel (listed.setIfInBounds i true) (a.put (some k) v) w) : wpAnyH P md ops Q S (fuel + 1) listed a w :=
  wpAnyH_take hi hs hf hr hQ hy hS (by rw [hd]; exact h)
end

/-- The machine and the effect within the box of a step. -/
theorem SB.vm {W : World} {B : Nat} {v : VmS} {f : EfS} {inn outs : Int} {gv : Value} (h : SB W B v f inn outs gv) : W.rangeAt B 0 [.int .i64 v.pc, .int .i64 v.acc, .int .i64 (v.mem 0), .int .i64 (v.mem 1), .int .i64 (v.mem 2), .int .i64 (v.mem 3), .int .i64 (v.mem 4), .int .i64 (v.mem 5), .int .i64 (v.mem 6), .int .i64 (v.mem 7), .int .i64 (v.mem 8), .int .i64 (v.mem 9), .int .i64 (v.mem 10), .int .i64 (v.mem 11), .int .i64 (v.mem 12), .int .i64 (v.mem 13), .int .i64 (v.mem 14), .int .i64 (v.mem 15)] := fun j u hu => by
  rw [Nat.zero_add]
  have hj : j < 18 := (List.getElem?_eq_some_iff.1 hu).1
  have : j = 0 ∨ j = 1 ∨ j = 2 ∨ j = 3 ∨ j = 4 ∨ j = 5 ∨ j = 6 ∨ j = 7 ∨ j = 8 ∨ j = 9 ∨ j = 10 ∨ j = 11 ∨ j = 12 ∨ j = 13 ∨ j = 14 ∨ j = 15 ∨ j = 16 ∨ j = 17 := by omega
  rcases this with rfl | rfl | rfl | rfl | rfl | rfl | rfl | rfl | rfl | rfl | rfl | rfl | rfl | rfl | rfl | rfl | rfl | rfl
  all_goals exact h.cell _ _ hu
theorem SB.ef {W : World} {B : Nat} {v : VmS} {f : EfS} {inn outs : Int} {gv : Value} (h : SB W B v f inn outs gv) : W.rangeAt B 18 [.bool f.took, .int .i64 f.wr, .int .i64 f.gt, .int .i64 f.val, .bool f.fault] := World.rangeAt_of_block h 18 5
#print axioms SB.ef
end Go.Proofs.YthdpdnibgmjdaaaDoor

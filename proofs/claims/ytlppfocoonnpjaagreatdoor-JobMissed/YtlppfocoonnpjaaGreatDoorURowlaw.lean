/- Whole structs loaded and stored by one law each, whatever the number of their cells, where the operation stands in a list and where it stands in a region that draws. -/
import Derived.Test.YtlppfocoonnpjaaGreatDoorUData
import Derived.Laws.Rows
import Derived.Laws.Tables
import Derived.Deep.MidRow
import Derived.BigFrame
namespace Go.Proofs.YtlppfocoonnpjaaGreatDoor.U
open Go.RowKit

section
variable {P : Program} {ops : Array Oper} {rest : List Oper} {a : Act} {w : World} {Q : Exit → Act → World → Prop} {d : Option Nat} {τ : TypeId} {p : String} {af : Array Edge} {gd : Option (Nat × Bool)}

theorem list_load (ty : TypeId) (x : Operand) (g : Nat) (t : TypeId) (cs : Array Value) (fr : Nat × Nat) (e : TypeDesc)
    (hw : Region.wanted { dst := d, op := .load ty x, type := τ, pos := p, after := af, guard := gd } (yielded ops a.tmps) = true)
    (hx : a.eval x = .pointer (some ⟨g, 0, none⟩)) (hg : w.heap[g]? = some (.cells cs t fr))
    (hu : P.underlying ty = some e) (hd : (match e with | .struct _ | .array _ _ => true | _ => false) = true) (hi : (P.info? ty).map (·.size) = some cs.size)
    (h : wpList P ops Q rest (a.put d (.agg cs)) w) : wpList P ops Q ({ dst := d, op := .load ty x, type := τ, pos := p, after := af, guard := gd } :: rest) a w :=
  wpList_step fun _ hK => by rw [if_pos hw]; exact wp_load_row ty x rfl g hx t cs fr e hg hu hd hi (hK _ _ h)

theorem row_facts {W : World} {g t : Nat} {old : Array Value} (cs : Array Value) (hg : W.heap[g]? = some (.cells old t (0, 0))) :
    (W.setRow g cs).heap[g]? = some (.cells cs t (0, 0)) ∧ (∀ c, c ≠ g → (W.setRow g cs).heap[c]? = W.heap[c]?) ∧ W.grownBy (W.setRow g cs) (some g) := by
  refine ⟨setRow_heap W g old cs t (0, 0) hg, fun c hc => ?_, rfl, rfl, rfl, ?_, fun k _ hk => ?_⟩
  · simp only [World.setRow, Array.getElem?_modify]
    rw [if_neg (fun e => hc e.symm)]
  · simp [World.setRow]
  · simp only [World.setRow, Array.getElem?_modify]
    rw [if_neg (fun e => hk (by rw [e]))]

theorem list_store (ty : TypeId) (x y : Operand) (g : Nat) (cells : Array Value) (t : TypeId) (old : Array Value)
    (hx : a.eval x = .pointer (some ⟨g, 0, none⟩)) (hy : a.eval y = .agg cells) (hgh : w.heap[g]? = some (.cells old t (0, 0)))
    (hi : (P.info? ty).map (·.size) = some cells.size) (hold : old.size = cells.size) (h1 : cells.all (·.oneCell') = true)
    (h : ∀ w', w'.heap[g]? = some (.cells cells t (0, 0)) → (∀ c, c ≠ g → w'.heap[c]? = w.heap[c]?) → w.grownBy w' (some g) → wpList P ops Q rest (a.put d undef) w') :
    wpList P ops Q ({ dst := d, op := .store ty x y, type := τ, pos := p, after := af, guard := none } :: rest) a w :=
  wpList_plain rfl fun _ hK => wp_store_row ty x y rfl g cells hx hy t old hgh hi hold h1 (hK _ _ (h _ (row_facts cells hgh).1 (row_facts cells hgh).2.1 (row_facts cells hgh).2.2))

theorem step_store {K : Act → World → Prop} {E : Prop} (ty : TypeId) (x y : Operand) (g : Nat) (cells : Array Value) (t : TypeId) (old : Array Value)
    (hx : a.eval x = .pointer (some ⟨g, 0, none⟩)) (hy : a.eval y = .agg cells) (hgh : w.heap[g]? = some (.cells old t (0, 0)))
    (hi : (P.info? ty).map (·.size) = some cells.size) (hold : old.size = cells.size) (h1 : cells.all (·.oneCell') = true)
    (h : ∀ w', w'.heap[g]? = some (.cells cells t (0, 0)) → (∀ c, c ≠ g → w'.heap[c]? = w.heap[c]?) → w.grownBy w' (some g) → K (a.put d undef) w') :
    if Region.wanted { dst := d, op := .store ty x y, type := τ, pos := p, after := af, guard := none } (yielded ops a.tmps) = true then Oper.wp P { dst := d, op := .store ty x y, type := τ, pos := p, after := af, guard := none } a w K Q else E := by
  rw [if_pos (by simp [Region.wanted])]
  exact wp_store_row ty x y rfl g cells hx hy t old hgh hi hold h1 (h _ (row_facts cells hgh).1 (row_facts cells hgh).2.1 (row_facts cells hgh).2.2)

theorem take_put {md : Region.Mode} {S : World → Prop} {i : Nat} {oi : Oper} {v : Value} {fuel : Nat} {listed : Array Bool} (k : Nat) (hi : ops[i]? = some oi) (hd : oi.dst = some k)
    (hs : Region.noSelect ops = true) (hf : Region.free md ops listed i = true) (hr : (Region.ready md ops listed).contains i = true)
    (hQ : ∀ c a w, Q (.panic c) (a.put oi.dst v) w → Q (.panic c) a w) (hy : YieldsIf P ops S oi v a) (hS : S w)
    (h : wpAnyH P md ops Q S fuel (listed.setIfInBounds i true) (a.put (some k) v) w) : wpAnyH P md ops Q S (fuel + 1) listed a w :=
  wpAnyH_take hi hs hf hr hQ hy hS (by rw [hd]; exact h)
end

/-! Results that lie in variables of structs. -/
theorem results_row_tmp {P : Program} {fn : Func} {p u : Tmp} {ty : TypeId} (h : fn.results = #[.cell p ty, .tmp u]) (tmps : Array Value) (w : World) (g : Nat) (t : TypeId) (cs : Array Value) (fr : Nat × Nat) (d : TypeDesc)
    (hp : tmps.getD p undef = .pointer (some ⟨g, 0, none⟩)) (hg : w.heap[g]? = some (.cells cs t fr))
    (hu : P.underlying ty = some d) (hd : (match d with | .struct _ | .array _ _ => true | _ => false) = true) (hi : (P.info? ty).map (·.size) = some cs.size) :
    (results fn tmps).run P w = .ok (.tuple #[.agg cs, tmps.getD u undef]) w := by
  have hp' : tmps[p]?.getD undef = .pointer (some ⟨g, 0, none⟩) := by simpa using hp
  simp [results, h, hp', asAddr, run_loadVar_row w g t ty cs fr d hg hu hd hi]
theorem results_rtt {P : Program} {fn : Func} {p u u2 : Tmp} {ty : TypeId} (h : fn.results = #[.cell p ty, .tmp u, .tmp u2]) (tmps : Array Value) (w : World) (g : Nat) (t : TypeId) (cs : Array Value) (fr : Nat × Nat) (d : TypeDesc)
    (hp : tmps.getD p undef = .pointer (some ⟨g, 0, none⟩)) (hg : w.heap[g]? = some (.cells cs t fr))
    (hu : P.underlying ty = some d) (hd : (match d with | .struct _ | .array _ _ => true | _ => false) = true) (hi : (P.info? ty).map (·.size) = some cs.size) :
    (results fn tmps).run P w = .ok (.tuple #[.agg cs, tmps.getD u undef, tmps.getD u2 undef]) w := by
  have hp' : tmps[p]?.getD undef = .pointer (some ⟨g, 0, none⟩) := by simpa using hp
  simp [results, h, hp', asAddr, run_loadVar_row w g t ty cs fr d hg hu hd hi]
theorem sizeU : (Tryz.prog.info? 93).map (·.size) = some 2 := by kernel_rfl
theorem sizeT : (Tryz.prog.info? 73).map (·.size) = some 6 := by kernel_rfl
theorem sizeS : (Tryz.prog.info? 170).map (·.size) = some 8 := by kernel_rfl
theorem sizeP : (Tryz.prog.info? 172).map (·.size) = some 8 := by kernel_rfl
theorem sizeR : (Tryz.prog.info? 173).map (·.size) = some 8 := by kernel_rfl
#print axioms results_rtt
end Go.Proofs.YtlppfocoonnpjaaGreatDoor.U

/- append of any row, also an empty one without an address, onto a row that is owned. -/
import Derived.Test.YtlppfocoonnpjaaGreatDoorCell
import Derived.Test.YtlppfocoonnpjaaGreatDoorJCat
namespace Go.Proofs.YtlppfocoonnpjaaGreatDoor.L
open Go.RowKit
attribute [local go_sem] alloc_drewN setCell_drewN

section
variable {α : Type} {S : Shape α}
theorem run_app_gen {lo : Nat} (w : World) (t ty e : TypeId) (z : Value) (bytes : Nat) (ht : Tryz.prog.underlying t = some (.slice e)) (hinfo : (Tryz.prog.info? e).map (fun i => (i.zero, i.size, i.bytes)) = some (some z, S.k, bytes)) (hzs : z.cells.size = S.k)
    (base : Nat) (v : Value) (n : Nat) (xs ys : List α) (u : Value) (hown : w.ownsRow base e S.k v n (S.cells xs)) (hu : RowAt S lo w u ys) (hlim : (n + ys.length) * bytes ≤ 140737488355328) (h63 : n + ys.length ≤ 9223372036854775807) (hbase : base ≤ w.heap.size) :
    ∃ a' cap' w', (Builtin.append_ #[t, t] ty #[v, u]).run Tryz.prog w = .ok (.slice a' (n + ys.length) cap') w' ∧ w'.ownsRow base e S.k (.slice a' (n + ys.length) cap') (n + ys.length) (S.cells (xs ++ ys)) ∧ w.grownBy w' v.ownBlock := by
  obtain ⟨hl, a, cap, rfl, ha⟩ := hu
  cases a with
  | none =>
    have h0 : ys = [] := by
      rcases Nat.eq_zero_or_pos ys.length with e | e
      · exact List.length_eq_zero_iff.1 e
      · obtain ⟨g, o, h, _⟩ := ha e; cases h
    subst h0
    obtain ⟨b, c, rfl⟩ := own_form hown
    have hc : n ≤ c := by
      rcases hown.2 with ⟨h1, h2⟩ | ⟨g, cap', cur, h1, _, _, h4, _⟩
      · omega
      · simp only [Value.slice.injEq, true_and] at h1; omega
    exact ⟨b, c, w, J.run_append_nil2 w t ty e _ S.k bytes ht hinfo b n c cap hc, by simpa using hown, grownBy_refl _ _⟩
  | some ad =>
    obtain ⟨a', c', w', h1, h2, h3, -⟩ := J.run_append_row (S := S) w t ty e _ bytes ht hinfo hzs base v n xs hown ad ys.length cap ys rfl (fun i y hy j u hu => by
      obtain ⟨g', o, h, _, hc⟩ := ha (by have := (List.getElem?_eq_some_iff.1 hy).1; omega)
      cases h
      rw [Go.WideShapes.add_plain, ← Nat.add_assoc]
      exact hc i y hy j u hu) hlim h63 hbase
    exact ⟨a', c', w', h1, h2, h3⟩
theorem app_gen {lo : Nat} {ops : Array Oper} {rest : List Oper} {o : Oper} {a : Act} {Q : Exit → Act → World → Prop} (w : World) (hgd : o.guard = none) (s x : Operand) (t : TypeId)
    (ho : o.op = .call { callee := .builtin .append, args := #[s, x], argTypes := #[t, t] }) (e : TypeId) (z : Value) (bytes : Nat)
    (ht : Tryz.prog.underlying t = some (.slice e)) (hinfo : (Tryz.prog.info? e).map (fun i => (i.zero, i.size, i.bytes)) = some (some z, S.k, bytes)) (hzs : z.cells.size = S.k)
    (base : Nat) (v : Value) (n : Nat) (xs ys : List α) (u : Value) (hs : a.eval s = v) (hown : w.ownsRow base e S.k v n (S.cells xs)) (hx : a.eval x = u) (hu : RowAt S lo w u ys) (m : Nat) (hm : n + ys.length = m) (hlim : m * bytes ≤ 140737488355328) (h63 : m ≤ 9223372036854775807) (hbase : base ≤ w.heap.size)
    (h : ∀ a' cap' w', w'.ownsRow base e S.k (.slice a' m cap') m (S.cells (xs ++ ys)) → w.grownBy w' v.ownBlock → wpList Tryz.prog ops Q rest (a.put o.dst (.slice a' m cap')) w') : wpList Tryz.prog ops Q (o :: rest) a w :=
  wpList_plain hgd fun _ hK => by
    subst hm
    obtain ⟨a', cap', w', hr, h2, h3⟩ := run_app_gen (S := S) w t o.type e z bytes ht hinfo hzs base v n xs ys u hown hu hlim h63 hbase
    unfold Oper.wp execOp
    simp only [ho, resolve, invoke, builtin, Sem.run_bind, Sem.run_pure, Result.andThen_ok, List.map_toArray, List.map_cons, List.map_nil, hs, hx, hr]
    exact hK _ _ (h a' cap' w' h2 h3)
end
#print axioms app_gen
end Go.Proofs.YtlppfocoonnpjaaGreatDoor.L

/- Contracts for the laws' walks: the statements' own Num and job, and package ready's calls with what they answer as letters. -/
import Derived.Test.YtebiifcifcefoaaLendJ
namespace Go.Proofs.Ytebiifcifcefoaa
open Go.RowKit
attribute [local go_sem] alloc_drewN setCell_drewN

theorem num_to (e : Int) (w : World) :
    Calls Try.prog 16 #[.int .i64 e] w fun r w' => r = .returned (.int .i64 e) ∧ w = w' := by
  go_enter Try.func16, Try.ntmps16
  go_wp2
  go_ret
  exact ⟨rfl, rfl⟩

set_option maxRecDepth 100000 in
theorem mk_any (p r t d : Int) (hd : r + 9 = d) (h1 : -9223372036854775808 ≤ d) (h2 : d ≤ 9223372036854775807) (w : World) :
    Calls Try.prog 22 #[.int .i64 p, .int .i64 r, .int .i64 t] w fun e w' => e = .returned (jobVal ⟨t, 0, p, r, d, 5, 0⟩) ∧ w.grownBy w' none := by
  dsimp only [jobVal]
  go_enter Try.func22, Try.ntmps22
  go_upto_region 1 with (first | fail)
  have HR := hide (heap_alloc_new w (.cells #[.int .i64 0, .int .i64 0, .int .i64 0, .int .i64 0, .int .i64 0, .int .i64 0, .int .i64 0] 24))
  have HG := hide (World.grownBy_alloc w (.cells #[.int .i64 0, .int .i64 0, .int .i64 0, .int .i64 0, .int .i64 0, .int .i64 0, .int .i64 0] 24) none)
  generalize w.alloc (.cells #[.int .i64 0, .int .i64 0, .int .i64 0, .int .i64 0, .int .i64 0, .int .i64 0, .int .i64 0] 24) = w1 at *
  generalize hB : w.heap.size = B at *
  have HBW := hide hB
  clear hB
  go_wp2_with (first | ((with_reducible refine list_store 24 (.tmp 6) (.tmp 12) B #[.int .i64 t, .int .i64 0, .int .i64 p, .int .i64 r, .int .i64 d, .int .i64 5, .int .i64 0] 24 #[.int .i64 0, .int .i64 0, .int .i64 0, .int .i64 0, .int .i64 0, .int .i64 0, .int .i64 0] ?hx ?hy ?hg ?hi ?ho ?h1 ?_); (case hx => rfl); (case hy => rfl); (case hg => exact HR.out); (case hi => exact sizeJ); (case ho => rfl); (case h1 => simp [Value.oneCell']); intro w8 h1 e1 g1; have HRn := hide h1; have HGn := hide (grown_spoil HG.out (by rw [HBW.out]; exact Nat.le_refl _) g1); clear h1 e1 g1 HG HR) | fail)
  refine bodyPost_ret (results_row rfl _ _ B 24 #[.int .i64 t, .int .i64 0, .int .i64 p, .int .i64 r, .int .i64 d, .int .i64 5, .int .i64 0] (0, 0) _ rfl HRn.out Try.underlying24 rfl sizeJ) rfl ?_
  exact ⟨rfl, HGn.out⟩
theorem put_at {lo : Nat} {v : Value} {js zs : List JobV} {j : JobV} {E : Int} {N : Nat} (w : World) (hv : RowAt shJ lo w v js) (hE : putE js j = E) (hz : putV js j = zs) (hN : zs.length = N) :
    Calls Try.prog 9 #[v, jobVal j] w fun e w' => ∃ a' c', e = .returned (.tuple #[.slice a' N c', .int .i64 E]) ∧ Own w.heap.size w' (.slice a' N c') zs ∧ w.grownBy w' none := by
  subst hE hz hN
  refine (put_any v js j w w (grownBy_refl _ _) hv).mono ?_
  rintro e w' ⟨v', rfl, ho, hg⟩
  obtain ⟨a, c, rfl⟩ := ho.form
  exact ⟨a, c, rfl, ho, hg⟩
theorem first_at {lo : Nat} {v : Value} {js : List JobV} {x : JobV} {b : Bool} (w : World) (hv : RowAt shJ lo w v js) (hx : firstV js = x) (hb : firstB js = b) :
    Calls Try.prog 11 #[v] w fun e w' => e = .returned (.tuple #[jobVal x, .bool b]) ∧ w.grownBy w' none := by
  subst hx hb
  exact first_any v js w hv
theorem miss_at {lo : Nat} {v : Value} {js z1 z2 : List JobV} {now : Int} {N1 N2 : Nat} (w : World) (hv : RowAt shJ lo w v js) (h1 : leftV js now = z1) (h2 : lateV js now = z2) (hN1 : z1.length = N1) (hN2 : z2.length = N2) :
    Calls Try.prog 13 #[v, .int .i64 now] w fun e w' => ∃ a1 c1 a2 c2, e = .returned (.tuple #[.slice a1 N1 c1, .slice a2 N2 c2]) ∧ Own w.heap.size w' (.slice a1 N1 c1) z1 ∧ Own w.heap.size w' (.slice a2 N2 c2) z2 ∧ Far (.slice a1 N1 c1) (.slice a2 N2 c2) ∧ w.grownBy w' none := by
  subst h1 h2 hN1 hN2
  refine (miss_any v js now w hv).mono ?_
  rintro e w' ⟨v1, v2, rfl, h1, h2, hf, hg⟩
  obtain ⟨a1, c1, rfl⟩ := h1.form
  obtain ⟨a2, c2, rfl⟩ := h2.form
  exact ⟨a1, c1, a2, c2, rfl, h1, h2, hf, hg⟩
theorem may_at {lo : Nat} {v : Value} {js : List JobV} {b : Bool} (w : World) (hv : RowAt shJ lo w v js) (hb : rowMay js = b) :
    Calls Try.prog 18 #[v] w fun e w' => e = .returned (.bool b) ∧ w.grownBy w' none := by
  subst hb
  exact may_any v js w hv
theorem same_at {lo lo' : Nat} {u v : Value} {zs : List JobV} (w : World) (hu : RowAt shJ lo w u zs) (hv : RowAt shJ lo' w v zs) :
    Calls Try.prog 15 #[u, v] w fun e w' => e = .returned (.bool true) ∧ w.grownBy w' none :=
  (Jn.same_T u v zs w hu hv).mono fun e w' ⟨h, n, hw⟩ => ⟨h, by rw [hw]; exact grownBy_draws _ _ _⟩
/-- A literal of a row, as a block. -/
theorem blk_row {W : World} {b n : Nat} {xs : List JobV} {cs : Array Value} (h : W.heap[b]? = some (.cells cs 24 (0, 0))) (hc : cs = (shJ.cells xs).toArray) (hn : xs.length = n) (hl : xs.length ≤ 9223372036854775807) : RowAt shJ 0 W (.slice (some ⟨b, 0, none⟩) n n) xs := by
  subst hc hn
  refine ⟨hl, _, _, rfl, fun _ => ⟨b, 0, rfl, ⟨Nat.zero_le _, Nat.le_refl _⟩, fun i x hx j u hu => ?_⟩⟩
  have := shJ.cells_get xs i x hx j u hu
  rw [blk_cell h, Nat.zero_add]
  simpa using this
#print axioms blk_row
end Go.Proofs.Ytebiifcifcefoaa

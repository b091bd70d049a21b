/- What every program answers that is one: the statements' own awake, proved over the translation. -/
import Derived.Test.YtlppfocoonnpjaaGreatDoorLaw14
import Derived.Test.YtlppfocoonnpjaaGreatDoorQh
namespace Go.Proofs.YtlppfocoonnpjaaGreatDoor.L
open Go.RowKit
open Go.Proofs.YtlppfocoonnpjaaGreatDoor.J (JobV jobAt jobVal shJ blk_cell box_lt box_grown type_box type_own own_type own_mono row_cell)
open Go.Proofs.YtlppfocoonnpjaaGreatDoor.U (TurnsV)
attribute [local go_sem] alloc_drewN setCell_drewN

theorem _root_.Go.Proofs.YtlppfocoonnpjaaGreatDoor.RowAt.block {α : Type} {S : Shape α} {lo n c g g' : Nat} {w W : World} {xs : List α} (h : RowAt S lo w (.slice (some ⟨g, 0, none⟩) n c) xs) (hne : (some g : Option Nat) ≠ some g') (hg : w.grownBy W (some g')) : RowAt S lo W (.slice (some ⟨g, 0, none⟩) n c) xs := by
  obtain ⟨hl, a, cap, e, ha⟩ := h
  refine ⟨hl, a, cap, e, fun h0 => ?_⟩
  obtain ⟨g2, o, rfl, hlo, hc⟩ := ha h0
  simp only [Value.slice.injEq, Option.some.injEq, Addr.mk.injEq] at e
  obtain ⟨⟨rfl, -, -⟩, -, -⟩ := e
  refine ⟨g, o, rfl, hlo, fun i x hx j u hu => ?_⟩
  have h1 := hc i x hx j u hu
  exact (World.cell?_of_block (a := ⟨g, o + i * S.k + j, none⟩) (hg.block g (World.block_lt_of_cell? w _ h1) hne)).trans h1
theorem sizePt : (Tryz.prog.info? 25).map (·.size) = some 3 := by kernel_rfl
/-- The part of two tasks. -/
def tA : TaskV := ⟨0, 10, 8, 2, 2, 5⟩
def tB : TaskV := ⟨1, 6, 6, 3, 3, 1⟩
def twoP (l : Int) : PartV := ⟨l, [tA, tB], []⟩
def twoM (l : Int) (g : Nat) : PartM := ⟨l, some ⟨g, 0, none⟩, 2, 2, none, 0, 0⟩
set_option maxRecDepth 100000 in
set_option maxHeartbeats 16000000 in
theorem two_any (l : Int) (W : World) : Calls Tryz.prog 29 #[.int .i64 l] W fun e w' => ∃ g, e = .returned (.agg #[.int .i64 l, .slice (some ⟨g, 0, none⟩) 2 2, .slice none 0 0]) ∧ PartIs W.heap.size w' (twoM l g) (twoP l) ∧ W.grownBy w' none := by
  go_enter Tryz.func29, Tryz.ntmps29
  go_upto_region 1 with (first | fail)
  have HR := hide (heap_alloc_new W (.cells #[.int .i64 0, .slice none 0 0, .slice none 0 0] 25))
  have HG := hide (World.grownBy_alloc W (.cells #[.int .i64 0, .slice none 0 0, .slice none 0 0] 25) none)
  generalize W.alloc (.cells #[.int .i64 0, .slice none 0 0, .slice none 0 0] 25) = W1 at *
  generalize hB : W.heap.size = B at *
  have HB := hide hB
  clear hB
  have hg := World.grownBy_alloc W1 (.cells #[.int .i64 0, .int .i64 10, .int .i64 8, .int .i64 2, .int .i64 2, .int .i64 5, .int .i64 1, .int .i64 6, .int .i64 6, .int .i64 3, .int .i64 3, .int .i64 1] 73) none
  have HR1 := hide (box_grown HR.out hg (by simp))
  have HT := hide (show RowAt shT W.heap.size (W1.alloc (.cells #[.int .i64 0, .int .i64 10, .int .i64 8, .int .i64 2, .int .i64 2, .int .i64 5, .int .i64 1, .int .i64 6, .int .i64 6, .int .i64 3, .int .i64 3, .int .i64 1] 73)) (.slice (some ⟨W1.heap.size, 0, none⟩) 2 2) [tA, tB] from RowAt.mono (rowAt_lit (S := shT) W1 [tA, tB] 73 (by simp)) HG.out.size)
  have HG1 := hide (grownBy_trans HG.out hg)
  clear hg
  go_wp2_with (first | ((with_reducible refine J.list_store 25 (.tmp 2) (.tmp 7) B #[.int .i64 l, .slice (some ⟨W1.heap.size, 0, none⟩) 2 2, .slice none 0 0] 25 #[.int .i64 0, .slice none 0 0, .slice none 0 0] ?hx ?hy ?hg ?hi ?ho ?h1 ?_); (case hx => rfl); (case hy => rfl); (case hg => exact HR1.out); (case hi => exact sizePt); (case ho => rfl); (case h1 => simp [Value.oneCell']); intro w8 h1 e1 g1; have HRn := hide h1; have HGn := hide (grown_spoil HG1.out (by rw [HB.out]; exact Nat.le_refl _) g1); have HTn := hide (show RowAt shT W.heap.size w8 (.slice (some ⟨W1.heap.size, 0, none⟩) 2 2) [tA, tB] from HT.out.block (fun e => by have := box_lt HR.out; simp at e; omega) g1); clear h1 e1 g1) | fail)
  refine bodyPost_ret (J.results_row rfl _ _ B 25 #[.int .i64 l, .slice (some ⟨W1.heap.size, 0, none⟩) 2 2, .slice none 0 0] (0, 0) _ rfl HRn.out Tryz.underlying25 rfl sizePt) rfl ?_
  exact ⟨_, rfl, ⟨rfl, HTn.out, rowAt_nil _ _ _ _⟩, HGn.out⟩
/-! What awake's schedule goes through. -/
def awN : LocV := ⟨3, 1, [tA, tB], [⟨-1, []⟩, ⟨-1, []⟩], [0, 0], []⟩
def awA : LocV := ⟨3, 1, [tA, tB], [⟨-1, []⟩, ⟨-1, [3]⟩], [0, 0], []⟩
def awB : LocV := ⟨3, 1, [tA, tB], [⟨0, []⟩, ⟨0, []⟩], [1, 1], [⟨1, 0, 1, 0, 6, 3, 0⟩, ⟨0, 0, 5, 0, 8, 2, 0⟩]⟩
def awC : LocV := ⟨3, 1, [tA, tB], [⟨0, []⟩, ⟨0, []⟩], [1, 1], [⟨1, 0, 1, 0, 6, 3, 1⟩, ⟨0, 0, 5, 0, 8, 2, 0⟩]⟩
def awD : LocV := ⟨3, 1, [tA, tB], [⟨0, []⟩, ⟨0, [9]⟩], [1, 1], [⟨1, 0, 1, 0, 6, 3, 1⟩, ⟨0, 0, 5, 0, 8, 2, 0⟩]⟩
def awE : LocV := ⟨3, 1, [tA, tB], [⟨0, []⟩, ⟨0, [9]⟩], [1, 1], [⟨1, 0, 1, 0, 6, 3, 2⟩, ⟨0, 0, 5, 0, 8, 2, 0⟩]⟩
theorem aw_ok : newOk 3 (twoP 1) = true := by kernel_rfl
theorem aw_no : newOk 8 (twoP 1) = false := by kernel_rfl
theorem aw_new : newL 3 (twoP 1) = awN := by kernel_rfl
theorem aw1 : pickN awN 1 3 0 = 0 ∧ pickL awN 1 3 0 = awA ∧ pickV awN 1 3 0 = [] := ⟨by kernel_rfl, by kernel_rfl, by kernel_rfl⟩
theorem aw2 : beginN 0 = 0 ∧ beginL awA 0 = awB ∧ beginV awA 0 = [⟨1, 3, 0, 2⟩, ⟨1, 3, 1, 3⟩] := ⟨by kernel_rfl, by kernel_rfl, by kernel_rfl⟩
theorem aw3 : pickN awB 2 1 0 = 1400 ∧ pickL awB 2 1 0 = awB ∧ pickV awB 2 1 0 = [] := ⟨by kernel_rfl, by kernel_rfl, by kernel_rfl⟩
theorem aw4 : runO awB = false ∧ runD awB = false ∧ runK awB = false ∧ runN awB = 0 ∧ runL awB = awC ∧ runV awB = [] := ⟨by kernel_rfl, by kernel_rfl, by kernel_rfl, by kernel_rfl, by kernel_rfl, by kernel_rfl⟩
theorem aw5 : pickN awC 1 9 2 = 0 ∧ pickL awC 1 9 2 = awD ∧ pickV awC 1 9 2 = [⟨2, 3, 1, 4⟩] := ⟨by kernel_rfl, by kernel_rfl, by kernel_rfl⟩
theorem aw6 : runO awD = false ∧ runD awD = false ∧ runK awD = false ∧ runN awD = 0 ∧ runL awD = awE ∧ runV awD = [] := ⟨by kernel_rfl, by kernel_rfl, by kernel_rfl, by kernel_rfl, by kernel_rfl, by kernel_rfl⟩
#print axioms aw6
end Go.Proofs.YtlppfocoonnpjaaGreatDoor.L

/- Contracts of package pvm's table of methods and of do, proved over the translation. -/
import Derived.Test.YthdpdnibgmjdaaaDoorSbox2
import Derived.Test.YthdpdnibgmjdaaaDoorRes
import Derived.Laws.EntriesVeiled
namespace Go.Proofs.YthdpdnibgmjdaaaDoor
open Go.RowKit
attribute [local go_sem] alloc_drewN setCell_drewN

theorem sizeOps : (Tryd.prog.info? 63).map (·.size) = some 12 := by kernel_rfl
theorem World.heap_alloc_new (w : World) (o : Obj) : (w.alloc o).heap[w.heap.size]? = some o := by
  show (w.heap.push o)[w.heap.size]? = some o
  simp
abbrev opsV : Value := .agg #[.func (.func 41) #[] #[], .func (.func 42) #[] #[], .func (.func 43) #[] #[], .func (.func 44) #[] #[], .func (.func 45) #[] #[], .func (.func 46) #[] #[], .func (.func 47) #[] #[], .func (.func 48) #[] #[], .func (.func 49) #[] #[], .func (.func 50) #[] #[], .func (.func 51) #[] #[], .func (.func 52) #[] #[]]
set_option maxRecDepth 100000 in
set_option maxHeartbeats 2000000 in
theorem ops_any (w : World) : Calls Tryd.prog 34 #[] w fun e w' => e = .returned opsV ∧ w.grownBy w' none := by
  go_enter Tryd.func34, Tryd.ntmps34
  go_wp2
  refine bodyPost_ret (results_cell_row rfl _ _ w.heap.size 63 #[.func (.func 41) #[] #[], .func (.func 42) #[] #[], .func (.func 43) #[] #[], .func (.func 44) #[] #[], .func (.func 45) #[] #[], .func (.func 46) #[] #[], .func (.func 47) #[] #[], .func (.func 48) #[] #[], .func (.func 49) #[] #[], .func (.func 50) #[] #[], .func (.func 51) #[] #[], .func (.func 52) #[] #[]] (0, 0) _ rfl (World.heap_alloc_new _ _) Tryd.underlying63 rfl sizeOps) rfl ?_
  exact ⟨rfl, World.grownBy_alloc _ _ _⟩
theorem ops_at (j : Nat) (h : j < 12) (W : World) : (Instr.index 63 opsV (.int .i64 j)).run Tryd.prog W = .ok (.func (.func (41 + j)) #[] #[]) W := by
  have : j = 0 ∨ j = 1 ∨ j = 2 ∨ j = 3 ∨ j = 4 ∨ j = 5 ∨ j = 6 ∨ j = 7 ∨ j = 8 ∨ j = 9 ∨ j = 10 ∨ j = 11 := by omega
  clear h
  rcases this with rfl | rfl | rfl | rfl | rfl | rfl | rfl | rfl | rfl | rfl | rfl | rfl
  all_goals rfl

theorem call_m (op : Nat) (h : op < 12) (args : Array Value) (W : World) : (callFunc (41 + op) args).run Tryd.prog W = .ok (.enter (41 + op) args) W := by
  have : op = 0 ∨ op = 1 ∨ op = 2 ∨ op = 3 ∨ op = 4 ∨ op = 5 ∨ op = 6 ∨ op = 7 ∨ op = 8 ∨ op = 9 ∨ op = 10 ∨ op = 11 := by omega
  clear h
  rcases this with rfl | rfl | rfl | rfl | rfl | rfl | rfl | rfl | rfl | rfl | rfl | rfl
  · exact Tryd.call41 args W
  · exact Tryd.call42 args W
  · exact Tryd.call43 args W
  · exact Tryd.call44 args W
  · exact Tryd.call45 args W
  · exact Tryd.call46 args W
  · exact Tryd.call47 args W
  · exact Tryd.call48 args W
  · exact Tryd.call49 args W
  · exact Tryd.call50 args W
  · exact Tryd.call51 args W
  · exact Tryd.call52 args W

set_option maxRecDepth 100000 in
set_option maxHeartbeats 40000000 in
theorem do_any {lo : Nat} (B k op n : Nat) (acc : Int) (m : Nat → Int) (inn outs : Int) (gv pv : Value) (gs : List Int) (zs : List Ins) (w : World)
    (hk : k < zs.length) (hz : zs[k]? = some ((op : Int), (n : Int))) (hN : zs.length ≤ 64) (hA : Able op n ⟨((k + 1) % zs.length : Nat), acc, m⟩)
    (h : SB w B ⟨k, acc, m⟩ quietE inn outs gv) (hp : PReads w pv zs) (hv : ∀ W, w.grownBy W (some B) → RowAt shN lo W gv gs) :
    Calls Tryd.prog 23 #[.pointer (some ⟨B, 0, none⟩), pv] w fun e w' => e = .returned (.tuple #[]) ∧ SB w' B (doS op n ⟨((k + 1) % zs.length : Nat), acc, m⟩ inn outs gs).1 (doS op n ⟨((k + 1) % zs.length : Nat), acc, m⟩ inn outs gs).2 inn outs gv ∧ w.grownBy w' (some B) := by
  have hBl := box_lt h
  have c0 : w.cell? ⟨B, 0, none⟩ = some (.int .i64 k) := h.cell 0 _ rfl
  have t0 := h.free 0
  obtain ⟨pa, pcap, rfl, ha⟩ := hp
  obtain ⟨g, o, rfl, hc⟩ := ha (by omega)
  obtain ⟨p0, p1⟩ := hc k hk
  rw [hz] at p0 p1
  dsimp only [Option.getD_some] at p0 p1
  have hgl := World.block_lt_of_cell? w _ p0
  dsimp only at hgl
  have hop := hA.is
  have CM := hide (fun W (hg : w.grownBy W (some B)) (hs : SB W B ⟨((k + 1) % zs.length : Nat), acc, m⟩ quietE inn outs gv) => m_any op n B ⟨((k + 1) % zs.length : Nat), acc, m⟩ inn outs gv gs W hA hs (hv W hg))
  have CO := hide ops_any
  have hidx := ops_at op hop
  dsimp only [opsV] at hidx
  have hidx' := hide hidx
  have HS := hide h
  clear ha hc hA hv h hz
  have HM : (((k + 1) % zs.length : Nat) : Int) = ((k : Int) + 1).tmod (zs.length : Int) := by
    rw [Int.tmod_eq_emod_of_nonneg (by omega)]; simp
  have hML : (k + 1) % zs.length < 64 := by have := Nat.mod_lt (k + 1) (show 0 < zs.length by omega); omega
  generalize (k + 1) % zs.length = k' at *
  generalize (doS op n ⟨k', acc, m⟩ inn outs gs).1 = v1 at *
  generalize (doS op n ⟨k', acc, m⟩ inn outs gs).2 = f1 at *
  generalize zs.length = N at *
  have HM' := HM.symm
  clear HM
  have hgw : w.grownBy ((w.setCell ⟨B, 0, none⟩ (.int .i64 k')).alloc (.cells #[.int .i64 op, .int .i64 n] 43)) (some B) := grownBy_trans (grownBy_set _ _ _ _) (World.grownBy_alloc _ _ _)
  have hs1 : SB ((w.setCell ⟨B, 0, none⟩ (.int .i64 k')).alloc (.cells #[.int .i64 op, .int .i64 n] 43)) B ⟨k', acc, m⟩ quietE inn outs gv := SB.grown (HS.out.put _ _ rfl) (World.grownBy_alloc _ _ _)
  have hx0 : ((w.setCell ⟨B, 0, none⟩ (.int .i64 k')).alloc (.cells #[.int .i64 op, .int .i64 n] 43)).heap[w.heap.size]? = some (.cells #[.int .i64 op, .int .i64 n] 43 (0, 0)) := by
    have e : (w.setCell ⟨B, 0, none⟩ (.int .i64 k')).heap.size = w.heap.size := by simp [World.setCell]
    have := World.heap_alloc_new (w.setCell ⟨B, 0, none⟩ (.int .i64 k')) (.cells #[.int .i64 op, .int .i64 n] 43)
    rw [e] at this
    exact this
  have HGW := hide hgw
  have HS1 := hide hs1
  have HX0 := hide hx0
  clear hgw hs1 hx0
  go_enter Tryd.func23, Tryd.ntmps23
  go_upto_region 2 with fail
  generalize ((w.setCell ⟨B, 0, none⟩ (.int .i64 k')).alloc (.cells #[.int .i64 op, .int .i64 n] 43)) = w1 at *
  have KEEP := hide (fun W (hg : w1.grownBy W none) => (⟨(blk_cell (box_grown HX0.out hg (by simp)) 0), (blk_cell (box_grown HX0.out hg (by simp)) 1)⟩ : W.cell? ⟨w.heap.size, 0, none⟩ = some (.int .i64 op) ∧ W.cell? ⟨w.heap.size, 1, none⟩ = some (.int .i64 n)))
  have hcf : ∀ (args : Array Value) (W : World), (callFunc (41 + op) args).run Tryd.prog W = .ok (.enter (41 + op) args) W := call_m op hop
  generalize 41 + op = F at *
  clear c0 t0 p0 p1 hidx
  have hidx := hidx'.out
  obtain ⟨k0, k1⟩ := KEEP.out w1 (grownBy_refl _ _)
  go_region_with (first | (go_at_call 34; refine (CO.out _).mono ?_; rintro e w2 ⟨rfl, hg2⟩; obtain ⟨k2, k3⟩ := KEEP.out w2 (grownBy_trans (grownBy_draws _ _ _) hg2); have HG2 := hide (grownBy_trans (grownBy_draws w1 1 none) hg2); clear hg2) | (refine (CM.out _ (grownBy_trans HGW.out (grownBy_any HG2.out)) (HS1.out.grown HG2.out)).mono ?_; rintro e w3 ⟨rfl, hs3, hg3⟩; have HS3 := hide hs3; have HG3 := hide (grownBy_trans (grownBy_trans HGW.out (grownBy_any HG2.out)) hg3); clear hs3 hg3))
  all_goals go_wp2
  all_goals go_end0
  all_goals exact ⟨rfl, HS3.out, HG3.out⟩
#print axioms do_any
end Go.Proofs.YthdpdnibgmjdaaaDoor

/- Contracts of the statements' own CopyInstrs, LendInstrs and KeptInstrs, proved over the translation: a program in a place with two marked instructions behind it. -/
import Derived.Test.YtdgdoiigcdlpaaaDoorAwake
namespace Go.Proofs.YtdgdoiigcdlpaaaDoor
open Go.RowKit
attribute [local go_sem] alloc_drewN setCell_drewN

set_option maxRecDepth 100000 in
set_option maxHeartbeats 1000000 in
theorem copy_some (ad : Addr) (n cap : Nat) (zs : List Ins) (hn : zs.length = n) (hz : n ≤ 8796093021952) (w : World) (hc : ∀ i, i < n → w.cell? (ad.add (i * 2)) = some (.int .i64 (zs[i]?.getD (0, 0)).1) ∧ w.cell? (ad.add (i * 2 + 1)) = some (.int .i64 (zs[i]?.getD (0, 0)).2)) :
    Calls Tryd.prog 18 #[.slice (some ad) n cap] w fun e w' => ∃ a' cap', e = .returned (.slice a' n cap') ∧ w'.ownsRow w.heap.size 39 2 (.slice a' n cap') n (cells2 zs) ∧ w.grownBy w' none := by
  have HC := hide hc
  clear hc
  go_enter Tryd.func18, Tryd.ntmps18
  go_wp2_with (at_builtin; refine app_ins _ rfl _ _ rfl w.heap.size _ 0 [] rfl ?c0 ad n cap zs rfl hn ?c1 ?c2 ?c3 ?_)
  case c0 => exact World.ownsRow_lit w #[] 0 (Nat.le_refl _) (by unfold maxLen; omega) rfl
  case c1 =>
    intro i hi
    have hc := HC.out i hi
    have gg := World.grownBy_alloc w (.cells #[] 39) none
    exact ⟨(World.cell?_of_block (a := ad.add (i * 2)) (gg.block _ (World.block_lt_of_cell? w (ad.add (i * 2)) hc.1) (by simp))).trans hc.1, (World.cell?_of_block (a := ad.add (i * 2 + 1)) (gg.block _ (World.block_lt_of_cell? w (ad.add (i * 2 + 1)) hc.2) (by simp))).trans hc.2⟩
  case c2 => omega
  case c3 => simp
  intro a2 cap2 w2 hown2 hgrow2
  have HO := hide hown2
  have HG := hide (grown_append (m := 0) (grownBy_refl w none) (v := .slice (some ⟨w.heap.size, 0, none⟩) 0 0) (fun g hg => by simp [Value.ownBlock] at hg; omega) hgrow2)
  clear hown2 hgrow2
  go_wp2
  go_ret
  exact ⟨_, _, rfl, by simpa using HO.out, HG.out⟩
set_option maxRecDepth 100000 in
set_option maxHeartbeats 1000000 in
theorem copy_none (cap : Nat) (w : World) :
    Calls Tryd.prog 18 #[.slice none 0 cap] w fun e w' => ∃ a' cap', e = .returned (.slice a' 0 cap') ∧ w'.ownsRow w.heap.size 39 2 (.slice a' 0 cap') 0 (cells2 []) ∧ w.grownBy w' none := by
  go_enter Tryd.func18, Tryd.ntmps18
  go_wp2
  go_ret
  exact ⟨_, _, rfl, World.ownsRow_lit w #[] 0 (Nat.le_refl _) (by unfold maxLen; omega) rfl, World.grownBy_alloc _ _ _⟩
theorem copy_any (v : Value) (zs : List Ins) (hz : zs.length ≤ 8796093021952) (w : World) (hv : PReads w v zs) :
    Calls Tryd.prog 18 #[v] w fun e w' => ∃ a' cap', e = .returned (.slice a' zs.length cap') ∧ w'.ownsRow w.heap.size 39 2 (.slice a' zs.length cap') zs.length (cells2 zs) ∧ w.grownBy w' none := by
  obtain ⟨a, cap, rfl, ha⟩ := hv
  cases a with
  | none =>
    have h0 : zs.length = 0 := by
      rcases Nat.eq_zero_or_pos zs.length with e | e
      · exact e
      · obtain ⟨g, o, h, _⟩ := ha e; cases h
    obtain rfl := List.length_eq_zero_iff.1 h0
    exact copy_none cap w
  | some ad =>
    refine copy_some ad _ cap zs rfl hz w (fun i hi => ?_)
    obtain ⟨g, o, h, hc⟩ := ha (by omega)
    cases h
    rw [Go.WideShapes.add_plain, Go.WideShapes.add_plain]
    exact hc i hi

/-- The marked room. -/
def mark : List Ins := [(77777, 0), (77777, 0)]
set_option maxRecDepth 100000 in
set_option maxHeartbeats 1000000 in
theorem lend_any (v : Value) (zs : List Ins) (hz : zs.length ≤ 8796093021952) (w : World) (hv : PReads w v zs) :
    Calls Tryd.prog 7 #[v] w fun e w' => ∃ g cap', e = .returned (.slice (some ⟨g, 0, none⟩) zs.length cap') ∧ zs.length + 2 ≤ cap' ∧ cap' ≤ 9223372036854775807 ∧ PReads w' (.slice (some ⟨g, 0, none⟩) (zs.length + 2) cap') (zs ++ mark) ∧ w.grownBy w' none := by
  have C := hide (copy_any v zs hz w hv)
  obtain ⟨a, cap, rfl, -⟩ := hv
  generalize hN : zs.length = n at *
  have HN := hide hN
  clear hN
  go_enter Tryd.func7, Tryd.ntmps7
  go_wp2_with (first | fail)
  refine C.out.mono ?_; rintro e w1 ⟨a', cap', rfl, ho, hg⟩
  have HO := hide ho
  have HG := hide hg
  clear ho hg
  go_wp2_with (at_builtin; refine app_ins _ rfl _ _ rfl w.heap.size (.slice a' n cap') n zs rfl ?c0 ⟨w1.heap.size, 0, none⟩ 2 2 mark rfl rfl ?c1 ?c2 ?c3 ?_)
  case c0 => exact HO.out.alloc _
  case c1 =>
    intro i hi
    match i, hi with
    | 0, _ => simp [Addr.add, mark]
    | 1, _ => simp [Addr.add, mark]
  case c2 => omega
  case c3 => have := HG.out.size; simp; omega
  intro a2 cap2 w2 hown2 hgrow2
  obtain ⟨g, rfl, hg1, hg2, hg3⟩ := own_cap hown2 (by omega)
  have hlen : (zs ++ mark).length = n + 2 := by simp [HN.out, mark]
  have hR : PReads w2 (.slice (some ⟨g, 0, none⟩) (n + 2) cap2) (zs ++ mark) := by
    have h2 := hown2
    rw [← hlen] at h2 ⊢
    exact preads_own h2
  have HR := hide hR
  have HG2 := hide (grown_append (m := 0) HG.out (fun g hg => (HO.out.lt g hg).1) hgrow2)
  clear hown2 hgrow2 hg1 hlen hR
  go_wp2
  go_ret
  exact ⟨g, cap2, rfl, hg2, hg3, HR.out, HG2.out⟩
#print axioms lend_any

/-- What was lent, without its room. -/
theorem lent_reads {W : World} {g cap : Nat} {zs : List Ins} (h : PReads W (.slice (some ⟨g, 0, none⟩) (zs.length + 2) cap) (zs ++ mark)) : PReads W (.slice (some ⟨g, 0, none⟩) zs.length cap) zs := by
  obtain ⟨a1, cap1, e1, h1⟩ := h
  simp only [Value.slice.injEq] at e1
  obtain ⟨rfl, -, rfl⟩ := e1
  obtain ⟨g', o', e2, hcell⟩ := h1 (by simp [mark])
  cases e2
  refine ⟨_, cap, rfl, fun _ => ⟨g, 0, rfl, fun i hi => ?_⟩⟩
  have := hcell i (by simp; omega)
  rwa [List.getElem?_append_left hi] at this

set_option maxRecDepth 100000 in
set_option maxHeartbeats 1000000 in
theorem kept_any (g cap : Nat) (v : Value) (zs : List Ins) (hz : zs.length ≤ 8796093021952) (hc : zs.length + 2 ≤ cap) (w : World) (hl : PReads w (.slice (some ⟨g, 0, none⟩) (zs.length + 2) cap) (zs ++ mark)) (hv : PReads w v zs) :
    Calls Tryd.prog 16 #[.slice (some ⟨g, 0, none⟩) zs.length cap, v] w fun e w' => e = .returned (.bool true) ∧ ∃ n, w' = w.drewN n := by
  have hl2 := lent_reads hl
  obtain ⟨a1, cap1, e1, h1⟩ := hl
  simp only [Value.slice.injEq] at e1
  obtain ⟨rfl, -, rfl⟩ := e1
  obtain ⟨g', o', e2, hcell⟩ := h1 (by simp [mark])
  cases e2
  have c1 := hcell zs.length (by simp [mark])
  have c2 := hcell (zs.length + 1) (by simp [mark])
  simp [mark] at c1 c2
  obtain ⟨c11, c12⟩ := c1
  obtain ⟨c21, c22⟩ := c2
  have C := hide (same_any _ v zs (by omega) w hl2 hv)
  obtain ⟨a, cap2, rfl, -⟩ := hv
  clear hcell h1 hl2
  generalize hN : zs.length = n at *
  clear hN
  go_enter Tryd.func16, Tryd.ntmps16
  go_wp2_with (go_at_call 13; refine C.out.mono ?_; rintro e w' ⟨rfl, n1, rfl⟩)
  go_ret
  exact ⟨rfl, _, rfl⟩
#print axioms kept_any
end Go.Proofs.YtdgdoiigcdlpaaaDoor

/- Contracts of package task's kinds: copied, kindOf, waits, late, comes, kept, release, proved over the translation. -/
import Derived.Test.YtlppfocoonnpjaaGreatDoorUOwn
import Derived.Lib.MinMax
namespace Go.Proofs.YtlppfocoonnpjaaGreatDoor.U
open Go.RowKit
attribute [local go_sem] alloc_drewN setCell_drewN

theorem infoN : (Tryz.prog.info? 3).map (fun i => (i.zero, i.size, i.bytes)) = some (some (.int .i64 0), 1, 8) := by kernel_rfl

set_option maxRecDepth 100000 in
set_option maxHeartbeats 1000000 in
theorem copied_any {lo : Nat} (v : Value) (zs : List Int) (hz : zs.length ≤ 17592186043904) (w : World) (hv : RowAt shN lo w v zs) :
    Calls Tryz.prog 88 #[v] w fun e w' => ∃ v', e = .returned v' ∧ Own w.heap.size w' v' zs ∧ w.grownBy w' none := by
  obtain ⟨-, a, cap, rfl, ha⟩ := hv
  cases a with
  | none =>
    have h0 : zs.length = 0 := by
      rcases Nat.eq_zero_or_pos zs.length with e | e
      · exact e
      · obtain ⟨g, o, h, _⟩ := ha e; cases h
    obtain rfl := List.length_eq_zero_iff.1 h0
    clear ha h0 hz
    go_enter Tryz.func88, Tryz.ntmps88
    go_wp2
    go_ret
    exact ⟨_, rfl, own_nil _ _, grownBy_refl _ _⟩
  | some ad =>
    have hc : ∀ i y, zs[i]? = some y → ∀ j u, (shN.f y)[j]? = some u → w.cell? (ad.add (i * shN.k + j)) = some u := fun i y hy j u hu => by
      obtain ⟨g, o, h, -, hc⟩ := ha (by have := (List.getElem?_eq_some_iff.1 hy).1; omega)
      cases h
      rw [Go.WideShapes.add_plain, ← Nat.add_assoc]
      exact hc i y hy j u hu
    have HC := hide hc
    have HO : Hid (∀ v' W, W.ownsRow w.heap.size 3 shN.k v' zs.length (shN.cells zs) → Own w.heap.size W v' zs) := hide (fun v' W h => h)
    clear ha hc
    generalize hN : zs.length = n at *
    have HN := hide hN
    clear hN
    go_enter Tryz.func88, Tryz.ntmps88
    go_wp2_with (at_builtin; refine app_row (S := shN) _ rfl _ _ 61 3 (.int .i64 0) 8 Tryz.underlying61 infoN rfl rfl w.heap.size (.slice none 0 0) 0 [] rfl ?c0 ad n cap zs rfl HN.out ?c1 ?c2 ?c3 ?c4 ?_)
    case c0 => exact World.ownsRow_nil w _ _ _
    case c1 => exact HC.out
    case c2 => omega
    case c3 => omega
    case c4 => exact Nat.le_refl _
    intro a2 cap2 w2 hown2 hgrow2 _
    have HO2 := hide (HO.out _ _ (by simpa using hown2))
    have HG := hide hgrow2
    clear hown2 hgrow2 HO
    go_wp2
    go_ret
    exact ⟨_, by first | rfl | simp, by simpa using HO2.out, HG.out⟩

/-- A kind's cells. -/
abbrev kindC (t : TaskV) (L : Int) (v : Value) : Array Value := #[.int .i64 t.kind, .int .i64 t.period, .int .i64 t.deadline, .int .i64 t.clow, .int .i64 t.chigh, .int .i64 t.prio, .int .i64 L, v]
/-- A kind as an interface's value. -/
def kindV (t : TaskV) (L : Int) (v : Value) : Value := if t.kind = 1 then .iface 172 (.agg (kindC t L v)) else .iface 173 (.agg (kindC t L v))

set_option maxRecDepth 100000 in
set_option maxHeartbeats 1000000 in
theorem kindOf_any (t : TaskV) (L : Int) (a : Option Addr) (n cap : Nat) (w : World) :
    Calls Tryz.prog 90 #[taskVal t, .agg #[.int .i64 L, .slice a n cap]] w fun e w' => e = .returned (kindV t L (.slice a n cap)) ∧ w.grownBy w' none := by
  unfold kindV
  obtain ⟨x0, x1, x2, x3, x4, x5⟩ := t
  dsimp only [kindC]
  by_cases h1 : x0 = 1
  · subst h1
    rw [if_pos rfl]
    go_enter Tryz.func90, Tryz.ntmps90
    go_wp2
    go_ret
    exact ⟨rfl, grownBy_trans (grownBy_trans (World.grownBy_alloc _ _ _) (World.grownBy_alloc _ _ _)) (World.grownBy_alloc _ _ _)⟩
  · rw [if_neg h1]
    go_enter Tryz.func90, Tryz.ntmps90
    go_wp2
    go_ret
    exact ⟨rfl, grownBy_trans (grownBy_trans (World.grownBy_alloc _ _ _) (World.grownBy_alloc _ _ _)) (World.grownBy_alloc _ _ _)⟩

set_option maxRecDepth 100000 in
set_option maxHeartbeats 1000000 in
theorem waits_any (t : TaskV) (L : Int) (a : Option Addr) (n cap : Nat) (w : World) :
    Calls Tryz.prog 159 #[.agg (kindC t L (.slice a n cap))] w fun e w' => e = .returned (.bool (decide (0 < n))) ∧ w.grownBy w' none := by
  obtain ⟨x0, x1, x2, x3, x4, x5⟩ := t
  dsimp only [kindC]
  go_enter Tryz.func159, Tryz.ntmps159
  go_wp2
  go_ret
  exact ⟨by first | rfl | simp, World.grownBy_alloc _ _ _⟩
set_option maxRecDepth 100000 in
set_option maxHeartbeats 1000000 in
theorem slate_any (t : TaskV) (L : Int) (a : Option Addr) (n cap : Nat) (now : Int) (w : World) :
    Calls Tryz.prog 157 #[.agg (kindC t L (.slice a n cap)), .int .i64 now] w fun e w' => e = .returned (.bool false) ∧ w.grownBy w' none := by
  obtain ⟨x0, x1, x2, x3, x4, x5⟩ := t
  dsimp only [kindC]
  go_enter Tryz.func157, Tryz.ntmps157
  go_wp2
  go_ret
  exact ⟨rfl, World.grownBy_alloc _ _ _⟩
set_option maxRecDepth 100000 in
set_option maxHeartbeats 1000000 in
theorem rcomes_any (t : TaskV) (L : Int) (a : Option Addr) (n cap : Nat) (now : Int) (w : World) (hp : 1 ≤ t.period) (h0 : 0 ≤ now) :
    Calls Tryz.prog 162 #[.agg (kindC t L (.slice a n cap)), .int .i64 now] w fun e w' => e = .returned (.bool (decide (now % t.period = 0))) ∧ w.grownBy w' none := by
  obtain ⟨x0, x1, x2, x3, x4, x5⟩ := t
  dsimp only [kindC] at *
  go_enter Tryz.func162, Tryz.ntmps162
  go_wp2
  go_ret
  exact ⟨by first | rfl | simp, World.grownBy_alloc _ _ _⟩
set_option maxRecDepth 100000 in
set_option maxHeartbeats 1000000 in
theorem plate_any (t : TaskV) (L : Int) (a : Option Addr) (n cap : Nat) (zs : List Int) (hn : zs.length = n) (now : Int) (w : World) (hL : -1 ≤ L) (hL2 : L ≤ 1099511627776) (h0 : 0 ≤ now) (h1 : now ≤ 1099511627776) :
    Calls Tryz.prog 161 #[.agg (kindC t L (.slice a n cap)), .int .i64 now] w fun e w' => e = .returned (.bool (waitsB t ⟨L, zs⟩ now)) ∧ w.grownBy w' none := by
  have C := hide (waits_any t L a n cap)
  unfold waitsB
  dsimp only
  rw [hn]
  clear hn
  obtain ⟨x0, x1, x2, x3, x4, x5⟩ := t
  dsimp only [kindC] at *
  generalize hb : decide (0 < n) = b at *
  clear hb
  cases b with
  | false =>
    rw [Bool.false_and]
    go_enter Tryz.func161, Tryz.ntmps161
    go_wp2_with (first | fail)
    refine (C.out _).mono ?_; rintro e w1 ⟨rfl, hg⟩
    have HG := hide (grownBy_trans (World.grownBy_alloc _ _ _) hg)
    clear hg
    go_wp2
    go_ret
    exact ⟨rfl, HG.out⟩
  | true =>
    rw [Bool.true_and]
    by_cases hm : L = -1
    · subst hm
      rw [decide_eq_true rfl, Bool.not_true, Bool.false_and]
      go_enter Tryz.func161, Tryz.ntmps161
      go_wp2_with (first | fail)
      refine (C.out _).mono ?_; rintro e w1 ⟨rfl, hg⟩
      have hc := box_grown (heap_alloc_new w _) hg (by simp)
      have HG := hide (grownBy_trans (World.grownBy_alloc _ _ _) hg)
      have c6 : w1.cell? ⟨w.heap.size, 6, none⟩ = some (.int .i64 (-1)) := blk_cell hc 6
      clear hg hc
      go_wp2
      go_ret
      exact ⟨rfl, HG.out⟩
    · rw [decide_eq_false hm, Bool.not_false, Bool.true_and]
      go_enter Tryz.func161, Tryz.ntmps161
      go_wp2_with (first | fail)
      refine (C.out _).mono ?_; rintro e w1 ⟨rfl, hg⟩
      have hc := box_grown (heap_alloc_new w _) hg (by simp)
      have HG := hide (grownBy_trans (World.grownBy_alloc _ _ _) hg)
      have c6 : w1.cell? ⟨w.heap.size, 6, none⟩ = some (.int .i64 L) := blk_cell hc 6
      have c1 : w1.cell? ⟨w.heap.size, 1, none⟩ = some (.int .i64 x1) := blk_cell hc 1
      clear hg hc
      go_wp2
      go_ret
      exact ⟨by simp [hm], HG.out⟩
set_option maxRecDepth 100000 in
set_option maxHeartbeats 1000000 in
theorem pcomes_any (t : TaskV) (L : Int) (a : Option Addr) (n cap : Nat) (zs : List Int) (hn : zs.length = n) (now : Int) (w : World) (hL : -1 ≤ L) (hL2 : L ≤ 1099511627776) (h0 : 0 ≤ now) (h1 : now ≤ 1099511627776) :
    Calls Tryz.prog 160 #[.agg (kindC t L (.slice a n cap)), .int .i64 now] w fun e w' => e = .returned (.bool (decide (0 < n) && !waitsB t ⟨L, zs⟩ now)) ∧ w.grownBy w' none := by
  have C := hide (waits_any t L a n cap)
  have C2 := hide (fun W => plate_any t L a n cap zs hn now W hL hL2 h0 h1)
  generalize waitsB t ⟨L, zs⟩ now = d at *
  obtain ⟨x0, x1, x2, x3, x4, x5⟩ := t
  dsimp only [kindC] at *
  generalize hb : decide (0 < n) = b at *
  clear hb hn
  cases b with
  | false =>
    rw [Bool.false_and]
    go_enter Tryz.func160, Tryz.ntmps160
    go_wp2_with (first | fail)
    refine (C.out _).mono ?_; rintro e w1 ⟨rfl, hg⟩
    have HG := hide (grownBy_trans (World.grownBy_alloc _ _ _) hg)
    clear hg
    go_wp2
    go_ret
    exact ⟨rfl, HG.out⟩
  | true =>
    rw [Bool.true_and]
    go_enter Tryz.func160, Tryz.ntmps160
    go_wp2_with (first | fail)
    refine (C.out _).mono ?_; rintro e w1 ⟨rfl, hg⟩
    have hc := box_grown (heap_alloc_new w _) hg (by simp)
    have HG := hide (grownBy_trans (World.grownBy_alloc _ _ _) hg)
    have c0 : w1.cell? ⟨w.heap.size, 0, none⟩ = some (.int .i64 x0) := blk_cell hc 0
    have c1 : w1.cell? ⟨w.heap.size, 1, none⟩ = some (.int .i64 x1) := blk_cell hc 1
    have c2 : w1.cell? ⟨w.heap.size, 2, none⟩ = some (.int .i64 x2) := blk_cell hc 2
    have c3 : w1.cell? ⟨w.heap.size, 3, none⟩ = some (.int .i64 x3) := blk_cell hc 3
    have c4 : w1.cell? ⟨w.heap.size, 4, none⟩ = some (.int .i64 x4) := blk_cell hc 4
    have c5 : w1.cell? ⟨w.heap.size, 5, none⟩ = some (.int .i64 x5) := blk_cell hc 5
    have c6 : w1.cell? ⟨w.heap.size, 6, none⟩ = some (.int .i64 L) := blk_cell hc 6
    have c7 : w1.cell? ⟨w.heap.size, 7, none⟩ = some (.slice a n cap) := blk_cell hc 7
    clear hg hc
    go_wp2_with (first | fail)
    refine (C2.out _).mono ?_; rintro e w2 ⟨rfl, hg⟩
    have HG2 := hide (grownBy_trans HG.out hg)
    clear hg
    go_wp2
    go_ret
    exact ⟨by first | rfl | simp, HG2.out⟩

set_option maxRecDepth 100000 in
set_option maxHeartbeats 4000000 in
theorem kept_any {lo : Nat} (t : TaskV) (L : Int) (a : Option Addr) (n cap : Nat) (zs : List Int) (hz : zs.length ≤ 17592186043904) (w : World) (hv : RowAt shN lo w (.slice a n cap) zs) :
    Calls Tryz.prog 156 #[.agg (kindC t L (.slice a n cap))] w fun e w' => ∃ v', e = .returned (.agg #[.int .i64 L, v']) ∧ Own (w.heap.size + 2) w' v' zs ∧ w.grownBy w' none := by
  have C := hide (fun W (hg : w.grownBy W none) => copied_any (.slice a n cap) zs hz W (hv.grown hg))
  clear hv hz
  obtain ⟨x0, x1, x2, x3, x4, x5⟩ := t
  dsimp only [kindC]
  go_enter Tryz.func156, Tryz.ntmps156
  go_upto_region 1 with (first | fail)
  have HG := hide (grownBy_trans (World.grownBy_alloc w (.cells #[.int .i64 x0, .int .i64 x1, .int .i64 x2, .int .i64 x3, .int .i64 x4, .int .i64 x5, .int .i64 L, .slice a n cap] 170) none) (World.grownBy_alloc _ (.cells #[.int .i64 0, .slice none 0 0] 93) none))
  have HB := hide (hp_up (heap_alloc_new w (.cells #[.int .i64 x0, .int .i64 x1, .int .i64 x2, .int .i64 x3, .int .i64 x4, .int .i64 x5, .int .i64 L, .slice a n cap] 170)) (.cells #[.int .i64 0, .slice none 0 0] 93))
  have HR := hide (alloc_next w (.cells #[.int .i64 x0, .int .i64 x1, .int .i64 x2, .int .i64 x3, .int .i64 x4, .int .i64 x5, .int .i64 L, .slice a n cap] 170) (.cells #[.int .i64 0, .slice none 0 0] 93))
  generalize (w.alloc (.cells #[.int .i64 x0, .int .i64 x1, .int .i64 x2, .int .i64 x3, .int .i64 x4, .int .i64 x5, .int .i64 L, .slice a n cap] 170)).alloc (.cells #[.int .i64 0, .slice none 0 0] 93) = wr at *
  refine wp_region_held_drew (S := fun W => W.heap[w.heap.size]? = some (.cells #[.int .i64 x0, .int .i64 x1, .int .i64 x2, .int .i64 x3, .int .i64 x4, .int .i64 x5, .int .i64 L, .slice a n cap] 170 (0, 0))) (by kernel_rfl) HB.out (fun hHeld => ?_)
  have HGd : Hid (w.grownBy wr.drew none) := hide (grownBy_trans HG.out (grownBy_draws wr 1 none))
  have HBd : Hid (wr.drew.heap[w.heap.size]? = some (.cells #[.int .i64 x0, .int .i64 x1, .int .i64 x2, .int .i64 x3, .int .i64 x4, .int .i64 x5, .int .i64 L, .slice a n cap] 170 (0, 0))) := hide HB.out
  have HRd : Hid (wr.drew.heap[w.heap.size + 1]? = some (.cells #[.int .i64 0, .slice none 0 0] 93 (0, 0))) := hide HR.out
  clear HG HB HR
  generalize wr.drew = W at *
  have HG := HGd
  have HB := HBd
  have HR := HRd
  clear HGd HBd HRd
  have HL : Hid (w.heap.size + 2 ≤ W.heap.size) := hide (by have := box_lt HR.out; omega)
  refine take_put (i := 0) (v := .pointer (some ⟨w.heap.size, 6, none⟩)) 3 rfl rfl (by kernel_rfl) (by kernel_rfl) (by kernel_rfl) (fun _ _ _ h => h) (Or.inl ⟨by rfl, by intro Wy hSW; go_simp⟩) (by assumption) ?_
  (try simp only [Act.put, List.setIfInBounds_toArray, List.set_cons_zero, List.set_cons_succ])
  refine take_put (i := 1) (v := .pointer (some ⟨w.heap.size, 6, none⟩)) 4 rfl rfl (by kernel_rfl) (by kernel_rfl) (by kernel_rfl) (fun _ _ _ h => h) (Or.inl ⟨by rfl, by intro Wy hSW; go_simp⟩) (by assumption) ?_
  (try simp only [Act.put, List.setIfInBounds_toArray, List.set_cons_zero, List.set_cons_succ])
  refine take_put (i := 2) (v := .int .i64 L) 5 rfl rfl (by kernel_rfl) (by kernel_rfl) (by kernel_rfl) (fun _ _ _ h => h) (Or.inl ⟨by rfl, by intro Wy hSW; have hc := blk_cell hSW 6; go_simp⟩) (by assumption) ?_
  (try simp only [Act.put, List.setIfInBounds_toArray, List.set_cons_zero, List.set_cons_succ])
  refine take_put (i := 3) (v := .pointer (some ⟨w.heap.size, 6, none⟩)) 6 rfl rfl (by kernel_rfl) (by kernel_rfl) (by kernel_rfl) (fun _ _ _ h => h) (Or.inl ⟨by rfl, by intro Wy hSW; go_simp⟩) (by assumption) ?_
  (try simp only [Act.put, List.setIfInBounds_toArray, List.set_cons_zero, List.set_cons_succ])
  refine take_put (i := 4) (v := .pointer (some ⟨w.heap.size, 7, none⟩)) 7 rfl rfl (by kernel_rfl) (by kernel_rfl) (by kernel_rfl) (fun _ _ _ h => h) (Or.inl ⟨by rfl, by intro Wy hSW; go_simp⟩) (by assumption) ?_
  (try simp only [Act.put, List.setIfInBounds_toArray, List.set_cons_zero, List.set_cons_succ])
  refine take_put (i := 5) (v := .slice a n cap) 8 rfl rfl (by kernel_rfl) (by kernel_rfl) (by kernel_rfl) (fun _ _ _ h => h) (Or.inl ⟨by rfl, by intro Wy hSW; have hc := blk_cell hSW 7; go_simp⟩) (by assumption) ?_
  (try simp only [Act.put, List.setIfInBounds_toArray, List.set_cons_zero, List.set_cons_succ])
  refine wpAnyH_ready (rs := [6]) (by kernel_rfl) (by simp) ?_
  refine AllReadyH.cons rfl (fun K hK => ?_) AllReadyH.nil
  go_simp
  refine (C.out _ HG.out).mono ?_; rintro e W1 ⟨v1, rfl, ho, hg⟩
  have HO := hide (ho.base HL.out)
  obtain ⟨u, m, c, rfl⟩ : ∃ u m c, v1 = .slice u m c := by obtain ⟨u, c, e⟩ := own_form ho; exact ⟨u, _, c, e⟩
  have HBn := hide (box_grown HB.out hg (by simp))
  have HRn := hide (box_grown HR.out hg (by simp))
  have HGn := hide (grownBy_trans HG.out hg)
  clear hHeld ho hg HB HR HG
  have HB := HBn
  have HR := HRn
  have HG := HGn
  clear HBn HRn HGn
  refine hK.out _ _ HB.out (fun hHeld => ?_)
  clear hK K
  (try simp only [Act.put])
  refine take_put (i := 7) (v := .agg #[.int .i64 L, .slice u m c]) 10 rfl rfl (by kernel_rfl) (by kernel_rfl) (by kernel_rfl) (fun _ _ _ h => h) (Or.inl ⟨by rfl, by intro Wy hSW; go_simp⟩) (by assumption) ?_
  (try simp only [Act.put, List.setIfInBounds_toArray, List.set_cons_zero, List.set_cons_succ])
  refine wpAnyH_ready (rs := [8]) (by kernel_rfl) (by simp) ?_
  refine AllReadyH.cons rfl (fun K hK => ?_) AllReadyH.nil
  refine step_store 93 (.tmp 2) (.tmp 10) (w.heap.size + 1) #[.int .i64 L, .slice u m c] 93 #[.int .i64 0, .slice none 0 0] rfl rfl HR.out sizeU rfl (by simp [Value.oneCell']) ?_
  intro W2 h1 e1 g1
  have HBn := hide ((e1 w.heap.size (by omega)).trans HB.out)
  have HRn := hide h1
  have HGn := hide (grown_spoil HG.out (Nat.le_succ _) g1)
  have HOn := hide (HO.out.off g1 (by omega))
  clear hHeld h1 e1 g1 HB HR HG HO
  have HB := HBn
  have HR := HRn
  have HG := HGn
  have HO := HOn
  clear HBn HRn HGn HOn
  refine hK.out _ _ HB.out (fun hHeld => ?_)
  clear hK K
  (try simp only [Act.put])
  refine wpAnyH_done (by kernel_rfl) ?_ _
  clear hHeld
  go_wp2
  refine bodyPost_ret (results_cell_row rfl _ _ (w.heap.size + 1) 93 #[.int .i64 L, .slice u m c] (0, 0) _ rfl HR.out Tryz.underlying93 rfl sizeU) rfl ?_
  exact ⟨_, rfl, HO.out, HG.out⟩
#print axioms kept_any
end Go.Proofs.YtlppfocoonnpjaaGreatDoor.U

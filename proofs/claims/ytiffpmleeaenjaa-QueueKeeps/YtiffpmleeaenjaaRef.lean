/- Contracts of the document's own Ring. -/
import Derived.Test.YtiffpmleeaenjaaRAll
namespace Go.Proofs.Ytiffpmleeaenjaa
open Go.RowKit
attribute [local go_sem] alloc_drewN setCell_drewN

/-- The document's Ring at block b is of size k and holds the row, in memory behind b. -/
structure RefAt (W : World) (b k : Nat) (row : List Int) (v : Value) : Prop where
  size : W.cell? ⟨b, 0, none⟩ = some (.int .i64 k)
  all : W.cell? ⟨b, 1, none⟩ = some v
  thaw : W.frozen? ⟨b, 1, none⟩ = false
  own : W.ownsRow (b + 1) 3 1 v row.length (vals row)

theorem RefAt.lt {W : World} {b k : Nat} {row : List Int} {v : Value} (h : RefAt W b k row v) : b < W.heap.size := World.block_lt_of_cell? W ⟨b, 0, none⟩ h.size
theorem RefAt.draws {W : World} {b k : Nat} {row : List Int} {v : Value} (h : RefAt W b k row v) (n : Nat) : RefAt (W.drewN n) b k row v := ⟨h.size, h.all, h.thaw, own_draws h.own n⟩
/-- What writes to another block ahead of b alone keeps it. -/
theorem RefAt.grown {W W' : World} {b k : Nat} {row : List Int} {v : Value} (h : RefAt W b k row v) {g : Nat} (hg : W.grownBy W' (some g)) (hb : g < b) : RefAt W' b k row v := by
  have e := hg.block b h.lt (by simp; omega)
  refine ⟨(World.cell?_of_block (a := ⟨b, 0, none⟩) e).trans h.size, (World.cell?_of_block (a := ⟨b, 1, none⟩) e).trans h.all, (World.frozen?_of_block (a := ⟨b, 1, none⟩) e).trans h.thaw, h.own.kept hg ?_⟩
  right
  intro e2
  have := (h.own.lt g e2).1
  omega
/-- New memory keeps it. -/
theorem RefAt.below {W W' : World} {b k : Nat} {row : List Int} {v : Value} (h : RefAt W b k row v) (hg : W.grownBy W' none) : RefAt W' b k row v := by
  have e := hg.block b h.lt (by simp)
  exact ⟨(World.cell?_of_block (a := ⟨b, 0, none⟩) e).trans h.size, (World.cell?_of_block (a := ⟨b, 1, none⟩) e).trans h.all, (World.frozen?_of_block (a := ⟨b, 1, none⟩) e).trans h.thaw, own_kept h.own hg⟩

set_option maxHeartbeats 400000 in
theorem rnew_no (l : Int) (h : l < 1 ∨ 64 < l) (w : World) :
    Calls Try.prog 15 #[.int .i64 l] w fun e w' => e = .returned (.tuple #[.pointer none, .int .i64 200]) ∧ w' = w := by
  rcases h with h | h
  · go_enter Try.func15, Try.ntmps15
    go_wp2
    go_ret2
    exact ⟨rfl, rfl⟩
  · have h' : 1 ≤ l := by omega
    go_enter Try.func15, Try.ntmps15
    go_wp2
    go_ret2
    exact ⟨rfl, rfl⟩

set_option maxHeartbeats 400000 in
theorem rnew_ok (l : Nat) (h : 1 ≤ l) (h' : l ≤ 64) (w : World) :
    Calls Try.prog 15 #[.int .i64 l] w fun e w' => e = .returned (.tuple #[.pointer (some ⟨w.heap.size, 0, none⟩), .int .i64 0]) ∧ RefAt w' w.heap.size l [] (.slice none 0 0) ∧ w.grownBy w' none ∧ w'.heap.size = w.heap.size + 1 := by
  go_enter Try.func15, Try.ntmps15
  go_wp2
  go_ret2
  refine ⟨rfl, ⟨by simp, by simp, by simp, World.ownsRow_nil _ _ _ _⟩, World.grownBy_alloc _ _ _, by simp⟩

theorem ref_put {w1 : World} {b k : Nat} {row : List Int} {v' : Value} (hs : w1.cell? ⟨b, 0, none⟩ = some (.int .i64 k)) (ha : ∃ u, w1.cell? ⟨b, 1, none⟩ = some u) (ht : w1.frozen? ⟨b, 1, none⟩ = false) (hown : w1.ownsRow (b + 1) 3 1 v' row.length (vals row)) :
    RefAt (w1.setCell ⟨b, 1, none⟩ v') b k row v' := by
  obtain ⟨u, hu⟩ := ha
  exact ⟨by rw [other _ _ _ _ _ (by omega)]; exact hs, World.cell?_setCell_same _ _ _ hu, by rw [World.frozen?_setCell]; exact ht, ownsRow_setCell_below hown (by simp) _⟩

set_option maxHeartbeats 1000000 in
theorem roffer_no (b k : Nat) (row : List Int) (v : Value) (x : Int) (hl : row.length = k) (w : World) (h : RefAt w b k row v) :
    Calls Try.prog 16 #[.pointer (some ⟨b, 0, none⟩), .int .i64 x] w fun e w' => e = .returned (.bool false) ∧ ∃ n, w' = w.drewN n := by
  obtain ⟨a, cap, rfl, _⟩ := reads_own h.own
  have c0 := h.size
  have c1 := h.all
  subst hl
  clear h
  generalize hN : row.length = N at *
  clear hN
  go_enter Try.func16, Try.ntmps16
  go_wp2
  go_quiet (fail)
  go_wp2
  go_ret
  exact ⟨rfl, _, rfl⟩

set_option maxHeartbeats 1000000 in
theorem roffer_yes (b k : Nat) (row : List Int) (v : Value) (x : Int) (hk : k ≤ 64) (hl : row.length < k) (w : World) (h : RefAt w b k row v) :
    Calls Try.prog 16 #[.pointer (some ⟨b, 0, none⟩), .int .i64 x] w fun e w' => e = .returned (.bool true) ∧ (∃ v', RefAt w' b k (row ++ [x]) v') ∧ Below b w w' := by
  obtain ⟨i0, hi, hz0, hz1, hz2⟩ := info_parts infoI64
  obtain ⟨a, cap, rfl, _⟩ := reads_own h.own
  have c0 := h.size
  have c1 := h.all
  have c2 := h.thaw
  have hb := h.lt
  have HW := hide h.own
  have hne : ((row.length : Int) == (k : Int)) = false := by rw [beq_eq_false_iff_ne]; omega
  clear h
  generalize hN : row.length = N at *
  have HN := hide hN
  clear hN
  go_enter Try.func16, Try.ntmps16
  go_wp2
  go_quiet (fail)
  go_wp2_with (at_builtin; refine wpList_append_own _ rfl _ _ 22 rfl (b + 1) 3 i0 (.int .i64 0) 1 8 Try.underlying22 hi hz0 hz1 hz2 rfl (by decide) (.slice a N cap) N (vals row) rfl ?c0 ⟨w.heap.size, 0, none⟩ 1 1 [.int .i64 x] rfl rfl ?c1 ?c2 ?c3 ?c4 ?c5 ?_)
  case c0 => exact own_draws (HW.out.alloc _) _
  case c1 =>
    intro j u hj
    match j, hj with
    | 0, hj => simp at hj; subst hj; simp [Addr.add]
  case c2 => intro u hu; simp at hu; subst hu; rfl
  case c3 => unfold maxLen; omega
  case c4 => omega
  case c5 => simp; omega
  intro v' w2 hown' hgrow _
  obtain ⟨a', cap', rfl⟩ := own_form hown'
  have hB := below_of_own hb (fun g hg => (HW.out.lt g hg).1) hgrow
  have d0 : _ = _ := (hB.cell (p := ⟨b, 0, none⟩) (by simp)).trans c0
  have d1 : _ = _ := (hB.cell (p := ⟨b, 1, none⟩) (by simp)).trans c1
  have d2 : _ = _ := (hB.frozen (p := ⟨b, 1, none⟩) (by simp)).trans c2
  have R1 := hide hown'
  have R2 := hide hB
  clear hown' hgrow HW c0 c1 c2 hB
  go_wp2
  go_ret
  refine ⟨rfl, ⟨_, ref_put d0 ⟨_, d1⟩ d2 ?_⟩, (R2.out.mono (Nat.le_succ b)).setCell (Nat.le_refl _) _⟩
  have e := HN.out
  rw [show (row ++ [x]).length = N + 1 by simp [e], show vals (row ++ [x]) = vals row ++ [.int .i64 x] by simp [vals]]
  exact R1.out

set_option maxHeartbeats 1000000 in
theorem rpop_no (b k : Nat) (v : Value) (w : World) (h : RefAt w b k [] v) :
    Calls Try.prog 12 #[.pointer (some ⟨b, 0, none⟩)] w fun e w' => e = .returned (.tuple #[.int .i64 0, .bool false]) ∧ w' = w := by
  obtain ⟨a, cap, rfl, _⟩ := reads_own h.own
  have c1 := h.all
  clear h
  go_enter Try.func12, Try.ntmps12
  go_wp2
  go_ret2
  exact ⟨rfl, rfl⟩

theorem vals_tail (y : Int) (t : List Int) : vals (y :: t) = .int .i64 y :: vals t := rfl

set_option maxHeartbeats 1000000 in
theorem rpop_yes (b k : Nat) (y : Int) (t : List Int) (v : Value) (hk : (y :: t).length ≤ 64) (w : World) (h : RefAt w b k (y :: t) v) :
    Calls Try.prog 12 #[.pointer (some ⟨b, 0, none⟩)] w fun e w' => e = .returned (.tuple #[.int .i64 y, .bool true]) ∧ (∃ v', RefAt w' b k t v') ∧ Below b w w' := by
  obtain ⟨i0, hi, hz0, hz1, hz2⟩ := info_parts infoI64
  have hb := h.lt
  have hcap : ∃ g cap, v = .slice (some ⟨g, 0, none⟩) (y :: t).length cap ∧ (y :: t).length ≤ cap ∧ cap ≤ maxLen := by
    rcases h.own.2 with ⟨_, h0⟩ | ⟨g, cap, cur, hv, _, _, h1, h2, _⟩
    · simp at h0
    · exact ⟨g, cap, hv, h1, h2⟩
  obtain ⟨g, cap, rfl, hc1, hc2⟩ := hcap
  have c0 := h.size
  have c1 := h.all
  have c2 := h.thaw
  have HW := hide h.own
  have c3 := h.own.cellAt 0 (by simp)
  rw [vals_get _ _ (by simp)] at c3
  have hcells : ∀ j u, (vals t)[j]? = some u → w.cell? ⟨g, 1 + j, none⟩ = some u := by
    intro j u hu
    have hj : j < (vals t).length := by
      rcases Nat.lt_or_ge j (vals t).length with h | h
      · exact h
      · rw [List.getElem?_eq_none h] at hu; cases hu
    rw [vals_length] at hj
    rw [h.own.cellAt (1 + j) (by simp; omega), vals_tail, Nat.add_comm 1 j, List.getElem?_cons_succ]
    exact hu
  have HC := hide hcells
  have HT := hide (vals_length t)
  clear h hcells
  unfold maxLen at hc2
  simp only [List.length_cons, List.getElem?_cons_zero, Option.getD_some] at hk hc1 c1 c3 HW ⊢
  generalize hN : t.length = N at *
  have HN := hide hN
  clear hN
  have hone : cap = 1 → N = 0 := fun e => by omega
  by_cases hcap : cap = 1
  · have hn := hone hcap
    have ht : vals t = [] := List.eq_nil_of_length_eq_zero (by rw [HT.out]; exact hn)
    have ht' := HN.out
    subst hcap hn
    clear hone
    go_enter Try.func12, Try.ntmps12
    go_wp2_with (at_builtin; refine wpList_append_own _ rfl _ _ 22 rfl (b + 1) 3 i0 (.int .i64 0) 1 8 Try.underlying22 hi hz0 hz1 hz2 rfl (by decide) _ 0 [] rfl ?c0 ⟨g, 0, none⟩ 0 0 [] rfl rfl ?c1 ?c2 ?c3 ?c4 ?c5 ?_)
    case c0 => exact World.ownsRow_lit w #[] 0 (by omega) (by unfold maxLen; omega) rfl
    case c1 => simp
    case c2 => simp
    case c3 => unfold maxLen; omega
    case c4 => omega
    case c5 => simp; omega
    intro v' w2 hown' hgrow _
    obtain ⟨a', cap', rfl⟩ := own_form hown'
    have hB := below_of_own (m := 0) hb (fun g hg => by simp [Value.ownBlock] at hg; omega) hgrow
    have d0 : _ = _ := (hB.cell (p := ⟨b, 0, none⟩) (by simp)).trans c0
    have d1 : _ = _ := (hB.cell (p := ⟨b, 1, none⟩) (by simp)).trans c1
    have d2 : _ = _ := (hB.frozen (p := ⟨b, 1, none⟩) (by simp)).trans c2
    have R1 := hide hown'
    have R2 := hide hB
    have HT' := hide ht
    have HN' := hide ht'
    clear hown' hgrow HW c0 c1 c2 c3 hB ht ht'
    go_wp2
    go_ret2
    refine ⟨rfl, ⟨_, ref_put d0 ⟨_, d1⟩ d2 ?_⟩, (R2.out.mono (Nat.le_succ b)).setCell (Nat.le_refl _) _⟩
    rw [HT'.out, HN'.out]
    exact R1.out
  · go_enter Try.func12, Try.ntmps12
    go_wp2_with (at_builtin; refine wpList_append_own _ rfl _ _ 22 rfl (b + 1) 3 i0 (.int .i64 0) 1 8 Try.underlying22 hi hz0 hz1 hz2 rfl (by decide) _ 0 [] rfl ?c0 ⟨g, 1, none⟩ N (cap - 1) (vals t) ?c6 ?c7 ?c1 ?c2 ?c3 ?c4 ?c5 ?_)
    case c0 => exact World.ownsRow_lit w #[] 0 (by omega) (by unfold maxLen; omega) rfl
    case c7 => rw [HT.out]; omega
    case c1 =>
      intro j u hj
      have := HC.out j u hj
      have hlt := block_lt_of_cell this
      simp at hlt
      rw [show (⟨g, 1, none⟩ : Addr).add j = ⟨g, 1 + j, none⟩ by simp [Addr.add]]
      exact (World.cell?_of_block (a := ⟨g, 1 + j, none⟩) (Below.heap_alloc w _ g hlt)).trans this
    case c2 =>
      intro u hu
      simp [vals] at hu
      obtain ⟨z, _, rfl⟩ := hu
      rfl
    case c3 => unfold maxLen; omega
    case c4 => omega
    case c5 => simp; omega
    case c6 => rfl
    intro v' w2 hown' hgrow _
    obtain ⟨a', cap', rfl⟩ := own_form hown'
    have hB := below_of_own (m := 0) hb (fun g hg => by simp [Value.ownBlock] at hg; omega) hgrow
    have d0 : _ = _ := (hB.cell (p := ⟨b, 0, none⟩) (by simp)).trans c0
    have d1 : _ = _ := (hB.cell (p := ⟨b, 1, none⟩) (by simp)).trans c1
    have d2 : _ = _ := (hB.frozen (p := ⟨b, 1, none⟩) (by simp)).trans c2
    have R1 := hide hown'
    have R2 := hide hB
    clear hown' hgrow HW c0 c1 c2 c3 hB
    go_wp2
    go_ret2
    refine ⟨rfl, ⟨_, ref_put d0 ⟨_, d1⟩ d2 ?_⟩, (R2.out.mono (Nat.le_succ b)).setCell (Nat.le_refl _) _⟩
    rw [HN.out]
    exact R1.out

/-- The document's Ring, whatever slice it holds. -/
def RefIs (W : World) (b k : Nat) (row : List Int) : Prop := row.length ≤ k ∧ k ≤ 64 ∧ ∃ v, RefAt W b k row v
theorem RefIs.draws {W : World} {b k : Nat} {row : List Int} (h : RefIs W b k row) (n : Nat) : RefIs (W.drewN n) b k row := by
  obtain ⟨h1, h2, v, hv⟩ := h
  exact ⟨h1, h2, v, hv.draws n⟩
theorem RefIs.lt {W : World} {b k : Nat} {row : List Int} (h : RefIs W b k row) : b < W.heap.size := by
  obtain ⟨h1, h2, v, hv⟩ := h
  exact hv.lt
theorem RefIs.grown {W W' : World} {b k : Nat} {row : List Int} (h : RefIs W b k row) {g : Nat} (hg : W.grownBy W' (some g)) (hb : g < b) : RefIs W' b k row := by
  obtain ⟨h1, h2, v, hv⟩ := h
  exact ⟨h1, h2, v, hv.grown hg hb⟩

theorem roffer_any (b k : Nat) (row : List Int) (x : Int) (w : World) (h : RefIs w b k row) :
    Calls Try.prog 16 #[.pointer (some ⟨b, 0, none⟩), .int .i64 x] w fun e w' => e = .returned (.bool (offerIs k row)) ∧ RefIs w' b k (offered k row x) ∧ Below b w w' := by
  obtain ⟨h1, h2, v, hv⟩ := h
  by_cases hl : row.length < k
  · refine (roffer_yes b k row v x h2 hl w hv).mono ?_
    rintro e w' ⟨rfl, ⟨v', hv'⟩, hB⟩
    refine ⟨by simp [offerIs, hl], ?_, hB⟩
    rw [offered, if_pos hl]
    exact ⟨by simp; omega, h2, v', hv'⟩
  · refine (roffer_no b k row v x (by omega) w hv).mono ?_
    rintro e w' ⟨rfl, n, rfl⟩
    refine ⟨by simp [offerIs, hl], ?_, below_drewN (Below.refl _ _) n⟩
    rw [offered, if_neg hl]
    exact ⟨h1, h2, v, hv.draws n⟩

theorem rpop_any (b k : Nat) (row : List Int) (w : World) (h : RefIs w b k row) :
    Calls Try.prog 12 #[.pointer (some ⟨b, 0, none⟩)] w fun e w' => e = .returned (.tuple #[.int .i64 (popOut row), .bool (popIs row)]) ∧ RefIs w' b k (popped row) ∧ Below b w w' := by
  obtain ⟨h1, h2, v, hv⟩ := h
  cases row with
  | nil =>
    refine (rpop_no b k v w hv).mono ?_
    rintro e w' ⟨rfl, rfl⟩
    exact ⟨rfl, ⟨h1, h2, v, hv⟩, Below.refl _ _⟩
  | cons y t =>
    refine (rpop_yes b k y t v (by omega) w hv).mono ?_
    rintro e w' ⟨rfl, ⟨v', hv'⟩, hB⟩
    refine ⟨by simp [popIs, popOut], ⟨?_, h2, v', hv'⟩, hB⟩
    simp [popped] at h1 ⊢
    omega

set_option maxHeartbeats 1000000 in
theorem rpush_room (b k : Nat) (row : List Int) (x : Int) (hl : row.length < k) (w : World) (h : RefIs w b k row) :
    Calls Try.prog 9 #[.pointer (some ⟨b, 0, none⟩), .int .i64 x] w fun e w' => e = .returned (.tuple #[.int .i64 0, .bool false]) ∧ RefIs w' b k (row ++ [x]) ∧ Below b w w' := by
  have c := roffer_any b k row x w h
  rw [show offerIs k row = true by simp [offerIs, hl], offered, if_pos hl] at c
  have C := hide c
  clear hl h c
  go_enter Try.func9, Try.ntmps9
  go_wp2_with (go_at_call 16; refine C.out.mono ?_; rintro e w' ⟨rfl, h1, h2⟩)
  go_ret2
  exact ⟨rfl, h1, h2⟩

set_option maxHeartbeats 1000000 in
theorem rpush_full (b k : Nat) (row : List Int) (x : Int) (hk : 0 < k) (hl : row.length = k) (w : World) (h : RefIs w b k row) :
    Calls Try.prog 9 #[.pointer (some ⟨b, 0, none⟩), .int .i64 x] w fun e w' => e = .returned (.tuple #[.int .i64 (popOut row), .bool true]) ∧ RefIs w' b k (popped row ++ [x]) ∧ Below b w w' := by
  have c := roffer_any b k row x w h
  rw [show offerIs k row = false by simp [offerIs, hl], offered, if_neg (by omega)] at c
  have C := hide c
  have C2 := hide (fun w => rpop_any b k row w)
  have c3 := fun w => roffer_any b k (popped row) x w
  have hp : (popped row).length < k := by simp [popped]; omega
  rw [show offerIs k (popped row) = true by simp [offerIs, hp], offered, if_pos hp] at c3
  have C3 := hide c3
  clear hk hl h c c3 hp
  go_enter Try.func9, Try.ntmps9
  go_wp2_with (first | fail)
  refine C.out.mono ?_; rintro e w' ⟨rfl, g1, g2⟩
  go_wp2_with (first | fail)
  refine (C2.out _ g1).mono ?_; rintro e w' ⟨rfl, h1, h2⟩
  go_wp2_with (first | fail)
  refine (C3.out _ h1).mono ?_; rintro e w' ⟨rfl, h1', h2'⟩
  go_wp2
  go_ret2
  exact ⟨rfl, h1', (g2.trans h2).trans h2'⟩

theorem rpush_any (b k : Nat) (row : List Int) (x : Int) (hk : 0 < k) (w : World) (h : RefIs w b k row) :
    Calls Try.prog 9 #[.pointer (some ⟨b, 0, none⟩), .int .i64 x] w fun e w' => e = .returned (.tuple #[.int .i64 (pushOut k row), .bool (pushIs k row)]) ∧ RefIs w' b k (pushed k row x) ∧ Below b w w' := by
  by_cases hl : row.length < k
  · refine (rpush_room b k row x hl w h).mono ?_
    rintro e w' ⟨rfl, h1, h2⟩
    refine ⟨by simp [pushIs, offerIs, pushOut, hl], ?_, h2⟩
    rw [pushed, if_pos hl]; exact h1
  · refine (rpush_full b k row x hk (by have := h.1; omega) w h).mono ?_
    rintro e w' ⟨rfl, h1, h2⟩
    refine ⟨by simp [pushIs, offerIs, pushOut, hl], ?_, h2⟩
    rw [pushed, if_neg hl]; exact h1
#print axioms rpush_any
end Go.Proofs.Ytiffpmleeaenjaa

/- Contracts of the program's Ready, Jobs, drop, told and Fail of a schedule, proved over the translation. -/
import Derived.Test.YtlppfocoonnpjaaGreatDoorPTurn
import Derived.Test.YtlppfocoonnpjaaGreatDoorQg
namespace Go.Proofs.YtlppfocoonnpjaaGreatDoor.L
open Go.RowKit
open Go.Proofs.YtlppfocoonnpjaaGreatDoor.J (JobV jz jobAt jobVal shJ infoJ rowMay blk_cell blk_free box_lt box_grown type_box type_own own_type own_mono Far row_cell)
attribute [local go_sem] alloc_drewN setCell_drewN

/-- A schedule behind a call: its row of jobs is the old one or a new one. -/
structure PNew (lo : Nat) (q : Value) (B : Nat) (W : World) (b : Nat) (vr vj : Value) (ms : List RunM) (L : LocV) : Prop where
  out : ∃ vj', PLoc lo q W b vr vj' ms L ∧ OrNew B vj vj'
theorem OwnP.form {lo : Nat} {W : World} {v : Value} {js : List JobV} (h : OwnP lo W v js) : ∃ a cap, v = .slice a js.length cap := by
  obtain ⟨-, a, cap, e, -⟩ := h.row
  exact ⟨a, cap, e⟩
set_option maxRecDepth 100000 in
set_option maxHeartbeats 16000000 in
theorem ready_any {lo b : Nat} {q vr vj : Value} {ms : List RunM} {L : LocV} (W : World) (h : PLoc lo q W b vr vj ms L) :
    Calls Tryz.prog 27 #[.pointer (some ⟨b, 0, none⟩)] W fun e w' => e = .returned (.bool (decide (0 < L.jobs.length))) ∧ W = w' := by
  obtain ⟨a, cap, rfl⟩ := h.jobs.form
  have hl := h.jobs.row.1
  have c3 : W.cell? ⟨b, 3, none⟩ = some (.slice a L.jobs.length cap) := blk_cell h.box 3
  clear h
  generalize L.jobs.length = n at *
  by_cases hn : 0 < n
  · rw [decide_eq_true hn]
    have h1 : (0 : Int) < (n : Int) := by omega
    go_enter Tryz.func27, Tryz.ntmps27
    go_wp2
    go_ret
    exact ⟨rfl, rfl⟩
  · obtain rfl : n = 0 := by omega
    rw [decide_eq_false hn]
    go_enter Tryz.func27, Tryz.ntmps27
    go_wp2
    go_ret
    exact ⟨rfl, rfl⟩
set_option maxRecDepth 100000 in
set_option maxHeartbeats 16000000 in
theorem jobs_any {lo b : Nat} {q vr vj : Value} {ms : List RunM} {L : LocV} (W : World) (h : PLoc lo q W b vr vj ms L) (h16 : L.jobs.length ≤ 16) :
    Calls Tryz.prog 25 #[.pointer (some ⟨b, 0, none⟩)] W fun e w' => ∃ v, e = .returned v ∧ J.Own W.heap.size w' v L.jobs ∧ W.grownBy w' none := by
  have hrow := h.jobs.row
  obtain ⟨a, cap, rfl⟩ := h.jobs.form
  have c3 : W.cell? ⟨b, 3, none⟩ = some (.slice a L.jobs.length cap) := blk_cell h.box 3
  clear h
  have HR := hide hrow
  clear hrow
  generalize hn : L.jobs.length = n at *
  have HN := hide hn
  clear hn
  go_enter Tryz.func25, Tryz.ntmps25
  go_wp2_with (first | (at_builtin; refine app_gen (S := shJ) _ rfl _ _ 57 rfl 70 (.agg #[.int .i64 0, .int .i64 0, .int .i64 0, .int .i64 0, .int .i64 0, .int .i64 0, .int .i64 0]) 56 Tryz.underlying57 infoJ rfl W.heap.size (.slice none 0 0) 0 [] L.jobs (.slice a n cap) rfl (World.ownsRow_nil _ _ _ _) rfl HR.out n (by rw [HN.out]; omega) (by omega) (by omega) (Nat.le_refl _) ?_) | fail)
  intro a1 c1 w1 ho hg
  have HO := hide (show J.Own W.heap.size w1 (.slice a1 n c1) L.jobs from by unfold J.Own; rw [HN.out]; exact ho)
  replace hg : W.grownBy w1 none := hg
  have HG := hide hg
  clear ho hg c3
  go_wp2
  go_ret
  exact ⟨_, rfl, HO.out, HG.out⟩
theorem ownP_next {lo : Nat} {W W' : World} {g n c o : Nat} {js : List JobV} (h : OwnP lo W (.slice (some ⟨g, o, none⟩) n c) js) (hn : 0 < n) (hs : W.heap.size ≤ W'.heap.size) (f : ∀ (u : Value) n xs, W.ownsRow lo 70 7 u n xs → W'.ownsRow lo 70 7 u n xs) : OwnP lo W' (.slice (some ⟨g, o + 7, none⟩) (n - 1) (c - 1)) (js.drop 1) := by
  rcases h with ⟨rfl, a, c', e, -⟩ | ⟨g', N, cap, p, ks, ho, hN, hp, rfl, e⟩
  · simp only [Value.slice.injEq] at e; omega
  · simp only [Value.slice.injEq, Option.some.injEq, Addr.mk.injEq, and_true] at e
    obtain ⟨⟨rfl, rfl⟩, rfl, rfl⟩ := e
    by_cases h1 : p + 1 < N
    · refine .inr ⟨g, N, cap, p + 1, ks, f _ _ _ ho, hN, h1, by rw [List.drop_drop], ?_⟩
      rw [show p * 7 + 7 = (p + 1) * 7 by omega, show N - p - 1 = N - (p + 1) by omega, show cap - p - 1 = cap - (p + 1) by omega]
    · refine .inl ⟨by rw [List.drop_drop]; exact List.drop_eq_nil_of_le (by omega), some ⟨g, p * 7 + 7, none⟩, cap - p - 1, by rw [show N - p - 1 = 0 by omega], fun k hk => ?_⟩
      simp only [Value.ownBlock, Option.some.injEq] at hk
      subst hk
      exact Nat.lt_of_lt_of_le (World.ownsRow.lt ho g rfl).2 hs
def TypeAtJ (W : World) (g : Nat) : Prop := J.TypeAt W g 70
theorem ownP_at {lo : Nat} {W : World} {v : Value} {js : List JobV} (h : OwnP lo W v js) (hn : js ≠ []) : ∃ g o cap, v = .slice (some ⟨g, o, none⟩) js.length cap ∧ js.length ≤ cap ∧ lo ≤ g ∧ g < W.heap.size ∧ TypeAtJ W g := by
  rcases h with ⟨rfl, _⟩ | ⟨g, N, cap, p, ks, ho, hN, hp, rfl, e⟩
  · exact absurd rfl hn
  · subst e
    have hl : (ks.drop p).length = N - p := by rw [List.length_drop, hN]
    rw [hl]
    have h2 := own_ge (k := 7) ho
    have h3 : N ≤ cap := by
      rcases ho.2 with ⟨h1, _⟩ | ⟨g', cap', cur, h1, _, _, h4, _⟩
      · cases h1
      · simp only [Value.slice.injEq] at h1; obtain ⟨-, -, rfl⟩ := h1; exact h4
    exact ⟨g, p * 7, cap - p, rfl, by omega, h2.1, h2.2, type_own ho⟩
set_option maxRecDepth 100000 in
set_option maxHeartbeats 16000000 in
theorem drop_many {lo b g n c o : Nat} {q vr : Value} {ms : List RunM} {L : LocV} (W : World) (h : PLoc lo q W b vr (.slice (some ⟨g, o, none⟩) n c) ms L) (hn : 0 < n) (hl : n ≤ 16) (hc : c ≠ 1) :
    Calls Tryz.prog 52 #[.pointer (some ⟨b, 0, none⟩)] W fun e w' => e = .returned (.tuple #[]) ∧ PNew lo q W.heap.size w' b vr (.slice (some ⟨g, o, none⟩) n c) ms { L with jobs := L.jobs.drop 1 } ∧ W.grownBy w' (some b) := by
  have c3 : W.cell? ⟨b, 3, none⟩ = some (.slice (some ⟨g, o, none⟩) n c) := blk_cell h.box 3
  have f3 := blk_free h.box 3
  have hg := grownBy_set W b 3 (.slice (some ⟨g, o + 7, none⟩) (n - 1) (c - 1))
  have HP := hide (h.put (v := .slice (some ⟨g, o + 7, none⟩) (n - 1) (c - 1)) (js := L.jobs.drop 1) (ownP_next h.jobs hn (Nat.le_refl _) fun _ _ _ h => h))
  have HG := hide hg
  have HN : Hid (OrNew W.heap.size (.slice (some ⟨g, o, none⟩) n c) (.slice (some ⟨g, o + 7, none⟩) (n - 1) (c - 1))) := hide (fun k h _ => h)
  clear h hg
  have hn1 : ¬((n : Int) < 1) := by omega
  go_enter Tryz.func52, Tryz.ntmps52
  go_wp2
  go_end0
  exact ⟨rfl, ⟨⟨_, by first | exact HP.out | (rw [← List.drop_one]; exact HP.out), HN.out⟩⟩, HG.out⟩
set_option maxRecDepth 100000 in
set_option maxHeartbeats 16000000 in
theorem drop_last {lo b g o : Nat} {q vr : Value} {ms : List RunM} {L : LocV} (W : World) (h : PLoc lo q W b vr (.slice (some ⟨g, o, none⟩) 1 1) ms L) (hlen : L.jobs.length = 1) :
    Calls Tryz.prog 52 #[.pointer (some ⟨b, 0, none⟩)] W fun e w' => e = .returned (.tuple #[]) ∧ PNew lo q W.heap.size w' b vr (.slice (some ⟨g, o, none⟩) 1 1) ms { L with jobs := L.jobs.drop 1 } ∧ W.grownBy w' (some b) := by
  have c3 : W.cell? ⟨b, 3, none⟩ = some (.slice (some ⟨g, o, none⟩) 1 1) := blk_cell h.box 3
  have f3 := blk_free h.box 3
  have hg := grownBy_set W b 3 (.slice (some ⟨g, o, none⟩) 0 0)
  have HP := hide (h.put (v := .slice (some ⟨g, o, none⟩) 0 0) (js := L.jobs.drop 1) (.inl ⟨List.drop_eq_nil_of_le (by omega), _, _, rfl, fun k hk => h.jobs.lt k hk⟩))
  have HG := hide hg
  have HN : Hid (OrNew W.heap.size (.slice (some ⟨g, o, none⟩) 1 1) (.slice (some ⟨g, o, none⟩) 0 0)) := hide (fun k h _ => h)
  clear h hg hlen
  go_enter Tryz.func52, Tryz.ntmps52
  go_wp2
  go_end0
  exact ⟨rfl, ⟨⟨_, by first | exact HP.out | (rw [← List.drop_one]; exact HP.out), HN.out⟩⟩, HG.out⟩
theorem drop_any {lo b : Nat} {q vr vj : Value} {ms : List RunM} {L : LocV} (W : World) (h : PLoc lo q W b vr vj ms L) (hn : L.jobs ≠ []) (hl : L.jobs.length ≤ 16) :
    Calls Tryz.prog 52 #[.pointer (some ⟨b, 0, none⟩)] W fun e w' => e = .returned (.tuple #[]) ∧ PNew lo q W.heap.size w' b vr vj ms { L with jobs := L.jobs.drop 1 } ∧ W.grownBy w' (some b) := by
  obtain ⟨g, o, cap, rfl, hc, -⟩ := ownP_at h.jobs hn
  have h0 := List.length_pos_iff.2 hn
  by_cases h1 : cap = 1
  · subst h1
    have e : L.jobs.length = 1 := by omega
    rw [e] at h ⊢
    exact drop_last W h e
  · exact drop_many W h h0 hl h1
/-- What a tick does to a job is told. -/
def toldF (O D K : Bool) (k : Nat) : Bool := match k with | 0 => O | 1 => D | _ => K
def toldN (O D K : Bool) (i t u : Int) : Nat → List EvV
  | 0 => []
  | k + 1 => toldN O D K i t u k ++ (if toldF O D K k = true then [⟨4 + k, i, t, u⟩] else [])
theorem told_len (O D K : Bool) (i t u : Int) : ∀ k, (toldN O D K i t u k).length ≤ k
  | 0 => Nat.le_refl _
  | k + 1 => by
    have := told_len O D K i t u k
    unfold toldN
    rw [List.length_append]
    split
    · simp only [List.length_cons, List.length_nil]; omega
    · simp only [List.length_nil]; omega
theorem told_three (O D K : Bool) (i t u : Int) : toldN O D K i t u 3 = (if O = true then [⟨4, i, t, u⟩] else []) ++ ((if D = true then [⟨5, i, t, u⟩] else []) ++ (if K = true then [⟨6, i, t, u⟩] else [])) := by
  unfold toldN toldN toldN toldN toldF
  rw [List.nil_append, List.append_assoc]
  rfl
set_option maxRecDepth 100000 in
set_option maxHeartbeats 16000000 in
theorem told_any (b : Nat) (idx : Int) (j : JobV) (O D K : Bool) (W : World) (h0 : W.cell? ⟨b, 0, none⟩ = some (.int .i64 idx)) :
    Calls Tryz.prog 53 #[.pointer (some ⟨b, 0, none⟩), jobVal j, .agg #[.bool O, .bool D, .bool K]] W fun e w' => ∃ v, e = .returned v ∧ OwnE W.heap.size w' v (toldN O D K idx j.task j.used 3) ∧ W.grownBy w' none := by
  have hlt := World.block_lt_of_cell? W _ h0
  have HCx := hide (fun V (hg : W.grownBy V none) => (World.cell?_of_block (a := ⟨b, 0, none⟩) (hg.block b hlt (by simp))).trans h0)
  clear h0 hlt
  obtain ⟨x0, x1, x2, x3, x4, x5, x6⟩ := j
  dsimp only [jobVal]
  have HG := hide (grownBy_trans (World.grownBy_alloc W (.cells #[.int .i64 x0, .int .i64 x1, .int .i64 x2, .int .i64 x3, .int .i64 x4, .int .i64 x5, .int .i64 x6] 70) none) (World.grownBy_alloc _ (.cells #[.bool O, .bool D, .bool K] 50) none))
  have HJ := hide (J.hp_up (heap_alloc_new W (.cells #[.int .i64 x0, .int .i64 x1, .int .i64 x2, .int .i64 x3, .int .i64 x4, .int .i64 x5, .int .i64 x6] 70)) (.cells #[.bool O, .bool D, .bool K] 50))
  have HB := hide (J.alloc_next W (.cells #[.int .i64 x0, .int .i64 x1, .int .i64 x2, .int .i64 x3, .int .i64 x4, .int .i64 x5, .int .i64 x6] 70) (.cells #[.bool O, .bool D, .bool K] 50))
  go_enter Tryz.func53, Tryz.ntmps53
  go_upto_region 2 with (first | fail)
  generalize (W.alloc (.cells #[.int .i64 x0, .int .i64 x1, .int .i64 x2, .int .i64 x3, .int .i64 x4, .int .i64 x5, .int .i64 x6] 70)).alloc (.cells #[.bool O, .bool D, .bool K] 50) = W1 at *
  generalize hbv : W.heap.size + 1 = BV at *
  clear hbv
  generalize hbj : W.heap.size = BJ at *
  have HBJ := hide hbj
  clear hbj
  have v0 := blk_cell HB.out 0
  have v1 := blk_cell HB.out 1
  have v2 := blk_cell HB.out 2
  go_wp2
  clear v0 v1 v2
  go_loopw [7, 20] (fun u i V => ∃ (k : Nat) (a : Option Addr) (n c : Nat), k ≤ 3 ∧ i = .int .i64 k ∧ u = .slice a n c ∧ Hid (n ≤ k) ∧ Hid (V.ownsRow W.heap.size 68 4 (.slice a n c) n (shE.cells (toldN O D K idx x0 x6 k))) ∧ Hid (V.heap[BV]? = some (.cells #[.bool O, .bool D, .bool K] 50 (0, 0))) ∧ Hid (V.heap[BJ]? = some (.cells #[.int .i64 x0, .int .i64 x1, .int .i64 x2, .int .i64 x3, .int .i64 x4, .int .i64 x5, .int .i64 x6] 70 (0, 0))) ∧ Hid (W.grownBy V none)) (fun _ i _ => 3 - (intOf i).toNat)
  case atStart => exact ⟨0, none, 0, 0, by omega, rfl, rfl, hide (by omega), hide (World.ownsRow_nil _ _ _ _), HB, HJ, HG⟩
  case round =>
    clear HB HJ HG
    obtain ⟨k, a, n, c, hk, rfl, rfl, HNr, HEr, HBx, HJx, HGr⟩ := hrel
    rcases (by omega : k = 0 ∨ k = 1 ∨ k = 2 ∨ k = 3) with rfl | rfl | rfl | rfl
    · have hn16 := HNr.out
      have HNX : Hid (toldN O D K idx x0 x6 1 = toldN O D K idx x0 x6 0 ++ (if toldF O D K 0 = true then [⟨4, idx, x0, x6⟩] else [])) := hide rfl
      have HFE : Hid (toldF O D K 0 = O) := hide rfl
      generalize toldN O D K idx x0 x6 0 = TL at *
      have hix : ∀ w, Sem.run Tryz.prog (Instr.index 138 (.agg #[.bool O, .int .i64 4, .bool D, .int .i64 5, .bool K, .int .i64 6]) (.int .i64 0)) w = .ok (.agg #[.bool O, .int .i64 4]) w := fun _ => rfl
      rcases Bool.eq_false_or_eq_true O with hT | hT
      · subst hT
        have hgb := World.grownBy_alloc wr (.cells #[.bool true, .int .i64 4] 137) none
        have HS0 := hide (heap_alloc_new wr (.cells #[.bool true, .int .i64 4] 137))
        have HB0 := hide (box_grown HBx.out hgb (by simp))
        have HC0 := hide (HCx.out _ (grownBy_trans HGr.out hgb))
        have HJ0 := hide (box_grown HJx.out hgb (by simp))
        have HE0 := hide (own_kept HEr.out hgb)
        have HG0 := hide (grownBy_trans HGr.out hgb)
        clear hgb
        go_upto_region 6 with (first | fail)
        generalize wr.alloc (.cells #[.bool true, .int .i64 4] 137) = Wa at *
        generalize wr.heap.size = BS at *
        have s1 := blk_cell HS0.out 1
        have j0 := blk_cell HJ0.out 0
        have j6 := blk_cell HJ0.out 6
        go_wp2_with (first | fail)
        refine (event_any b idx 4 x0 x6 _ HC0.out).mono ?_; rintro e Wb ⟨rfl, hg⟩
        clear s1 j0 j6
        replace hg := grownBy_trans hg (World.grownBy_alloc Wb (.cells #[.int .i64 4, .int .i64 idx, .int .i64 x0, .int .i64 x6] 68) none)
        have HLIT := hide (heap_alloc_new Wb (.cells #[.int .i64 4, .int .i64 idx, .int .i64 x0, .int .i64 x6] 68))
        have HB1 := hide (box_grown HB0.out hg (by simp))
        have HJ1 := hide (box_grown HJ0.out hg (by simp))
        have HE1 := hide (own_kept HE0.out hg)
        have HG1 := hide (grownBy_trans HG0.out hg)
        clear hg HS0 HB0 HC0 HJ0 HE0 HG0
        go_wp2_with (first | (at_builtin; refine app_row (S := shE) _ rfl _ _ 41 68 (.agg #[.int .i64 0, .int .i64 0, .int .i64 0, .int .i64 0]) 32 Tryz.underlying41 infoE rfl rfl W.heap.size (.slice a n c) n TL rfl HE1.out ⟨Wb.heap.size, 0, none⟩ 1 1 [(⟨4, idx, x0, x6⟩ : EvV)] rfl rfl (J.one_at shE (⟨4, idx, x0, x6⟩ : EvV) HLIT.out) (by omega) (by omega) HG1.out.size ?_) | fail)
        intro a9 c9 Wc ho hgA hb9
        clear hb9 HLIT
        have hown := HE1.out
        have HB2 := hide (J.box_app HB1.out hown hgA (by decide))
        have HJ2 := hide (J.box_app HJ1.out hown hgA (by decide))
        have HG2 := hide (J.grown_app HG1.out hown (Nat.le_refl _) hgA)
        have HE2 := hide (show Wc.ownsRow W.heap.size 68 4 (.slice a9 (n + 1) c9) (n + 1) (shE.cells (toldN true D K idx x0 x6 1)) from by rw [HNX.out, HFE.out, if_pos rfl]; exact ho)
        clear ho hgA hown HB1 HJ1 HE1 HG1
        go_wp2
        go_roundw
        case rel => exact ⟨1, a9, n + 1, c9, by omega, by first | rfl | go_num, by first | rfl | go_num, hide (by have := HNr.out; omega), HE2, HB2, HJ2, HG2⟩
        case measure => simp [intOf]
      · subst hT
        have hgb := World.grownBy_alloc wr (.cells #[.bool false, .int .i64 4] 137) none
        have HB2 := hide (box_grown HBx.out hgb (by simp))
        have HJ2 := hide (box_grown HJx.out hgb (by simp))
        have HG2 := hide (grownBy_trans HGr.out hgb)
        have HE2 := hide (show (wr.alloc (.cells #[.bool false, .int .i64 4] 137)).ownsRow W.heap.size 68 4 (.slice a n c) n (shE.cells (toldN false D K idx x0 x6 1)) from by rw [HNX.out, HFE.out, if_neg (by decide), List.append_nil]; exact own_kept HEr.out hgb)
        clear hgb
        go_wp2
        go_roundw
        case rel => exact ⟨1, a, n, c, by omega, by first | rfl | go_num, rfl, hide (by have := HNr.out; omega), HE2, HB2, HJ2, HG2⟩
        case measure => simp [intOf]
    · have hn16 := HNr.out
      have HNX : Hid (toldN O D K idx x0 x6 2 = toldN O D K idx x0 x6 1 ++ (if toldF O D K 1 = true then [⟨5, idx, x0, x6⟩] else [])) := hide rfl
      have HFE : Hid (toldF O D K 1 = D) := hide rfl
      generalize toldN O D K idx x0 x6 1 = TL at *
      have hix : ∀ w, Sem.run Tryz.prog (Instr.index 138 (.agg #[.bool O, .int .i64 4, .bool D, .int .i64 5, .bool K, .int .i64 6]) (.int .i64 1)) w = .ok (.agg #[.bool D, .int .i64 5]) w := fun _ => rfl
      rcases Bool.eq_false_or_eq_true D with hT | hT
      · subst hT
        have hgb := World.grownBy_alloc wr (.cells #[.bool true, .int .i64 5] 137) none
        have HS0 := hide (heap_alloc_new wr (.cells #[.bool true, .int .i64 5] 137))
        have HB0 := hide (box_grown HBx.out hgb (by simp))
        have HC0 := hide (HCx.out _ (grownBy_trans HGr.out hgb))
        have HJ0 := hide (box_grown HJx.out hgb (by simp))
        have HE0 := hide (own_kept HEr.out hgb)
        have HG0 := hide (grownBy_trans HGr.out hgb)
        clear hgb
        go_upto_region 6 with (first | fail)
        generalize wr.alloc (.cells #[.bool true, .int .i64 5] 137) = Wa at *
        generalize wr.heap.size = BS at *
        have s1 := blk_cell HS0.out 1
        have j0 := blk_cell HJ0.out 0
        have j6 := blk_cell HJ0.out 6
        go_wp2_with (first | fail)
        refine (event_any b idx 5 x0 x6 _ HC0.out).mono ?_; rintro e Wb ⟨rfl, hg⟩
        clear s1 j0 j6
        replace hg := grownBy_trans hg (World.grownBy_alloc Wb (.cells #[.int .i64 5, .int .i64 idx, .int .i64 x0, .int .i64 x6] 68) none)
        have HLIT := hide (heap_alloc_new Wb (.cells #[.int .i64 5, .int .i64 idx, .int .i64 x0, .int .i64 x6] 68))
        have HB1 := hide (box_grown HB0.out hg (by simp))
        have HJ1 := hide (box_grown HJ0.out hg (by simp))
        have HE1 := hide (own_kept HE0.out hg)
        have HG1 := hide (grownBy_trans HG0.out hg)
        clear hg HS0 HB0 HC0 HJ0 HE0 HG0
        go_wp2_with (first | (at_builtin; refine app_row (S := shE) _ rfl _ _ 41 68 (.agg #[.int .i64 0, .int .i64 0, .int .i64 0, .int .i64 0]) 32 Tryz.underlying41 infoE rfl rfl W.heap.size (.slice a n c) n TL rfl HE1.out ⟨Wb.heap.size, 0, none⟩ 1 1 [(⟨5, idx, x0, x6⟩ : EvV)] rfl rfl (J.one_at shE (⟨5, idx, x0, x6⟩ : EvV) HLIT.out) (by omega) (by omega) HG1.out.size ?_) | fail)
        intro a9 c9 Wc ho hgA hb9
        clear hb9 HLIT
        have hown := HE1.out
        have HB2 := hide (J.box_app HB1.out hown hgA (by decide))
        have HJ2 := hide (J.box_app HJ1.out hown hgA (by decide))
        have HG2 := hide (J.grown_app HG1.out hown (Nat.le_refl _) hgA)
        have HE2 := hide (show Wc.ownsRow W.heap.size 68 4 (.slice a9 (n + 1) c9) (n + 1) (shE.cells (toldN O true K idx x0 x6 2)) from by rw [HNX.out, HFE.out, if_pos rfl]; exact ho)
        clear ho hgA hown HB1 HJ1 HE1 HG1
        go_wp2
        go_roundw
        case rel => exact ⟨2, a9, n + 1, c9, by omega, by first | rfl | go_num, by first | rfl | go_num, hide (by have := HNr.out; omega), HE2, HB2, HJ2, HG2⟩
        case measure => simp [intOf]
      · subst hT
        have hgb := World.grownBy_alloc wr (.cells #[.bool false, .int .i64 5] 137) none
        have HB2 := hide (box_grown HBx.out hgb (by simp))
        have HJ2 := hide (box_grown HJx.out hgb (by simp))
        have HG2 := hide (grownBy_trans HGr.out hgb)
        have HE2 := hide (show (wr.alloc (.cells #[.bool false, .int .i64 5] 137)).ownsRow W.heap.size 68 4 (.slice a n c) n (shE.cells (toldN O false K idx x0 x6 2)) from by rw [HNX.out, HFE.out, if_neg (by decide), List.append_nil]; exact own_kept HEr.out hgb)
        clear hgb
        go_wp2
        go_roundw
        case rel => exact ⟨2, a, n, c, by omega, by first | rfl | go_num, rfl, hide (by have := HNr.out; omega), HE2, HB2, HJ2, HG2⟩
        case measure => simp [intOf]
    · have hn16 := HNr.out
      have HNX : Hid (toldN O D K idx x0 x6 3 = toldN O D K idx x0 x6 2 ++ (if toldF O D K 2 = true then [⟨6, idx, x0, x6⟩] else [])) := hide rfl
      have HFE : Hid (toldF O D K 2 = K) := hide rfl
      generalize toldN O D K idx x0 x6 2 = TL at *
      have hix : ∀ w, Sem.run Tryz.prog (Instr.index 138 (.agg #[.bool O, .int .i64 4, .bool D, .int .i64 5, .bool K, .int .i64 6]) (.int .i64 2)) w = .ok (.agg #[.bool K, .int .i64 6]) w := fun _ => rfl
      rcases Bool.eq_false_or_eq_true K with hT | hT
      · subst hT
        have hgb := World.grownBy_alloc wr (.cells #[.bool true, .int .i64 6] 137) none
        have HS0 := hide (heap_alloc_new wr (.cells #[.bool true, .int .i64 6] 137))
        have HB0 := hide (box_grown HBx.out hgb (by simp))
        have HC0 := hide (HCx.out _ (grownBy_trans HGr.out hgb))
        have HJ0 := hide (box_grown HJx.out hgb (by simp))
        have HE0 := hide (own_kept HEr.out hgb)
        have HG0 := hide (grownBy_trans HGr.out hgb)
        clear hgb
        go_upto_region 6 with (first | fail)
        generalize wr.alloc (.cells #[.bool true, .int .i64 6] 137) = Wa at *
        generalize wr.heap.size = BS at *
        have s1 := blk_cell HS0.out 1
        have j0 := blk_cell HJ0.out 0
        have j6 := blk_cell HJ0.out 6
        go_wp2_with (first | fail)
        refine (event_any b idx 6 x0 x6 _ HC0.out).mono ?_; rintro e Wb ⟨rfl, hg⟩
        clear s1 j0 j6
        replace hg := grownBy_trans hg (World.grownBy_alloc Wb (.cells #[.int .i64 6, .int .i64 idx, .int .i64 x0, .int .i64 x6] 68) none)
        have HLIT := hide (heap_alloc_new Wb (.cells #[.int .i64 6, .int .i64 idx, .int .i64 x0, .int .i64 x6] 68))
        have HB1 := hide (box_grown HB0.out hg (by simp))
        have HJ1 := hide (box_grown HJ0.out hg (by simp))
        have HE1 := hide (own_kept HE0.out hg)
        have HG1 := hide (grownBy_trans HG0.out hg)
        clear hg HS0 HB0 HC0 HJ0 HE0 HG0
        go_wp2_with (first | (at_builtin; refine app_row (S := shE) _ rfl _ _ 41 68 (.agg #[.int .i64 0, .int .i64 0, .int .i64 0, .int .i64 0]) 32 Tryz.underlying41 infoE rfl rfl W.heap.size (.slice a n c) n TL rfl HE1.out ⟨Wb.heap.size, 0, none⟩ 1 1 [(⟨6, idx, x0, x6⟩ : EvV)] rfl rfl (J.one_at shE (⟨6, idx, x0, x6⟩ : EvV) HLIT.out) (by omega) (by omega) HG1.out.size ?_) | fail)
        intro a9 c9 Wc ho hgA hb9
        clear hb9 HLIT
        have hown := HE1.out
        have HB2 := hide (J.box_app HB1.out hown hgA (by decide))
        have HJ2 := hide (J.box_app HJ1.out hown hgA (by decide))
        have HG2 := hide (J.grown_app HG1.out hown (Nat.le_refl _) hgA)
        have HE2 := hide (show Wc.ownsRow W.heap.size 68 4 (.slice a9 (n + 1) c9) (n + 1) (shE.cells (toldN O D true idx x0 x6 3)) from by rw [HNX.out, HFE.out, if_pos rfl]; exact ho)
        clear ho hgA hown HB1 HJ1 HE1 HG1
        go_wp2
        go_roundw
        case rel => exact ⟨3, a9, n + 1, c9, by omega, by first | rfl | go_num, by first | rfl | go_num, hide (by have := HNr.out; omega), HE2, HB2, HJ2, HG2⟩
        case measure => simp [intOf]
      · subst hT
        have hgb := World.grownBy_alloc wr (.cells #[.bool false, .int .i64 6] 137) none
        have HB2 := hide (box_grown HBx.out hgb (by simp))
        have HJ2 := hide (box_grown HJx.out hgb (by simp))
        have HG2 := hide (grownBy_trans HGr.out hgb)
        have HE2 := hide (show (wr.alloc (.cells #[.bool false, .int .i64 6] 137)).ownsRow W.heap.size 68 4 (.slice a n c) n (shE.cells (toldN O D false idx x0 x6 3)) from by rw [HNX.out, HFE.out, if_neg (by decide), List.append_nil]; exact own_kept HEr.out hgb)
        clear hgb
        go_wp2
        go_roundw
        case rel => exact ⟨3, a, n, c, by omega, by first | rfl | go_num, rfl, hide (by have := HNr.out; omega), HE2, HB2, HJ2, HG2⟩
        case measure => simp [intOf]
    · have hE := HEr.out
      have hl : (toldN O D K idx x0 x6 3).length = n := by have h1 := hE.1; rw [shE.cells_length] at h1; have h2 : shE.k = 4 := rfl; rw [h2] at h1; omega
      have HL := hide hl
      clear hE hl
      go_wp2
      go_ret
      exact ⟨_, rfl, by unfold OwnE; rw [HL.out, ← HBJ.out]; exact HEr.out, HGr.out⟩
theorem first_some {lo : Nat} {v : Value} {js : List JobV} (W : World) (hv : RowAt shJ lo W v js) (hm : rowMay js = true) (hn : js ≠ []) : Calls Tryz.prog 50 #[v] W fun e w' => e = .returned (.tuple #[jobVal (jobAt js 0), .bool true]) ∧ W.grownBy w' none := by
  have h := J.first_any v js W hv
  have e : J.firstB js = true := by unfold J.firstB; rw [hm, decide_eq_true (List.length_pos_iff.2 hn)]; rfl
  have e2 : J.firstV js = jobAt js 0 := by unfold J.firstV; rw [if_pos e]
  rw [e, e2] at h
  exact h
theorem first_no {lo : Nat} {v : Value} (W : World) (hv : RowAt shJ lo W v []) : Calls Tryz.prog 50 #[v] W fun e w' => e = .returned (.tuple #[jobVal jz, .bool false]) ∧ W.grownBy w' none := J.first_any v [] W hv
set_option maxRecDepth 100000 in
set_option maxHeartbeats 16000000 in
theorem pfail_none {lo b : Nat} {q vr vj : Value} {ms : List RunM} {L : LocV} (W : World) (h : PLoc lo q W b vr vj ms L) (hn : L.jobs = []) :
    Calls Tryz.prog 23 #[.pointer (some ⟨b, 0, none⟩)] W fun e w' => e = .returned (.tuple #[.slice none 0 0, .int .i64 1401]) ∧ W.grownBy w' none := by
  have hr := h.jobs.row
  rw [hn] at hr
  obtain ⟨a, cap, hv⟩ := h.jobs.form
  subst hv
  have c3 : W.cell? ⟨b, 3, none⟩ = some (.slice a L.jobs.length cap) := blk_cell h.box 3
  have CF := hide (first_no W hr)
  clear h hr hn
  generalize L.jobs.length = n at *
  dsimp only [jobVal, jz] at CF
  go_enter Tryz.func23, Tryz.ntmps23
  go_wp2_with (first | fail)
  refine CF.out.mono ?_; rintro e w1 ⟨rfl, hg⟩
  have HG := hide (grownBy_trans hg (World.grownBy_alloc w1 (.cells #[.int .i64 0, .int .i64 0, .int .i64 0, .int .i64 0, .int .i64 0, .int .i64 0, .int .i64 0] 70) none))
  clear c3 hg CF
  go_wp2
  go_ret2
  exact ⟨rfl, HG.out⟩
theorem pfail_some {lo b m : Nat} {q vr vj : Value} {ms : List RunM} {L : LocV} (W : World) (h : PLoc lo q W b vr vj ms L) (hF : Fine L m) (hn : L.jobs ≠ []) :
    Calls Tryz.prog 23 #[.pointer (some ⟨b, 0, none⟩)] W fun e w' => ∃ v, e = .returned (.tuple #[v, .int .i64 0]) ∧ PNew lo q W.heap.size w' b vr vj ms { L with jobs := L.jobs.drop 1 } ∧ OwnE W.heap.size w' v [⟨7, L.idx, (headJ L).task, (headJ L).used⟩] ∧ W.grownBy w' (some b) := by
  have h16 := (J.rowMay_iff.1 hF.row).1
  have CF := hide (first_some W h.jobs.row hF.row hn)
  have CD := hide (fun V (hV : PLoc lo q V b vr vj ms L) => drop_any V hV hn h16)
  obtain ⟨a, cap, hv⟩ := h.jobs.form
  have c3 : W.cell? ⟨b, 3, none⟩ = some (.slice a L.jobs.length cap) := by rw [← hv]; exact blk_cell h.box 3
  have HV := hide hv
  have HL := hide h
  rw [hv] at CF
  clear h hF hn hv
  unfold headJ
  generalize L.jobs.length = n at *
  generalize jobAt L.jobs 0 = j0 at *
  obtain ⟨x0, x1, x2, x3, x4, x5, x6⟩ := j0
  dsimp only [jobVal] at *
  go_enter Tryz.func23, Tryz.ntmps23
  go_wp2_with (first | fail)
  refine CF.out.mono ?_; rintro e w1 ⟨rfl, hg⟩
  have hg1 := grownBy_trans hg (World.grownBy_alloc w1 (.cells #[.int .i64 x0, .int .i64 x1, .int .i64 x2, .int .i64 x3, .int .i64 x4, .int .i64 x5, .int .i64 x6] 70) none)
  have HJ := hide (heap_alloc_new w1 (.cells #[.int .i64 x0, .int .i64 x1, .int .i64 x2, .int .i64 x3, .int .i64 x4, .int .i64 x5, .int .i64 x6] 70))
  have HG := hide hg1
  have HP := hide (HL.out.grown hg1)
  have HB1 := hide hg.size
  clear c3 hg hg1 CF
  go_upto_region 6 with (first | fail)
  generalize w1.alloc (.cells #[.int .i64 x0, .int .i64 x1, .int .i64 x2, .int .i64 x3, .int .i64 x4, .int .i64 x5, .int .i64 x6] 70) = w2 at *
  generalize w1.heap.size = BJ at *
  go_wp2_with (first | fail)
  refine (CD.out _ HP.out).mono ?_; rintro e w3 ⟨rfl, ⟨vj2, hP, hN⟩, hg⟩
  have HP2 := hide hP
  have HN := hide (OrNew.trans (OrNew.refl W.heap.size vj) hN HG.out.size)
  have HJ2 := hide (box_grown HJ.out hg (by have h1 := box_lt HL.out.box; have h2 := HB1.out; simp; omega))
  have HG2 := hide (grown_any HG.out hg)
  clear hP hN hg HP HJ HG CD
  have c0 := blk_cell HP2.out.box 0
  dsimp only at c0
  have j0 := blk_cell HJ2.out 0
  have j6 := blk_cell HJ2.out 6
  go_wp2_with (first | fail)
  refine (event_any b L.idx 7 x0 x6 _ c0).mono ?_; rintro e w4 ⟨rfl, hg⟩
  have hgx := grownBy_trans hg (World.grownBy_alloc w4 (.cells #[.int .i64 7, .int .i64 L.idx, .int .i64 x0, .int .i64 x6] 68) none)
  have HP3 := hide (HP2.out.grown hgx)
  have HG3 := hide (grown_more HG2.out hgx)
  have HE := hide (show OwnE W.heap.size _ _ [⟨7, L.idx, x0, x6⟩] from own_mono (ev_lit w4 ⟨7, L.idx, x0, x6⟩) (grown_more HG2.out hg).size)
  clear hg hgx c0 j0 j6
  go_wp2
  go_ret2
  exact ⟨_, rfl, ⟨⟨_, HP3.out, HN.out⟩⟩, HE.out, HG3.out⟩
/-- All of Fail. -/
theorem fail_all {lo b m : Nat} {q vr vj : Value} {ms : List RunM} {L : LocV} (w W : World) (hg : w.grownBy W none) (hlo : w.heap.size ≤ lo) (h : PLoc lo q W b vr vj ms L) (hF : Fine L m) :
    Calls Tryz.prog 23 #[.pointer (some ⟨b, 0, none⟩)] W fun e w' => ∃ v, e = .returned (.tuple #[v, .int .i64 (runN L)]) ∧ PNew lo q W.heap.size w' b vr vj ms (failL L) ∧ OwnE W.heap.size w' v (failV L) ∧ w.grownBy w' none ∧ W.heap.size ≤ w'.heap.size ∧ ∀ k, k < W.heap.size → k ≠ b → vr.ownBlock ≠ some k → w'.heap[k]? = W.heap[k]? := by
  unfold runN failL failV
  by_cases h0 : L.jobs = []
  · rw [if_pos h0, if_pos h0, if_pos h0]
    exact (pfail_none W h h0).mono fun e w' ⟨h1, h2⟩ => ⟨_, h1, ⟨⟨_, h.grown h2, OrNew.refl _ _⟩⟩, ownE_nil _ _, grownBy_trans hg h2, h2.size, fun k hk _ _ => h2.block k hk (by simp)⟩
  · rw [if_neg h0, if_neg h0, if_neg h0]
    exact (pfail_some W h hF h0).mono fun e w' ⟨v, h1, h2, h3, h4⟩ => ⟨v, h1, h2, h3, grown_spoil hg (Nat.le_trans hlo h.hb) h4, h4.size, fun k hk hb _ => h4.block k hk (by simp; exact hb)⟩
#print axioms fail_all
end Go.Proofs.YtlppfocoonnpjaaGreatDoor.L

/- The contract of the program's Begin of a schedule, proved over the translation: what is missed, what is released. -/
import Derived.Test.YtlppfocoonnpjaaGreatDoorPSmall
import Derived.Test.YtlppfocoonnpjaaGreatDoorPPick
import Derived.Test.YtlppfocoonnpjaaGreatDoorJMiss
namespace Go.Proofs.YtlppfocoonnpjaaGreatDoor.L
open Go.RowKit
open Go.Proofs.YtlppfocoonnpjaaGreatDoor.J (JobV jz jobAt jobVal shJ infoJ rowMay leftV lateV putE putV blk_cell blk_free box_lt box_grown type_box type_own own_type own_mono Far far_new row_cell take_put step_store list_store one_at)
open Go.Proofs.YtlppfocoonnpjaaGreatDoor.U (TurnsV relS relD isB turnsMay atMay)
attribute [local go_sem] alloc_drewN setCell_drewN

theorem sizeJp : (Tryz.prog.info? 70).map (·.size) = some 7 := by kernel_rfl
theorem latP_le (js : List JobV) (now : Int) : (lateV js now).length ≤ js.length := by
  unfold lateV
  split
  · exact List.length_filter_le _ _
  · exact Nat.zero_le _
theorem missP_len (L : LocV) (now : Int) : (missV L now).length = (lateV L.jobs now).length := by unfold missV; rw [List.length_map]
theorem missP_take {L : LocV} {now : Int} {k : Nat} {j : JobV} (h : (lateV L.jobs now)[k]? = some j) : (missV L now).take (k + 1) = (missV L now).take k ++ [⟨3, L.idx, j.task, j.used⟩] := by
  unfold missV
  rw [List.take_add_one, List.getElem?_map, h]
  rfl
theorem PLoc.app {lo b base size n : Nat} {q : Value} {W W' : World} {vr vj v : Value} {xs : List Value} {ms : List RunM} {L : LocV} (h : PLoc lo q W b vr vj ms L) (hv : W.ownsRow base 68 size v n xs) (hg : W.grownBy W' v.ownBlock) : PLoc lo q W' b vr vj ms L := by
  rcases hv.2 with ⟨rfl, _⟩ | ⟨g, cap, cur, rfl, _, hc, _⟩
  · exact h.grown hg
  · exact h.off hg ⟨_, _, hc⟩ (by decide) (by decide) (by decide) (by decide)
theorem sub_app {B b base size n : Nat} {e : Nat} {W V V' : World} {v : Value} {xs : List Value} (h : ∀ k, k < B → k ≠ b → V.heap[k]? = W.heap[k]?) (hv : V.ownsRow base e size v n xs) (hb : B ≤ base) (hB : B ≤ V.heap.size) (hg : V.grownBy V' v.ownBlock) : ∀ k, k < B → k ≠ b → V'.heap[k]? = W.heap[k]? := fun k hk hkb =>
  (hg.block k (Nat.lt_of_lt_of_le hk hB) (fun e => by have := (World.ownsRow.lt hv k e.symm).1; omega)).trans (h k hk hkb)
set_option maxRecDepth 100000 in
set_option maxHeartbeats 16000000 in
theorem miss_at {lo b m : Nat} {q vr vj : Value} {ms : List RunM} {L : LocV} (now : Int) (w W : World) (hg : w.grownBy W none) (hlo : w.heap.size ≤ lo) (h : PLoc lo q W b vr vj ms L) (hF : Fine L m) :
    Calls Tryz.prog 45 #[.pointer (some ⟨b, 0, none⟩), .int .i64 now] W fun e w' => ∃ v, e = .returned v ∧ PNew lo q W.heap.size w' b vr vj ms (missL L now) ∧ OwnE W.heap.size w' v (missV L now) ∧ w.grownBy w' none ∧ W.heap.size ≤ w'.heap.size ∧ ∀ k, k < W.heap.size → k ≠ b → w'.heap[k]? = W.heap[k]? := by
  have hblt := box_lt h.box
  have HLB := hide h.hb
  have HWL := hide hlo
  have HGw := hide hg
  have HJS := hide h.jobs.row
  have HL16 := hide (show (lateV L.jobs now).length ≤ 16 from Nat.le_trans (latP_le L.jobs now) (J.rowMay_iff.1 hF.row).1)
  have CM := hide (J.miss_any vj L.jobs now W HJS.out)
  obtain ⟨a, cap, hv⟩ := h.jobs.form
  have c3 : W.cell? ⟨b, 3, none⟩ = some (.slice a L.jobs.length cap) := by rw [← hv]; exact blk_cell h.box 3
  have HR := hide h
  rw [hv] at CM
  have HLW := hide h.loW
  clear h hg hlo hF hv
  generalize L.jobs.length = nj at *
  go_enter Tryz.func45, Tryz.ntmps45
  go_wp2_with (first | fail)
  refine CM.out.mono ?_; rintro e W1 ⟨v1, v2, rfl, h1, h2, hf, hg1⟩
  obtain ⟨a1, q1, rfl⟩ := h1.form
  obtain ⟨a2, q2, rfl⟩ := h2.form
  clear c3 hf CM
  have HR1 := hide (HR.out.grown hg1)
  have HLf := hide (show OwnP lo W1 _ _ from ownP_of (own_mono h1 HLW.out))
  have HLt := hide h2
  have HNW := hide (show OrNew W.heap.size vj (.slice a1 (leftV L.jobs now).length q1) from orNew_new h1 (Nat.le_refl _))
  have c3 := blk_cell HR1.out.box 3
  have f3 := blk_free HR1.out.box 3
  clear h1 h2
  generalize hB : W.heap.size = B at *
  have HB := hide hB
  clear hB
  go_upto_region 4 with (first | fail)
  clear c3 f3
  have HR2 := hide (PLoc.put HR1.out HLf.out)
  have hgS := grownBy_set W1 b 3 (.slice a1 (leftV L.jobs now).length q1)
  have HL2 := hide (show J.Own B _ _ _ from own_type HLt.out hgS (type_box HR1.out.box) (by decide))
  have HG2 := hide (grown_spoil (grownBy_trans HGw.out hg1) (Nat.le_trans HWL.out HLB.out) hgS)
  have HS2 := hide (show B ≤ (W1.setCell ⟨b, 3, none⟩ (.slice a1 (leftV L.jobs now).length q1)).heap.size from by have := hgS.size; have := hg1.size; rw [HB.out] at this; omega)
  have HK2 := hide (fun k (hk : k < B) (hkb : k ≠ b) => (hgS.block k (by have := hg1.size; rw [HB.out] at this; omega) (by simp; omega)).trans (hg1.block k (by rw [HB.out]; exact hk) (by simp)))
  clear hgS hg1 HR1 HLf HLt
  generalize W1.setCell ⟨b, 3, none⟩ (.slice a1 (leftV L.jobs now).length q1) = W2 at *
  have HML := hide (missP_len L now)
  have HMT := hide (fun k j (h : (lateV L.jobs now)[k]? = some j) => missP_take h)
  have HLM : Hid (∀ k, k < (lateV L.jobs now).length → ∃ j, (lateV L.jobs now)[k]? = some j) := hide (fun k hk => ⟨_, List.getElem?_eq_getElem hk⟩)
  generalize hN2 : (lateV L.jobs now).length = N2 at *
  have HN2 := hide hN2
  clear hN2
  go_wp2
  go_loopw [7, 25] (fun u i V => ∃ (k : Nat) (a : Option Addr) (c : Nat), k ≤ N2 ∧ i = .int .i64 k ∧ u = .slice a k c ∧ Hid (V.ownsRow B 68 4 (.slice a k c) k (shE.cells ((missV L now).take k))) ∧ Hid (PLoc lo q V b vr (.slice a1 (leftV L.jobs now).length q1) ms (missL L now)) ∧ Hid (J.Own B V (.slice a2 N2 q2) (lateV L.jobs now)) ∧ Hid (w.grownBy V none) ∧ Hid (B ≤ V.heap.size) ∧ Hid (∀ k, k < B → k ≠ b → V.heap[k]? = W.heap[k]?)) (fun _ i _ => N2 - (intOf i).toNat)
  case atStart => exact ⟨0, none, 0, by omega, rfl, rfl, World.ownsRow_nil _ _ _ _, HR2, HL2, HG2, HS2, HK2⟩
  case round =>
    clear HR2 HL2 HG2 HS2 HK2
    obtain ⟨k, a, c, hk, rfl, rfl, HE, HRk, HLk, HGk, HSk, HKk⟩ := hrel
    by_cases hlt : k < N2
    · obtain ⟨jj, hjj⟩ := HLM.out k hlt
      have HTK := hide (HMT.out k jj hjj)
      obtain ⟨g2, c2q, e2, -⟩ := own_at (n := N2) (show wr.ownsRow B 70 7 (.slice a2 N2 q2) N2 (shJ.cells (lateV L.jobs now)) from by have := HLk.out; unfold J.Own at this; rwa [HN2.out] at this) (by omega)
      simp only [Value.slice.injEq, true_and] at e2
      obtain ⟨rfl, rfl⟩ := e2
      have hrj := HLk.out.row
      have k0 : wr.cell? ⟨g2, k * 7, none⟩ = some (.int .i64 jj.task) := by have := row_cell (S := shJ) (j := k) hrj hjj (k := 0) rfl; simpa [shJ] using this
      have k1 : wr.cell? ⟨g2, k * 7 + 1, none⟩ = some (.int .i64 jj.seq) := by have := row_cell (S := shJ) (j := k) hrj hjj (k := 1) rfl; simpa [shJ] using this
      have k2 : wr.cell? ⟨g2, k * 7 + 2, none⟩ = some (.int .i64 jj.prio) := by have := row_cell (S := shJ) (j := k) hrj hjj (k := 2) rfl; simpa [shJ] using this
      have k3 : wr.cell? ⟨g2, k * 7 + 3, none⟩ = some (.int .i64 jj.rel) := by have := row_cell (S := shJ) (j := k) hrj hjj (k := 3) rfl; simpa [shJ] using this
      have k4 : wr.cell? ⟨g2, k * 7 + 4, none⟩ = some (.int .i64 jj.dead) := by have := row_cell (S := shJ) (j := k) hrj hjj (k := 4) rfl; simpa [shJ] using this
      have k5 : wr.cell? ⟨g2, k * 7 + 5, none⟩ = some (.int .i64 jj.dem) := by have := row_cell (S := shJ) (j := k) hrj hjj (k := 5) rfl; simpa [shJ] using this
      have k6 : wr.cell? ⟨g2, k * 7 + 6, none⟩ = some (.int .i64 jj.used) := by have := row_cell (S := shJ) (j := k) hrj hjj (k := 6) rfl; simpa [shJ] using this
      clear hrj hjj
      obtain ⟨x0, x1, x2, x3, x4, x5, x6⟩ := jj
      dsimp only at k0 k1 k2 k3 k4 k5 k6 HTK
      have hkn : (k : Int) < N2 := by omega
      have hk0 : ¬((k : Int) < 0) := by omega
      have hk16 := HL16.out
      go_upto_region 7 with (first | fail)
      clear k0 k1 k2 k3 k4 k5 k6
      have hgb := World.grownBy_alloc wr (.cells #[.int .i64 x0, .int .i64 x1, .int .i64 x2, .int .i64 x3, .int .i64 x4, .int .i64 x5, .int .i64 x6] 70) none
      have HX := hide (heap_alloc_new wr (.cells #[.int .i64 x0, .int .i64 x1, .int .i64 x2, .int .i64 x3, .int .i64 x4, .int .i64 x5, .int .i64 x6] 70))
      have HE1 := hide (own_kept HE.out hgb)
      have HR1 := hide (HRk.out.grown hgb)
      have HL1 := hide (HLk.out.grown hgb)
      have HG1 := hide (grownBy_trans HGk.out hgb)
      have HS1 := hide (Nat.le_trans HSk.out hgb.size)
      have HK1 := hide (fun k (hk : k < B) (hkb : k ≠ b) => (hgb.block k (Nat.lt_of_lt_of_le hk HSk.out) (by simp)).trans (HKk.out k hk hkb))
      clear hgb HE HRk HLk HGk HSk HKk
      generalize wr.alloc (.cells #[.int .i64 x0, .int .i64 x1, .int .i64 x2, .int .i64 x3, .int .i64 x4, .int .i64 x5, .int .i64 x6] 70) = Wa at *
      generalize wr.heap.size = BJ at *
      have j0 := blk_cell HX.out 0
      have j6 := blk_cell HX.out 6
      go_wp2_with (first | fail)
      refine (event_any b L.idx 3 x0 x6 _ (blk_cell HR1.out.box 0)).mono ?_; rintro e Wb ⟨rfl, hg⟩
      clear j0 j6
      replace hg := grownBy_trans hg (World.grownBy_alloc Wb (.cells #[.int .i64 3, .int .i64 L.idx, .int .i64 x0, .int .i64 x6] 68) none)
      have HLIT := hide (heap_alloc_new Wb (.cells #[.int .i64 3, .int .i64 L.idx, .int .i64 x0, .int .i64 x6] 68))
      have HE2 := hide (own_kept HE1.out hg)
      have HR2 := hide (HR1.out.grown hg)
      have HL2 := hide (HL1.out.grown hg)
      have HG2 := hide (grownBy_trans HG1.out hg)
      have HS2 := hide (Nat.le_trans HS1.out hg.size)
      have HK2 := hide (fun k (hk : k < B) (hkb : k ≠ b) => (hg.block k (Nat.lt_of_lt_of_le hk HS1.out) (by simp)).trans (HK1.out k hk hkb))
      clear hg HE1 HR1 HL1 HG1 HS1 HK1 HX
      go_wp2_with (first | (at_builtin; refine app_row (S := shE) _ rfl _ _ 41 68 (.agg #[.int .i64 0, .int .i64 0, .int .i64 0, .int .i64 0]) 32 Tryz.underlying41 infoE rfl rfl B (.slice a k c) k ((missV L now).take k) rfl HE2.out ⟨Wb.heap.size, 0, none⟩ 1 1 [(⟨3, L.idx, x0, x6⟩ : EvV)] rfl rfl (one_at shE (⟨3, L.idx, x0, x6⟩ : EvV) HLIT.out) (by omega) (by omega) HS2.out ?_) | fail)
      intro a9 c9 Wc ho hgA hb9
      clear hb9 HLIT
      have hown := HE2.out
      have HR3 := hide (HR2.out.app hown hgA)
      have HL3 := hide (show J.Own B Wc _ _ from J.own_app HL2.out hown hgA (by decide))
      have HE3 := hide (show Wc.ownsRow B 68 4 (.slice a9 (k + 1) c9) (k + 1) (shE.cells ((missV L now).take (k + 1))) from by rw [HTK.out]; exact ho)
      have HG3 := hide (J.grown_app HG2.out hown (by have := HGw.out.size; rw [HB.out] at this; exact this) hgA)
      have HS3 := hide (Nat.le_trans HS2.out hgA.size)
      have HK3 := hide (sub_app HK2.out hown (Nat.le_refl _) HS2.out hgA)
      clear ho hgA hown HE2 HR2 HL2 HG2 HS2 HK2
      go_wp2
      go_roundw
      case rel => exact ⟨k + 1, a9, c9, by omega, by first | rfl | go_num, by first | rfl | go_num, HE3, HR3, HL3, HG3, HS3, HK3⟩
      case measure => simp [intOf]; omega
    · obtain rfl : k = N2 := by omega
      have hme : (missV L now).take k = missV L now := List.take_of_length_le (by rw [HML.out]; exact Nat.le_refl _)
      have HME := hide hme
      clear hme
      go_wp2
      go_ret
      exact ⟨_, rfl, ⟨⟨_, HRk.out, by rw [HB.out]; exact HNW.out⟩⟩, by rw [HB.out]; unfold OwnE; rw [HML.out, ← HME.out]; exact HE.out, HGk.out, by rw [HB.out]; exact HSk.out, fun j hj h1 => HKk.out j (by rw [← HB.out]; exact hj) h1⟩
theorem at_ok {t : TaskV} {s : TurnsV} {now : Int} (h1 : taskMay t = true) (h2 : turnsMay s = true) (h3 : 0 ≤ now) (h4 : now ≤ 1099511627776) : atMay t s now = true := by
  unfold atMay
  rw [h1, h2, decide_eq_true h3, decide_eq_true h4]
  rfl
set_option maxRecDepth 100000 in
set_option maxHeartbeats 16000000 in
theorem job_of_any (x0 x1 x2 x3 x4 x5 s sq i d now : Int) (a : Option Addr) (pn pc : Nat) (h0 : 0 ≤ now) (h1 : now ≤ 1099511627776) (h2 : 0 ≤ x2) (h3 : x2 ≤ 1024) (W : World) :
    Calls Tryz.prog 93 #[.agg #[.int .i64 x0, .int .i64 x1, .int .i64 x2, .int .i64 x3, .int .i64 x4, .int .i64 x5, .int .i64 s, .slice a pn pc, .int .i64 sq], .int .i64 i, .int .i64 d, .int .i64 now] W fun e w' => e = .returned (.agg #[.int .i64 i, .int .i64 sq, .int .i64 x5, .int .i64 now, .int .i64 (now + x2), .int .i64 d, .int .i64 0]) ∧ W.grownBy w' none := by
  have HG := hide (grownBy_trans (World.grownBy_alloc W (.cells #[.int .i64 x0, .int .i64 x1, .int .i64 x2, .int .i64 x3, .int .i64 x4, .int .i64 x5, .int .i64 s, .slice a pn pc, .int .i64 sq] 98) none) (World.grownBy_alloc _ (.cells #[.int .i64 0, .int .i64 0, .int .i64 0, .int .i64 0, .int .i64 0, .int .i64 0, .int .i64 0] 70) none))
  have HX := hide (J.hp_up (heap_alloc_new W (.cells #[.int .i64 x0, .int .i64 x1, .int .i64 x2, .int .i64 x3, .int .i64 x4, .int .i64 x5, .int .i64 s, .slice a pn pc, .int .i64 sq] 98)) (.cells #[.int .i64 0, .int .i64 0, .int .i64 0, .int .i64 0, .int .i64 0, .int .i64 0, .int .i64 0] 70))
  have HJ := hide (J.alloc_next W (.cells #[.int .i64 x0, .int .i64 x1, .int .i64 x2, .int .i64 x3, .int .i64 x4, .int .i64 x5, .int .i64 s, .slice a pn pc, .int .i64 sq] 98) (.cells #[.int .i64 0, .int .i64 0, .int .i64 0, .int .i64 0, .int .i64 0, .int .i64 0, .int .i64 0] 70))
  go_enter Tryz.func93, Tryz.ntmps93
  go_upto_region 1 with (first | fail)
  generalize (W.alloc (.cells #[.int .i64 x0, .int .i64 x1, .int .i64 x2, .int .i64 x3, .int .i64 x4, .int .i64 x5, .int .i64 s, .slice a pn pc, .int .i64 sq] 98)).alloc (.cells #[.int .i64 0, .int .i64 0, .int .i64 0, .int .i64 0, .int .i64 0, .int .i64 0, .int .i64 0] 70) = W1 at *
  have HLE := hide (Nat.le_succ W.heap.size)
  rw [Nat.succ_eq_add_one] at HLE
  generalize hbv : W.heap.size + 1 = BV at *
  clear hbv
  have HBB : Hid (W.heap.size = W.heap.size) := hide rfl
  generalize hb : W.heap.size = BX at *
  have HBX := hide hb
  clear hb HBB
  have r2 := blk_cell HX.out 2
  have r5 := blk_cell HX.out 5
  have r8 := blk_cell HX.out 8
  go_wp2_with (first | ((with_reducible refine list_store 70 (.tmp 8) (.tmp 23) BV #[.int .i64 i, .int .i64 sq, .int .i64 x5, .int .i64 now, .int .i64 (now + x2), .int .i64 d, .int .i64 0] 70 #[.int .i64 0, .int .i64 0, .int .i64 0, .int .i64 0, .int .i64 0, .int .i64 0, .int .i64 0] ?hx ?hy ?hg ?hi ?ho ?h1 ?_); (case hx => rfl); (case hy => rfl); (case hg => exact HJ.out); (case hi => exact sizeJp); (case ho => rfl); (case h1 => simp [Value.oneCell']); intro w8 h1 e1 g1; have HRn := hide h1; have HGn := hide (grown_spoil HG.out (by rw [HBX.out]; exact HLE.out) g1); clear h1 e1 g1) | fail)
  refine bodyPost_ret (J.results_row rfl _ _ BV 70 #[.int .i64 i, .int .i64 sq, .int .i64 x5, .int .i64 now, .int .i64 (now + x2), .int .i64 d, .int .i64 0] (0, 0) _ rfl HRn.out Tryz.underlying70 rfl sizeJp) rfl ?_
  exact ⟨rfl, HGn.out⟩
/-- What put answers. -/
def putB (L : LocV) (now : Int) (i : Nat) : Bool := isB (L.taskAt i) (L.turnAt i) now && decide (putE L.jobs (newJob L now i) = 0)
def putD (L : LocV) (now : Int) (i : Nat) : Int := if putB L now i = true then relD (L.taskAt i) (L.turnAt i) now else 0
theorem stepV_put (L : LocV) (now : Int) (i : Nat) : stepV now L i = if putB L now i = true then [⟨1, L.idx, i, putD L now i⟩] else [] := by
  unfold stepV putD putB
  by_cases h1 : isB (L.taskAt i) (L.turnAt i) now = true
  · by_cases h2 : putE L.jobs (newJob L now i) = 0
    · simp [h1, h2]
    · simp [h1, h2]
  · simp [h1]
theorem turn_same {L : LocV} {i : Nat} (hi : i < L.turns.length) : { L with turns := L.turns.set i (L.turnAt i) } = L := by
  have : L.turns.set i (L.turnAt i) = L.turns := by
    apply List.ext_getElem?
    intro k
    rw [List.getElem?_set]
    by_cases h : i = k
    · subst h
      rw [if_pos rfl, if_pos hi]
      unfold LocV.turnAt
      rw [List.getElem?_eq_getElem hi]
      rfl
    · rw [if_neg h]
  rw [this]
set_option maxRecDepth 100000 in
set_option maxHeartbeats 16000000 in
theorem put_at {lo b g n c m : Nat} {q vj : Value} {ms : List RunM} {L : LocV} (i : Nat) (now : Int) (w W : World) (hg : w.grownBy W none) (hlo : w.heap.size ≤ lo) (h : PLoc lo q W b (.slice (some ⟨g, 0, none⟩) n c) vj ms L) (hi : i < n) (hlm : L.tasks.length = n) (hF : Fine L m) (hmb : m ≤ 2000000) (hq : ∀ k, q.ownBlock = some k → k < W.heap.size) (hn0 : 0 ≤ now) (hn1 : now ≤ 1099511627776) :
    Calls Tryz.prog 66 #[.pointer (some ⟨b, 0, none⟩), .int .i64 i, .int .i64 now] W fun e w' => e = .returned (.tuple #[.int .i64 (putD L now i), .bool (putB L now i)]) ∧ (∃ ms', PNew lo q W.heap.size w' b (.slice (some ⟨g, 0, none⟩) n c) vj ms' (stepL now L i)) ∧ w.grownBy w' none ∧ W.heap.size ≤ w'.heap.size ∧ ∀ k, k < W.heap.size → k ≠ b → k ≠ g → w'.heap[k]? = W.heap[k]? := by
  have c2 : W.cell? ⟨b, 2, none⟩ = some (.slice (some ⟨g, 0, none⟩) n c) := blk_cell h.box 2
  obtain ⟨m0, hm⟩ : ∃ m, ms[i]? = some m := ⟨_, List.getElem?_eq_getElem (by rw [h.mlen, hlm]; exact hi)⟩
  have HTK := hide (fun V (vj' : Value) (ms' : List RunM) (L' : LocV) (hT : L'.tasks = L.tasks) (hV : PLoc lo q V b (.slice (some ⟨g, 0, none⟩) n c) vj' ms' L') => (by have := hV.task (i := i) (by rw [hT, hlm]; exact hi); rw [show L'.taskAt i = L.taskAt i from by unfold LocV.taskAt; rw [hT]] at this; exact this : V.cell? ⟨g, i * 9, none⟩ = some (.int .i64 (L.taskAt i).kind) ∧ V.cell? ⟨g, i * 9 + 1, none⟩ = some (.int .i64 (L.taskAt i).period) ∧ V.cell? ⟨g, i * 9 + 2, none⟩ = some (.int .i64 (L.taskAt i).deadline) ∧ V.cell? ⟨g, i * 9 + 3, none⟩ = some (.int .i64 (L.taskAt i).clow) ∧ V.cell? ⟨g, i * 9 + 4, none⟩ = some (.int .i64 (L.taskAt i).chigh) ∧ V.cell? ⟨g, i * 9 + 5, none⟩ = some (.int .i64 (L.taskAt i).prio)))
  have HM := hide hm
  have HLB := hide h.hb
  have HGE := hide h.ge
  have HWL := hide hlo
  have HGw := hide hg
  have HQ := hide hq
  have HL0 := hide h
  have CR := hide (fun V (hV : PLoc lo q V b (.slice (some ⟨g, 0, none⟩) n c) vj ms L) (hs : W.heap.size ≤ V.heap.size) => release_at (L.taskAt i) i m0 now V hV HM.out (fun k hk => Nat.lt_of_lt_of_le (HQ.out k hk) hs) hF.turns)
  have hx1 := J.may_parts (hF.taskMay i (by omega))
  have hsq := hF.seq0 i (by omega)
  have hturn := hF.turnMay i (by omega)
  have hiT : i < L.turns.length := by rw [hF.turns]; omega
  have hjob := hF.row
  obtain ⟨D, hD⟩ : ∃ D, relD (L.taskAt i) (L.turnAt i) now = D := ⟨_, rfl⟩
  obtain ⟨IS, hIS⟩ : ∃ D, isB (L.taskAt i) (L.turnAt i) now = D := ⟨_, rfl⟩
  have hst : stepL now L i = if IS = true then (if putE L.jobs (newJob L now i) = 0 then { L with turns := L.turns.set i (relS (L.taskAt i) (L.turnAt i) now), seqs := L.seqs.set i (L.seqAt i + 1), jobs := putV L.jobs (newJob L now i) } else { L with turns := L.turns.set i (relS (L.taskAt i) (L.turnAt i) now) }) else { L with turns := L.turns.set i (relS (L.taskAt i) (L.turnAt i) now) } := by
    unfold stepL
    rw [hIS]
    cases IS with
    | true => rfl
    | false =>
      rw [if_neg (by decide), if_neg (by decide)]
      have : relS (L.taskAt i) (L.turnAt i) now = L.turnAt i := by
        have ha : atMay (L.taskAt i) (L.turnAt i) now = true := at_ok (hF.taskMay i (by omega)) hturn hn0 hn1
        unfold isB at hIS
        rw [ha, Bool.true_and] at hIS
        unfold relS
        rw [if_pos ha, if_neg (by rw [hIS]; decide)]
      rw [this]
      exact (turn_same hiT).symm
  have hpb : putB L now i = (IS && decide (putE L.jobs (newJob L now i) = 0)) := by unfold putB; rw [hIS]
  have hpd : putD L now i = if (IS && decide (putE L.jobs (newJob L now i) = 0)) = true then D else 0 := by unfold putD; rw [hpb, hD]
  have hnj : newJob L now i = ⟨i, L.seqAt i, (L.taskAt i).prio, now, now + (L.taskAt i).deadline, D, 0⟩ := by unfold newJob; rw [hD]
  rw [hst, hpd, hpb, hnj]
  rw [hD, hIS] at CR
  have HSL := hide hF.seqs
  clear hst hpd hpb hnj hD hIS hm hg hlo hq h
  generalize relS (L.taskAt i) (L.turnAt i) now = PS at *
  generalize hL9 : ({ L with turns := L.turns.set i PS } : LocV) = L9 at *
  have HT9 : Hid (L9.tasks = L.tasks) := hide (by rw [← hL9])
  have HU9 : Hid (L9.seqs = L.seqs) := hide (by rw [← hL9])
  have HJ9 : Hid (L9.jobs = L.jobs) := hide (by rw [← hL9])
  have HSQ9 : Hid (L9.seqAt i = L.seqAt i) := hide (by rw [← hL9]; rfl)
  have HL9 := hide hL9
  clear hL9
  obtain ⟨sq, hsqe⟩ : ∃ s, L.seqAt i = s := ⟨_, rfl⟩
  rw [hsqe] at hsq HSQ9 ⊢
  have HSQE := hide hsqe
  clear hsqe
  have hs1 := hsq.1
  have hs2 : sq ≤ 2000000 := by have := hsq.2; omega
  clear hsq
  generalize hT : L.taskAt i = T at *
  obtain ⟨x0, x1, x2, x3, x4, x5⟩ := T
  clear hT
  dsimp only at HTK hx1 ⊢
  obtain ⟨-, -, hx1b, hx2a, hx2b, -⟩ := hx1
  have CJ := hide (fun (s : Int) a pn pc V => job_of_any x0 x1 x2 x3 x4 x5 s sq i D now a pn pc hn0 hn1 (by omega) (by omega) V)
  obtain ⟨E, hE⟩ : ∃ E, putE L.jobs ⟨i, sq, x5, now, now + x2, D, 0⟩ = E := ⟨_, rfl⟩
  rw [hE]
  have HPE := hide hE
  clear hE
  have hq0 : ¬((i : Int) < 0) := by omega
  have hq2 : (i : Int) < (n : Int) := by omega
  clear hturn hiT
  go_enter Tryz.func66, Tryz.ntmps66
  go_upto_region 2 with (first | fail)
  clear c2
  refine wp_region_held_drew (S := fun V => V.cell? ⟨g, i * 9, none⟩ = some (.int .i64 x0) ∧ V.cell? ⟨g, i * 9 + 1, none⟩ = some (.int .i64 x1) ∧ V.cell? ⟨g, i * 9 + 2, none⟩ = some (.int .i64 x2) ∧ V.cell? ⟨g, i * 9 + 3, none⟩ = some (.int .i64 x3) ∧ V.cell? ⟨g, i * 9 + 4, none⟩ = some (.int .i64 x4) ∧ V.cell? ⟨g, i * 9 + 5, none⟩ = some (.int .i64 x5)) (by kernel_rfl) (HTK.out _ _ _ _ rfl (HL0.out.grown (grownBy_draws W 1 none))) (fun hHeld => ?_)
  have HP := hide (HL0.out.grown (grownBy_draws W 1 none))
  have HGW := hide (grownBy_draws W 1 none)
  have hdd : W.drewN 1 = W.drew := rfl
  rw [hdd] at HGW HP
  clear hdd
  generalize W.drew = V0 at *
  refine take_put (i := 0) (v := .pointer (some ⟨g, i * 9, none⟩)) 20 rfl rfl (by kernel_rfl) (by kernel_rfl) (by kernel_rfl) (fun _ _ _ h => h) (Or.inl ⟨by rfl, by intro Wy hSW; go_simp⟩) (by assumption) ?_
  (try simp only [Act.put, List.setIfInBounds_toArray, List.set_cons_zero, List.set_cons_succ])
  refine take_put (i := 1) (v := .pointer (some ⟨g, i * 9, none⟩)) 21 rfl rfl (by kernel_rfl) (by kernel_rfl) (by kernel_rfl) (fun _ _ _ h => h) (Or.inl ⟨by rfl, by intro Wy hSW; go_simp⟩) (by assumption) ?_
  (try simp only [Act.put, List.setIfInBounds_toArray, List.set_cons_zero, List.set_cons_succ])
  refine take_put (i := 2) (v := .pointer (some ⟨g, i * 9 + 6, none⟩)) 22 rfl rfl (by kernel_rfl) (by kernel_rfl) (by kernel_rfl) (fun _ _ _ h => h) (Or.inl ⟨by rfl, by intro Wy hSW; go_simp⟩) (by assumption) ?_
  (try simp only [Act.put, List.setIfInBounds_toArray, List.set_cons_zero, List.set_cons_succ])
  refine take_put (i := 3) (v := .pointer (some ⟨g, i * 9, none⟩)) 23 rfl rfl (by kernel_rfl) (by kernel_rfl) (by kernel_rfl) (fun _ _ _ h => h) (Or.inl ⟨by rfl, by intro Wy hSW; go_simp⟩) (by assumption) ?_
  (try simp only [Act.put, List.setIfInBounds_toArray, List.set_cons_zero, List.set_cons_succ])
  refine take_put (i := 4) (v := .pointer (some ⟨g, i * 9, none⟩)) 24 rfl rfl (by kernel_rfl) (by kernel_rfl) (by kernel_rfl) (fun _ _ _ h => h) (Or.inl ⟨by rfl, by intro Wy hSW; go_simp⟩) (by assumption) ?_
  (try simp only [Act.put, List.setIfInBounds_toArray, List.set_cons_zero, List.set_cons_succ])
  refine take_put (i := 5) (v := .pointer (some ⟨g, i * 9, none⟩)) 25 rfl rfl (by kernel_rfl) (by kernel_rfl) (by kernel_rfl) (fun _ _ _ h => h) (Or.inl ⟨by rfl, by intro Wy hSW; go_simp⟩) (by assumption) ?_
  (try simp only [Act.put, List.setIfInBounds_toArray, List.set_cons_zero, List.set_cons_succ])
  refine take_put (i := 6) (v := .agg #[.int .i64 x0, .int .i64 x1, .int .i64 x2, .int .i64 x3, .int .i64 x4, .int .i64 x5]) 26 rfl rfl (by kernel_rfl) (by kernel_rfl) (by kernel_rfl) (fun _ _ _ h => h) (Or.inl ⟨by rfl, by intro Wy hSW; have hc := hSW; go_simp⟩) (by assumption) ?_
  (try simp only [Act.put, List.setIfInBounds_toArray, List.set_cons_zero, List.set_cons_succ])
  refine take_put (i := 7) (v := .int .i64 now) 27 rfl rfl (by kernel_rfl) (by kernel_rfl) (by kernel_rfl) (fun _ _ _ h => h) (Or.inl ⟨by rfl, by intro Wy hSW; go_simp⟩) (by assumption) ?_
  (try simp only [Act.put, List.setIfInBounds_toArray, List.set_cons_zero, List.set_cons_succ])
  refine wpAnyH_ready (rs := [8]) (by kernel_rfl) (by simp) ?_
  refine AllReadyH.cons rfl (fun Kx hKx => ?_) AllReadyH.nil
  go_simp
  refine (CR.out _ HP.out HGW.out.size).mono ?_; rintro e V1 ⟨rfl, ⟨ms1, hP1⟩, hg⟩
  have HGX := hide (grown_any HGW.out hg)
  clear hg HGW HP hHeld
  have HP := hide hP1
  clear hP1
  refine hKx.out _ _ (HTK.out _ _ _ _ HT9.out HP.out) (fun hHeld => ?_)
  clear hKx Kx
  (try simp only [Act.put])
  refine take_put (i := 9) (v := .tuple #[.int .i64 D, .bool IS]) 19 rfl rfl (by kernel_rfl) (by kernel_rfl) (by kernel_rfl) (fun _ _ _ h => h) (Or.inl ⟨by rfl, by intro Wy hSW; go_simp⟩) (by assumption) ?_
  (try simp only [Act.put, List.setIfInBounds_toArray, List.set_cons_zero, List.set_cons_succ])
  refine take_put (i := 10) (v := .int .i64 D) 29 rfl rfl (by kernel_rfl) (by kernel_rfl) (by kernel_rfl) (fun _ _ _ h => h) (Or.inl ⟨by rfl, by intro Wy hSW; go_simp⟩) (by assumption) ?_
  (try simp only [Act.put, List.setIfInBounds_toArray, List.set_cons_zero, List.set_cons_succ])
  refine take_put (i := 11) (v := .bool IS) 30 rfl rfl (by kernel_rfl) (by kernel_rfl) (by kernel_rfl) (fun _ _ _ h => h) (Or.inl ⟨by rfl, by intro Wy hSW; go_simp⟩) (by assumption) ?_
  (try simp only [Act.put, List.setIfInBounds_toArray, List.set_cons_zero, List.set_cons_succ])
  refine take_put (i := 12) (v := .int .i64 D) 9 rfl rfl (by kernel_rfl) (by kernel_rfl) (by kernel_rfl) (fun _ _ _ h => h) (Or.inl ⟨by rfl, by intro Wy hSW; go_simp⟩) (by assumption) ?_
  (try simp only [Act.put, List.setIfInBounds_toArray, List.set_cons_zero, List.set_cons_succ])
  refine take_put (i := 13) (v := .bool IS) 10 rfl rfl (by kernel_rfl) (by kernel_rfl) (by kernel_rfl) (fun _ _ _ h => h) (Or.inl ⟨by rfl, by intro Wy hSW; go_simp⟩) (by assumption) ?_
  (try simp only [Act.put, List.setIfInBounds_toArray, List.set_cons_zero, List.set_cons_succ])
  refine wpAnyH_done (by kernel_rfl) ?_ _
  clear hHeld
  generalize V1 = Y at *
  have HKg := hide (fun k (hk : k < W.heap.size) (hb : k ≠ b) (hgk : k ≠ g) => HGX.out.block k hk (by simp; omega))
  have HGs := hide (grown_spoil HGw.out (Nat.le_trans HWL.out HGE.out.1) HGX.out)
  have HZs := hide HGX.out.size
  clear HGX
  cases IS with
  | false =>
    go_wp2
    go_ret2
    exact ⟨rfl, ⟨_, ⟨⟨_, HP.out, OrNew.refl _ _⟩⟩⟩, HGs.out, HZs.out, fun k hk hb hj => HKg.out k hk hb hj⟩
  | true =>
    obtain ⟨m1, hm1⟩ : ∃ m1, ms1[i]? = some m1 := ⟨_, List.getElem?_eq_getElem (by rw [HP.out.mlen, HT9.out, hlm]; exact hi)⟩
    have HM1 := hide hm1
    have HC9 := hide (fun V (vj' : Value) (hV : PLoc lo q V b (.slice (some ⟨g, 0, none⟩) n c) vj' ms1 L9) => (⟨hV.cell hm1 (k := 6) rfl, hV.cell hm1 (k := 7) rfl, by have := hV.cell hm1 (k := 8) (u := .int .i64 m1.came) rfl; rw [(hV.each i m1 hm1).2.2.1, HSQ9.out] at this; exact this⟩ : V.cell? ⟨g, i * 9 + 6, none⟩ = some (.int .i64 m1.last) ∧ V.cell? ⟨g, i * 9 + 7, none⟩ = some (.slice m1.pa m1.pn m1.pc) ∧ V.cell? ⟨g, i * 9 + 8, none⟩ = some (.int .i64 sq)))
    clear hm1
    generalize m1.last = tl at *
    generalize m1.pa = ta at *
    generalize m1.pn = tb at *
    generalize m1.pc = tc at *
    obtain ⟨aj, cj, hvj⟩ := HP.out.jobs.form
    generalize hnj : L9.jobs.length = nj at *
    have HVJ := hide hvj
    have HS9 : Hid (∀ V, PLoc lo q V b (.slice (some ⟨g, 0, none⟩) n c) vj ms1 L9 → (V.cell? ⟨b, 3, none⟩ = some (.slice aj nj cj) ∧ V.cell? ⟨g, i * 9, none⟩ = some (.int .i64 x0) ∧ V.cell? ⟨g, i * 9 + 1, none⟩ = some (.int .i64 x1) ∧ V.cell? ⟨g, i * 9 + 2, none⟩ = some (.int .i64 x2) ∧ V.cell? ⟨g, i * 9 + 3, none⟩ = some (.int .i64 x3) ∧ V.cell? ⟨g, i * 9 + 4, none⟩ = some (.int .i64 x4) ∧ V.cell? ⟨g, i * 9 + 5, none⟩ = some (.int .i64 x5) ∧ V.cell? ⟨g, i * 9 + 6, none⟩ = some (.int .i64 tl) ∧ V.cell? ⟨g, i * 9 + 7, none⟩ = some (.slice ta tb tc) ∧ V.cell? ⟨g, i * 9 + 8, none⟩ = some (.int .i64 sq))) := hide (fun V hV => ⟨by rw [← hvj]; exact blk_cell hV.box 3, (HTK.out _ _ _ _ HT9.out hV).1, (HTK.out _ _ _ _ HT9.out hV).2.1, (HTK.out _ _ _ _ HT9.out hV).2.2.1, (HTK.out _ _ _ _ HT9.out hV).2.2.2.1, (HTK.out _ _ _ _ HT9.out hV).2.2.2.2.1, (HTK.out _ _ _ _ HT9.out hV).2.2.2.2.2, HC9.out _ _ hV⟩)
    have CP := hide (fun V (hV : PLoc lo q V b (.slice (some ⟨g, 0, none⟩) n c) vj ms1 L9) => (by have := J.put_any vj L.jobs ⟨i, sq, x5, now, now + x2, D, 0⟩ V V (grownBy_refl _ _) (by rw [← HJ9.out]; exact hV.jobs.row); rw [hvj, HPE.out] at this; exact this))
    clear hvj hnj
    go_upto_region 5 with (first | fail)
    refine wp_region_held_drew (S := fun V => V.cell? ⟨b, 3, none⟩ = some (.slice aj nj cj) ∧ V.cell? ⟨g, i * 9, none⟩ = some (.int .i64 x0) ∧ V.cell? ⟨g, i * 9 + 1, none⟩ = some (.int .i64 x1) ∧ V.cell? ⟨g, i * 9 + 2, none⟩ = some (.int .i64 x2) ∧ V.cell? ⟨g, i * 9 + 3, none⟩ = some (.int .i64 x3) ∧ V.cell? ⟨g, i * 9 + 4, none⟩ = some (.int .i64 x4) ∧ V.cell? ⟨g, i * 9 + 5, none⟩ = some (.int .i64 x5) ∧ V.cell? ⟨g, i * 9 + 6, none⟩ = some (.int .i64 tl) ∧ V.cell? ⟨g, i * 9 + 7, none⟩ = some (.slice ta tb tc) ∧ V.cell? ⟨g, i * 9 + 8, none⟩ = some (.int .i64 sq)) (by kernel_rfl) (HS9.out _ (HP.out.grown (grownBy_draws Y 1 none))) (fun hHeld => ?_)
    have hgd := grownBy_draws Y 1 none
    have HPd := hide (HP.out.grown hgd)
    have HGX := hide hgd
    have hdd : Y.drewN 1 = Y.drew := rfl
    rw [hdd] at HPd HGX
    clear hdd hgd HP
    have HP := HPd
    clear HPd
    generalize Y.drew = Z0 at *
    refine take_put (i := 0) (v := .pointer (some ⟨b, 0, none⟩)) 34 rfl rfl (by kernel_rfl) (by kernel_rfl) (by kernel_rfl) (fun _ _ _ h => h) (Or.inl ⟨by rfl, by intro Wy hSW; go_simp⟩) (by assumption) ?_
    (try simp only [Act.put, List.setIfInBounds_toArray, List.set_cons_zero, List.set_cons_succ])
    refine take_put (i := 1) (v := .pointer (some ⟨b, 0, none⟩)) 35 rfl rfl (by kernel_rfl) (by kernel_rfl) (by kernel_rfl) (fun _ _ _ h => h) (Or.inl ⟨by rfl, by intro Wy hSW; go_simp⟩) (by assumption) ?_
    (try simp only [Act.put, List.setIfInBounds_toArray, List.set_cons_zero, List.set_cons_succ])
    refine take_put (i := 2) (v := .pointer (some ⟨b, 3, none⟩)) 36 rfl rfl (by kernel_rfl) (by kernel_rfl) (by kernel_rfl) (fun _ _ _ h => h) (Or.inl ⟨by rfl, by intro Wy hSW; go_simp⟩) (by assumption) ?_
    (try simp only [Act.put, List.setIfInBounds_toArray, List.set_cons_zero, List.set_cons_succ])
    refine take_put (i := 3) (v := .slice aj nj cj) 37 rfl rfl (by kernel_rfl) (by kernel_rfl) (by kernel_rfl) (fun _ _ _ h => h) (Or.inl ⟨by rfl, by intro Wy hSW; have hc := hSW.1; go_simp⟩) (by assumption) ?_
    (try simp only [Act.put, List.setIfInBounds_toArray, List.set_cons_zero, List.set_cons_succ])
    refine take_put (i := 4) (v := .pointer (some ⟨g, i * 9, none⟩)) 38 rfl rfl (by kernel_rfl) (by kernel_rfl) (by kernel_rfl) (fun _ _ _ h => h) (Or.inl ⟨by rfl, by intro Wy hSW; go_simp⟩) (by assumption) ?_
    (try simp only [Act.put, List.setIfInBounds_toArray, List.set_cons_zero, List.set_cons_succ])
    refine take_put (i := 5) (v := .pointer (some ⟨g, i * 9, none⟩)) 39 rfl rfl (by kernel_rfl) (by kernel_rfl) (by kernel_rfl) (fun _ _ _ h => h) (Or.inl ⟨by rfl, by intro Wy hSW; go_simp⟩) (by assumption) ?_
    (try simp only [Act.put, List.setIfInBounds_toArray, List.set_cons_zero, List.set_cons_succ])
    refine take_put (i := 6) (v := .agg #[.int .i64 x0, .int .i64 x1, .int .i64 x2, .int .i64 x3, .int .i64 x4, .int .i64 x5, .int .i64 tl, .slice ta tb tc, .int .i64 sq]) 40 rfl rfl (by kernel_rfl) (by kernel_rfl) (by kernel_rfl) (fun _ _ _ h => h) (Or.inl ⟨by rfl, by intro Wy hSW; have hc := (⟨hSW.2.1, hSW.2.2.1, hSW.2.2.2.1, hSW.2.2.2.2.1, hSW.2.2.2.2.2.1, hSW.2.2.2.2.2.2.1, hSW.2.2.2.2.2.2.2.1, hSW.2.2.2.2.2.2.2.2.1, hSW.2.2.2.2.2.2.2.2.2⟩ : _ ∧ _ ∧ _ ∧ _ ∧ _ ∧ _ ∧ _ ∧ _ ∧ _); go_simp⟩) (by assumption) ?_
    (try simp only [Act.put, List.setIfInBounds_toArray, List.set_cons_zero, List.set_cons_succ])
    refine take_put (i := 7) (v := .int .i64 i) 41 rfl rfl (by kernel_rfl) (by kernel_rfl) (by kernel_rfl) (fun _ _ _ h => h) (Or.inl ⟨by rfl, by intro Wy hSW; go_simp⟩) (by assumption) ?_
    (try simp only [Act.put, List.setIfInBounds_toArray, List.set_cons_zero, List.set_cons_succ])
    refine take_put (i := 8) (v := .int .i64 D) 42 rfl rfl (by kernel_rfl) (by kernel_rfl) (by kernel_rfl) (fun _ _ _ h => h) (Or.inl ⟨by rfl, by intro Wy hSW; go_simp⟩) (by assumption) ?_
    (try simp only [Act.put, List.setIfInBounds_toArray, List.set_cons_zero, List.set_cons_succ])
    refine take_put (i := 9) (v := .int .i64 now) 43 rfl rfl (by kernel_rfl) (by kernel_rfl) (by kernel_rfl) (fun _ _ _ h => h) (Or.inl ⟨by rfl, by intro Wy hSW; go_simp⟩) (by assumption) ?_
    (try simp only [Act.put, List.setIfInBounds_toArray, List.set_cons_zero, List.set_cons_succ])
    refine wpAnyH_ready (rs := [10]) (by kernel_rfl) (by simp) ?_
    refine AllReadyH.cons rfl (fun Kx hKx => ?_) AllReadyH.nil
    go_simp
    refine (CJ.out _ _ _ _ _).mono ?_; rintro e Z1 ⟨rfl, hg⟩
    have HPn := hide (HP.out.grown hg)
    have HGn := hide (grownBy_trans HGX.out hg)
    clear hg HGX HP hHeld
    have HP := HPn
    have HGX := HGn
    clear HPn HGn
    refine hKx.out _ _ (HS9.out _ HP.out) (fun hHeld => ?_)
    clear hKx Kx
    (try simp only [Act.put])
    refine wpAnyH_ready (rs := [11]) (by kernel_rfl) (by simp) ?_
    refine AllReadyH.cons rfl (fun Kx hKx => ?_) AllReadyH.nil
    go_simp
    refine (CP.out _ HP.out).mono ?_; rintro e Z2 ⟨vp, rfl, ho, hg⟩
    obtain ⟨ap, cp, rfl⟩ := ho.form
    have HNJ := hide (show OrNew W.heap.size vj (.slice ap _ cp) from orNew_new ho (Nat.le_trans HZs.out HGX.out.size))
    have HOJ := hide (show J.Own lo Z2 _ _ from own_mono ho (Nat.le_trans HL0.out.loW (Nat.le_trans HZs.out HGX.out.size)))
    have HPn := hide (HP.out.grown hg)
    have HGn := hide (grownBy_trans HGX.out hg)
    clear ho hg HGX HP hHeld
    have HP := HPn
    have HGX := HGn
    clear HPn HGn
    refine hKx.out _ _ (HS9.out _ HP.out) (fun hHeld => ?_)
    clear hKx Kx
    (try simp only [Act.put])
    refine take_put (i := 12) (v := .tuple #[.slice ap (putV L.jobs ⟨i, sq, x5, now, now + x2, D, 0⟩).length cp, .int .i64 E]) 33 rfl rfl (by kernel_rfl) (by kernel_rfl) (by kernel_rfl) (fun _ _ _ h => h) (Or.inl ⟨by rfl, by intro Wy hSW; go_simp⟩) (by assumption) ?_
    (try simp only [Act.put, List.setIfInBounds_toArray, List.set_cons_zero, List.set_cons_succ])
    refine take_put (i := 13) (v := .slice ap (putV L.jobs ⟨i, sq, x5, now, now + x2, D, 0⟩).length cp) 46 rfl rfl (by kernel_rfl) (by kernel_rfl) (by kernel_rfl) (fun _ _ _ h => h) (Or.inl ⟨by rfl, by intro Wy hSW; go_simp⟩) (by assumption) ?_
    (try simp only [Act.put, List.setIfInBounds_toArray, List.set_cons_zero, List.set_cons_succ])
    refine take_put (i := 14) (v := .int .i64 E) 47 rfl rfl (by kernel_rfl) (by kernel_rfl) (by kernel_rfl) (fun _ _ _ h => h) (Or.inl ⟨by rfl, by intro Wy hSW; go_simp⟩) (by assumption) ?_
    (try simp only [Act.put, List.setIfInBounds_toArray, List.set_cons_zero, List.set_cons_succ])
    refine take_put (i := 15) (v := .slice ap (putV L.jobs ⟨i, sq, x5, now, now + x2, D, 0⟩).length cp) 11 rfl rfl (by kernel_rfl) (by kernel_rfl) (by kernel_rfl) (fun _ _ _ h => h) (Or.inl ⟨by rfl, by intro Wy hSW; go_simp⟩) (by assumption) ?_
    (try simp only [Act.put, List.setIfInBounds_toArray, List.set_cons_zero, List.set_cons_succ])
    refine take_put (i := 16) (v := .int .i64 E) 12 rfl rfl (by kernel_rfl) (by kernel_rfl) (by kernel_rfl) (fun _ _ _ h => h) (Or.inl ⟨by rfl, by intro Wy hSW; go_simp⟩) (by assumption) ?_
    (try simp only [Act.put, List.setIfInBounds_toArray, List.set_cons_zero, List.set_cons_succ])
    refine wpAnyH_done (by kernel_rfl) ?_ _
    clear hHeld
    generalize Z2 = Q at *
    have HKn := hide (fun k (hk : k < W.heap.size) (hb : k ≠ b) (hgk : k ≠ g) => (HGX.out.block k (Nat.lt_of_lt_of_le hk HZs.out) (by simp)).trans (HKg.out k hk hb hgk))
    have HGn := hide (grownBy_trans HGs.out HGX.out)
    have HZn := hide (Nat.le_trans HZs.out HGX.out.size)
    clear HKg HGs HZs HGX
    have HKg := HKn
    have HGs := HGn
    have HZs := HZn
    clear HKn HGn HZn
    by_cases hE0 : E = 0
    · subst hE0
      have c3 := blk_cell HP.out.box 3
      have f3 := blk_free HP.out.box 3
      go_upto_region 9 with (first | fail)
      clear c3 f3
      have hgS := grownBy_set Q b 3 (.slice ap (putV L.jobs ⟨i, sq, x5, now, now + x2, D, 0⟩).length cp)
      have HP1 := hide (HP.out.put (v := .slice ap (putV L.jobs ⟨i, sq, x5, now, now + x2, D, 0⟩).length cp) (js := putV L.jobs ⟨i, sq, x5, now, now + x2, D, 0⟩) (ownP_of HOJ.out))
      have HK1 := hide (fun k (hk : k < W.heap.size) (hb : k ≠ b) (hgk : k ≠ g) => (hgS.block k (Nat.lt_of_lt_of_le hk HZs.out) (by simp; omega)).trans (HKg.out k hk hb hgk))
      have HG1 := hide (grown_spoil HGs.out (Nat.le_trans HWL.out HLB.out) hgS)
      have HZ1 := hide (Nat.le_trans HZs.out hgS.size)
      clear hgS HP HKg HGs HZs
      generalize Q.setCell ⟨b, 3, none⟩ (.slice ap (putV L.jobs ⟨i, sq, x5, now, now + x2, D, 0⟩).length cp) = Q1 at *
      have k8 := HP1.out.cell HM1.out (k := 8) (u := .int .i64 m1.came) rfl
      rw [(HP1.out.each i m1 HM1.out).2.2.1] at k8
      rw [show ({ L9 with jobs := putV L.jobs ⟨i, sq, x5, now, now + x2, D, 0⟩ } : LocV).seqAt i = sq from HSQ9.out] at k8
      have f8 := HP1.out.free (i * 9 + 8)
      go_upto_region 10 with (first | fail)
      clear k8 f8
      have hgS := grownBy_set Q1 g (i * 9 + 8) (.int .i64 (sq + 1))
      have HP2 := hide (HP1.out.count (by show L9.seqs.length = L9.tasks.length; rw [HU9.out, HT9.out]; exact HSL.out) HM1.out (sq + 1))
      have HK2 := hide (fun k (hk : k < W.heap.size) (hb : k ≠ b) (hgk : k ≠ g) => (hgS.block k (Nat.lt_of_lt_of_le hk HZ1.out) (by simp; omega)).trans (HK1.out k hk hb hgk))
      have HG2 := hide (grown_spoil HG1.out (Nat.le_trans HWL.out HGE.out.1) hgS)
      have HZ2 := hide (Nat.le_trans HZ1.out hgS.size)
      clear hgS HP1 HK1 HG1 HZ1
      generalize Q1.setCell ⟨g, i * 9 + 8, none⟩ (.int .i64 (sq + 1)) = Q2 at *
      have HLL : Hid (({ { L9 with jobs := putV L.jobs ⟨i, sq, x5, now, now + x2, D, 0⟩ } with seqs := ({ L9 with jobs := putV L.jobs ⟨i, sq, x5, now, now + x2, D, 0⟩ } : LocV).seqs.set i (sq + 1) } : LocV) = { L with turns := L.turns.set i PS, seqs := L.seqs.set i (sq + 1), jobs := putV L.jobs ⟨i, sq, x5, now, now + x2, D, 0⟩ }) := hide (by rw [← HL9.out])
      rw [HLL.out] at HP2
      go_wp2
      go_ret2
      exact ⟨rfl, ⟨_, ⟨⟨_, HP2.out, HNJ.out⟩⟩⟩, HG2.out, HZ2.out, HK2.out⟩
    · have hEb : (E != 0) = true := by simpa using hE0
      have hE1 : decide (E = 0) = false := decide_eq_false hE0
      go_wp2
      go_ret2
      exact ⟨by first | rfl | simp [hE0], ⟨_, ⟨⟨_, by first | exact HP.out | (rw [if_neg hE0]; exact HP.out) | (simp only [hE0]; exact HP.out), OrNew.refl _ _⟩⟩⟩, HGs.out, HZs.out, HKg.out⟩
#print axioms put_at
end Go.Proofs.YtlppfocoonnpjaaGreatDoor.L

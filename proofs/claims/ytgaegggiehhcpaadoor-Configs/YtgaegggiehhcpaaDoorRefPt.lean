/- The contract of the document's own Reader.part, proved over the translation. -/
import Derived.Test.YtgaegggiehhcpaaDoorRefTk
import Derived.Test.YtgaegggiehhcpaaDoorCopyC
import Derived.Deep.CutBlock
namespace Go.Proofs.YtgaegggiehhcpaaDoor.R5
open Go.RowKit
attribute [local go_sem] alloc_drewN setCell_drewN

/-- As the document reads a list: no more once there is nothing to read. -/
def manyB {α : Type} (f : St → α × St) : Nat → St → List α × St
  | 0, st => ([], st)
  | n + 1, st => if (manyB f n st).2.2 = true then manyB f n st else ((manyB f n st).1 ++ [(f (manyB f n st).2).1], (f (manyB f n st).2).2)
def allB {α : Type} (f : St → α × St) (st : St) : List α × St := manyB f (numR 1 st).1.toNat (numR 1 st).2
theorem manyB_stay {α : Type} {f : St → α × St} {st : St} {j : Nat} (h : (manyB f j st).2.2 = true) : ∀ k, manyB f (j + k) st = manyB f j st
  | 0 => rfl
  | k + 1 => by
    have e := manyB_stay h k
    show (if (manyB f (j + k) st).2.2 = true then manyB f (j + k) st else _) = _
    rw [e, if_pos h]
theorem manyB_stop {α : Type} {f : St → α × St} {st : St} {j n : Nat} (h : (manyB f j st).2.2 = true) (hj : j ≤ n) : manyB f n st = manyB f j st := by
  have := manyB_stay h (n - j)
  rwa [show j + (n - j) = n by omega] at this
theorem manyB_next {α : Type} {f : St → α × St} {st : St} {j : Nat} (h : (manyB f j st).2.2 = false) : manyB f (j + 1) st = ((manyB f j st).1 ++ [(f (manyB f j st).2).1], (f (manyB f j st).2).2) := by
  show (if _ then _ else _) = _
  rw [if_neg (by rw [h]; decide)]
def partB (st : St) : PartV × St :=
  let a := numR 1 st
  let t := allB taskR a.2
  let c := allB insR t.2
  (⟨a.1, t.1, c.1⟩, c.2)
theorem grown_own {w W W2 : World} {r : Option Nat} {base e size n : Nat} {v : Value} {xs : List Value} (h : w.grownBy W r) (hv : W.ownsRow base e size v n xs) (hb : w.heap.size ≤ base) (hg : W.grownBy W2 v.ownBlock) : w.grownBy W2 r := by
  rcases hv.2 with ⟨rfl, _⟩ | ⟨g, cap, cur, rfl, hbg, _⟩
  · exact grownBy_trans h (grownBy_any hg)
  · exact ⟨hg.os.trans h.os, hg.tape.trans h.tape, hg.output.trans h.output, Nat.le_trans h.size hg.size, fun k hk hn => (hg.block k (by have := h.size; omega) (by simp [Value.ownBlock]; omega)).trans (h.block k hk hn)⟩
theorem RN.app {W W2 : World} {b : Nat} {s : ByteArray} {st : St} {base e size n : Nat} {v : Value} {xs : List Value} (h : RN W b s st) (hv : W.ownsRow base e size v n xs) (hg : W.grownBy W2 v.ownBlock) (hne : e ≠ 79) : RN W2 b s st := by
  obtain ⟨h1, At, h2, h3, h4⟩ := h
  exact ⟨h1, At, h2, h3, Cp.box_app h4 hv hg hne⟩
theorem RN.at2 {W : World} {b : Nat} {s : ByteArray} {st : St} (h : RN W b s st) : W.cell? ⟨b, 2, none⟩ = some (.bool st.2) := by
  obtain ⟨h1, At, h2, h3, h4⟩ := h
  exact blk_cell h4 2
theorem RN.bytes {W : World} {b : Nat} {s : ByteArray} {st : St} (h : RN W b s st) : ∀ x ∈ st.1, 0 ≤ x ∧ x < 256 := by
  obtain ⟨_, At, _, h3, _⟩ := h
  rw [← h3]
  exact fun x hx => nums_mem (List.mem_of_mem_drop hx)
theorem num_one (b : Nat) (s : ByteArray) (st : St) (w : World) (h : RN w b s st) :
    Calls Tryd.prog 35 #[.pointer (some ⟨b, 0, none⟩), .int .i64 1] w fun e w' => e = .returned (.int .i64 (numR 1 st).1) ∧ RN w' b s (numR 1 st).2 ∧ w.grownBy w' (some b) := num_ref b 1 (by omega) s st w h
theorem num_two (b : Nat) (s : ByteArray) (st : St) (w : World) (h : RN w b s st) :
    Calls Tryd.prog 35 #[.pointer (some ⟨b, 0, none⟩), .int .i64 2] w fun e w' => e = .returned (.int .i64 (numR 2 st).1) ∧ RN w' b s (numR 2 st).2 ∧ w.grownBy w' (some b) := num_ref b 2 (by omega) s st w h
theorem set3_by (W : World) (B : Nat) (v0 v1 v2 : Value) : W.grownBy (((W.setCell ⟨B, 0, none⟩ v0).setCell ⟨B, 1, none⟩ v1).setCell ⟨B, 2, none⟩ v2) (some B) :=
  grownBy_trans (grownBy_set _ _ _ _) (grownBy_trans (grownBy_set _ _ _ _) (grownBy_set _ _ _ _))
theorem set3_box {W : World} {B t : Nat} {u0 u1 u2 v0 v1 v2 : Value} (h : W.heap[B]? = some (.cells #[u0, u1, u2] t (0, 0))) : (((W.setCell ⟨B, 0, none⟩ v0).setCell ⟨B, 1, none⟩ v1).setCell ⟨B, 2, none⟩ v2).heap[B]? = some (.cells #[v0, v1, v2] t (0, 0)) := by
  simp [World.setCell, Array.getElem?_modify, h]
theorem set3_grown {w W : World} {B : Nat} {r : Option Nat} (h : w.grownBy W r) (hB : w.heap.size ≤ B) (v0 v1 v2 : Value) : w.grownBy (((W.setCell ⟨B, 0, none⟩ v0).setCell ⟨B, 1, none⟩ v1).setCell ⟨B, 2, none⟩ v2) r :=
  grown_set_new hB (grown_set_new hB (grown_set_new hB h))

set_option maxRecDepth 100000 in
set_option maxHeartbeats 2000000 in
theorem part_ref (b : Nat) (s : ByteArray) (st : St) (w : World) (h : RN w b s st) :
    Calls Tryd.prog 36 #[.pointer (some ⟨b, 0, none⟩)] w fun e w' => ∃ q : PartM, e = .returned (.agg #[.int .i64 q.level, .slice q.ta q.tn q.tc, .slice q.ca q.cn q.cc]) ∧ Cp.PartOwn w.heap.size w' q (partB st).1 ∧ RN w' b s (partB st).2 ∧ w.grownBy w' (some b) := by
  have hbl := h.lt
  have CN := hide (fun st W (h : RN W b s st) => num_one b s st W h)
  have CT := hide (fun st W (h : RN W b s st) => task_ref b s st W h)
  unfold partB allB
  dsimp only
  have C0 := hide (fun W (h : RN W b s st) => CN.out st W h)
  generalize numR 1 st = r0 at *
  obtain ⟨lv, st1⟩ := r0
  dsimp only at C0 ⊢
  have C1 := hide (fun W (h : RN W b s st1) => CN.out st1 W h)
  have HB1 : Hid (∀ W, RN W b s st1 → 0 ≤ (numR 1 st1).1 ∧ (numR 1 st1).1 < 256) := fun W h => num1_byte h.bytes
  generalize numR 1 st1 = r1 at *
  obtain ⟨n, st2⟩ := r1
  dsimp only at C1 HB1 ⊢
  generalize hm1 : manyB taskR n.toNat st2 = r2 at *
  obtain ⟨ts, st3⟩ := r2
  have HM1 := hide hm1
  clear hm1
  have C2 := hide (fun W (h : RN W b s st3) => CN.out st3 W h)
  have HB2 : Hid (∀ W, RN W b s st3 → 0 ≤ (numR 1 st3).1 ∧ (numR 1 st3).1 < 256) := fun W h => num1_byte h.bytes
  dsimp only
  generalize numR 1 st3 = r3 at *
  obtain ⟨m, st4⟩ := r3
  dsimp only at C2 HB2 ⊢
  generalize hm2 : manyB insR m.toNat st4 = r4 at *
  obtain ⟨cd, st5⟩ := r4
  have HM2 := hide hm2
  clear hm2
  dsimp only
  have HR0 := hide (show RN (w.alloc (.cells #[.int .i64 0, .slice none 0 0, .slice none 0 0] 50)) b s st from h.kept (World.grownBy_alloc w (.cells #[.int .i64 0, .slice none 0 0, .slice none 0 0] 50) none) (by simp))
  have HG0 := hide (grownBy_any (r := some b) (World.grownBy_alloc w (.cells #[.int .i64 0, .slice none 0 0, .slice none 0 0] 50) none))
  have HX0 := hide (heap_alloc_new w (.cells #[.int .i64 0, .slice none 0 0, .slice none 0 0] 50))
  clear h
  go_enter Tryd.func36, Tryd.ntmps36
  go_upto_region 1 with fail
  generalize w.alloc (.cells #[.int .i64 0, .slice none 0 0, .slice none 0 0] 50) = v0 at *
  go_wp2_with (first | fail)
  refine (C0.out _ HR0.out).mono ?_; rintro e w1 ⟨rfl, hr, hg⟩
  have HG1 := hide (grownBy_trans HG0.out hg)
  have HX1 := hide (box_grown HX0.out hg (by simp; omega))
  have HR2 := hide (show RN (w1.alloc (.cells #[.int .i64 lv, .slice none 0 0, .slice none 0 0] 50)) b s st1 from hr.kept (World.grownBy_alloc w1 (.cells #[.int .i64 lv, .slice none 0 0, .slice none 0 0] 50) none) (by simp))
  have HG3 := hide (grownBy_trans HG1.out (grownBy_any (r := some b) (World.grownBy_alloc w1 (.cells #[.int .i64 lv, .slice none 0 0, .slice none 0 0] 50) none)))
  have HX3 := hide (box_grown HX1.out (World.grownBy_alloc w1 (.cells #[.int .i64 lv, .slice none 0 0, .slice none 0 0] 50) none) (by simp))
  have HY3 := hide (heap_alloc_new w1 (.cells #[.int .i64 lv, .slice none 0 0, .slice none 0 0] 50))
  have hP : w.heap.size < w1.heap.size := box_lt HX1.out
  clear hr hg HR0 HG0 HX0 HG1 HX1 C0
  go_upto_region 2 with fail
  generalize w1.alloc (.cells #[.int .i64 lv, .slice none 0 0, .slice none 0 0] 50) = v1 at *
  generalize w1.heap.size = P at *
  clear w1
  obtain ⟨hn0, hn1⟩ := HB1.out _ HR2.out
  obtain ⟨N, rfl⟩ : ∃ N : Nat, n = N := ⟨n.toNat, by omega⟩
  have HM := hide (show manyB taskR N st2 = (ts, st3) from HM1.out)
  clear HM1 hn0
  go_wp2_with (first | fail)
  refine (C1.out _ HR2.out).mono ?_; rintro e w2 ⟨rfl, hr, hg⟩
  have HR := hide hr
  have HG := hide (grownBy_trans HG3.out hg)
  have HX := hide (box_grown HX3.out hg (by simp; omega))
  have HY := hide (box_grown HY3.out hg (by simp; omega))
  clear hr hg HR2 HG3 HX3 HY3 C1 HB1
  go_upto_block 0 with fail
  go_cut [5] (fun _ V => ∃ (a : Option Addr) (c : Nat), Hid (V.heap[P]? = some (.cells #[.int .i64 lv, .slice a ts.length c, .slice none 0 0] 50 (0, 0))) ∧ Hid (V.ownsRow w.heap.size 52 6 (.slice a ts.length c) ts.length (shT.cells ts)) ∧ Hid (RN V b s st3) ∧ Hid (V.heap[w.heap.size]? = some (.cells #[.int .i64 0, .slice none 0 0, .slice none 0 0] 50 (0, 0))) ∧ Hid (w.grownBy V (some b)))
  case first =>
    go_wp2_with fail
    go_loopw [5] (fun i V => ∃ (j : Nat) (a : Option Addr) (c : Nat), j ≤ N ∧ i = .int .i64 j ∧ Hid ((manyB taskR j st2).1.length = j) ∧ Hid (V.heap[P]? = some (.cells #[.int .i64 lv, .slice a j c, .slice none 0 0] 50 (0, 0))) ∧ Hid (V.ownsRow w.heap.size 52 6 (.slice a j c) j (shT.cells (manyB taskR j st2).1)) ∧ Hid (RN V b s (manyB taskR j st2).2) ∧ Hid (V.heap[w.heap.size]? = some (.cells #[.int .i64 0, .slice none 0 0, .slice none 0 0] 50 (0, 0))) ∧ Hid (w.grownBy V (some b))) (fun i _ => N - (intOf i).toNat)
    case atStart => exact ⟨0, none, 0, by omega, rfl, rfl, HY, ⟨rfl, .inl ⟨rfl, rfl⟩⟩, HR, HX, HG⟩
    case round =>
      clear HR HG HX HY
      obtain ⟨j, a, c, hj, rfl, HL, HY, HO, HR, HX, HG⟩ := hrel
      have c2 := HR.out.at2
      by_cases hlt : j < N
      · cases hbad : (manyB taskR j st2).2.2 with
        | true =>
          rw [hbad] at c2
          have HE := hide ((manyB_stop hbad hj).symm.trans HM.out)
          clear hbad
          go_wp2
          go_meet
          have e1 : (manyB taskR j st2).1 = ts := by rw [HE.out]
          have e2 : (manyB taskR j st2).2 = st3 := by rw [HE.out]
          have e3 : ts.length = j := by rw [← e1]; exact HL.out
          exact ⟨a, c, by rw [e3]; exact HY, by rw [e3, ← e1]; exact HO, by rw [← e2]; exact HR, HX, HG⟩
        | false =>
          rw [hbad] at c2
          have HS := hide (manyB_next hbad)
          have HC := hide (fun W (h : RN W b s (manyB taskR j st2).2) => CT.out _ W h)
          clear hbad
          generalize (manyB taskR j st2).1 = pre at *
          generalize taskR (manyB taskR j st2).2 = r at *
          obtain ⟨q, stn⟩ := r
          generalize (manyB taskR j st2).2 = stj at *
          dsimp only at HC HS
          go_wp2
          refine wp_region_noPanic ?_
          refine wp_region_held_drew (S := fun _ => True) (by kernel_rfl) trivial (fun hHeld => ?_)
          have hgx := drew_grown wr
          have NHG := hide (grownBy_trans HG.out (grownBy_any (r := some b) hgx))
          have NHR := hide (HR.out.kept hgx (by simp))
          have NHX := hide (box_grown HX.out hgx (by simp))
          have NHY := hide (box_grown HY.out hgx (by simp))
          have NHO := hide (own_kept HO.out hgx)
          clear hgx HG HR HX HY HO c2
          change wpAnyH _ _ _ _ _ _ _ _ wr.drew
          have e : ({ wr with drawn := wr.drawn + 1 } : World) = wr.drew := rfl
          rw [e] at NHG NHR NHX NHY NHO
          clear e
          generalize wr.drew = W at *
          clear wr
          have HY := NHY
          have HO := NHO
          have HR := NHR
          have HX := NHX
          have HG := NHG
          clear NHY NHO NHR NHX NHG
          refine Cp.take_put (i := 0) (v := .pointer (some ⟨P, 1, none⟩)) 26 rfl rfl (by kernel_rfl) (by kernel_rfl) (by kernel_rfl) (fun _ _ _ h => h) (Or.inl ⟨by rfl, by intro V hSV; go_simp⟩) (by assumption) ?_
          (try simp only [Act.put, List.setIfInBounds_toArray, List.set_cons_zero, List.set_cons_succ])
          refine Cp.take_put (i := 2) (v := .pointer (some ⟨b, 0, none⟩)) 28 rfl rfl (by kernel_rfl) (by kernel_rfl) (by kernel_rfl) (fun _ _ _ h => h) (Or.inl ⟨by rfl, by intro V hSV; go_simp⟩) (by assumption) ?_
          (try simp only [Act.put, List.setIfInBounds_toArray, List.set_cons_zero, List.set_cons_succ])
          refine wpAnyH_ready (rs := [1, 3]) (by kernel_rfl) (by simp) ?_
          refine AllReadyH.cons rfl (fun K hK => ?_) (AllReadyH.cons rfl (fun K hK => ?_) AllReadyH.nil)
          · have k1 : W.cell? ⟨P, 1, none⟩ = some (.slice a j c) := blk_cell HY.out 1
            go_simp
            clear hHeld
            refine hK.out _ _ trivial (fun hHeld => ?_)
            clear hK K k1
            refine wpAnyH_ready (rs := [3]) (by kernel_rfl) (by simp) ?_
            refine AllReadyH.cons rfl (fun K hK => ?_) AllReadyH.nil
            · go_simp
              refine (HC.out _ HR.out).mono ?_; rintro e W2 ⟨rfl, hr, hg⟩
              have NHR := hide hr
              have NHG := hide (grownBy_trans HG.out hg)
              have NHX := hide (box_grown HX.out hg (by simp; omega))
              have NHY := hide (box_grown HY.out hg (by simp; omega))
              have NHO := hide (own_off HO.out hg hbl)
              clear hHeld
              refine hK.out _ _ trivial (fun hHeld => ?_)
              clear hK K hr hg HY HO HR HX HG
              clear W
              rename World => W
              have HY := NHY
              have HO := NHO
              have HR := NHR
              have HX := NHX
              have HG := NHG
              clear NHY NHO NHR NHX NHG
              refine wpAnyH_ready (rs := [4]) (by kernel_rfl) (by simp) ?_
              refine AllReadyH.cons rfl (fun K hK => ?_) AllReadyH.nil
              · go_simp
                have hgx := World.grownBy_alloc W (.cells #[.int .i64 q.kind, .int .i64 q.period, .int .i64 q.deadline, .int .i64 q.clow, .int .i64 q.chigh, .int .i64 q.prio] 52) none
                have NHG := hide (grownBy_trans HG.out (grownBy_any (r := some b) hgx))
                have NHR := hide (HR.out.kept hgx (by simp))
                have NHX := hide (box_grown HX.out hgx (by simp))
                have NHY := hide (box_grown HY.out hgx (by simp))
                have NHO := hide (own_kept HO.out hgx)
                have NHB := hide (heap_alloc_new W (.cells #[.int .i64 q.kind, .int .i64 q.period, .int .i64 q.deadline, .int .i64 q.clow, .int .i64 q.chigh, .int .i64 q.prio] 52))
                clear hHeld
                refine hK.out _ _ trivial (fun hHeld => ?_)
                clear hK K hgx HY HO HR HX HG
                generalize W.alloc (.cells #[.int .i64 q.kind, .int .i64 q.period, .int .i64 q.deadline, .int .i64 q.clow, .int .i64 q.chigh, .int .i64 q.prio] 52) = W2 at *
                generalize W.heap.size = g4 at *
                clear W
                rename World => W
                have HY := NHY
                have HO := NHO
                have HR := NHR
                have HX := NHX
                have HG := NHG
                have HB := NHB
                clear NHY NHO NHR NHX NHG NHB
                refine wpAnyH_ready (rs := [5]) (by kernel_rfl) (by simp) ?_
                refine AllReadyH.cons rfl (fun K hK => ?_) AllReadyH.nil
                refine Cp.step_app (S := shT) _ rfl _ _ 47 rfl 52 _ 48 Tryd.underlying47 Cp.infoT rfl w.heap.size (.slice a j c) j pre rfl HO.out ⟨g4, 0, none⟩ 1 1 [q] rfl rfl (Cp.one_at shT _ HB.out) ?c1 ?c2 HG.out.size ?_
                case c1 => omega
                case c2 => omega
                intro a5 c5 W2 ho hgw
                have NHG := hide (grown_own HG.out HO.out (Nat.le_refl _) hgw)
                have NHR := hide (HR.out.app HO.out hgw (by decide))
                have NHX := hide (Cp.box_app HX.out HO.out hgw (by decide))
                have NHY := hide (Cp.box_app HY.out HO.out hgw (by decide))
                have NHO := hide ho
                clear hHeld
                refine hK.out _ _ trivial (fun hHeld => ?_)
                clear hK K ho hgw HG HR HX HY HO HB
                clear W
                (try dsimp only [Act.put])
                rename World => W
                have HY := NHY
                have HO := NHO
                have HR := NHR
                have HX := NHX
                have HG := NHG
                clear NHY NHO NHR NHX NHG
                refine Cp.take_put (i := 6) (v := .pointer (some ⟨P, 1, none⟩)) 32 rfl rfl (by kernel_rfl) (by kernel_rfl) (by kernel_rfl) (fun _ _ _ h => h) (Or.inl ⟨by rfl, by intro V hSV; go_simp⟩) (by assumption) ?_
                (try dsimp only [Act.put])
                have k1 : W.cell? ⟨P, 1, none⟩ = some (.slice a j c) := blk_cell HY.out 1
                have kf := blk_free HY.out
                have hgs := grownBy_set W P 1 (.slice a5 (j + 1) c5)
                have NHG := hide (grown_set_new (j := 1) (u := .slice a5 (j + 1) c5) (show w.heap.size ≤ P by omega) HG.out)
                have NHR := hide (HR.out.kept hgs (by simp; omega))
                have NHX := hide (box_grown HX.out hgs (by simp; omega))
                have NHO := hide (Cp.own_type HO.out hgs (Cp.type_box HY.out) (by decide))
                have NHY := hide (blk_set HY.out (j := 1) (u := .slice a5 (j + 1) c5) (cs' := #[.int .i64 lv, .slice a5 (j + 1) c5, .slice none 0 0]) rfl)
                clear hgs
                refine wpAnyH_ready (rs := [7]) (by kernel_rfl) (by simp) ?_
                refine AllReadyH.cons rfl (fun K hK => ?_) AllReadyH.nil
                go_simp
                refine hK.out _ _ trivial (fun hHeld2 => ?_)
                clear hK K
                refine wpAnyH_done (by kernel_rfl) ?_ _
                refine NoPanic.normal ?_
                go_wp2
                go_roundw
                case rel => exact ⟨j + 1, a5, c5, by omega, by go_num, by rw [HS.out]; exact hide (by simp [HL.out]), NHY, by rw [HS.out]; exact NHO, by rw [HS.out]; exact NHR, NHX, NHG⟩
                case measure => simp [intOf]; omega
          · go_simp
            refine (HC.out _ HR.out).mono ?_; rintro e W2 ⟨rfl, hr, hg⟩
            have NHR := hide hr
            have NHG := hide (grownBy_trans HG.out hg)
            have NHX := hide (box_grown HX.out hg (by simp; omega))
            have NHY := hide (box_grown HY.out hg (by simp; omega))
            have NHO := hide (own_off HO.out hg hbl)
            clear hHeld
            refine hK.out _ _ trivial (fun hHeld => ?_)
            clear hK K hr hg HY HO HR HX HG
            clear W
            rename World => W
            have HY := NHY
            have HO := NHO
            have HR := NHR
            have HX := NHX
            have HG := NHG
            clear NHY NHO NHR NHX NHG
            refine wpAnyH_ready (rs := [1, 4]) (by kernel_rfl) (by simp) ?_
            refine AllReadyH.cons rfl (fun K hK => ?_) (AllReadyH.cons rfl (fun K hK => ?_) AllReadyH.nil)
            · have k1 : W.cell? ⟨P, 1, none⟩ = some (.slice a j c) := blk_cell HY.out 1
              go_simp
              clear hHeld
              refine hK.out _ _ trivial (fun hHeld => ?_)
              clear hK K k1
              refine wpAnyH_ready (rs := [4]) (by kernel_rfl) (by simp) ?_
              refine AllReadyH.cons rfl (fun K hK => ?_) AllReadyH.nil
              · go_simp
                have hgx := World.grownBy_alloc W (.cells #[.int .i64 q.kind, .int .i64 q.period, .int .i64 q.deadline, .int .i64 q.clow, .int .i64 q.chigh, .int .i64 q.prio] 52) none
                have NHG := hide (grownBy_trans HG.out (grownBy_any (r := some b) hgx))
                have NHR := hide (HR.out.kept hgx (by simp))
                have NHX := hide (box_grown HX.out hgx (by simp))
                have NHY := hide (box_grown HY.out hgx (by simp))
                have NHO := hide (own_kept HO.out hgx)
                have NHB := hide (heap_alloc_new W (.cells #[.int .i64 q.kind, .int .i64 q.period, .int .i64 q.deadline, .int .i64 q.clow, .int .i64 q.chigh, .int .i64 q.prio] 52))
                clear hHeld
                refine hK.out _ _ trivial (fun hHeld => ?_)
                clear hK K hgx HY HO HR HX HG
                generalize W.alloc (.cells #[.int .i64 q.kind, .int .i64 q.period, .int .i64 q.deadline, .int .i64 q.clow, .int .i64 q.chigh, .int .i64 q.prio] 52) = W2 at *
                generalize W.heap.size = g4 at *
                clear W
                rename World => W
                have HY := NHY
                have HO := NHO
                have HR := NHR
                have HX := NHX
                have HG := NHG
                have HB := NHB
                clear NHY NHO NHR NHX NHG NHB
                refine wpAnyH_ready (rs := [5]) (by kernel_rfl) (by simp) ?_
                refine AllReadyH.cons rfl (fun K hK => ?_) AllReadyH.nil
                refine Cp.step_app (S := shT) _ rfl _ _ 47 rfl 52 _ 48 Tryd.underlying47 Cp.infoT rfl w.heap.size (.slice a j c) j pre rfl HO.out ⟨g4, 0, none⟩ 1 1 [q] rfl rfl (Cp.one_at shT _ HB.out) ?c1 ?c2 HG.out.size ?_
                case c1 => omega
                case c2 => omega
                intro a5 c5 W2 ho hgw
                have NHG := hide (grown_own HG.out HO.out (Nat.le_refl _) hgw)
                have NHR := hide (HR.out.app HO.out hgw (by decide))
                have NHX := hide (Cp.box_app HX.out HO.out hgw (by decide))
                have NHY := hide (Cp.box_app HY.out HO.out hgw (by decide))
                have NHO := hide ho
                clear hHeld
                refine hK.out _ _ trivial (fun hHeld => ?_)
                clear hK K ho hgw HG HR HX HY HO HB
                clear W
                (try dsimp only [Act.put])
                rename World => W
                have HY := NHY
                have HO := NHO
                have HR := NHR
                have HX := NHX
                have HG := NHG
                clear NHY NHO NHR NHX NHG
                refine Cp.take_put (i := 6) (v := .pointer (some ⟨P, 1, none⟩)) 32 rfl rfl (by kernel_rfl) (by kernel_rfl) (by kernel_rfl) (fun _ _ _ h => h) (Or.inl ⟨by rfl, by intro V hSV; go_simp⟩) (by assumption) ?_
                (try dsimp only [Act.put])
                have k1 : W.cell? ⟨P, 1, none⟩ = some (.slice a j c) := blk_cell HY.out 1
                have kf := blk_free HY.out
                have hgs := grownBy_set W P 1 (.slice a5 (j + 1) c5)
                have NHG := hide (grown_set_new (j := 1) (u := .slice a5 (j + 1) c5) (show w.heap.size ≤ P by omega) HG.out)
                have NHR := hide (HR.out.kept hgs (by simp; omega))
                have NHX := hide (box_grown HX.out hgs (by simp; omega))
                have NHO := hide (Cp.own_type HO.out hgs (Cp.type_box HY.out) (by decide))
                have NHY := hide (blk_set HY.out (j := 1) (u := .slice a5 (j + 1) c5) (cs' := #[.int .i64 lv, .slice a5 (j + 1) c5, .slice none 0 0]) rfl)
                clear hgs
                refine wpAnyH_ready (rs := [7]) (by kernel_rfl) (by simp) ?_
                refine AllReadyH.cons rfl (fun K hK => ?_) AllReadyH.nil
                go_simp
                refine hK.out _ _ trivial (fun hHeld2 => ?_)
                clear hK K
                refine wpAnyH_done (by kernel_rfl) ?_ _
                refine NoPanic.normal ?_
                go_wp2
                go_roundw
                case rel => exact ⟨j + 1, a5, c5, by omega, by go_num, by rw [HS.out]; exact hide (by simp [HL.out]), NHY, by rw [HS.out]; exact NHO, by rw [HS.out]; exact NHR, NHX, NHG⟩
                case measure => simp [intOf]; omega
            · go_simp
              have hgx := World.grownBy_alloc W (.cells #[.int .i64 q.kind, .int .i64 q.period, .int .i64 q.deadline, .int .i64 q.clow, .int .i64 q.chigh, .int .i64 q.prio] 52) none
              have NHG := hide (grownBy_trans HG.out (grownBy_any (r := some b) hgx))
              have NHR := hide (HR.out.kept hgx (by simp))
              have NHX := hide (box_grown HX.out hgx (by simp))
              have NHY := hide (box_grown HY.out hgx (by simp))
              have NHO := hide (own_kept HO.out hgx)
              have NHB := hide (heap_alloc_new W (.cells #[.int .i64 q.kind, .int .i64 q.period, .int .i64 q.deadline, .int .i64 q.clow, .int .i64 q.chigh, .int .i64 q.prio] 52))
              clear hHeld
              refine hK.out _ _ trivial (fun hHeld => ?_)
              clear hK K hgx HY HO HR HX HG
              generalize W.alloc (.cells #[.int .i64 q.kind, .int .i64 q.period, .int .i64 q.deadline, .int .i64 q.clow, .int .i64 q.chigh, .int .i64 q.prio] 52) = W2 at *
              generalize W.heap.size = g4 at *
              clear W
              rename World => W
              have HY := NHY
              have HO := NHO
              have HR := NHR
              have HX := NHX
              have HG := NHG
              have HB := NHB
              clear NHY NHO NHR NHX NHG NHB
              refine wpAnyH_ready (rs := [1]) (by kernel_rfl) (by simp) ?_
              refine AllReadyH.cons rfl (fun K hK => ?_) AllReadyH.nil
              · have k1 : W.cell? ⟨P, 1, none⟩ = some (.slice a j c) := blk_cell HY.out 1
                go_simp
                clear hHeld
                refine hK.out _ _ trivial (fun hHeld => ?_)
                clear hK K k1
                refine wpAnyH_ready (rs := [5]) (by kernel_rfl) (by simp) ?_
                refine AllReadyH.cons rfl (fun K hK => ?_) AllReadyH.nil
                refine Cp.step_app (S := shT) _ rfl _ _ 47 rfl 52 _ 48 Tryd.underlying47 Cp.infoT rfl w.heap.size (.slice a j c) j pre rfl HO.out ⟨g4, 0, none⟩ 1 1 [q] rfl rfl (Cp.one_at shT _ HB.out) ?c1 ?c2 HG.out.size ?_
                case c1 => omega
                case c2 => omega
                intro a5 c5 W2 ho hgw
                have NHG := hide (grown_own HG.out HO.out (Nat.le_refl _) hgw)
                have NHR := hide (HR.out.app HO.out hgw (by decide))
                have NHX := hide (Cp.box_app HX.out HO.out hgw (by decide))
                have NHY := hide (Cp.box_app HY.out HO.out hgw (by decide))
                have NHO := hide ho
                clear hHeld
                refine hK.out _ _ trivial (fun hHeld => ?_)
                clear hK K ho hgw HG HR HX HY HO HB
                clear W
                (try dsimp only [Act.put])
                rename World => W
                have HY := NHY
                have HO := NHO
                have HR := NHR
                have HX := NHX
                have HG := NHG
                clear NHY NHO NHR NHX NHG
                refine Cp.take_put (i := 6) (v := .pointer (some ⟨P, 1, none⟩)) 32 rfl rfl (by kernel_rfl) (by kernel_rfl) (by kernel_rfl) (fun _ _ _ h => h) (Or.inl ⟨by rfl, by intro V hSV; go_simp⟩) (by assumption) ?_
                (try dsimp only [Act.put])
                have k1 : W.cell? ⟨P, 1, none⟩ = some (.slice a j c) := blk_cell HY.out 1
                have kf := blk_free HY.out
                have hgs := grownBy_set W P 1 (.slice a5 (j + 1) c5)
                have NHG := hide (grown_set_new (j := 1) (u := .slice a5 (j + 1) c5) (show w.heap.size ≤ P by omega) HG.out)
                have NHR := hide (HR.out.kept hgs (by simp; omega))
                have NHX := hide (box_grown HX.out hgs (by simp; omega))
                have NHO := hide (Cp.own_type HO.out hgs (Cp.type_box HY.out) (by decide))
                have NHY := hide (blk_set HY.out (j := 1) (u := .slice a5 (j + 1) c5) (cs' := #[.int .i64 lv, .slice a5 (j + 1) c5, .slice none 0 0]) rfl)
                clear hgs
                refine wpAnyH_ready (rs := [7]) (by kernel_rfl) (by simp) ?_
                refine AllReadyH.cons rfl (fun K hK => ?_) AllReadyH.nil
                go_simp
                refine hK.out _ _ trivial (fun hHeld2 => ?_)
                clear hK K
                refine wpAnyH_done (by kernel_rfl) ?_ _
                refine NoPanic.normal ?_
                go_wp2
                go_roundw
                case rel => exact ⟨j + 1, a5, c5, by omega, by go_num, by rw [HS.out]; exact hide (by simp [HL.out]), NHY, by rw [HS.out]; exact NHO, by rw [HS.out]; exact NHR, NHX, NHG⟩
                case measure => simp [intOf]; omega
      · have e : j = N := by omega
        subst e
        have HE := HM
        go_wp2
        go_meet
        have e1 : (manyB taskR j st2).1 = ts := by rw [HE.out]
        have e2 : (manyB taskR j st2).2 = st3 := by rw [HE.out]
        have e3 : ts.length = j := by rw [← e1]; exact HL.out
        exact ⟨a, c, by rw [e3]; exact HY, by rw [e3, ← e1]; exact HO, by rw [← e2]; exact HR, HX, HG⟩
  case rest =>
    obtain ⟨a, c, HY1, HT, HR1, HX1, HG1⟩ := hcut
    obtain ⟨hm0, hm1⟩ := HB2.out _ HR1.out
    obtain ⟨M, rfl⟩ : ∃ M : Nat, m = M := ⟨m.toNat, by omega⟩
    have HMI := hide (show manyB insR M st4 = (cd, st5) from HM2.out)
    clear HM2 hm0 HR HX HY HG HM HB2 CT
    go_wp2_with (first | fail)
    refine (C2.out _ HR1.out).mono ?_; rintro e w4 ⟨rfl, hr, hg⟩
    have HR := hide hr
    have HG := hide (grownBy_trans HG1.out hg)
    have HX := hide (box_grown HX1.out hg (by simp; omega))
    have HY := hide (box_grown HY1.out hg (by simp; omega))
    have HT2 := hide (own_off HT.out hg hbl)
    clear hr hg HR1 HG1 HX1 HY1 C2 HT
    go_upto_block 2 with fail
    go_wp2_with fail
    go_loopw [7] (fun i V => ∃ (j : Nat) (a2 : Option Addr) (c2 : Nat), j ≤ M ∧ i = .int .i64 j ∧ Hid ((manyB insR j st4).1.length = j) ∧ Hid (V.heap[P]? = some (.cells #[.int .i64 lv, .slice a ts.length c, .slice a2 j c2] 50 (0, 0))) ∧ Hid (V.ownsRow w.heap.size 54 2 (.slice a2 j c2) j (shI.cells (manyB insR j st4).1)) ∧ Hid (V.ownsRow w.heap.size 52 6 (.slice a ts.length c) ts.length (shT.cells ts)) ∧ Hid (RN V b s (manyB insR j st4).2) ∧ Hid (V.heap[w.heap.size]? = some (.cells #[.int .i64 0, .slice none 0 0, .slice none 0 0] 50 (0, 0))) ∧ Hid (w.grownBy V (some b))) (fun i _ => M - (intOf i).toNat)
    case atStart => exact ⟨0, none, 0, by omega, rfl, rfl, HY, ⟨rfl, .inl ⟨rfl, rfl⟩⟩, HT2, HR, HX, HG⟩
    case round =>
      clear HR HG HX HY HT2
      obtain ⟨j, a2, c2, hj, rfl, HL, HY, HO, HT, HR, HX, HG⟩ := hrel
      have cb := HR.out.at2
      by_cases hlt : j < M
      · cases hbad : (manyB insR j st4).2.2 with
        | true =>
          rw [hbad] at cb
          have HE := hide ((manyB_stop hbad hj).symm.trans HMI.out)
          clear hbad
          have e1 : (manyB insR j st4).1 = cd := by rw [HE.out]
          have e2 : (manyB insR j st4).2 = st5 := by rw [HE.out]
          have e3 : cd.length = j := by rw [← e1]; exact HL.out
          have HOF := hide (show wr.ownsRow w.heap.size 54 2 (.slice a2 j c2) cd.length (shI.cells cd) by rw [e3, ← e1]; exact HO.out)
          have HRF := hide (show RN wr b s st5 by rw [← e2]; exact HR.out)
          clear e1 e2 e3 HO HR HE HL
          have k0 : wr.cell? ⟨P, 0, none⟩ = some (.int .i64 lv) := blk_cell HY.out 0
          have k1 : wr.cell? ⟨P, 1, none⟩ = some (.slice a ts.length c) := blk_cell HY.out 1
          have k2 : wr.cell? ⟨P, 2, none⟩ = some (.slice a2 j c2) := blk_cell HY.out 2
          have r0 : wr.cell? ⟨w.heap.size, 0, none⟩ = some (.int .i64 0) := blk_cell HX.out 0
          have r1 : wr.cell? ⟨w.heap.size, 1, none⟩ = some (.slice none 0 0) := blk_cell HX.out 1
          have r2 : wr.cell? ⟨w.heap.size, 2, none⟩ = some (.slice none 0 0) := blk_cell HX.out 2
          have rf := blk_free HX.out
          go_wp2
          (try simp only [Exit.inBlock, Exit.then])
          refine bodyPost_ret (results_cell_row rfl _ _ w.heap.size 50 #[.int .i64 lv, .slice a ts.length c, .slice a2 j c2] (0, 0) _ rfl (set3_box HX.out) Tryd.underlying50 rfl size50) rfl ?_
          refine ⟨⟨lv, a, ts.length, c, a2, j, c2⟩, rfl, ⟨rfl, ?_, ?_⟩, ?_, ?_⟩
          · exact Cp.own_type HT.out (set3_by _ _ _ _ _) (Cp.type_box HX.out) (by decide)
          · exact Cp.own_type HOF.out (set3_by _ _ _ _ _) (Cp.type_box HX.out) (by decide)
          · exact HRF.out.kept (set3_by _ _ _ _ _) (by simp; omega)
          · exact set3_grown HG.out (Nat.le_refl _) _ _ _
        | false =>
          rw [hbad] at cb
          have HS := hide (manyB_next hbad)
          clear hbad
          generalize (manyB insR j st4).1 = pre at *
          generalize (manyB insR j st4).2 = stj at *
          have ei : insR stj = (((numR 1 stj).1, (numR 1 (numR 1 stj).2).1), (numR 1 (numR 1 stj).2).2) := rfl
          rw [ei] at HS
          clear ei
          dsimp only at HS
          have D1 := hide (fun W (h : RN W b s stj) => CN.out stj W h)
          generalize numR 1 stj = r1 at *
          obtain ⟨x, sta⟩ := r1
          dsimp only at D1 HS
          have D2 := hide (fun W (h : RN W b s sta) => CN.out sta W h)
          generalize numR 1 sta = r2 at *
          obtain ⟨y, stn⟩ := r2
          dsimp only at D2 HS
          go_wp2_with (first | fail)
          refine (D1.out _ HR.out).mono ?_; rintro e w5 ⟨rfl, hr, hg⟩
          have hgx := World.grownBy_alloc w5 (.cells #[.int .i64 x, .int .i64 0] 54) none
          have NR := hide (RN.kept hr hgx (by simp))
          have NG := hide (grownBy_trans (grownBy_trans HG.out hg) (grownBy_any (r := some b) hgx))
          have NX := hide (box_grown (box_grown HX.out hg (by simp; omega)) hgx (by simp))
          have NY := hide (box_grown (box_grown HY.out hg (by simp; omega)) hgx (by simp))
          have NT := hide (own_kept (own_off HT.out hg hbl) hgx)
          have NO := hide (own_kept (own_off HO.out hg hbl) hgx)
          have NE := hide (heap_alloc_new w5 (.cells #[.int .i64 x, .int .i64 0] 54))
          have NN : Hid ((Value.slice a2 j c2).ownBlock ≠ some w5.heap.size) := fun e => by have := ((own_off HO.out hg hbl).lt _ e).2; omega
          have hgP : P < w5.heap.size := box_lt (box_grown HY.out hg (by simp; omega))
          clear hr hg hgx HR HG HX HY HT HO cb D1
          go_upto_region 12 with fail
          generalize w5.alloc (.cells #[.int .i64 x, .int .i64 0] 54) = v5 at *
          generalize w5.heap.size = g at *
          clear w5
          go_wp2_with (first | fail)
          refine (D2.out _ NR.out).mono ?_; rintro e w6 ⟨rfl, hr, hg⟩
          have e0 : w6.cell? ⟨g, 1, none⟩ = some (.int .i64 0) := blk_cell (box_grown NE.out hg (by simp; omega)) 1
          have ef := blk_free (box_grown NE.out hg (by simp; omega))
          have hgs := grownBy_set w6 g 1 (.int .i64 y)
          have HR := hide (RN.kept hr hgs (by simp; omega))
          have HG := hide (grown_set_new (j := 1) (u := .int .i64 y) (show w.heap.size ≤ g by omega) (grownBy_trans NG.out hg))
          have HX := hide (box_grown (box_grown NX.out hg (by simp; omega)) hgs (by simp; omega))
          have HY := hide (box_grown (box_grown NY.out hg (by simp; omega)) hgs (by simp; omega))
          have HT := hide (Cp.own_type (own_off NT.out hg hbl) hgs (Cp.type_box (box_grown NE.out hg (by simp; omega))) (by decide))
          have HO := hide ((own_off NO.out hg hbl).kept hgs (Or.inr NN.out))
          have HE := hide (blk_set (box_grown NE.out hg (by simp; omega)) (j := 1) (u := .int .i64 y) (cs' := #[.int .i64 x, .int .i64 y]) rfl)
          clear hr hg hgs NR NG NX NY NT NO NE NN D2
          go_upto_region 13 with fail
          clear e0 ef
          generalize w6.setCell ⟨g, 1, none⟩ (.int .i64 y) = v6 at *
          clear w6
          have k2 : v6.cell? ⟨P, 2, none⟩ = some (.slice a2 j c2) := blk_cell HY.out 2
          have q0 : v6.cell? ⟨g, 0, none⟩ = some (.int .i64 x) := blk_cell HE.out 0
          have q1 : v6.cell? ⟨g, 1, none⟩ = some (.int .i64 y) := blk_cell HE.out 1
          go_wp2_with (at_builtin; refine app_row (S := shI) _ rfl _ _ 48 54 _ 16 Tryd.underlying48 info54 rfl rfl w.heap.size (.slice a2 j c2) j pre rfl ?c0 ⟨v6.heap.size, 0, none⟩ 1 1 [(x, y)] rfl rfl ?c1 ?c2 ?c3 ?c4 ?_)
          case c0 => exact HO.out.alloc _
          case c1 => exact one_cells shI (x, y) v6 54
          case c2 => omega
          case c3 => omega
          case c4 => have := HG.out.size; simp; omega
          intro a3 c3 w7 hown hgrow _
          have hgx := World.grownBy_alloc v6 (.cells #[.int .i64 x, .int .i64 y] 54) none
          have HOA := hide (HO.out.alloc (.cells #[.int .i64 x, .int .i64 y] 54))
          have HYA := hide (Cp.box_app (box_grown HY.out hgx (by simp)) HOA.out hgrow (by decide))
          have k3 : w7.cell? ⟨P, 2, none⟩ = some (.slice a2 j c2) := blk_cell HYA.out 2
          have kf := blk_free HYA.out
          have hgs := grownBy_set w7 P 2 (.slice a3 (j + 1) c3)
          have NR := hide (RN.kept (RN.app (HR.out.kept hgx (by simp)) HOA.out hgrow (by decide)) hgs (by simp; omega))
          have NG := hide (grown_set_new (j := 2) (u := .slice a3 (j + 1) c3) (show w.heap.size ≤ P by omega) (grown_own (grownBy_trans HG.out (grownBy_any (r := some b) hgx)) HOA.out (Nat.le_refl _) hgrow))
          have NX := hide (box_grown (Cp.box_app (box_grown HX.out hgx (by simp)) HOA.out hgrow (by decide)) hgs (by simp; omega))
          have NT := hide (Cp.own_type (Cp.own_app (own_kept HT.out hgx) HOA.out hgrow (by decide)) hgs (Cp.type_box HYA.out) (by decide))
          have NO := hide (Cp.own_type hown hgs (Cp.type_box HYA.out) (by decide))
          have NY := hide (blk_set HYA.out (j := 2) (u := .slice a3 (j + 1) c3) (cs' := #[.int .i64 lv, .slice a ts.length c, .slice a3 (j + 1) c3]) rfl)
          clear hown hgrow hgx hgs HOA HYA HR HG HX HT HO HY HE k2 q0 q1
          go_wp2
          go_roundw
          case rel => exact ⟨j + 1, a3, c3, by omega, by go_num, by rw [HS.out]; exact hide (by simp [HL.out]), NY, by rw [HS.out]; exact NO, NT, by rw [HS.out]; exact NR, NX, NG⟩
          case measure => simp [intOf]; omega
      · have e : j = M := by omega
        subst e
        have HE := HMI
        have e1 : (manyB insR j st4).1 = cd := by rw [HE.out]
        have e2 : (manyB insR j st4).2 = st5 := by rw [HE.out]
        have e3 : cd.length = j := by rw [← e1]; exact HL.out
        have HOF := hide (show wr.ownsRow w.heap.size 54 2 (.slice a2 j c2) cd.length (shI.cells cd) by rw [e3, ← e1]; exact HO.out)
        have HRF := hide (show RN wr b s st5 by rw [← e2]; exact HR.out)
        clear e1 e2 e3 HO HR HE HL
        have k0 : wr.cell? ⟨P, 0, none⟩ = some (.int .i64 lv) := blk_cell HY.out 0
        have k1 : wr.cell? ⟨P, 1, none⟩ = some (.slice a ts.length c) := blk_cell HY.out 1
        have k2 : wr.cell? ⟨P, 2, none⟩ = some (.slice a2 j c2) := blk_cell HY.out 2
        have r0 : wr.cell? ⟨w.heap.size, 0, none⟩ = some (.int .i64 0) := blk_cell HX.out 0
        have r1 : wr.cell? ⟨w.heap.size, 1, none⟩ = some (.slice none 0 0) := blk_cell HX.out 1
        have r2 : wr.cell? ⟨w.heap.size, 2, none⟩ = some (.slice none 0 0) := blk_cell HX.out 2
        have rf := blk_free HX.out
        go_wp2
        (try simp only [Exit.inBlock, Exit.then])
        refine bodyPost_ret (results_cell_row rfl _ _ w.heap.size 50 #[.int .i64 lv, .slice a ts.length c, .slice a2 j c2] (0, 0) _ rfl (set3_box HX.out) Tryd.underlying50 rfl size50) rfl ?_
        refine ⟨⟨lv, a, ts.length, c, a2, j, c2⟩, rfl, ⟨rfl, ?_, ?_⟩, ?_, ?_⟩
        · exact Cp.own_type HT.out (set3_by _ _ _ _ _) (Cp.type_box HX.out) (by decide)
        · exact Cp.own_type HOF.out (set3_by _ _ _ _ _) (Cp.type_box HX.out) (by decide)
        · exact HRF.out.kept (set3_by _ _ _ _ _) (by simp; omega)
        · exact set3_grown HG.out (Nat.le_refl _) _ _ _
#print axioms part_ref
end Go.Proofs.YtgaegggiehhcpaaDoor.R5

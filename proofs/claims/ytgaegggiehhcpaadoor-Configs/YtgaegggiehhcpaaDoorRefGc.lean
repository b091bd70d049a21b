/- The contract of the document's own GetConfig, proved over the translation. -/
import Derived.Test.YtgaegggiehhcpaaDoorRefPt
import Derived.Test.YtgaegggiehhcpaaDoorRefChk
namespace Go.Proofs.YtgaegggiehhcpaaDoor.R5
open Go.RowKit
attribute [local go_sem] alloc_drewN setCell_drewN

def confB (s : ByteArray) : ConfV × St :=
  let f := numR 2 ((nums s).drop 2, false)
  let q := numR 1 f.2
  let p := allB partB q.2
  let w := allB winR p.2
  let o := allB portR w.2
  (⟨f.1, q.1, p.1, w.1, o.1⟩, o.2)
theorem pown_app {base base2 e size n : Nat} {W W2 : World} {v v2 : Value} {xs : List Value} {ps : List PartV} (h : Cp.POwn base W v ps) (hv : W.ownsRow base2 e size v2 n xs) (hg : W.grownBy W2 v2.ownBlock) (n1 : e ≠ 50) (n2 : e ≠ 52) (n3 : e ≠ 54) : Cp.POwn base W2 v ps := by
  rcases hv.2 with ⟨rfl, _⟩ | ⟨g, cap, cur, rfl, _, hc, _⟩
  · exact h.grown hg
  · exact h.type hg ⟨_, _, hc⟩ n1 n2 n3
theorem RN.type {W : World} {b : Nat} {s : ByteArray} {st : St} (h : RN W b s st) : Cp.TypeAt W b 79 := by
  obtain ⟨_, _, _, _, h⟩ := h
  exact ⟨_, _, h⟩
theorem RN.done {W : World} {b : Nat} {s : ByteArray} {st : St} (h : RN W b s st) : ∃ At : Nat, At ≤ s.size ∧ s.size ≤ 65536 ∧ W.cell? ⟨b, 1, none⟩ = some (.int .i64 At) ∧ ((At = s.size) ↔ st.1.isEmpty = true) := by
  obtain ⟨h0, At, h1, h2, h3⟩ := h
  refine ⟨At, h1, h0, blk_cell h3 1, ?_⟩
  rw [List.isEmpty_iff_length_eq_zero, ← h2, List.length_drop, nums_length]
  omega
theorem cown_zero (base : Nat) (W : World) : Cp.COwn base W (.agg #[.int .i64 0, .int .i64 0, .slice none 0 0, .slice none 0 0, .slice none 0 0]) cz := ⟨_, _, _, rfl, ⟨[], rfl, ⟨rfl, .inl ⟨rfl, rfl⟩⟩, fun i q p hq _ => by simp at hq⟩, ⟨rfl, .inl ⟨rfl, rfl⟩⟩, ⟨rfl, .inl ⟨rfl, rfl⟩⟩⟩
theorem bad_head (s : ByteArray) (k : Bool) (h : decide ((nums s).take 2 = [78, 67]) = k) (_hs : 2 ≤ s.size) : ((s.extract 0 2).toList == [78, 67]) = k := by
  have e : nums (s.extract 0 2) = (nums s).take 2 := by
    unfold nums
    simp [ByteArray.data_extract]
  rw [toList_beq, e]
  exact h

set_option maxRecDepth 100000 in
set_option maxHeartbeats 8000000 in
theorem getc_good (s : ByteArray) (hs : 2 ≤ s.size) (hl : s.size ≤ 65536) (hh : (nums s).take 2 = [78, 67]) (C CC : ConfV) (stf : St) (E : Int) (hC : confB s = (C, stf)) (hE : E = if doneR stf = false then 500 else checkN C) (hCC : CC = if E = 0 then C else cz) (w : World) :
    Calls Tryd.prog 14 #[.string s] w fun e w' => ∃ c, e = .returned (.tuple #[c, .int .i64 E]) ∧ Cp.COwn w.heap.size w' c CC ∧ w.grownBy w' none := by
  have HEQ := hide hE
  have HCQ := hide hCC
  clear hE hCC
  unfold confB allB at hC
  dsimp only at hC
  have CN := hide (fun st W (h : RN W (w.heap.size + 1) s st) => num_one (w.heap.size + 1) s st W h)
  have CN2 := hide (fun st W (h : RN W (w.heap.size + 1) s st) => num_two (w.heap.size + 1) s st W h)
  have CP := hide (fun st W (h : RN W (w.heap.size + 1) s st) => part_ref (w.heap.size + 1) s st W h)
  have C_fr := hide (fun W (h : RN W (w.heap.size + 1) s ((nums s).drop 2, false)) => CN2.out ((nums s).drop 2, false) W h)
  generalize numR 2 ((nums s).drop 2, false) = r at *
  obtain ⟨fr, st1⟩ := r
  dsimp only at C_fr hC
  have C_qt := hide (fun W (h : RN W (w.heap.size + 1) s st1) => CN.out st1 W h)
  generalize numR 1 st1 = r at *
  obtain ⟨qt, st2⟩ := r
  dsimp only at C_qt hC
  have C_n1 := hide (fun W (h : RN W (w.heap.size + 1) s st2) => CN.out st2 W h)
  have HB_n1 : Hid (∀ W, RN W (w.heap.size + 1) s st2 → 0 ≤ (numR 1 st2).1 ∧ (numR 1 st2).1 < 256) := fun W h => num1_byte h.bytes
  generalize numR 1 st2 = r at *
  obtain ⟨n1, st3⟩ := r
  dsimp only at C_n1 HB_n1 hC
  generalize hm : manyB partB n1.toNat st3 = r at *
  obtain ⟨ps, st4⟩ := r
  have HM_n1 := hide hm
  clear hm
  dsimp only at hC
  have C_n2 := hide (fun W (h : RN W (w.heap.size + 1) s st4) => CN.out st4 W h)
  have HB_n2 : Hid (∀ W, RN W (w.heap.size + 1) s st4 → 0 ≤ (numR 1 st4).1 ∧ (numR 1 st4).1 < 256) := fun W h => num1_byte h.bytes
  generalize numR 1 st4 = r at *
  obtain ⟨n2, st5⟩ := r
  dsimp only at C_n2 HB_n2 hC
  generalize hm : manyB winR n2.toNat st5 = r at *
  obtain ⟨ws, st6⟩ := r
  have HM_n2 := hide hm
  clear hm
  dsimp only at hC
  have C_n3 := hide (fun W (h : RN W (w.heap.size + 1) s st6) => CN.out st6 W h)
  have HB_n3 : Hid (∀ W, RN W (w.heap.size + 1) s st6 → 0 ≤ (numR 1 st6).1 ∧ (numR 1 st6).1 < 256) := fun W h => num1_byte h.bytes
  generalize numR 1 st6 = r at *
  obtain ⟨n3, st7⟩ := r
  dsimp only at C_n3 HB_n3 hC
  generalize hm : manyB portR n3.toNat st7 = r at *
  obtain ⟨os, st8⟩ := r
  have HM_n3 := hide hm
  clear hm
  dsimp only at hC
  cases hC
  have hx := bad_head s true (by simp [hh]) hs
  clear hh
  have HR := hide (show RN (((w.alloc (.cells #[.int .i64 0, .int .i64 0, .slice none 0 0, .slice none 0 0, .slice none 0 0] 26)).alloc (.cells #[.string s, .int .i64 2, .bool false] 79)).alloc (.cells #[.int .i64 0, .int .i64 0, .slice none 0 0, .slice none 0 0, .slice none 0 0] 26)) (w.heap.size + 1) s ((nums s).drop 2, false) from ⟨hl, 2, hs, rfl, box_grown (heap_alloc2_new w (.cells #[.int .i64 0, .int .i64 0, .slice none 0 0, .slice none 0 0, .slice none 0 0] 26) (.cells #[.string s, .int .i64 2, .bool false] 79)) (World.grownBy_alloc _ (.cells #[.int .i64 0, .int .i64 0, .slice none 0 0, .slice none 0 0, .slice none 0 0] 26) none) (by simp)⟩)
  have HX := hide (show (((w.alloc (.cells #[.int .i64 0, .int .i64 0, .slice none 0 0, .slice none 0 0, .slice none 0 0] 26)).alloc (.cells #[.string s, .int .i64 2, .bool false] 79)).alloc (.cells #[.int .i64 0, .int .i64 0, .slice none 0 0, .slice none 0 0, .slice none 0 0] 26)).heap[w.heap.size]? = some (.cells #[.int .i64 0, .int .i64 0, .slice none 0 0, .slice none 0 0, .slice none 0 0] 26 (0, 0)) from box_grown (heap_alloc2_old w (.cells #[.int .i64 0, .int .i64 0, .slice none 0 0, .slice none 0 0, .slice none 0 0] 26) (.cells #[.string s, .int .i64 2, .bool false] 79)) (World.grownBy_alloc _ (.cells #[.int .i64 0, .int .i64 0, .slice none 0 0, .slice none 0 0, .slice none 0 0] 26) none) (by simp))
  have HY := hide (show (((w.alloc (.cells #[.int .i64 0, .int .i64 0, .slice none 0 0, .slice none 0 0, .slice none 0 0] 26)).alloc (.cells #[.string s, .int .i64 2, .bool false] 79)).alloc (.cells #[.int .i64 0, .int .i64 0, .slice none 0 0, .slice none 0 0, .slice none 0 0] 26)).heap[w.heap.size + 1 + 1]? = some (.cells #[.int .i64 0, .int .i64 0, .slice none 0 0, .slice none 0 0, .slice none 0 0] 26 (0, 0)) by have e := heap_alloc_new ((w.alloc (.cells #[.int .i64 0, .int .i64 0, .slice none 0 0, .slice none 0 0, .slice none 0 0] 26)).alloc (.cells #[.string s, .int .i64 2, .bool false] 79)) (.cells #[.int .i64 0, .int .i64 0, .slice none 0 0, .slice none 0 0, .slice none 0 0] 26); simpa using e)
  have HG := hide (grownBy_trans (World.grownBy_alloc w (.cells #[.int .i64 0, .int .i64 0, .slice none 0 0, .slice none 0 0, .slice none 0 0] 26) none) (grownBy_trans (World.grownBy_alloc (w.alloc (.cells #[.int .i64 0, .int .i64 0, .slice none 0 0, .slice none 0 0, .slice none 0 0] 26)) (.cells #[.string s, .int .i64 2, .bool false] 79) none) (World.grownBy_alloc ((w.alloc (.cells #[.int .i64 0, .int .i64 0, .slice none 0 0, .slice none 0 0, .slice none 0 0] 26)).alloc (.cells #[.string s, .int .i64 2, .bool false] 79)) (.cells #[.int .i64 0, .int .i64 0, .slice none 0 0, .slice none 0 0, .slice none 0 0] 26) none)))
  go_enter Tryd.func14, Tryd.ntmps14
  go_upto_region 5 with fail
  clear hx
  generalize ((w.alloc (.cells #[.int .i64 0, .int .i64 0, .slice none 0 0, .slice none 0 0, .slice none 0 0] 26)).alloc (.cells #[.string s, .int .i64 2, .bool false] 79)).alloc (.cells #[.int .i64 0, .int .i64 0, .slice none 0 0, .slice none 0 0, .slice none 0 0] 26) = v0 at *
  generalize hB : w.heap.size + 1 + 1 = B at *
  generalize hb : w.heap.size + 1 = b at *
  have hwb : w.heap.size < b := by omega
  have hbB : b < B := by omega
  have hbb : b < B + 1 := by omega
  clear hB hb
  go_wp2_with (first | fail)
  refine (C_fr.out _ HR.out).mono ?_; rintro e w1 ⟨rfl, hr, hg⟩
  have NHY := hide (box_grown HY.out hg (by simp; omega))
  have NHX := hide (box_grown HX.out hg (by simp; omega))
  have NHG := hide (grown_spoil HG.out (show w.heap.size ≤ b by omega) hg)
  have NHR := hide hr
  clear hr hg HY HR HX HG
  have HY := NHY
  have HR := NHR
  have HX := NHX
  have HG := NHG
  clear NHY NHR NHX NHG
  have ck : w1.cell? ⟨B, 0, none⟩ = some (.int .i64 0) := blk_cell HY.out 0
  have ckf := blk_free HY.out
  have hgs := grownBy_set w1 B 0 (.int .i64 fr)
  have NHR := hide (HR.out.kept hgs (by simp; omega))
  have NHX := hide (box_grown HX.out hgs (by simp; omega))
  have NHG := hide (grown_spoil HG.out (show w.heap.size ≤ B by omega) hgs)
  have NHY := hide (blk_set HY.out (j := 0) (u := .int .i64 fr) (cs' := #[.int .i64 fr, .int .i64 0, .slice none 0 0, .slice none 0 0, .slice none 0 0]) rfl)
  clear hgs HY HR HX HG
  have HY := NHY
  have HR := NHR
  have HX := NHX
  have HG := NHG
  clear NHY NHR NHX NHG
  go_upto_region 6 with fail
  clear ck ckf
  generalize w1.setCell ⟨B, 0, none⟩ (.int .i64 fr) = v1 at *
  clear w1
  go_wp2_with (first | fail)
  refine (C_qt.out _ HR.out).mono ?_; rintro e w2 ⟨rfl, hr, hg⟩
  have NHY := hide (box_grown HY.out hg (by simp; omega))
  have NHX := hide (box_grown HX.out hg (by simp; omega))
  have NHG := hide (grown_spoil HG.out (show w.heap.size ≤ b by omega) hg)
  have NHR := hide hr
  clear hr hg HY HR HX HG
  have HY := NHY
  have HR := NHR
  have HX := NHX
  have HG := NHG
  clear NHY NHR NHX NHG
  have ck : w2.cell? ⟨B, 1, none⟩ = some (.int .i64 0) := blk_cell HY.out 1
  have ckf := blk_free HY.out
  have hgs := grownBy_set w2 B 1 (.int .i64 qt)
  have NHR := hide (HR.out.kept hgs (by simp; omega))
  have NHX := hide (box_grown HX.out hgs (by simp; omega))
  have NHG := hide (grown_spoil HG.out (show w.heap.size ≤ B by omega) hgs)
  have NHY := hide (blk_set HY.out (j := 1) (u := .int .i64 qt) (cs' := #[.int .i64 fr, .int .i64 qt, .slice none 0 0, .slice none 0 0, .slice none 0 0]) rfl)
  clear hgs HY HR HX HG
  have HY := NHY
  have HR := NHR
  have HX := NHX
  have HG := NHG
  clear NHY NHR NHX NHG
  go_upto_region 7 with fail
  clear ck ckf
  generalize w2.setCell ⟨B, 1, none⟩ (.int .i64 qt) = v2 at *
  clear w2
  obtain ⟨hz0, hz1_n1⟩ := HB_n1.out _ HR.out
  obtain ⟨N1, rfl⟩ : ∃ N1 : Nat, n1 = N1 := ⟨n1.toNat, by omega⟩
  have HMN1 := hide (show manyB partB N1 st3 = (ps, st4) from HM_n1.out)
  clear hz0 HM_n1 HB_n1
  go_wp2_with (first | fail)
  refine (C_n1.out _ HR.out).mono ?_; rintro e w3 ⟨rfl, hr, hg⟩
  have NHY := hide (box_grown HY.out hg (by simp; omega))
  have NHX := hide (box_grown HX.out hg (by simp; omega))
  have NHG := hide (grown_spoil HG.out (show w.heap.size ≤ b by omega) hg)
  have NHR := hide hr
  clear hr hg HY HR HX HG
  have HY := NHY
  have HR := NHR
  have HX := NHX
  have HG := NHG
  clear NHY NHR NHX NHG
  go_upto_block 0 with fail
  go_cut [7] (fun _ V => ∃ (a : Option Addr) (c : Nat), Hid (V.heap[B]? = some (.cells #[.int .i64 fr, .int .i64 qt, .slice a ps.length c, .slice none 0 0, .slice none 0 0] 26 (0, 0))) ∧ Hid (Cp.POwn (B + 1) V (.slice a ps.length c) ps) ∧ Hid (RN V b s st4) ∧ Hid (V.heap[w.heap.size]? = some (.cells #[.int .i64 0, .int .i64 0, .slice none 0 0, .slice none 0 0, .slice none 0 0] 26 (0, 0))) ∧ Hid (w.grownBy V none))
  case first =>
    go_wp2_with fail
    go_loopw [7] (fun i V => ∃ (j : Nat) (a : Option Addr) (c : Nat), j ≤ N1 ∧ i = .int .i64 j ∧ Hid ((manyB partB j st3).1.length = j) ∧ Hid (V.heap[B]? = some (.cells #[.int .i64 fr, .int .i64 qt, .slice a j c, .slice none 0 0, .slice none 0 0] 26 (0, 0))) ∧ Hid (Cp.POwn (B + 1) V (.slice a j c) (manyB partB j st3).1) ∧ Hid (RN V b s (manyB partB j st3).2) ∧ Hid (V.heap[w.heap.size]? = some (.cells #[.int .i64 0, .int .i64 0, .slice none 0 0, .slice none 0 0, .slice none 0 0] 26 (0, 0))) ∧ Hid (w.grownBy V none)) (fun i _ => N1 - (intOf i).toNat)
    case atStart => exact ⟨0, none, 0, by omega, rfl, rfl, HY, ⟨[], rfl, ⟨rfl, .inl ⟨rfl, rfl⟩⟩, fun i q p hq _ => by simp at hq⟩, HR, HX, HG⟩
    case round =>
      clear HR HG HX HY
      obtain ⟨j, a, c, hj, rfl, HL, HY, HP, HR, HX, HG⟩ := hrel
      have cb := HR.out.at2
      by_cases hlt : j < N1
      · cases hbad : (manyB partB j st3).2.2 with
        | true =>
          rw [hbad] at cb
          have HE := hide ((manyB_stop hbad hj).symm.trans HMN1.out)
          clear hbad
          go_wp2
          go_meet
          have e1 : (manyB partB j st3).1 = ps := by rw [HE.out]
          have e2 : (manyB partB j st3).2 = st4 := by rw [HE.out]
          have e3 : ps.length = j := by rw [← e1]; exact HL.out
          exact ⟨a, c, by rw [e3]; exact HY, by rw [e3, ← e1]; exact HP, by rw [← e2]; exact HR, HX, HG⟩
        | false =>
          rw [hbad] at cb
          have HS := hide (manyB_next hbad)
          have HC := hide (fun W (h : RN W b s (manyB partB j st3).2) => CP.out _ W h)
          clear hbad
          generalize (manyB partB j st3).1 = pre at *
          generalize partB (manyB partB j st3).2 = r at *
          obtain ⟨p, stn⟩ := r
          generalize (manyB partB j st3).2 = stj at *
          dsimp only at HC HS
          go_wp2
          refine wp_region_noPanic ?_
          refine wp_region_held_drew (S := fun _ => True) (by kernel_rfl) trivial (fun hHeld => ?_)
          have hgx := drew_grown wr
          have NHY := hide (box_grown HY.out hgx (by simp))
          have NHP := hide (HP.out.grown hgx)
          have NHR := hide (HR.out.kept hgx (by simp))
          have NHX := hide (box_grown HX.out hgx (by simp))
          have NHG := hide (grownBy_trans HG.out hgx)
          clear hgx cb HY HP HR HX HG
          change wpAnyH _ _ _ _ _ _ _ _ wr.drew
          have e : ({ wr with drawn := wr.drawn + 1 } : World) = wr.drew := rfl
          rw [e] at NHY NHP NHR NHX NHG
          clear e
          generalize wr.drew = W at *
          clear wr
          have HY := NHY
          have HP := NHP
          have HR := NHR
          have HX := NHX
          have HG := NHG
          clear NHY NHP NHR NHX NHG
          refine Cp.take_put (i := 0) (v := .pointer (some ⟨B, 2, none⟩)) 50 rfl rfl (by kernel_rfl) (by kernel_rfl) (by kernel_rfl) (fun _ _ _ h => h) (Or.inl ⟨by rfl, by intro V hSV; go_simp⟩) (by assumption) ?_
          (try simp only [Act.put, List.setIfInBounds_toArray, List.set_cons_zero, List.set_cons_succ])
          refine Cp.take_put (i := 2) (v := .pointer (some ⟨b, 0, none⟩)) 52 rfl rfl (by kernel_rfl) (by kernel_rfl) (by kernel_rfl) (fun _ _ _ h => h) (Or.inl ⟨by rfl, by intro V hSV; go_simp⟩) (by assumption) ?_
          (try simp only [Act.put, List.setIfInBounds_toArray, List.set_cons_zero, List.set_cons_succ])
          refine wpAnyH_ready (rs := [1, 3]) (by kernel_rfl) (by simp) ?_
          refine AllReadyH.cons rfl (fun K hK => ?_) (AllReadyH.cons rfl (fun K hK => ?_) AllReadyH.nil)
          · have k1 : W.cell? ⟨B, 2, none⟩ = some (.slice a j c) := blk_cell HY.out 2
            go_simp
            clear hHeld
            refine hK.out _ _ trivial (fun hHeld => ?_)
            clear hK K k1
            refine wpAnyH_ready (rs := [3]) (by kernel_rfl) (by simp) ?_
            refine AllReadyH.cons rfl (fun K hK => ?_) AllReadyH.nil
            · go_simp
              refine (HC.out _ HR.out).mono ?_; rintro e W2 ⟨q, rfl, hpo, hr, hg⟩
              have NHY := hide (box_grown HY.out hg (by simp; omega))
              have NHP := hide (HP.out.type hg HR.out.type (by decide) (by decide) (by decide))
              have NHX := hide (box_grown HX.out hg (by simp; omega))
              have NHG := hide (grown_spoil HG.out (show w.heap.size ≤ b by omega) hg)
              have NHR := hide hr
              have NHQ := hide (show Cp.PartOwn (B + 1) W2 q p from ⟨hpo.1, own_mono hpo.2.1 (box_lt HY.out), own_mono hpo.2.2 (box_lt HY.out)⟩)
              clear hHeld
              refine hK.out _ _ trivial (fun hHeld => ?_)
              clear hK K hr hg hpo HY HP HR HX HG
              clear W
              rename World => W
              have HY := NHY
              have HP := NHP
              have HR := NHR
              have HX := NHX
              have HG := NHG
              have HQ := NHQ
              clear NHY NHP NHR NHX NHG NHQ
              refine wpAnyH_ready (rs := [4]) (by kernel_rfl) (by simp) ?_
              refine AllReadyH.cons rfl (fun K hK => ?_) AllReadyH.nil
              · go_simp
                have hgx := World.grownBy_alloc W (.cells #[.int .i64 q.level, .slice q.ta q.tn q.tc, .slice q.ca q.cn q.cc] 50) none
                have NHY := hide (box_grown HY.out hgx (by simp))
                have NHP := hide (HP.out.grown hgx)
                have NHR := hide (HR.out.kept hgx (by simp))
                have NHX := hide (box_grown HX.out hgx (by simp))
                have NHG := hide (grownBy_trans HG.out hgx)
                have NHQ := hide (show Cp.PartOwn (B + 1) (W.alloc (.cells #[.int .i64 q.level, .slice q.ta q.tn q.tc, .slice q.ca q.cn q.cc] 50)) q p from ⟨HQ.out.1, own_kept HQ.out.2.1 hgx, own_kept HQ.out.2.2 hgx⟩)
                have NHB := hide (heap_alloc_new W (.cells #[.int .i64 q.level, .slice q.ta q.tn q.tc, .slice q.ca q.cn q.cc] 50))
                clear hHeld
                refine hK.out _ _ trivial (fun hHeld => ?_)
                clear hK K hgx HY HP HR HX HG HQ
                generalize W.alloc (.cells #[.int .i64 q.level, .slice q.ta q.tn q.tc, .slice q.ca q.cn q.cc] 50) = W2 at *
                generalize W.heap.size = g4 at *
                clear W
                rename World => W
                have HY := NHY
                have HP := NHP
                have HR := NHR
                have HX := NHX
                have HG := NHG
                have HQ := NHQ
                have HB := NHB
                clear NHY NHP NHR NHX NHG NHQ NHB
                obtain ⟨qs2, y1, y2, y3⟩ := HP.out
                have Y1 := hide y1
                have hyl : qs2.length = j := by rw [y1]; exact HL.out
                have Y2 := hide (show W.ownsRow (B + 1) 50 3 (.slice a j c) j (shP.cells qs2) by rw [hyl] at y2; exact y2)
                have Y3 := hide y3
                have HYL := hide hyl
                clear y1 y2 y3 hyl HP
                refine wpAnyH_ready (rs := [5]) (by kernel_rfl) (by simp) ?_
                refine AllReadyH.cons rfl (fun K hK => ?_) AllReadyH.nil
                refine Cp.step_app (S := shP) _ rfl _ _ 22 rfl 50 _ 56 Tryd.underlying22 Cp.infoP rfl (B + 1) (.slice a j c) j qs2 rfl Y2.out ⟨g4, 0, none⟩ 1 1 [q] rfl rfl (Cp.one_at shP _ HB.out) ?c1 ?c2 (box_lt HY.out) ?_
                case c1 => omega
                case c2 => omega
                intro a5 c5 W2 ho hgw
                have NHG := hide (Cp.grown_app HG.out Y2.out (show w.heap.size ≤ B + 1 by omega) hgw)
                have NHR := hide (HR.out.app Y2.out hgw (by decide))
                have NHX := hide (Cp.box_app HX.out Y2.out hgw (by decide))
                have NHY := hide (Cp.box_app HY.out Y2.out hgw (by decide))
                have NHP := hide (Cp.POwn.snoc Y1.out Y2.out Y3.out HQ.out ho HYL.out hgw)
                clear hHeld
                refine hK.out _ _ trivial (fun hHeld => ?_)
                clear hK K ho hgw HG HR HX HY HB HQ Y1 Y2 Y3 HYL
                clear W
                (try dsimp only [Act.put])
                rename World => W
                have HY := NHY
                have HP := NHP
                have HR := NHR
                have HX := NHX
                have HG := NHG
                clear NHY NHP NHR NHX NHG
                refine Cp.take_put (i := 6) (v := .pointer (some ⟨B, 2, none⟩)) 56 rfl rfl (by kernel_rfl) (by kernel_rfl) (by kernel_rfl) (fun _ _ _ h => h) (Or.inl ⟨by rfl, by intro V hSV; go_simp⟩) (by assumption) ?_
                (try dsimp only [Act.put])
                have k1 : W.cell? ⟨B, 2, none⟩ = some (.slice a j c) := blk_cell HY.out 2
                have kf := blk_free HY.out
                have hgs := grownBy_set W B 2 (.slice a5 (j + 1) c5)
                have NHG := hide (grown_spoil HG.out (show w.heap.size ≤ B by omega) hgs)
                have NHR := hide (HR.out.kept hgs (by simp; omega))
                have NHX := hide (box_grown HX.out hgs (by simp; omega))
                have NHP := hide (HP.out.type hgs (Cp.type_box HY.out) (by decide) (by decide) (by decide))
                have NHY := hide (blk_set HY.out (j := 2) (u := .slice a5 (j + 1) c5) (cs' := #[.int .i64 fr, .int .i64 qt, .slice a5 (j + 1) c5, .slice none 0 0, .slice none 0 0]) rfl)
                clear hgs
                refine wpAnyH_ready (rs := [7]) (by kernel_rfl) (by simp) ?_
                refine AllReadyH.cons rfl (fun K hK => ?_) AllReadyH.nil
                go_simp
                refine hK.out _ _ trivial (fun hHeld2 => ?_)
                clear hK K
                refine wpAnyH_done (by kernel_rfl) ?_ _
                refine NoPanic.normal ?_
                go_wp2
                go_roundw
                case rel => exact ⟨j + 1, a5, c5, by omega, by go_num, by rw [HS.out]; exact hide (by simp [HL.out]), NHY, by rw [HS.out]; exact NHP, by rw [HS.out]; exact NHR, NHX, NHG⟩
                case measure => simp [intOf]; omega
          · go_simp
            refine (HC.out _ HR.out).mono ?_; rintro e W2 ⟨q, rfl, hpo, hr, hg⟩
            have NHY := hide (box_grown HY.out hg (by simp; omega))
            have NHP := hide (HP.out.type hg HR.out.type (by decide) (by decide) (by decide))
            have NHX := hide (box_grown HX.out hg (by simp; omega))
            have NHG := hide (grown_spoil HG.out (show w.heap.size ≤ b by omega) hg)
            have NHR := hide hr
            have NHQ := hide (show Cp.PartOwn (B + 1) W2 q p from ⟨hpo.1, own_mono hpo.2.1 (box_lt HY.out), own_mono hpo.2.2 (box_lt HY.out)⟩)
            clear hHeld
            refine hK.out _ _ trivial (fun hHeld => ?_)
            clear hK K hr hg hpo HY HP HR HX HG
            clear W
            rename World => W
            have HY := NHY
            have HP := NHP
            have HR := NHR
            have HX := NHX
            have HG := NHG
            have HQ := NHQ
            clear NHY NHP NHR NHX NHG NHQ
            refine wpAnyH_ready (rs := [1, 4]) (by kernel_rfl) (by simp) ?_
            refine AllReadyH.cons rfl (fun K hK => ?_) (AllReadyH.cons rfl (fun K hK => ?_) AllReadyH.nil)
            · have k1 : W.cell? ⟨B, 2, none⟩ = some (.slice a j c) := blk_cell HY.out 2
              go_simp
              clear hHeld
              refine hK.out _ _ trivial (fun hHeld => ?_)
              clear hK K k1
              refine wpAnyH_ready (rs := [4]) (by kernel_rfl) (by simp) ?_
              refine AllReadyH.cons rfl (fun K hK => ?_) AllReadyH.nil
              · go_simp
                have hgx := World.grownBy_alloc W (.cells #[.int .i64 q.level, .slice q.ta q.tn q.tc, .slice q.ca q.cn q.cc] 50) none
                have NHY := hide (box_grown HY.out hgx (by simp))
                have NHP := hide (HP.out.grown hgx)
                have NHR := hide (HR.out.kept hgx (by simp))
                have NHX := hide (box_grown HX.out hgx (by simp))
                have NHG := hide (grownBy_trans HG.out hgx)
                have NHQ := hide (show Cp.PartOwn (B + 1) (W.alloc (.cells #[.int .i64 q.level, .slice q.ta q.tn q.tc, .slice q.ca q.cn q.cc] 50)) q p from ⟨HQ.out.1, own_kept HQ.out.2.1 hgx, own_kept HQ.out.2.2 hgx⟩)
                have NHB := hide (heap_alloc_new W (.cells #[.int .i64 q.level, .slice q.ta q.tn q.tc, .slice q.ca q.cn q.cc] 50))
                clear hHeld
                refine hK.out _ _ trivial (fun hHeld => ?_)
                clear hK K hgx HY HP HR HX HG HQ
                generalize W.alloc (.cells #[.int .i64 q.level, .slice q.ta q.tn q.tc, .slice q.ca q.cn q.cc] 50) = W2 at *
                generalize W.heap.size = g4 at *
                clear W
                rename World => W
                have HY := NHY
                have HP := NHP
                have HR := NHR
                have HX := NHX
                have HG := NHG
                have HQ := NHQ
                have HB := NHB
                clear NHY NHP NHR NHX NHG NHQ NHB
                obtain ⟨qs2, y1, y2, y3⟩ := HP.out
                have Y1 := hide y1
                have hyl : qs2.length = j := by rw [y1]; exact HL.out
                have Y2 := hide (show W.ownsRow (B + 1) 50 3 (.slice a j c) j (shP.cells qs2) by rw [hyl] at y2; exact y2)
                have Y3 := hide y3
                have HYL := hide hyl
                clear y1 y2 y3 hyl HP
                refine wpAnyH_ready (rs := [5]) (by kernel_rfl) (by simp) ?_
                refine AllReadyH.cons rfl (fun K hK => ?_) AllReadyH.nil
                refine Cp.step_app (S := shP) _ rfl _ _ 22 rfl 50 _ 56 Tryd.underlying22 Cp.infoP rfl (B + 1) (.slice a j c) j qs2 rfl Y2.out ⟨g4, 0, none⟩ 1 1 [q] rfl rfl (Cp.one_at shP _ HB.out) ?c1 ?c2 (box_lt HY.out) ?_
                case c1 => omega
                case c2 => omega
                intro a5 c5 W2 ho hgw
                have NHG := hide (Cp.grown_app HG.out Y2.out (show w.heap.size ≤ B + 1 by omega) hgw)
                have NHR := hide (HR.out.app Y2.out hgw (by decide))
                have NHX := hide (Cp.box_app HX.out Y2.out hgw (by decide))
                have NHY := hide (Cp.box_app HY.out Y2.out hgw (by decide))
                have NHP := hide (Cp.POwn.snoc Y1.out Y2.out Y3.out HQ.out ho HYL.out hgw)
                clear hHeld
                refine hK.out _ _ trivial (fun hHeld => ?_)
                clear hK K ho hgw HG HR HX HY HB HQ Y1 Y2 Y3 HYL
                clear W
                (try dsimp only [Act.put])
                rename World => W
                have HY := NHY
                have HP := NHP
                have HR := NHR
                have HX := NHX
                have HG := NHG
                clear NHY NHP NHR NHX NHG
                refine Cp.take_put (i := 6) (v := .pointer (some ⟨B, 2, none⟩)) 56 rfl rfl (by kernel_rfl) (by kernel_rfl) (by kernel_rfl) (fun _ _ _ h => h) (Or.inl ⟨by rfl, by intro V hSV; go_simp⟩) (by assumption) ?_
                (try dsimp only [Act.put])
                have k1 : W.cell? ⟨B, 2, none⟩ = some (.slice a j c) := blk_cell HY.out 2
                have kf := blk_free HY.out
                have hgs := grownBy_set W B 2 (.slice a5 (j + 1) c5)
                have NHG := hide (grown_spoil HG.out (show w.heap.size ≤ B by omega) hgs)
                have NHR := hide (HR.out.kept hgs (by simp; omega))
                have NHX := hide (box_grown HX.out hgs (by simp; omega))
                have NHP := hide (HP.out.type hgs (Cp.type_box HY.out) (by decide) (by decide) (by decide))
                have NHY := hide (blk_set HY.out (j := 2) (u := .slice a5 (j + 1) c5) (cs' := #[.int .i64 fr, .int .i64 qt, .slice a5 (j + 1) c5, .slice none 0 0, .slice none 0 0]) rfl)
                clear hgs
                refine wpAnyH_ready (rs := [7]) (by kernel_rfl) (by simp) ?_
                refine AllReadyH.cons rfl (fun K hK => ?_) AllReadyH.nil
                go_simp
                refine hK.out _ _ trivial (fun hHeld2 => ?_)
                clear hK K
                refine wpAnyH_done (by kernel_rfl) ?_ _
                refine NoPanic.normal ?_
                go_wp2
                go_roundw
                case rel => exact ⟨j + 1, a5, c5, by omega, by go_num, by rw [HS.out]; exact hide (by simp [HL.out]), NHY, by rw [HS.out]; exact NHP, by rw [HS.out]; exact NHR, NHX, NHG⟩
                case measure => simp [intOf]; omega
            · go_simp
              have hgx := World.grownBy_alloc W (.cells #[.int .i64 q.level, .slice q.ta q.tn q.tc, .slice q.ca q.cn q.cc] 50) none
              have NHY := hide (box_grown HY.out hgx (by simp))
              have NHP := hide (HP.out.grown hgx)
              have NHR := hide (HR.out.kept hgx (by simp))
              have NHX := hide (box_grown HX.out hgx (by simp))
              have NHG := hide (grownBy_trans HG.out hgx)
              have NHQ := hide (show Cp.PartOwn (B + 1) (W.alloc (.cells #[.int .i64 q.level, .slice q.ta q.tn q.tc, .slice q.ca q.cn q.cc] 50)) q p from ⟨HQ.out.1, own_kept HQ.out.2.1 hgx, own_kept HQ.out.2.2 hgx⟩)
              have NHB := hide (heap_alloc_new W (.cells #[.int .i64 q.level, .slice q.ta q.tn q.tc, .slice q.ca q.cn q.cc] 50))
              clear hHeld
              refine hK.out _ _ trivial (fun hHeld => ?_)
              clear hK K hgx HY HP HR HX HG HQ
              generalize W.alloc (.cells #[.int .i64 q.level, .slice q.ta q.tn q.tc, .slice q.ca q.cn q.cc] 50) = W2 at *
              generalize W.heap.size = g4 at *
              clear W
              rename World => W
              have HY := NHY
              have HP := NHP
              have HR := NHR
              have HX := NHX
              have HG := NHG
              have HQ := NHQ
              have HB := NHB
              clear NHY NHP NHR NHX NHG NHQ NHB
              refine wpAnyH_ready (rs := [1]) (by kernel_rfl) (by simp) ?_
              refine AllReadyH.cons rfl (fun K hK => ?_) AllReadyH.nil
              · have k1 : W.cell? ⟨B, 2, none⟩ = some (.slice a j c) := blk_cell HY.out 2
                go_simp
                clear hHeld
                refine hK.out _ _ trivial (fun hHeld => ?_)
                clear hK K k1
                obtain ⟨qs2, y1, y2, y3⟩ := HP.out
                have Y1 := hide y1
                have hyl : qs2.length = j := by rw [y1]; exact HL.out
                have Y2 := hide (show W.ownsRow (B + 1) 50 3 (.slice a j c) j (shP.cells qs2) by rw [hyl] at y2; exact y2)
                have Y3 := hide y3
                have HYL := hide hyl
                clear y1 y2 y3 hyl HP
                refine wpAnyH_ready (rs := [5]) (by kernel_rfl) (by simp) ?_
                refine AllReadyH.cons rfl (fun K hK => ?_) AllReadyH.nil
                refine Cp.step_app (S := shP) _ rfl _ _ 22 rfl 50 _ 56 Tryd.underlying22 Cp.infoP rfl (B + 1) (.slice a j c) j qs2 rfl Y2.out ⟨g4, 0, none⟩ 1 1 [q] rfl rfl (Cp.one_at shP _ HB.out) ?c1 ?c2 (box_lt HY.out) ?_
                case c1 => omega
                case c2 => omega
                intro a5 c5 W2 ho hgw
                have NHG := hide (Cp.grown_app HG.out Y2.out (show w.heap.size ≤ B + 1 by omega) hgw)
                have NHR := hide (HR.out.app Y2.out hgw (by decide))
                have NHX := hide (Cp.box_app HX.out Y2.out hgw (by decide))
                have NHY := hide (Cp.box_app HY.out Y2.out hgw (by decide))
                have NHP := hide (Cp.POwn.snoc Y1.out Y2.out Y3.out HQ.out ho HYL.out hgw)
                clear hHeld
                refine hK.out _ _ trivial (fun hHeld => ?_)
                clear hK K ho hgw HG HR HX HY HB HQ Y1 Y2 Y3 HYL
                clear W
                (try dsimp only [Act.put])
                rename World => W
                have HY := NHY
                have HP := NHP
                have HR := NHR
                have HX := NHX
                have HG := NHG
                clear NHY NHP NHR NHX NHG
                refine Cp.take_put (i := 6) (v := .pointer (some ⟨B, 2, none⟩)) 56 rfl rfl (by kernel_rfl) (by kernel_rfl) (by kernel_rfl) (fun _ _ _ h => h) (Or.inl ⟨by rfl, by intro V hSV; go_simp⟩) (by assumption) ?_
                (try dsimp only [Act.put])
                have k1 : W.cell? ⟨B, 2, none⟩ = some (.slice a j c) := blk_cell HY.out 2
                have kf := blk_free HY.out
                have hgs := grownBy_set W B 2 (.slice a5 (j + 1) c5)
                have NHG := hide (grown_spoil HG.out (show w.heap.size ≤ B by omega) hgs)
                have NHR := hide (HR.out.kept hgs (by simp; omega))
                have NHX := hide (box_grown HX.out hgs (by simp; omega))
                have NHP := hide (HP.out.type hgs (Cp.type_box HY.out) (by decide) (by decide) (by decide))
                have NHY := hide (blk_set HY.out (j := 2) (u := .slice a5 (j + 1) c5) (cs' := #[.int .i64 fr, .int .i64 qt, .slice a5 (j + 1) c5, .slice none 0 0, .slice none 0 0]) rfl)
                clear hgs
                refine wpAnyH_ready (rs := [7]) (by kernel_rfl) (by simp) ?_
                refine AllReadyH.cons rfl (fun K hK => ?_) AllReadyH.nil
                go_simp
                refine hK.out _ _ trivial (fun hHeld2 => ?_)
                clear hK K
                refine wpAnyH_done (by kernel_rfl) ?_ _
                refine NoPanic.normal ?_
                go_wp2
                go_roundw
                case rel => exact ⟨j + 1, a5, c5, by omega, by go_num, by rw [HS.out]; exact hide (by simp [HL.out]), NHY, by rw [HS.out]; exact NHP, by rw [HS.out]; exact NHR, NHX, NHG⟩
                case measure => simp [intOf]; omega
      · have e : j = N1 := by omega
        subst e
        have HE := HMN1
        go_wp2
        go_meet
        have e1 : (manyB partB j st3).1 = ps := by rw [HE.out]
        have e2 : (manyB partB j st3).2 = st4 := by rw [HE.out]
        have e3 : ps.length = j := by rw [← e1]; exact HL.out
        exact ⟨a, c, by rw [e3]; exact HY, by rw [e3, ← e1]; exact HP, by rw [← e2]; exact HR, HX, HG⟩
  case rest =>
    clear HR HX HY HG HMN1 CP
    obtain ⟨pa, pc, HY, HP, HR, HX, HG⟩ := hcut
    obtain ⟨hz0, hz1_n2⟩ := HB_n2.out _ HR.out
    obtain ⟨N2, rfl⟩ : ∃ N2 : Nat, n2 = N2 := ⟨n2.toNat, by omega⟩
    have HMN2 := hide (show manyB winR N2 st5 = (ws, st6) from HM_n2.out)
    clear hz0 HM_n2 HB_n2
    go_wp2_with (first | fail)
    refine (C_n2.out _ HR.out).mono ?_; rintro e w5 ⟨rfl, hr, hg⟩
    have NHY := hide (box_grown HY.out hg (by simp; omega))
    have NHP := hide (HP.out.type hg HR.out.type (by decide) (by decide) (by decide))
    have NHX := hide (box_grown HX.out hg (by simp; omega))
    have NHG := hide (grown_spoil HG.out (show w.heap.size ≤ b by omega) hg)
    have NHR := hide hr
    clear hr hg HY HP HR HX HG
    have HY := NHY
    have HP := NHP
    have HR := NHR
    have HX := NHX
    have HG := NHG
    clear NHY NHP NHR NHX NHG
    go_upto_block 2 with fail
    go_cut [8] (fun _ V => ∃ (a : Option Addr) (c : Nat), Hid (V.heap[B]? = some (.cells #[.int .i64 fr, .int .i64 qt, .slice pa ps.length pc, .slice a ws.length c, .slice none 0 0] 26 (0, 0))) ∧ Hid (Cp.POwn (B + 1) V (.slice pa ps.length pc) ps) ∧ Hid (V.ownsRow (B + 1) 59 3 (.slice a ws.length c) ws.length (shW.cells ws)) ∧ Hid (RN V b s st6) ∧ Hid (V.heap[w.heap.size]? = some (.cells #[.int .i64 0, .int .i64 0, .slice none 0 0, .slice none 0 0, .slice none 0 0] 26 (0, 0))) ∧ Hid (w.grownBy V none))
    case first =>
      go_wp2_with fail
      go_loopw [8] (fun i V => ∃ (j : Nat) (a : Option Addr) (c : Nat), j ≤ N2 ∧ i = .int .i64 j ∧ Hid ((manyB winR j st5).1.length = j) ∧ Hid (V.heap[B]? = some (.cells #[.int .i64 fr, .int .i64 qt, .slice pa ps.length pc, .slice a j c, .slice none 0 0] 26 (0, 0))) ∧ Hid (Cp.POwn (B + 1) V (.slice pa ps.length pc) ps) ∧ Hid (V.ownsRow (B + 1) 59 3 (.slice a j c) j (shW.cells (manyB winR j st5).1)) ∧ Hid (RN V b s (manyB winR j st5).2) ∧ Hid (V.heap[w.heap.size]? = some (.cells #[.int .i64 0, .int .i64 0, .slice none 0 0, .slice none 0 0, .slice none 0 0] 26 (0, 0))) ∧ Hid (w.grownBy V none)) (fun i _ => N2 - (intOf i).toNat)
      case atStart => exact ⟨0, none, 0, by omega, rfl, rfl, HY, HP, ⟨rfl, .inl ⟨rfl, rfl⟩⟩, HR, HX, HG⟩
      case round =>
        clear HY HP HR HX HG
        obtain ⟨j, a, c, hj, rfl, HL, HY, HP, HO, HR, HX, HG⟩ := hrel
        have cb := HR.out.at2
        by_cases hlt : j < N2
        · cases hbad : (manyB winR j st5).2.2 with
          | true =>
            rw [hbad] at cb
            have HE := hide ((manyB_stop hbad hj).symm.trans HMN2.out)
            clear hbad
            go_wp2
            go_meet
            have e1 : (manyB winR j st5).1 = ws := by rw [HE.out]
            have e2 : (manyB winR j st5).2 = st6 := by rw [HE.out]
            have e3 : ws.length = j := by rw [← e1]; exact HL.out
            exact ⟨a, c, by rw [e3]; exact HY, HP, by rw [e3, ← e1]; exact HO, by rw [← e2]; exact HR, HX, HG⟩
          | false =>
            rw [hbad] at cb
            have HS := hide (manyB_next hbad)
            clear hbad
            generalize (manyB winR j st5).1 = pre at *
            generalize (manyB winR j st5).2 = stj at *
            have ei : winR stj = (⟨(numR 2 stj).1, (numR 2 (numR 2 stj).2).1, (numR 1 (numR 2 (numR 2 stj).2).2).1⟩, (numR 1 (numR 2 (numR 2 stj).2).2).2) := rfl
            rw [ei] at HS
            clear ei
            have D0 := hide (fun W (h : RN W b s stj) => CN2.out stj W h)
            generalize numR 2 stj = r at *
            obtain ⟨x0, sta0⟩ := r
            dsimp only at D0 HS
            have D1 := hide (fun W (h : RN W b s sta0) => CN2.out sta0 W h)
            generalize numR 2 sta0 = r at *
            obtain ⟨x1, sta1⟩ := r
            dsimp only at D1 HS
            have D2 := hide (fun W (h : RN W b s sta1) => CN.out sta1 W h)
            generalize numR 1 sta1 = r at *
            obtain ⟨x2, sta2⟩ := r
            dsimp only at D2 HS
            go_wp2_with (first | fail)
            refine (D0.out _ HR.out).mono ?_; rintro e u0 ⟨rfl, hr, hg⟩
            have NHY := hide (box_grown HY.out hg (by simp; omega))
            have NHP := hide (HP.out.type hg HR.out.type (by decide) (by decide) (by decide))
            have NHX := hide (box_grown HX.out hg (by simp; omega))
            have NHG := hide (grown_spoil HG.out (show w.heap.size ≤ b by omega) hg)
            have NHO := hide (own_off HO.out hg hbb)
            have NHR := hide hr
            clear hr hg HY HP HR HX HG HO
            have HY := NHY
            have HP := NHP
            have HR := NHR
            have HX := NHX
            have HG := NHG
            have HO := NHO
            clear NHY NHP NHR NHX NHG NHO
            clear D0 cb
            have hgx := World.grownBy_alloc u0 (.cells #[.int .i64 x0, .int .i64 0, .int .i64 0] 59) none
            have NHY := hide (box_grown HY.out hgx (by simp))
            have NHP := hide (HP.out.grown hgx)
            have NHR := hide (HR.out.kept hgx (by simp))
            have NHX := hide (box_grown HX.out hgx (by simp))
            have NHG := hide (grownBy_trans HG.out hgx)
            have NHO := hide (own_kept HO.out hgx)
            have NHE := hide (heap_alloc_new u0 (.cells #[.int .i64 x0, .int .i64 0, .int .i64 0] 59))
            have NN : Hid ((Value.slice a j c).ownBlock ≠ some u0.heap.size) := fun e => by have := (HO.out.lt _ e).2; omega
            have hgB : B < u0.heap.size := box_lt HY.out
            clear hgx HY HP HR HX HG HO
            have HY := NHY
            have HP := NHP
            have HR := NHR
            have HX := NHX
            have HG := NHG
            have HO := NHO
            have HE := NHE
            clear NHY NHP NHR NHX NHG NHO NHE
            go_upto_region 17 with fail
            generalize u0.alloc (.cells #[.int .i64 x0, .int .i64 0, .int .i64 0] 59) = t0 at *
            generalize u0.heap.size = g at *
            clear u0
            go_wp2_with (first | fail)
            refine (D1.out _ HR.out).mono ?_; rintro e u1 ⟨rfl, hr, hg⟩
            have NHY := hide (box_grown HY.out hg (by simp; omega))
            have NHP := hide (HP.out.type hg HR.out.type (by decide) (by decide) (by decide))
            have NHX := hide (box_grown HX.out hg (by simp; omega))
            have NHG := hide (grown_spoil HG.out (show w.heap.size ≤ b by omega) hg)
            have NHO := hide (own_off HO.out hg hbb)
            have NHR := hide hr
            have NHE := hide (box_grown HE.out hg (by simp; omega))
            clear D1 hr hg HY HP HR HX HG HO HE
            have HY := NHY
            have HP := NHP
            have HR := NHR
            have HX := NHX
            have HG := NHG
            have HO := NHO
            have HE := NHE
            clear NHY NHP NHR NHX NHG NHO NHE
            have ck : u1.cell? ⟨g, 1, none⟩ = some (.int .i64 0) := blk_cell HE.out 1
            have ckf := blk_free HE.out
            have hgs := grownBy_set u1 g 1 (.int .i64 x1)
            have NHY := hide (box_grown HY.out hgs (by simp; omega))
            have NHP := hide (HP.out.type hgs (Cp.type_box HE.out) (by decide) (by decide) (by decide))
            have NHR := hide (HR.out.kept hgs (by simp; omega))
            have NHX := hide (box_grown HX.out hgs (by simp; omega))
            have NHG := hide (grown_spoil HG.out (show w.heap.size ≤ g by omega) hgs)
            have NHO := hide ((HO.out).kept hgs (Or.inr NN.out))
            have NHE := hide (blk_set HE.out (j := 1) (u := .int .i64 x1) (cs' := #[.int .i64 x0, .int .i64 x1, .int .i64 0]) rfl)
            clear hgs HY HP HR HX HG HO HE
            have HY := NHY
            have HP := NHP
            have HR := NHR
            have HX := NHX
            have HG := NHG
            have HO := NHO
            have HE := NHE
            clear NHY NHP NHR NHX NHG NHO NHE
            go_upto_region 18 with fail
            clear ck ckf
            generalize u1.setCell ⟨g, 1, none⟩ (.int .i64 x1) = t1 at *
            clear u1
            go_wp2_with (first | fail)
            refine (D2.out _ HR.out).mono ?_; rintro e u2 ⟨rfl, hr, hg⟩
            have NHY := hide (box_grown HY.out hg (by simp; omega))
            have NHP := hide (HP.out.type hg HR.out.type (by decide) (by decide) (by decide))
            have NHX := hide (box_grown HX.out hg (by simp; omega))
            have NHG := hide (grown_spoil HG.out (show w.heap.size ≤ b by omega) hg)
            have NHO := hide (own_off HO.out hg hbb)
            have NHR := hide hr
            have NHE := hide (box_grown HE.out hg (by simp; omega))
            clear D2 hr hg HY HP HR HX HG HO HE
            have HY := NHY
            have HP := NHP
            have HR := NHR
            have HX := NHX
            have HG := NHG
            have HO := NHO
            have HE := NHE
            clear NHY NHP NHR NHX NHG NHO NHE
            have ck : u2.cell? ⟨g, 2, none⟩ = some (.int .i64 0) := blk_cell HE.out 2
            have ckf := blk_free HE.out
            have hgs := grownBy_set u2 g 2 (.int .i64 x2)
            have NHY := hide (box_grown HY.out hgs (by simp; omega))
            have NHP := hide (HP.out.type hgs (Cp.type_box HE.out) (by decide) (by decide) (by decide))
            have NHR := hide (HR.out.kept hgs (by simp; omega))
            have NHX := hide (box_grown HX.out hgs (by simp; omega))
            have NHG := hide (grown_spoil HG.out (show w.heap.size ≤ g by omega) hgs)
            have NHO := hide ((HO.out).kept hgs (Or.inr NN.out))
            have NHE := hide (blk_set HE.out (j := 2) (u := .int .i64 x2) (cs' := #[.int .i64 x0, .int .i64 x1, .int .i64 x2]) rfl)
            clear hgs HY HP HR HX HG HO HE
            have HY := NHY
            have HP := NHP
            have HR := NHR
            have HX := NHX
            have HG := NHG
            have HO := NHO
            have HE := NHE
            clear NHY NHP NHR NHX NHG NHO NHE
            go_upto_region 19 with fail
            clear ck ckf
            generalize u2.setCell ⟨g, 2, none⟩ (.int .i64 x2) = t2 at *
            clear u2
            have kk : t2.cell? ⟨B, 3, none⟩ = some (.slice a j c) := blk_cell HY.out 3
            have q0 : t2.cell? ⟨g, 0, none⟩ = some (.int .i64 x0) := blk_cell HE.out 0
            have q1 : t2.cell? ⟨g, 1, none⟩ = some (.int .i64 x1) := blk_cell HE.out 1
            have q2 : t2.cell? ⟨g, 2, none⟩ = some (.int .i64 x2) := blk_cell HE.out 2
            have hbs : B < t2.heap.size := box_lt HY.out
            go_wp2_with (at_builtin; refine app_row (S := shW) _ rfl _ _ 23 59 _ 24 Tryd.underlying23 Cp.infoW rfl rfl (B + 1) (.slice a j c) j pre rfl ?c0 ⟨t2.heap.size, 0, none⟩ 1 1 [⟨x0, x1, x2⟩] rfl rfl ?c1 ?c2 ?c3 ?c4 ?_)
            case c0 => exact HO.out.alloc _
            case c1 => exact one_cells shW ⟨x0, x1, x2⟩ t2 59
            case c2 => omega
            case c3 => omega
            case c4 => simp; omega
            intro a3 c3 w7 hown hgrow _
            have hgx := World.grownBy_alloc t2 (.cells #[.int .i64 x0, .int .i64 x1, .int .i64 x2] 59) none
            have NHY := hide (box_grown HY.out hgx (by simp))
            have NHP := hide (HP.out.grown hgx)
            have NHR := hide (HR.out.kept hgx (by simp))
            have NHX := hide (box_grown HX.out hgx (by simp))
            have NHG := hide (grownBy_trans HG.out hgx)
            have NHO := hide (HO.out.alloc (.cells #[.int .i64 x0, .int .i64 x1, .int .i64 x2] 59))
            clear hgx HE NN HY HP HR HX HG HO kk q0 q1 q2
            have HY := NHY
            have HP := NHP
            have HR := NHR
            have HX := NHX
            have HG := NHG
            have HO := NHO
            clear NHY NHP NHR NHX NHG NHO
            have NHY := hide (Cp.box_app HY.out HO.out hgrow (by decide))
            have NHP := hide (pown_app HP.out HO.out hgrow (by decide) (by decide) (by decide))
            have NHR := hide (HR.out.app HO.out hgrow (by decide))
            have NHX := hide (Cp.box_app HX.out HO.out hgrow (by decide))
            have NHG := hide (Cp.grown_app HG.out HO.out (show w.heap.size ≤ B + 1 by omega) hgrow)
            have NHO := hide hown
            clear hown hgrow HY HP HR HX HG HO
            have HY := NHY
            have HP := NHP
            have HR := NHR
            have HX := NHX
            have HG := NHG
            have HO := NHO
            clear NHY NHP NHR NHX NHG NHO
            have k3 : w7.cell? ⟨B, 3, none⟩ = some (.slice a j c) := blk_cell HY.out 3
            have kf := blk_free HY.out
            have hgs := grownBy_set w7 B 3 (.slice a3 (j + 1) c3)
            have NHP := hide (HP.out.type hgs (Cp.type_box HY.out) (by decide) (by decide) (by decide))
            have NHR := hide (HR.out.kept hgs (by simp; omega))
            have NHX := hide (box_grown HX.out hgs (by simp; omega))
            have NHG := hide (grown_spoil HG.out (show w.heap.size ≤ B by omega) hgs)
            have NHO := hide (Cp.own_type HO.out hgs (Cp.type_box HY.out) (by decide))
            have NHY := hide (blk_set HY.out (j := 3) (u := .slice a3 (j + 1) c3) (cs' := #[.int .i64 fr, .int .i64 qt, .slice pa ps.length pc, .slice a3 (j + 1) c3, .slice none 0 0]) rfl)
            clear hgs HY HP HR HX HG HO
            go_wp2
            go_roundw
            case rel => exact ⟨j + 1, a3, c3, by omega, by go_num, by rw [HS.out]; exact hide (by simp [HL.out]), NHY, NHP, by rw [HS.out]; exact NHO, by rw [HS.out]; exact NHR, NHX, NHG⟩
            case measure => simp [intOf]; omega
        · have e : j = N2 := by omega
          subst e
          have HE := HMN2
          go_wp2
          go_meet
          have e1 : (manyB winR j st5).1 = ws := by rw [HE.out]
          have e2 : (manyB winR j st5).2 = st6 := by rw [HE.out]
          have e3 : ws.length = j := by rw [← e1]; exact HL.out
          exact ⟨a, c, by rw [e3]; exact HY, HP, by rw [e3, ← e1]; exact HO, by rw [← e2]; exact HR, HX, HG⟩
    case rest =>
      clear HR HX HY HG HP HMN2
      obtain ⟨wa, wq, HY, HP, HW, HR, HX, HG⟩ := hcut
      obtain ⟨hz0, hz1_n3⟩ := HB_n3.out _ HR.out
      obtain ⟨N3, rfl⟩ : ∃ N3 : Nat, n3 = N3 := ⟨n3.toNat, by omega⟩
      have HMN3 := hide (show manyB portR N3 st7 = (os, stf) from HM_n3.out)
      clear hz0 HM_n3 HB_n3
      go_wp2_with (first | fail)
      refine (C_n3.out _ HR.out).mono ?_; rintro e w6 ⟨rfl, hr, hg⟩
      have NHY := hide (box_grown HY.out hg (by simp; omega))
      have NHP := hide (HP.out.type hg HR.out.type (by decide) (by decide) (by decide))
      have NHW := hide (own_off HW.out hg hbb)
      have NHX := hide (box_grown HX.out hg (by simp; omega))
      have NHG := hide (grown_spoil HG.out (show w.heap.size ≤ b by omega) hg)
      have NHR := hide hr
      clear hr hg HY HP HW HR HX HG
      have HY := NHY
      have HP := NHP
      have HW := NHW
      have HR := NHR
      have HX := NHX
      have HG := NHG
      clear NHY NHP NHW NHR NHX NHG
      go_upto_block 4 with fail
      go_cut [10] (fun _ V => ∃ (a : Option Addr) (c : Nat), Hid (V.heap[B]? = some (.cells #[.int .i64 fr, .int .i64 qt, .slice pa ps.length pc, .slice wa ws.length wq, .slice a os.length c] 26 (0, 0))) ∧ Hid (Cp.POwn (B + 1) V (.slice pa ps.length pc) ps) ∧ Hid (V.ownsRow (B + 1) 59 3 (.slice wa ws.length wq) ws.length (shW.cells ws)) ∧ Hid (V.ownsRow (B + 1) 57 4 (.slice a os.length c) os.length (shO.cells os)) ∧ Hid (RN V b s stf) ∧ Hid (V.heap[w.heap.size]? = some (.cells #[.int .i64 0, .int .i64 0, .slice none 0 0, .slice none 0 0, .slice none 0 0] 26 (0, 0))) ∧ Hid (w.grownBy V none))
      case first =>
        go_wp2_with fail
        go_loopw [10] (fun i V => ∃ (j : Nat) (a : Option Addr) (c : Nat), j ≤ N3 ∧ i = .int .i64 j ∧ Hid ((manyB portR j st7).1.length = j) ∧ Hid (V.heap[B]? = some (.cells #[.int .i64 fr, .int .i64 qt, .slice pa ps.length pc, .slice wa ws.length wq, .slice a j c] 26 (0, 0))) ∧ Hid (Cp.POwn (B + 1) V (.slice pa ps.length pc) ps) ∧ Hid (V.ownsRow (B + 1) 59 3 (.slice wa ws.length wq) ws.length (shW.cells ws)) ∧ Hid (V.ownsRow (B + 1) 57 4 (.slice a j c) j (shO.cells (manyB portR j st7).1)) ∧ Hid (RN V b s (manyB portR j st7).2) ∧ Hid (V.heap[w.heap.size]? = some (.cells #[.int .i64 0, .int .i64 0, .slice none 0 0, .slice none 0 0, .slice none 0 0] 26 (0, 0))) ∧ Hid (w.grownBy V none)) (fun i _ => N3 - (intOf i).toNat)
        case atStart => exact ⟨0, none, 0, by omega, rfl, rfl, HY, HP, HW, ⟨rfl, .inl ⟨rfl, rfl⟩⟩, HR, HX, HG⟩
        case round =>
          clear HY HP HW HR HX HG
          obtain ⟨j, a, c, hj, rfl, HL, HY, HP, HW, HO, HR, HX, HG⟩ := hrel
          have cb := HR.out.at2
          by_cases hlt : j < N3
          · cases hbad : (manyB portR j st7).2.2 with
            | true =>
              rw [hbad] at cb
              have HE := hide ((manyB_stop hbad hj).symm.trans HMN3.out)
              clear hbad
              go_wp2
              go_meet
              have e1 : (manyB portR j st7).1 = os := by rw [HE.out]
              have e2 : (manyB portR j st7).2 = stf := by rw [HE.out]
              have e3 : os.length = j := by rw [← e1]; exact HL.out
              exact ⟨a, c, by rw [e3]; exact HY, HP, HW, by rw [e3, ← e1]; exact HO, by rw [← e2]; exact HR, HX, HG⟩
            | false =>
              rw [hbad] at cb
              have HS := hide (manyB_next hbad)
              clear hbad
              generalize (manyB portR j st7).1 = pre at *
              generalize (manyB portR j st7).2 = stj at *
              have ei : portR stj = (⟨(numR 1 stj).1, (numR 1 (numR 1 stj).2).1, (numR 1 (numR 1 (numR 1 stj).2).2).1, (numR 1 (numR 1 (numR 1 (numR 1 stj).2).2).2).1⟩, (numR 1 (numR 1 (numR 1 (numR 1 stj).2).2).2).2) := rfl
              rw [ei] at HS
              clear ei
              have D0 := hide (fun W (h : RN W b s stj) => CN.out stj W h)
              generalize numR 1 stj = r at *
              obtain ⟨x0, sta0⟩ := r
              dsimp only at D0 HS
              have D1 := hide (fun W (h : RN W b s sta0) => CN.out sta0 W h)
              generalize numR 1 sta0 = r at *
              obtain ⟨x1, sta1⟩ := r
              dsimp only at D1 HS
              have D2 := hide (fun W (h : RN W b s sta1) => CN.out sta1 W h)
              generalize numR 1 sta1 = r at *
              obtain ⟨x2, sta2⟩ := r
              dsimp only at D2 HS
              have D3 := hide (fun W (h : RN W b s sta2) => CN.out sta2 W h)
              generalize numR 1 sta2 = r at *
              obtain ⟨x3, sta3⟩ := r
              dsimp only at D3 HS
              go_wp2_with (first | fail)
              refine (D0.out _ HR.out).mono ?_; rintro e u0 ⟨rfl, hr, hg⟩
              have NHY := hide (box_grown HY.out hg (by simp; omega))
              have NHP := hide (HP.out.type hg HR.out.type (by decide) (by decide) (by decide))
              have NHW := hide (own_off HW.out hg hbb)
              have NHX := hide (box_grown HX.out hg (by simp; omega))
              have NHG := hide (grown_spoil HG.out (show w.heap.size ≤ b by omega) hg)
              have NHO := hide (own_off HO.out hg hbb)
              have NHR := hide hr
              clear hr hg HY HP HW HR HX HG HO
              have HY := NHY
              have HP := NHP
              have HW := NHW
              have HR := NHR
              have HX := NHX
              have HG := NHG
              have HO := NHO
              clear NHY NHP NHW NHR NHX NHG NHO
              clear D0 cb
              have hgx := World.grownBy_alloc u0 (.cells #[.int .i64 x0, .int .i64 0, .int .i64 0, .int .i64 0] 57) none
              have NHY := hide (box_grown HY.out hgx (by simp))
              have NHP := hide (HP.out.grown hgx)
              have NHW := hide (own_kept HW.out hgx)
              have NHR := hide (HR.out.kept hgx (by simp))
              have NHX := hide (box_grown HX.out hgx (by simp))
              have NHG := hide (grownBy_trans HG.out hgx)
              have NHO := hide (own_kept HO.out hgx)
              have NHE := hide (heap_alloc_new u0 (.cells #[.int .i64 x0, .int .i64 0, .int .i64 0, .int .i64 0] 57))
              have NN : Hid ((Value.slice a j c).ownBlock ≠ some u0.heap.size) := fun e => by have := (HO.out.lt _ e).2; omega
              have hgB : B < u0.heap.size := box_lt HY.out
              clear hgx HY HP HW HR HX HG HO
              have HY := NHY
              have HP := NHP
              have HW := NHW
              have HR := NHR
              have HX := NHX
              have HG := NHG
              have HO := NHO
              have HE := NHE
              clear NHY NHP NHW NHR NHX NHG NHO NHE
              go_upto_region 25 with fail
              generalize u0.alloc (.cells #[.int .i64 x0, .int .i64 0, .int .i64 0, .int .i64 0] 57) = t0 at *
              generalize u0.heap.size = g at *
              clear u0
              go_wp2_with (first | fail)
              refine (D1.out _ HR.out).mono ?_; rintro e u1 ⟨rfl, hr, hg⟩
              have NHY := hide (box_grown HY.out hg (by simp; omega))
              have NHP := hide (HP.out.type hg HR.out.type (by decide) (by decide) (by decide))
              have NHW := hide (own_off HW.out hg hbb)
              have NHX := hide (box_grown HX.out hg (by simp; omega))
              have NHG := hide (grown_spoil HG.out (show w.heap.size ≤ b by omega) hg)
              have NHO := hide (own_off HO.out hg hbb)
              have NHR := hide hr
              have NHE := hide (box_grown HE.out hg (by simp; omega))
              clear D1 hr hg HY HP HW HR HX HG HO HE
              have HY := NHY
              have HP := NHP
              have HW := NHW
              have HR := NHR
              have HX := NHX
              have HG := NHG
              have HO := NHO
              have HE := NHE
              clear NHY NHP NHW NHR NHX NHG NHO NHE
              have ck : u1.cell? ⟨g, 1, none⟩ = some (.int .i64 0) := blk_cell HE.out 1
              have ckf := blk_free HE.out
              have hgs := grownBy_set u1 g 1 (.int .i64 x1)
              have NHY := hide (box_grown HY.out hgs (by simp; omega))
              have NHP := hide (HP.out.type hgs (Cp.type_box HE.out) (by decide) (by decide) (by decide))
              have NHW := hide (Cp.own_type HW.out hgs (Cp.type_box HE.out) (by decide))
              have NHR := hide (HR.out.kept hgs (by simp; omega))
              have NHX := hide (box_grown HX.out hgs (by simp; omega))
              have NHG := hide (grown_spoil HG.out (show w.heap.size ≤ g by omega) hgs)
              have NHO := hide ((HO.out).kept hgs (Or.inr NN.out))
              have NHE := hide (blk_set HE.out (j := 1) (u := .int .i64 x1) (cs' := #[.int .i64 x0, .int .i64 x1, .int .i64 0, .int .i64 0]) rfl)
              clear hgs HY HP HW HR HX HG HO HE
              have HY := NHY
              have HP := NHP
              have HW := NHW
              have HR := NHR
              have HX := NHX
              have HG := NHG
              have HO := NHO
              have HE := NHE
              clear NHY NHP NHW NHR NHX NHG NHO NHE
              go_upto_region 26 with fail
              clear ck ckf
              generalize u1.setCell ⟨g, 1, none⟩ (.int .i64 x1) = t1 at *
              clear u1
              go_wp2_with (first | fail)
              refine (D2.out _ HR.out).mono ?_; rintro e u2 ⟨rfl, hr, hg⟩
              have NHY := hide (box_grown HY.out hg (by simp; omega))
              have NHP := hide (HP.out.type hg HR.out.type (by decide) (by decide) (by decide))
              have NHW := hide (own_off HW.out hg hbb)
              have NHX := hide (box_grown HX.out hg (by simp; omega))
              have NHG := hide (grown_spoil HG.out (show w.heap.size ≤ b by omega) hg)
              have NHO := hide (own_off HO.out hg hbb)
              have NHR := hide hr
              have NHE := hide (box_grown HE.out hg (by simp; omega))
              clear D2 hr hg HY HP HW HR HX HG HO HE
              have HY := NHY
              have HP := NHP
              have HW := NHW
              have HR := NHR
              have HX := NHX
              have HG := NHG
              have HO := NHO
              have HE := NHE
              clear NHY NHP NHW NHR NHX NHG NHO NHE
              have ck : u2.cell? ⟨g, 2, none⟩ = some (.int .i64 0) := blk_cell HE.out 2
              have ckf := blk_free HE.out
              have hgs := grownBy_set u2 g 2 (.int .i64 x2)
              have NHY := hide (box_grown HY.out hgs (by simp; omega))
              have NHP := hide (HP.out.type hgs (Cp.type_box HE.out) (by decide) (by decide) (by decide))
              have NHW := hide (Cp.own_type HW.out hgs (Cp.type_box HE.out) (by decide))
              have NHR := hide (HR.out.kept hgs (by simp; omega))
              have NHX := hide (box_grown HX.out hgs (by simp; omega))
              have NHG := hide (grown_spoil HG.out (show w.heap.size ≤ g by omega) hgs)
              have NHO := hide ((HO.out).kept hgs (Or.inr NN.out))
              have NHE := hide (blk_set HE.out (j := 2) (u := .int .i64 x2) (cs' := #[.int .i64 x0, .int .i64 x1, .int .i64 x2, .int .i64 0]) rfl)
              clear hgs HY HP HW HR HX HG HO HE
              have HY := NHY
              have HP := NHP
              have HW := NHW
              have HR := NHR
              have HX := NHX
              have HG := NHG
              have HO := NHO
              have HE := NHE
              clear NHY NHP NHW NHR NHX NHG NHO NHE
              go_upto_region 27 with fail
              clear ck ckf
              generalize u2.setCell ⟨g, 2, none⟩ (.int .i64 x2) = t2 at *
              clear u2
              go_wp2_with (first | fail)
              refine (D3.out _ HR.out).mono ?_; rintro e u3 ⟨rfl, hr, hg⟩
              have NHY := hide (box_grown HY.out hg (by simp; omega))
              have NHP := hide (HP.out.type hg HR.out.type (by decide) (by decide) (by decide))
              have NHW := hide (own_off HW.out hg hbb)
              have NHX := hide (box_grown HX.out hg (by simp; omega))
              have NHG := hide (grown_spoil HG.out (show w.heap.size ≤ b by omega) hg)
              have NHO := hide (own_off HO.out hg hbb)
              have NHR := hide hr
              have NHE := hide (box_grown HE.out hg (by simp; omega))
              clear D3 hr hg HY HP HW HR HX HG HO HE
              have HY := NHY
              have HP := NHP
              have HW := NHW
              have HR := NHR
              have HX := NHX
              have HG := NHG
              have HO := NHO
              have HE := NHE
              clear NHY NHP NHW NHR NHX NHG NHO NHE
              have ck : u3.cell? ⟨g, 3, none⟩ = some (.int .i64 0) := blk_cell HE.out 3
              have ckf := blk_free HE.out
              have hgs := grownBy_set u3 g 3 (.int .i64 x3)
              have NHY := hide (box_grown HY.out hgs (by simp; omega))
              have NHP := hide (HP.out.type hgs (Cp.type_box HE.out) (by decide) (by decide) (by decide))
              have NHW := hide (Cp.own_type HW.out hgs (Cp.type_box HE.out) (by decide))
              have NHR := hide (HR.out.kept hgs (by simp; omega))
              have NHX := hide (box_grown HX.out hgs (by simp; omega))
              have NHG := hide (grown_spoil HG.out (show w.heap.size ≤ g by omega) hgs)
              have NHO := hide ((HO.out).kept hgs (Or.inr NN.out))
              have NHE := hide (blk_set HE.out (j := 3) (u := .int .i64 x3) (cs' := #[.int .i64 x0, .int .i64 x1, .int .i64 x2, .int .i64 x3]) rfl)
              clear hgs HY HP HW HR HX HG HO HE
              have HY := NHY
              have HP := NHP
              have HW := NHW
              have HR := NHR
              have HX := NHX
              have HG := NHG
              have HO := NHO
              have HE := NHE
              clear NHY NHP NHW NHR NHX NHG NHO NHE
              go_upto_region 28 with fail
              clear ck ckf
              generalize u3.setCell ⟨g, 3, none⟩ (.int .i64 x3) = t3 at *
              clear u3
              have kk : t3.cell? ⟨B, 4, none⟩ = some (.slice a j c) := blk_cell HY.out 4
              have q0 : t3.cell? ⟨g, 0, none⟩ = some (.int .i64 x0) := blk_cell HE.out 0
              have q1 : t3.cell? ⟨g, 1, none⟩ = some (.int .i64 x1) := blk_cell HE.out 1
              have q2 : t3.cell? ⟨g, 2, none⟩ = some (.int .i64 x2) := blk_cell HE.out 2
              have q3 : t3.cell? ⟨g, 3, none⟩ = some (.int .i64 x3) := blk_cell HE.out 3
              have hbs : B < t3.heap.size := box_lt HY.out
              go_wp2_with (at_builtin; refine app_row (S := shO) _ rfl _ _ 24 57 _ 32 Tryd.underlying24 Cp.infoO rfl rfl (B + 1) (.slice a j c) j pre rfl ?c0 ⟨t3.heap.size, 0, none⟩ 1 1 [⟨x0, x1, x2, x3⟩] rfl rfl ?c1 ?c2 ?c3 ?c4 ?_)
              case c0 => exact HO.out.alloc _
              case c1 => exact one_cells shO ⟨x0, x1, x2, x3⟩ t3 57
              case c2 => omega
              case c3 => omega
              case c4 => simp; omega
              intro a3 c3 w7 hown hgrow _
              have hgx := World.grownBy_alloc t3 (.cells #[.int .i64 x0, .int .i64 x1, .int .i64 x2, .int .i64 x3] 57) none
              have NHY := hide (box_grown HY.out hgx (by simp))
              have NHP := hide (HP.out.grown hgx)
              have NHW := hide (own_kept HW.out hgx)
              have NHR := hide (HR.out.kept hgx (by simp))
              have NHX := hide (box_grown HX.out hgx (by simp))
              have NHG := hide (grownBy_trans HG.out hgx)
              have NHO := hide (HO.out.alloc (.cells #[.int .i64 x0, .int .i64 x1, .int .i64 x2, .int .i64 x3] 57))
              clear hgx HE NN HY HP HW HR HX HG HO kk q0 q1 q2 q3
              have HY := NHY
              have HP := NHP
              have HW := NHW
              have HR := NHR
              have HX := NHX
              have HG := NHG
              have HO := NHO
              clear NHY NHP NHW NHR NHX NHG NHO
              have NHY := hide (Cp.box_app HY.out HO.out hgrow (by decide))
              have NHP := hide (pown_app HP.out HO.out hgrow (by decide) (by decide) (by decide))
              have NHW := hide (Cp.own_app HW.out HO.out hgrow (by decide))
              have NHR := hide (HR.out.app HO.out hgrow (by decide))
              have NHX := hide (Cp.box_app HX.out HO.out hgrow (by decide))
              have NHG := hide (Cp.grown_app HG.out HO.out (show w.heap.size ≤ B + 1 by omega) hgrow)
              have NHO := hide hown
              clear hown hgrow HY HP HW HR HX HG HO
              have HY := NHY
              have HP := NHP
              have HW := NHW
              have HR := NHR
              have HX := NHX
              have HG := NHG
              have HO := NHO
              clear NHY NHP NHW NHR NHX NHG NHO
              have k3 : w7.cell? ⟨B, 4, none⟩ = some (.slice a j c) := blk_cell HY.out 4
              have kf := blk_free HY.out
              have hgs := grownBy_set w7 B 4 (.slice a3 (j + 1) c3)
              have NHP := hide (HP.out.type hgs (Cp.type_box HY.out) (by decide) (by decide) (by decide))
              have NHW := hide (Cp.own_type HW.out hgs (Cp.type_box HY.out) (by decide))
              have NHR := hide (HR.out.kept hgs (by simp; omega))
              have NHX := hide (box_grown HX.out hgs (by simp; omega))
              have NHG := hide (grown_spoil HG.out (show w.heap.size ≤ B by omega) hgs)
              have NHO := hide (Cp.own_type HO.out hgs (Cp.type_box HY.out) (by decide))
              have NHY := hide (blk_set HY.out (j := 4) (u := .slice a3 (j + 1) c3) (cs' := #[.int .i64 fr, .int .i64 qt, .slice pa ps.length pc, .slice wa ws.length wq, .slice a3 (j + 1) c3]) rfl)
              clear hgs HY HP HW HR HX HG HO
              go_wp2
              go_roundw
              case rel => exact ⟨j + 1, a3, c3, by omega, by go_num, by rw [HS.out]; exact hide (by simp [HL.out]), NHY, NHP, NHW, by rw [HS.out]; exact NHO, by rw [HS.out]; exact NHR, NHX, NHG⟩
              case measure => simp [intOf]; omega
          · have e : j = N3 := by omega
            subst e
            have HE := HMN3
            go_wp2
            go_meet
            have e1 : (manyB portR j st7).1 = os := by rw [HE.out]
            have e2 : (manyB portR j st7).2 = stf := by rw [HE.out]
            have e3 : os.length = j := by rw [← e1]; exact HL.out
            exact ⟨a, c, by rw [e3]; exact HY, HP, HW, by rw [e3, ← e1]; exact HO, by rw [← e2]; exact HR, HX, HG⟩
      case rest =>
        clear HR HX HY HG HP HW HMN3
        obtain ⟨oa, oc, HY, HP, HW, HO, HR, HX, HG⟩ := hcut
        have cb := HR.out.at2
        obtain ⟨At, hA, -, cA, hiff⟩ := HR.out.done
        have HIF := hide hiff
        clear hiff
        cases hbad : stf.2 with
        | true =>
          rw [hbad] at cb
          have HD := hide (show doneR stf = false by unfold doneR; rw [hbad]; rfl)
          clear hbad
          have r0 : wc.cell? ⟨w.heap.size, 0, none⟩ = some (.int .i64 0) := blk_cell HX.out 0
          have r1 : wc.cell? ⟨w.heap.size, 1, none⟩ = some (.int .i64 0) := blk_cell HX.out 1
          have r2 : wc.cell? ⟨w.heap.size, 2, none⟩ = some (.slice none 0 0) := blk_cell HX.out 2
          have r3 : wc.cell? ⟨w.heap.size, 3, none⟩ = some (.slice none 0 0) := blk_cell HX.out 3
          have r4 : wc.cell? ⟨w.heap.size, 4, none⟩ = some (.slice none 0 0) := blk_cell HX.out 4
          have rf := blk_free HX.out
          go_wp2
          (try simp only [Exit.inBlock, Exit.then])
          refine bodyPost_ret (results_row_tmp rfl _ _ w.heap.size 26 #[.int .i64 0, .int .i64 0, .slice none 0 0, .slice none 0 0, .slice none 0 0] (0, 0) _ rfl (Cp.set5_box HX.out) Tryd.underlying26 rfl size26) rfl ?_
          have e : E = 500 := by rw [HEQ.out, if_pos HD.out]
          have e2 : CC = cz := by rw [HCQ.out, if_neg (by rw [e]; decide)]
          rw [e, e2]
          exact ⟨_, rfl, cown_zero _ _, Cp.set5_grown HG.out (Nat.le_refl _) _ _ _ _ _⟩
        | false =>
          rw [hbad] at cb
          by_cases hAt : At = s.size
          · have HD : Hid (doneR stf = true) := by
              have := HIF.out.1 hAt
              show doneR stf = true
              unfold doneR; rw [hbad, this]; rfl
            subst hAt
            clear hbad HIF
            have HCO := hide (show Cp.COwn (B + 1) wc (.agg #[.int .i64 fr, .int .i64 qt, .slice pa ps.length pc, .slice wa ws.length wq, .slice oa os.length oc]) ⟨fr, qt, ps, ws, os⟩ from ⟨_, _, _, rfl, HP.out, HW.out, HO.out⟩)
            have CK := hide (R6.rcheck_any _ _ wc HCO.out.at)
            obtain ⟨ck, hck⟩ : ∃ ck, ck = checkN ⟨fr, qt, ps, ws, os⟩ := ⟨_, rfl⟩
            rw [← hck] at CK
            have HCK := hide hck
            clear hck
            have b0 : wc.cell? ⟨B, 0, none⟩ = some (.int .i64 fr) := blk_cell HY.out 0
            have b1 : wc.cell? ⟨B, 1, none⟩ = some (.int .i64 qt) := blk_cell HY.out 1
            have b2 : wc.cell? ⟨B, 2, none⟩ = some (.slice pa ps.length pc) := blk_cell HY.out 2
            have b3 : wc.cell? ⟨B, 3, none⟩ = some (.slice wa ws.length wq) := blk_cell HY.out 3
            have b4 : wc.cell? ⟨B, 4, none⟩ = some (.slice oa os.length oc) := blk_cell HY.out 4
            go_wp2_with (first | fail)
            refine CK.out.mono ?_; rintro e w8 ⟨rfl, hg⟩
            have NHY := hide (box_grown HY.out hg (by simp))
            have NHP := hide (HP.out.grown hg)
            have NHW := hide (own_kept HW.out hg)
            have NHO := hide (own_kept HO.out hg)
            have NHX := hide (box_grown HX.out hg (by simp))
            have NHG := hide (grownBy_trans HG.out hg)
            clear hg HR CK HCO cb cA b0 b1 b2 b3 b4 HY HP HW HO HX HG
            have HY := NHY
            have HP := NHP
            have HW := NHW
            have HO := NHO
            have HX := NHX
            have HG := NHG
            clear NHY NHP NHW NHO NHX NHG
            by_cases h0 : ck = 0
            · subst h0
              have r0 : w8.cell? ⟨w.heap.size, 0, none⟩ = some (.int .i64 0) := blk_cell HX.out 0
              have r1 : w8.cell? ⟨w.heap.size, 1, none⟩ = some (.int .i64 0) := blk_cell HX.out 1
              have r2 : w8.cell? ⟨w.heap.size, 2, none⟩ = some (.slice none 0 0) := blk_cell HX.out 2
              have r3 : w8.cell? ⟨w.heap.size, 3, none⟩ = some (.slice none 0 0) := blk_cell HX.out 3
              have r4 : w8.cell? ⟨w.heap.size, 4, none⟩ = some (.slice none 0 0) := blk_cell HX.out 4
              have rf := blk_free HX.out
              have b0 : w8.cell? ⟨B, 0, none⟩ = some (.int .i64 fr) := blk_cell HY.out 0
              have b1 : w8.cell? ⟨B, 1, none⟩ = some (.int .i64 qt) := blk_cell HY.out 1
              have b2 : w8.cell? ⟨B, 2, none⟩ = some (.slice pa ps.length pc) := blk_cell HY.out 2
              have b3 : w8.cell? ⟨B, 3, none⟩ = some (.slice wa ws.length wq) := blk_cell HY.out 3
              have b4 : w8.cell? ⟨B, 4, none⟩ = some (.slice oa os.length oc) := blk_cell HY.out 4
              go_wp2
              (try simp only [Exit.inBlock, Exit.then])
              refine bodyPost_ret (results_row_tmp rfl _ _ w.heap.size 26 #[.int .i64 fr, .int .i64 qt, .slice pa ps.length pc, .slice wa ws.length wq, .slice oa os.length oc] (0, 0) _ rfl (Cp.set5_box HX.out) Tryd.underlying26 rfl size26) rfl ?_
              have e : E = 0 := by rw [HEQ.out, if_neg (by rw [HD.out]; decide)]; exact HCK.out.symm
              have e2 : CC = ⟨fr, qt, ps, ws, os⟩ := by rw [HCQ.out, if_pos e]
              rw [e, e2]
              have T := hide (Cp.type_box HX.out)
              exact ⟨_, rfl, ⟨_, _, _, rfl, (HP.out.type (Cp.set5_by _ _ _ _ _ _ _) T.out (by decide) (by decide) (by decide)).mono (show w.heap.size ≤ B + 1 by omega), own_mono (Cp.set5_own HW.out T.out (by decide)) (show w.heap.size ≤ B + 1 by omega), own_mono (Cp.set5_own HO.out T.out (by decide)) (show w.heap.size ≤ B + 1 by omega)⟩, Cp.set5_grown HG.out (Nat.le_refl _) _ _ _ _ _⟩
            · have h0b : (ck != 0) = true := by simp [h0]
              have r0 : w8.cell? ⟨w.heap.size, 0, none⟩ = some (.int .i64 0) := blk_cell HX.out 0
              have r1 : w8.cell? ⟨w.heap.size, 1, none⟩ = some (.int .i64 0) := blk_cell HX.out 1
              have r2 : w8.cell? ⟨w.heap.size, 2, none⟩ = some (.slice none 0 0) := blk_cell HX.out 2
              have r3 : w8.cell? ⟨w.heap.size, 3, none⟩ = some (.slice none 0 0) := blk_cell HX.out 3
              have r4 : w8.cell? ⟨w.heap.size, 4, none⟩ = some (.slice none 0 0) := blk_cell HX.out 4
              have rf := blk_free HX.out
              go_wp2
              (try simp only [Exit.inBlock, Exit.then])
              refine bodyPost_ret (results_row_tmp rfl _ _ w.heap.size 26 #[.int .i64 0, .int .i64 0, .slice none 0 0, .slice none 0 0, .slice none 0 0] (0, 0) _ rfl (Cp.set5_box HX.out) Tryd.underlying26 rfl size26) rfl ?_
              have e : E = ck := by rw [HEQ.out, if_neg (by rw [HD.out]; decide)]; exact HCK.out.symm
              have e2 : CC = cz := by rw [HCQ.out, if_neg (by rw [e]; exact h0)]
              rw [e, e2]
              exact ⟨_, rfl, cown_zero _ _, Cp.set5_grown HG.out (Nat.le_refl _) _ _ _ _ _⟩
          · have HD : Hid (doneR stf = false) := by
              have hne : stf.1.isEmpty = false := by
                cases h : stf.1.isEmpty with
                | true => exact absurd (HIF.out.2 h) hAt
                | false => rfl
              show doneR stf = false
              unfold doneR; rw [hne]; simp
            have hz : ¬ (At : Int) = (s.size : Int) := by omega
            have hzb : ((At : Int) != (s.size : Int)) = true := by simp [hz]
            clear hbad
            have r0 : wc.cell? ⟨w.heap.size, 0, none⟩ = some (.int .i64 0) := blk_cell HX.out 0
            have r1 : wc.cell? ⟨w.heap.size, 1, none⟩ = some (.int .i64 0) := blk_cell HX.out 1
            have r2 : wc.cell? ⟨w.heap.size, 2, none⟩ = some (.slice none 0 0) := blk_cell HX.out 2
            have r3 : wc.cell? ⟨w.heap.size, 3, none⟩ = some (.slice none 0 0) := blk_cell HX.out 3
            have r4 : wc.cell? ⟨w.heap.size, 4, none⟩ = some (.slice none 0 0) := blk_cell HX.out 4
            have rf := blk_free HX.out
            go_wp2
            (try simp only [Exit.inBlock, Exit.then])
            refine bodyPost_ret (results_row_tmp rfl _ _ w.heap.size 26 #[.int .i64 0, .int .i64 0, .slice none 0 0, .slice none 0 0, .slice none 0 0] (0, 0) _ rfl (Cp.set5_box HX.out) Tryd.underlying26 rfl size26) rfl ?_
            have e : E = 500 := by rw [HEQ.out, if_pos HD.out]
            have e2 : CC = cz := by rw [HCQ.out, if_neg (by rw [e]; decide)]
            rw [e, e2]
            exact ⟨_, rfl, cown_zero _ _, Cp.set5_grown HG.out (Nat.le_refl _) _ _ _ _ _⟩

set_option maxRecDepth 100000 in
set_option maxHeartbeats 2000000 in
theorem getc_bad (s : ByteArray) (hs2 : s.size ≤ 9223372036854775807) (h : s.size < 2 ∨ (2 ≤ s.size ∧ (nums s).take 2 ≠ [78, 67]) ∨ (2 ≤ s.size ∧ (nums s).take 2 = [78, 67] ∧ 65536 < s.size)) (w : World) :
    Calls Tryd.prog 14 #[.string s] w fun e w' => ∃ c, e = .returned (.tuple #[c, .int .i64 500]) ∧ Cp.COwn w.heap.size w' c cz ∧ w.grownBy w' none := by
  have B0 := hide (heap_alloc_new w (.cells #[.int .i64 0, .int .i64 0, .slice none 0 0, .slice none 0 0, .slice none 0 0] 26))
  have fin := hide (show ∀ W : World, W = w.alloc (.cells #[.int .i64 0, .int .i64 0, .slice none 0 0, .slice none 0 0, .slice none 0 0] 26) → w.grownBy W none from fun W h => by rw [h]; exact World.grownBy_alloc _ _ _)
  rcases h with h | ⟨h1, h2⟩ | ⟨h1, h2, h3⟩
  · have hq : (s.size : Int) < 2 := by omega
    go_enter Tryd.func14, Tryd.ntmps14
    go_wp2
    (try simp only [Exit.inBlock, Exit.then])
    refine bodyPost_ret (results_row_tmp rfl _ _ w.heap.size 26 #[.int .i64 0, .int .i64 0, .slice none 0 0, .slice none 0 0, .slice none 0 0] (0, 0) _ rfl B0.out Tryd.underlying26 rfl size26) rfl ?_
    exact ⟨_, rfl, cown_zero _ _, fin.out _ rfl⟩
  · have hx := bad_head s false (by simp [h2]) h1
    go_enter Tryd.func14, Tryd.ntmps14
    go_wp2
    (try simp only [Exit.inBlock, Exit.then])
    refine bodyPost_ret (results_row_tmp rfl _ _ w.heap.size 26 #[.int .i64 0, .int .i64 0, .slice none 0 0, .slice none 0 0, .slice none 0 0] (0, 0) _ rfl B0.out Tryd.underlying26 rfl size26) rfl ?_
    exact ⟨_, rfl, cown_zero _ _, fin.out _ rfl⟩
  · have hx := bad_head s true (by simp [h2]) h1
    have hq : (65536 : Int) < s.size := by omega
    go_enter Tryd.func14, Tryd.ntmps14
    go_wp2
    (try simp only [Exit.inBlock, Exit.then])
    refine bodyPost_ret (results_row_tmp rfl _ _ w.heap.size 26 #[.int .i64 0, .int .i64 0, .slice none 0 0, .slice none 0 0, .slice none 0 0] (0, 0) _ rfl B0.out Tryd.underlying26 rfl size26) rfl ?_
    exact ⟨_, rfl, cown_zero _ _, fin.out _ rfl⟩
#print axioms getc_good
#print axioms getc_bad
end Go.Proofs.YtgaegggiehhcpaaDoor.R5

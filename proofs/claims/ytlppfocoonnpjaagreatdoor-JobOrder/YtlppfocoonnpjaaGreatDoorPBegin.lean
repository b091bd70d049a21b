/- The contract of the program's Begin of a schedule, whole, proved over the translation. -/
import Derived.Test.YtlppfocoonnpjaaGreatDoorPPut
namespace Go.Proofs.YtlppfocoonnpjaaGreatDoor.L
open Go.RowKit
open Go.Proofs.YtlppfocoonnpjaaGreatDoor.J (JobV jobAt jobVal shJ infoJ rowMay blk_cell blk_free box_lt box_grown type_box type_own own_type own_mono one_at)
attribute [local go_sem] alloc_drewN setCell_drewN

theorem _root_.Go.World.ownsRow.same {W W' : World} {base e s n : Nat} {v : Value} {xs : List Value} (h : W.ownsRow base e s v n xs) (hk : ∀ k, v.ownBlock = some k → W'.heap[k]? = W.heap[k]?) : W'.ownsRow base e s v n xs := by
  refine ⟨h.1, ?_⟩
  rcases h.2 with h1 | ⟨g, cap, cur, rfl, h2, h3, h4⟩
  · exact .inl h1
  · exact .inr ⟨g, cap, cur, rfl, h2, (hk g rfl).trans h3, h4⟩
theorem steps_len (L : LocV) (now : Int) : ∀ k, (stepsV now L k).length ≤ k
  | 0 => Nat.le_refl _
  | k + 1 => by
    have := steps_len L now k
    unfold stepsV
    rw [List.length_append, stepV_put]
    split
    · simp only [List.length_cons, List.length_nil]; omega
    · simp only [List.length_nil]; omega
set_option maxRecDepth 100000 in
set_option maxHeartbeats 16000000 in
theorem release_all {lo b g n c m : Nat} {q vj : Value} {ms : List RunM} {L : LocV} (now : Int) (w W : World) (hg : w.grownBy W none) (hlo : w.heap.size ≤ lo) (h : PLoc lo q W b (.slice (some ⟨g, 0, none⟩) n c) vj ms L) (hlm : L.tasks.length = n) (hF : Fine L m) (hmb : m ≤ 1000000) (hq : ∀ k, q.ownBlock = some k → k < W.heap.size) (hn0 : 0 ≤ now) (hn1 : now ≤ 1099511627776) :
    Calls Tryz.prog 46 #[.pointer (some ⟨b, 0, none⟩), .int .i64 now] W fun e w' => ∃ v, e = .returned v ∧ (∃ ms', PNew lo q W.heap.size w' b (.slice (some ⟨g, 0, none⟩) n c) vj ms' (stepsL now L n)) ∧ OwnE W.heap.size w' v (stepsV now L n) ∧ w.grownBy w' none ∧ W.heap.size ≤ w'.heap.size ∧ ∀ k, k < W.heap.size → k ≠ b → k ≠ g → w'.heap[k]? = W.heap[k]? := by
  have hn6 : n ≤ 6 := by have := hF.many; omega
  have HSF := hide (fun k (hk : k ≤ L.tasks.length) => steps_fine hF now k hk)
  have CP := hide (fun (i : Nat) V (vj' : Value) (ms' : List RunM) (hgV : w.grownBy V none) (hV : PLoc lo q V b (.slice (some ⟨g, 0, none⟩) n c) vj' ms' (stepsL now L i)) (hi : i < n) (hs : W.heap.size ≤ V.heap.size) => put_at i now w V hgV hlo hV hi (by rw [(HSF.out i (by omega)).2.1]; exact hlm) (HSF.out i (by omega)).1 (by omega) (fun k hk => Nat.lt_of_lt_of_le (hq k hk) hs) hn0 hn1)
  have HIX := hide (fun k (hk : k ≤ L.tasks.length) => (HSF.out k hk).2.2.1)
  have HSV := hide (fun k => (show stepsV now L (k + 1) = stepsV now L k ++ stepV now (stepsL now L k) k from rfl).trans (by rw [stepV_put]))
  have HSL := hide (fun k => (show stepsL now L (k + 1) = stepL now (stepsL now L k) k from rfl))
  have HLE := hide (fun k => steps_len L now k)
  have c2 : W.cell? ⟨b, 2, none⟩ = some (.slice (some ⟨g, 0, none⟩) n c) := blk_cell h.box 2
  have HGw := hide hg
  have HL0 := hide h
  clear h hg hF
  go_enter Tryz.func46, Tryz.ntmps46
  go_wp2
  clear c2
  generalize hB : W.heap.size = B at *
  have HB := hide hB
  clear hB
  go_loopw [5, 14] (fun u i V => ∃ (k : Nat) (a : Option Addr) (nE cE : Nat) (vj' : Value) (ms' : List RunM), k ≤ n ∧ i = .int .i64 k ∧ u = .slice a nE cE ∧ Hid (nE ≤ k) ∧ Hid (V.ownsRow B 68 4 (.slice a nE cE) nE (shE.cells (stepsV now L k))) ∧ Hid (PLoc lo q V b (.slice (some ⟨g, 0, none⟩) n c) vj' ms' (stepsL now L k)) ∧ Hid (OrNew B vj vj') ∧ Hid (w.grownBy V none) ∧ Hid (B ≤ V.heap.size) ∧ Hid (∀ k, k < B → k ≠ b → k ≠ g → V.heap[k]? = W.heap[k]?)) (fun _ i _ => n - (intOf i).toNat)
  case atStart => exact ⟨0, none, 0, 0, vj, ms, by omega, rfl, rfl, hide (by omega), hide (World.ownsRow_nil _ _ _ _), HL0, hide (OrNew.refl _ _), HGw, hide (by rw [HB.out]; exact Nat.le_refl _), hide (fun k _ _ _ => rfl)⟩
  case round =>
    obtain ⟨k, a, nE, cE, vj1, ms1, hk, rfl, rfl, HNE, HE, HP, HNJ, HG, HZ, HK⟩ := hrel
    by_cases hlt : k < n
    · have hkn : (k : Int) < n := by omega
      have hk0 : ¬((k : Int) < 0) := by omega
      have HPB := hide (HSV.out k)
      have HPL := hide (HSL.out k)
      have HID := hide (HIX.out k (by omega))
      have CPk := hide (CP.out k wr vj1 ms1 HG.out HP.out hlt HZ.out)
      generalize putB (stepsL now L k) now k = PB at *
      generalize putD (stepsL now L k) now k = PD at *
      go_wp2_with (first | fail)
      refine CPk.out.mono ?_; rintro e Wa ⟨rfl, ⟨ms2, ⟨vj2, hP, hN⟩⟩, hga, hza, hka⟩
      have HP1 := hide hP
      have HN1 := hide (OrNew.trans HNJ.out hN HZ.out)
      have HG1 := hide hga
      have HZ1 := hide (Nat.le_trans HZ.out hza)
      have HK1 := hide (fun j (hj : j < B) (h1 : j ≠ b) (h2 : j ≠ g) => (hka j (Nat.lt_of_lt_of_le hj HZ.out) h1 h2).trans (HK.out j hj h1 h2))
      have HE1 := hide (show Wa.ownsRow B 68 4 (.slice a nE cE) nE (shE.cells (stepsV now L k)) from HE.out.same (fun j hj => hka j (World.ownsRow.lt HE.out j hj).2 (fun e => by have h1 := (World.ownsRow.lt HE.out j hj).1; have h2 := box_lt HL0.out.box; rw [HB.out] at h2; omega) (fun e => by have h1 := (World.ownsRow.lt HE.out j hj).1; have h2 := HL0.out.ge.2; rw [HB.out] at h2; omega)))
      clear hP hN hga hza hka HE HP HNJ HG HZ HK CPk
      cases PB with
      | false =>
        rw [if_neg (by decide), List.append_nil] at HPB
        go_wp2
        go_roundw
        case rel => exact ⟨k + 1, a, nE, cE, vj2, ms2, by omega, by first | rfl | go_num, rfl, hide (by have := HNE.out; omega), hide (by rw [HPB.out]; exact HE1.out), hide (by rw [HPL.out]; exact HP1.out), HN1, HG1, HZ1, HK1⟩
        case measure => simp [intOf]; omega
      | true =>
        rw [if_pos rfl] at HPB
        have hNE := HNE.out
        have c0 := blk_cell HP1.out.box 0
        rw [(step_tasks now (stepsL now L k) k).2.1] at c0
        go_wp2_with (first | fail)
        refine (event_any b (stepsL now L k).idx 1 k PD _ c0).mono ?_; rintro e Wb ⟨rfl, hg⟩
        clear c0
        replace hg := grownBy_trans hg (World.grownBy_alloc Wb (.cells #[.int .i64 1, .int .i64 (stepsL now L k).idx, .int .i64 k, .int .i64 PD] 68) none)
        have HLIT := hide (heap_alloc_new Wb (.cells #[.int .i64 1, .int .i64 (stepsL now L k).idx, .int .i64 k, .int .i64 PD] 68))
        have HE2 := hide (own_kept HE1.out hg)
        have HP2 := hide (HP1.out.grown hg)
        have HG2 := hide (grownBy_trans HG1.out hg)
        have HZ2 := hide (Nat.le_trans HZ1.out hg.size)
        have HK2 := hide (fun j (hj : j < B) (h1 : j ≠ b) (h2 : j ≠ g) => (hg.block j (Nat.lt_of_lt_of_le hj HZ1.out) (by simp)).trans (HK1.out j hj h1 h2))
        clear hg HE1 HP1 HG1 HZ1 HK1
        go_wp2_with (first | (at_builtin; refine app_row (S := shE) _ rfl _ _ 41 68 (.agg #[.int .i64 0, .int .i64 0, .int .i64 0, .int .i64 0]) 32 Tryz.underlying41 infoE rfl rfl B (.slice a nE cE) nE (stepsV now L k) rfl HE2.out ⟨Wb.heap.size, 0, none⟩ 1 1 [(⟨1, (stepsL now L k).idx, k, PD⟩ : EvV)] rfl rfl (one_at shE (⟨1, (stepsL now L k).idx, k, PD⟩ : EvV) HLIT.out) (by omega) (by omega) HZ2.out ?_) | fail)
        intro a9 c9 Wc ho hgA hb9
        clear hb9 HLIT
        have hown := HE2.out
        have HP3 := hide (HP2.out.app hown hgA)
        have HE3 := hide (show Wc.ownsRow B 68 4 (.slice a9 (nE + 1) c9) (nE + 1) (shE.cells (stepsV now L (k + 1))) from by rw [HPB.out]; exact ho)
        have HG3 := hide (J.grown_app HG2.out hown (by have := HGw.out.size; rw [HB.out] at this; exact this) hgA)
        have HZ3 := hide (Nat.le_trans HZ2.out hgA.size)
        have HK3 := hide (fun j (hj : j < B) (h1 : j ≠ b) (h2 : j ≠ g) => (hgA.block j (Nat.lt_of_lt_of_le hj HZ2.out) (fun e => by have := (World.ownsRow.lt hown j e.symm).1; omega)).trans (HK2.out j hj h1 h2))
        clear ho hgA hown HE2 HP2 HG2 HZ2 HK2
        go_wp2
        go_roundw
        case rel => exact ⟨k + 1, a9, nE + 1, c9, vj2, ms2, by omega, by first | rfl | go_num, by first | rfl | go_num, hide (by omega), HE3, hide (by rw [HPL.out]; exact HP3.out), HN1, HG3, HZ3, HK3⟩
        case measure => simp [intOf]; omega
    · obtain rfl : k = n := by omega
      have hl : (stepsV now L k).length = nE := by have h1 := HE.out.1; rw [shE.cells_length] at h1; have h2 : shE.k = 4 := rfl; rw [h2] at h1; omega
      have HL := hide hl
      clear hl
      go_wp2
      go_ret
      exact ⟨_, rfl, ⟨_, ⟨⟨_, HP.out, by rw [HB.out]; exact HNJ.out⟩⟩⟩, by rw [HB.out]; unfold OwnE; rw [HL.out]; exact HE.out, HG.out, by rw [HB.out]; exact HZ.out, fun j hj h1 h2 => HK.out j (by rw [← HB.out]; exact hj) h1 h2⟩
set_option maxRecDepth 100000 in
set_option maxHeartbeats 16000000 in
theorem begin_bad (b : Nat) (now : Int) (W : World) (hbad : tickB now = false) :
    Calls Tryz.prog 19 #[.pointer (some ⟨b, 0, none⟩), .int .i64 now] W fun e w' => e = .returned (.tuple #[.slice none 0 0, .int .i64 1400]) ∧ W = w' := by
  have CK := hide (clock_no hbad)
  clear hbad
  go_enter Tryz.func19, Tryz.ntmps19
  go_wp2_with (first | fail)
  refine (CK.out _).mono ?_; rintro e w' ⟨rfl, rfl⟩
  go_wp2
  go_ret2
  exact ⟨rfl, rfl⟩
set_option maxRecDepth 100000 in
set_option maxHeartbeats 16000000 in
theorem begin_ok {lo b m n c : Nat} {a : Option Addr} {q vj : Value} {ms : List RunM} {L : LocV} (now : Int) (w W : World) (hg : w.grownBy W none) (hlo : w.heap.size ≤ lo) (h : PLoc lo q W b (.slice a n c) vj ms L) (hlm : L.tasks.length = n) (hF : Fine L m) (hn0 : 0 ≤ now) (hn1 : now ≤ 1099511627776) (hrel : ∀ V (vj' : Value), w.grownBy V none → W.heap.size ≤ V.heap.size → PLoc lo q V b (.slice a n c) vj' ms (missL L now) → Calls Tryz.prog 46 #[.pointer (some ⟨b, 0, none⟩), .int .i64 now] V fun e w' => ∃ v, e = .returned v ∧ (∃ ms', PNew lo q V.heap.size w' b (.slice a n c) vj' ms' (stepsL now (missL L now) n)) ∧ OwnE V.heap.size w' v (stepsV now (missL L now) n) ∧ w.grownBy w' none ∧ V.heap.size ≤ w'.heap.size ∧ ∀ k, k < V.heap.size → k ≠ b → (.slice a n c : Value).ownBlock ≠ some k → w'.heap[k]? = V.heap[k]?) :
    Calls Tryz.prog 19 #[.pointer (some ⟨b, 0, none⟩), .int .i64 now] W fun e w' => ∃ v, e = .returned (.tuple #[v, .int .i64 0]) ∧ (∃ ms', PNew lo q W.heap.size w' b (.slice a n c) vj ms' (stepsL now (missL L now) n)) ∧ OwnE W.heap.size w' v (missV L now ++ stepsV now (missL L now) n) ∧ w.grownBy w' none ∧ W.heap.size ≤ w'.heap.size ∧ ∀ k, k < W.heap.size → k ≠ b → (.slice a n c : Value).ownBlock ≠ some k → w'.heap[k]? = W.heap[k]? := by
  have hn6 : n ≤ 6 := by have := hF.many; omega
  have CK := hide (clock_ok hn0 hn1)
  have CM := hide (miss_at now w W hg hlo h hF)
  have CR := hide hrel
  have HM16 := hide (show (missV L now).length ≤ 16 from by rw [missP_len]; exact Nat.le_trans (latP_le L.jobs now) (J.rowMay_iff.1 hF.row).1)
  have HS6 := hide (steps_len (missL L now) now n)
  have HGw := hide hg
  have HBL := hide (box_lt h.box)
  have HRL := hide (fun k (e : (.slice a n c : Value).ownBlock = some k) => (World.ownsRow.lt h.runs k e).2)
  clear hrel hg h hF
  go_enter Tryz.func19, Tryz.ntmps19
  go_wp2_with (first | fail)
  refine (CK.out _).mono ?_; rintro e W0 ⟨rfl, rfl⟩
  go_wp2_with (first | fail)
  refine CM.out.mono ?_; rintro e W1 ⟨v1, rfl, ⟨vj1, hP, hN⟩, ho, hg1, hz1, hk1⟩
  have HO1 := hide ho
  obtain ⟨a1, c1, rfl⟩ := own_form ho
  have HZ1 := hide hz1
  have HK1 := hide hk1
  have HN1 := hide hN
  have CR1 := hide (CR.out W1 vj1 hg1 hz1 hP)
  have HL1 := hide hP.loW
  clear hP ho hg1 hz1 hk1 hN CM CR
  go_wp2_with (first | fail)
  refine CR1.out.mono ?_; rintro e W2 ⟨v2, rfl, ⟨ms2, ⟨vj2, hP, hN⟩⟩, ho, hg2, hz2, hk2⟩
  have HO2 := hide ho.row
  have HP2 := hide hP
  have HG2 := hide hg2
  have HZ2 := hide (Nat.le_trans HZ1.out hz2)
  have HN2 := hide (OrNew.trans HN1.out hN HZ1.out)
  have HK2 := hide (fun k (hk : k < W.heap.size) (hb : k ≠ b) (hr : (.slice a n c : Value).ownBlock ≠ some k) => (hk2 k (Nat.lt_of_lt_of_le hk HZ1.out) hb hr).trans (HK1.out k hk hb))
  have HE2 := hide (show W2.ownsRow W.heap.size 68 4 (.slice a1 (missV L now).length c1) (missV L now).length (shE.cells (missV L now)) from HO1.out.same (fun j hj => hk2 j (World.ownsRow.lt HO1.out j hj).2 (fun e => by have h1 := (World.ownsRow.lt HO1.out j hj).1; have h2 := HBL.out; omega) (fun e => by have h1 := (World.ownsRow.lt HO1.out j hj).1; have h2 := HRL.out j e; omega)))
  clear hP hN ho hg2 hz2 hk2 CR1 HO1 HZ1 HK1 HN1
  have h16 := HM16.out
  have h6 := HS6.out
  go_wp2_with (first | (at_builtin; refine app_gen (S := shE) _ rfl _ _ 41 rfl 68 (.agg #[.int .i64 0, .int .i64 0, .int .i64 0, .int .i64 0]) 32 Tryz.underlying41 infoE rfl W.heap.size (.slice a1 (missV L now).length c1) (missV L now).length (missV L now) (stepsV now (missL L now) n) v2 rfl HE2.out rfl HO2.out ((missV L now).length + (stepsV now (missL L now) n).length) rfl (by omega) (by omega) HZ2.out ?_) | fail)
  intro a9 c9 W3 ho hgA
  have hown := HE2.out
  have HP3 := hide (HP2.out.app hown hgA)
  have HE3 := hide (show OwnE W.heap.size W3 _ (missV L now ++ stepsV now (missL L now) n) from by unfold OwnE; rw [List.length_append]; exact ho)
  have HG3 := hide (J.grown_app HG2.out hown HGw.out.size hgA)
  have HZ3 := hide (Nat.le_trans HZ2.out hgA.size)
  have HK3 := hide (fun j (hj : j < W.heap.size) (h1 : j ≠ b) h2 => (hgA.block j (Nat.lt_of_lt_of_le hj HZ2.out) (fun e => by have := (World.ownsRow.lt hown j e.symm).1; omega)).trans (HK2.out j hj h1 h2))
  clear ho hgA hown HE2 HO2 HP2 HG2 HZ2 HK2 h16 h6
  go_wp2
  go_ret2
  exact ⟨_, rfl, ⟨_, ⟨⟨_, HP3.out, HN2.out⟩⟩⟩, HE3.out, HG3.out, HZ3.out, HK3.out⟩
theorem release_none {lo b c : Nat} {a : Option Addr} {q vj : Value} {ms : List RunM} {L : LocV} (now : Int) (W : World) (h : PLoc lo q W b (.slice a 0 c) vj ms L) : Calls Tryz.prog 46 #[.pointer (some ⟨b, 0, none⟩), .int .i64 now] W fun e w' => e = .returned (.slice none 0 0) ∧ W = w' := by
  have c2 : W.cell? ⟨b, 2, none⟩ = some (.slice a 0 c) := blk_cell h.box 2
  clear h
  go_enter Tryz.func46, Tryz.ntmps46
  go_wp2
  go_loopw [5, 14] (fun u i V => i = .int .i64 0 ∧ u = .slice none 0 0 ∧ W = V) (fun _ _ _ => 0)
  case atStart => exact ⟨rfl, rfl, rfl⟩
  case round =>
    obtain ⟨rfl, rfl, rfl⟩ := hrel
    go_wp2
    go_ret
    exact ⟨rfl, rfl⟩
/-- All of Begin. -/
theorem begin_all {lo b m : Nat} {q vr vj : Value} {ms : List RunM} {L : LocV} (now : Int) (w W : World) (hg : w.grownBy W none) (hlo : w.heap.size ≤ lo) (h : PLoc lo q W b vr vj ms L) (hF : Fine L m) (hmb : m ≤ 1000000) (hq : ∀ k, q.ownBlock = some k → k < W.heap.size) :
    Calls Tryz.prog 19 #[.pointer (some ⟨b, 0, none⟩), .int .i64 now] W fun e w' => ∃ v ms', e = .returned (.tuple #[v, .int .i64 (beginN now)]) ∧ PNew lo q W.heap.size w' b vr vj ms' (beginL L now) ∧ OwnE W.heap.size w' v (beginV L now) ∧ w.grownBy w' none ∧ W.heap.size ≤ w'.heap.size ∧ ∀ k, k < W.heap.size → k ≠ b → vr.ownBlock ≠ some k → w'.heap[k]? = W.heap[k]? := by
  unfold beginN beginL beginV
  cases ht : tickB now with
  | false =>
    refine (begin_bad b now W ht).mono ?_
    rintro e w' ⟨rfl, rfl⟩
    exact ⟨_, _, rfl, ⟨⟨_, h, OrNew.refl _ _⟩⟩, ownE_nil _ _, hg, Nat.le_refl _, fun k _ _ _ => rfl⟩
  | true =>
    have ht2 := ht
    unfold tickB at ht2
    simp only [Bool.and_eq_true, decide_eq_true_eq] at ht2
    have hml := h.mlen
    obtain ⟨a, c, rfl⟩ := own_form h.runs
    rw [hml] at h ⊢
    refine (begin_ok now w W hg hlo h rfl hF ht2.1 ht2.2 (fun V vj' hgV hs hV => ?_)).mono fun e w' ⟨v, h1, ⟨ms', h2⟩, h3, h4, h5, h6⟩ => ⟨v, ms', h1, h2, h3, h4, h5, fun k hk hb hr => h6 k hk hb hr⟩
    rcases Nat.eq_zero_or_pos L.tasks.length with h0 | h0
    · rw [h0] at hV ⊢
      refine (release_none now V hV).mono ?_
      rintro e w' ⟨rfl, rfl⟩
      exact ⟨_, rfl, ⟨_, ⟨⟨_, hV, OrNew.refl _ _⟩⟩⟩, ownE_nil _ _, hgV, Nat.le_refl _, fun k _ _ _ => rfl⟩
    · obtain ⟨g, c', e, -⟩ := own_at hV.runs (by rw [hV.mlen]; exact h0)
      simp only [Value.slice.injEq] at e
      obtain ⟨rfl, -, rfl⟩ := e
      exact (release_all now w V hgV hlo hV rfl (miss_fine hF now) hmb (fun k hk => Nat.lt_of_lt_of_le (hq k hk) hs) ht2.1 ht2.2).mono fun e w' ⟨v, h1, h2, h3, h4, h5, h6⟩ => ⟨v, h1, h2, h3, h4, h5, fun k hk hb hr => h6 k hk hb (fun e => hr (by rw [e]; rfl))⟩
#print axioms begin_all
end Go.Proofs.YtlppfocoonnpjaaGreatDoor.L

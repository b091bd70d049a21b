/- The contract of the program's Pick of a schedule, proved over the translation. -/
import Derived.Test.YtlppfocoonnpjaaGreatDoorPTurn
namespace Go.Proofs.YtlppfocoonnpjaaGreatDoor.L
open Go.RowKit
open Go.Proofs.YtlppfocoonnpjaaGreatDoor.J (blk_cell blk_free box_lt box_grown type_box type_own own_type own_mono Far far_new take_put step_store)
open Go.Proofs.YtlppfocoonnpjaaGreatDoor.U (TurnsV pickS pickE lateB turnsMay)
attribute [local go_sem] alloc_drewN setCell_drewN

theorem PLoc.task {lo b g n c : Nat} {q : Value} {W : World} {vj : Value} {ms : List RunM} {L : LocV} (h : PLoc lo q W b (.slice (some ⟨g, 0, none⟩) n c) vj ms L) {i : Nat} (hi : i < L.tasks.length) : W.cell? ⟨g, i * 9, none⟩ = some (.int .i64 (L.taskAt i).kind) ∧ W.cell? ⟨g, i * 9 + 1, none⟩ = some (.int .i64 (L.taskAt i).period) ∧ W.cell? ⟨g, i * 9 + 2, none⟩ = some (.int .i64 (L.taskAt i).deadline) ∧ W.cell? ⟨g, i * 9 + 3, none⟩ = some (.int .i64 (L.taskAt i).clow) ∧ W.cell? ⟨g, i * 9 + 4, none⟩ = some (.int .i64 (L.taskAt i).chigh) ∧ W.cell? ⟨g, i * 9 + 5, none⟩ = some (.int .i64 (L.taskAt i).prio) := by
  obtain ⟨m, hm⟩ : ∃ m, ms[i]? = some m := ⟨_, List.getElem?_eq_getElem (by rw [h.mlen]; exact hi)⟩
  have ht := (h.each i m hm).1
  rw [← ht]
  exact ⟨h.cell hm (k := 0) rfl, h.cell hm (k := 1) rfl, h.cell hm (k := 2) rfl, h.cell hm (k := 3) rfl, h.cell hm (k := 4) rfl, h.cell hm (k := 5) rfl⟩
theorem clock_ok {now : Int} (h0 : 0 ≤ now) (h1 : now ≤ 1099511627776) (w : World) : Calls Tryz.prog 37 #[.int .i64 now] w fun e w' => e = .returned (.bool true) ∧ w = w' := by
  have h := J.clock_any now w
  rw [decide_eq_true h0, decide_eq_true h1] at h
  exact h
theorem clock_no {now : Int} (h : tickB now = false) (w : World) : Calls Tryz.prog 37 #[.int .i64 now] w fun e w' => e = .returned (.bool false) ∧ w = w' := by
  have h1 := J.clock_any now w
  unfold tickB at h
  rw [h] at h1
  exact h1
set_option maxRecDepth 100000 in
set_option maxHeartbeats 16000000 in
theorem ppick_bad {lo b n c : Nat} {q : Value} {a : Option Addr} {vj : Value} {ms : List RunM} {L : LocV} (i d now : Int) (W : World) (h : PLoc lo q W b (.slice a n c) vj ms L) (hN : L.tasks.length = n) (hbad : pickOk L i now = false) :
    Calls Tryz.prog 16 #[.pointer (some ⟨b, 0, none⟩), .int .i64 i, .int .i64 d, .int .i64 now] W fun e w' => e = .returned (.tuple #[.slice none 0 0, .int .i64 1400]) ∧ W = w' := by
  have c2 : W.cell? ⟨b, 2, none⟩ = some (.slice a n c) := blk_cell h.box 2
  clear h
  unfold pickOk at hbad
  rw [hN] at hbad
  clear hN
  by_cases h1 : i < 0
  · clear hbad
    go_enter Tryz.func16, Tryz.ntmps16
    go_wp2
    go_ret2
    exact ⟨rfl, rfl⟩
  · by_cases h2 : (n : Int) ≤ i
    · clear hbad
      go_enter Tryz.func16, Tryz.ntmps16
      go_wp2
      go_ret2
      exact ⟨rfl, rfl⟩
    · have h3 : tickB now = false := by
        rw [decide_eq_true (show 0 ≤ i by omega), decide_eq_true (show i < (n : Int) by omega)] at hbad
        simpa using hbad
      have h2n : i < (n : Int) := by omega
      clear hbad
      have CK := hide (clock_no h3)
      clear h3
      go_enter Tryz.func16, Tryz.ntmps16
      go_wp2_with (first | fail)
      refine (CK.out _).mono ?_; rintro e w' ⟨rfl, rfl⟩
      go_wp2
      go_ret2
      exact ⟨rfl, rfl⟩
set_option maxRecDepth 100000 in
set_option maxHeartbeats 16000000 in
theorem ppick_err {lo b g n c : Nat} {q vj : Value} {ms : List RunM} {L : LocV} (i : Nat) (d now : Int) (W : World) (h : PLoc lo q W b (.slice (some ⟨g, 0, none⟩) n c) vj ms L) (hi : i < n) (hlm : L.tasks.length = n) (hlt : L.turns.length = L.tasks.length) (hq : ∀ k, q.ownBlock = some k → k < W.heap.size) (hn0 : 0 ≤ now) (hn1 : now ≤ 1099511627776) (hmay : taskMay (L.taskAt i) = true) (hE : pickE (L.taskAt i) (L.turnAt i) d ≠ 0) :
    Calls Tryz.prog 16 #[.pointer (some ⟨b, 0, none⟩), .int .i64 i, .int .i64 d, .int .i64 now] W fun e w' => e = .returned (.tuple #[.slice none 0 0, .int .i64 (pickE (L.taskAt i) (L.turnAt i) d)]) ∧ W.grownBy w' none := by
  have c2 : W.cell? ⟨b, 2, none⟩ = some (.slice (some ⟨g, 0, none⟩) n c) := blk_cell h.box 2
  obtain ⟨m, hm⟩ : ∃ m, ms[i]? = some m := ⟨_, List.getElem?_eq_getElem (by rw [h.mlen, hlm]; exact hi)⟩
  have HTK := hide (fun V (ms' : List RunM) (L' : LocV) (hT : L'.tasks = L.tasks) (hV : PLoc lo q V b (.slice (some ⟨g, 0, none⟩) n c) vj ms' L') => (by have := hV.task (i := i) (by rw [hT, hlm]; exact hi); rw [show L'.taskAt i = L.taskAt i from by unfold LocV.taskAt; rw [hT]] at this; exact this : V.cell? ⟨g, i * 9, none⟩ = some (.int .i64 (L.taskAt i).kind) ∧ V.cell? ⟨g, i * 9 + 1, none⟩ = some (.int .i64 (L.taskAt i).period) ∧ V.cell? ⟨g, i * 9 + 2, none⟩ = some (.int .i64 (L.taskAt i).deadline) ∧ V.cell? ⟨g, i * 9 + 3, none⟩ = some (.int .i64 (L.taskAt i).clow) ∧ V.cell? ⟨g, i * 9 + 4, none⟩ = some (.int .i64 (L.taskAt i).chigh) ∧ V.cell? ⟨g, i * 9 + 5, none⟩ = some (.int .i64 (L.taskAt i).prio)))
  have HM := hide hm
  have HLT := hide hlt
  have HQ := hide hq
  have HL0 := hide h
  have CK := hide (clock_ok hn0 hn1)
  have hx1 := J.may_parts hmay
  clear hm hlt hq
  have CP := hide (fun V (hV : PLoc lo q V b (.slice (some ⟨g, 0, none⟩) n c) vj ms L) (hs : W.heap.size ≤ V.heap.size) => pick_err (L.taskAt i) i m d V hV HM.out (fun k hk => Nat.lt_of_lt_of_le (HQ.out k hk) hs) HLT.out hE)
  have hEb : (pickE (L.taskAt i) (L.turnAt i) d != 0) = true := by simpa using hE
  generalize pickE (L.taskAt i) (L.turnAt i) d = E at *
  clear hE
  generalize hT : L.taskAt i = T at *
  obtain ⟨x0, x1, x2, x3, x4, x5⟩ := T
  clear hT
  dsimp only at HTK hx1
  clear hx1
  have hq0 : ¬((i : Int) < 0) := by omega
  have hq1 : ¬((n : Int) ≤ (i : Int)) := by omega
  have hq2 : (i : Int) < (n : Int) := by omega
  clear h
  go_enter Tryz.func16, Tryz.ntmps16
  go_wp2_with (first | fail)
  refine (CK.out _).mono ?_; rintro e W0 ⟨rfl, rfl⟩
  go_upto_region 6 with (first | fail)
  clear c2
  refine wp_region_held_drew (S := fun V => V.cell? ⟨g, i * 9, none⟩ = some (.int .i64 x0) ∧ V.cell? ⟨g, i * 9 + 1, none⟩ = some (.int .i64 x1) ∧ V.cell? ⟨g, i * 9 + 2, none⟩ = some (.int .i64 x2) ∧ V.cell? ⟨g, i * 9 + 3, none⟩ = some (.int .i64 x3) ∧ V.cell? ⟨g, i * 9 + 4, none⟩ = some (.int .i64 x4) ∧ V.cell? ⟨g, i * 9 + 5, none⟩ = some (.int .i64 x5)) (by kernel_rfl) (HTK.out _ _ _ rfl (HL0.out.grown (grownBy_draws W 1 none))) (fun hHeld => ?_)
  have HP := hide (HL0.out.grown (grownBy_draws W 1 none))
  have HGW := hide (grownBy_draws W 1 none)
  have hdd : W.drewN 1 = W.drew := rfl
  rw [hdd] at HGW HP
  clear hdd
  generalize W.drew = V0 at *
  refine take_put (i := 0) (v := .pointer (some ⟨g, i * 9, none⟩)) 36 rfl rfl (by kernel_rfl) (by kernel_rfl) (by kernel_rfl) (fun _ _ _ h => h) (Or.inl ⟨by rfl, by intro Wy hSW; go_simp⟩) (by assumption) ?_
  (try simp only [Act.put, List.setIfInBounds_toArray, List.set_cons_zero, List.set_cons_succ])
  refine take_put (i := 1) (v := .pointer (some ⟨g, i * 9, none⟩)) 37 rfl rfl (by kernel_rfl) (by kernel_rfl) (by kernel_rfl) (fun _ _ _ h => h) (Or.inl ⟨by rfl, by intro Wy hSW; go_simp⟩) (by assumption) ?_
  (try simp only [Act.put, List.setIfInBounds_toArray, List.set_cons_zero, List.set_cons_succ])
  refine take_put (i := 2) (v := .pointer (some ⟨g, i * 9 + 6, none⟩)) 38 rfl rfl (by kernel_rfl) (by kernel_rfl) (by kernel_rfl) (fun _ _ _ h => h) (Or.inl ⟨by rfl, by intro Wy hSW; go_simp⟩) (by assumption) ?_
  (try simp only [Act.put, List.setIfInBounds_toArray, List.set_cons_zero, List.set_cons_succ])
  refine take_put (i := 3) (v := .pointer (some ⟨g, i * 9, none⟩)) 39 rfl rfl (by kernel_rfl) (by kernel_rfl) (by kernel_rfl) (fun _ _ _ h => h) (Or.inl ⟨by rfl, by intro Wy hSW; go_simp⟩) (by assumption) ?_
  (try simp only [Act.put, List.setIfInBounds_toArray, List.set_cons_zero, List.set_cons_succ])
  refine take_put (i := 4) (v := .pointer (some ⟨g, i * 9, none⟩)) 40 rfl rfl (by kernel_rfl) (by kernel_rfl) (by kernel_rfl) (fun _ _ _ h => h) (Or.inl ⟨by rfl, by intro Wy hSW; go_simp⟩) (by assumption) ?_
  (try simp only [Act.put, List.setIfInBounds_toArray, List.set_cons_zero, List.set_cons_succ])
  refine take_put (i := 5) (v := .pointer (some ⟨g, i * 9, none⟩)) 41 rfl rfl (by kernel_rfl) (by kernel_rfl) (by kernel_rfl) (fun _ _ _ h => h) (Or.inl ⟨by rfl, by intro Wy hSW; go_simp⟩) (by assumption) ?_
  (try simp only [Act.put, List.setIfInBounds_toArray, List.set_cons_zero, List.set_cons_succ])
  refine take_put (i := 6) (v := .agg #[.int .i64 x0, .int .i64 x1, .int .i64 x2, .int .i64 x3, .int .i64 x4, .int .i64 x5]) 42 rfl rfl (by kernel_rfl) (by kernel_rfl) (by kernel_rfl) (fun _ _ _ h => h) (Or.inl ⟨by rfl, by intro Wy hSW; have hc := hSW; go_simp⟩) (by assumption) ?_
  (try simp only [Act.put, List.setIfInBounds_toArray, List.set_cons_zero, List.set_cons_succ])
  refine take_put (i := 7) (v := .int .i64 d) 43 rfl rfl (by kernel_rfl) (by kernel_rfl) (by kernel_rfl) (fun _ _ _ h => h) (Or.inl ⟨by rfl, by intro Wy hSW; go_simp⟩) (by assumption) ?_
  (try simp only [Act.put, List.setIfInBounds_toArray, List.set_cons_zero, List.set_cons_succ])
  refine wpAnyH_ready (rs := [8]) (by kernel_rfl) (by simp) ?_
  refine AllReadyH.cons rfl (fun Kx hKx => ?_) AllReadyH.nil
  go_simp
  refine (CP.out _ HP.out HGW.out.size).mono ?_; rintro e V1 ⟨rfl, hg⟩
  have HPn := hide (HP.out.grown hg)
  have HGX := hide (grownBy_trans HGW.out hg)
  clear hg HGW HP hHeld
  have HP := HPn
  clear HPn
  refine hKx.out _ _ (HTK.out _ _ _ rfl HP.out) (fun hHeld => ?_)
  clear hKx Kx
  (try simp only [Act.put])
  refine take_put (i := 9) (v := .int .i64 E) 11 rfl rfl (by kernel_rfl) (by kernel_rfl) (by kernel_rfl) (fun _ _ _ h => h) (Or.inl ⟨by rfl, by intro Wy hSW; go_simp⟩) (by assumption) ?_
  (try simp only [Act.put, List.setIfInBounds_toArray, List.set_cons_zero, List.set_cons_succ])
  refine wpAnyH_done (by kernel_rfl) ?_ _
  clear hHeld
  go_wp2
  go_ret2
  exact ⟨rfl, HGX.out⟩
set_option maxRecDepth 100000 in
set_option maxHeartbeats 16000000 in
theorem ppick_on {lo b g n c : Nat} {q vj : Value} {ms : List RunM} {L : LocV} (i : Nat) (d now : Int) (W : World) (h : PLoc lo q W b (.slice (some ⟨g, 0, none⟩) n c) vj ms L) (hi : i < n) (hlm : L.tasks.length = n) (hlt : L.turns.length = L.tasks.length) (hq : ∀ k, q.ownBlock = some k → k < W.heap.size) (hn0 : 0 ≤ now) (hn1 : now ≤ 1099511627776) (hmay : taskMay (L.taskAt i) = true) (hE : pickE (L.taskAt i) (L.turnAt i) d = 0) (hlate : lateB (L.taskAt i) (pickS (L.taskAt i) (L.turnAt i) d) now = false) :
    Calls Tryz.prog 16 #[.pointer (some ⟨b, 0, none⟩), .int .i64 i, .int .i64 d, .int .i64 now] W fun e w' => e = .returned (.tuple #[.slice none 0 0, .int .i64 0]) ∧ (∃ ms', PLoc lo q w' b (.slice (some ⟨g, 0, none⟩) n c) vj ms' { L with turns := L.turns.set i (pickS (L.taskAt i) (L.turnAt i) d) }) ∧ W.grownBy w' (some g) := by
  have c2 : W.cell? ⟨b, 2, none⟩ = some (.slice (some ⟨g, 0, none⟩) n c) := blk_cell h.box 2
  obtain ⟨m, hm⟩ : ∃ m, ms[i]? = some m := ⟨_, List.getElem?_eq_getElem (by rw [h.mlen, hlm]; exact hi)⟩
  have HTK := hide (fun V (ms' : List RunM) (L' : LocV) (hT : L'.tasks = L.tasks) (hV : PLoc lo q V b (.slice (some ⟨g, 0, none⟩) n c) vj ms' L') => (by have := hV.task (i := i) (by rw [hT, hlm]; exact hi); rw [show L'.taskAt i = L.taskAt i from by unfold LocV.taskAt; rw [hT]] at this; exact this : V.cell? ⟨g, i * 9, none⟩ = some (.int .i64 (L.taskAt i).kind) ∧ V.cell? ⟨g, i * 9 + 1, none⟩ = some (.int .i64 (L.taskAt i).period) ∧ V.cell? ⟨g, i * 9 + 2, none⟩ = some (.int .i64 (L.taskAt i).deadline) ∧ V.cell? ⟨g, i * 9 + 3, none⟩ = some (.int .i64 (L.taskAt i).clow) ∧ V.cell? ⟨g, i * 9 + 4, none⟩ = some (.int .i64 (L.taskAt i).chigh) ∧ V.cell? ⟨g, i * 9 + 5, none⟩ = some (.int .i64 (L.taskAt i).prio)))
  have HM := hide hm
  have HLT := hide hlt
  have HQ := hide hq
  have HL0 := hide h
  have CK := hide (clock_ok hn0 hn1)
  have hx1 := J.may_parts hmay
  clear hm hlt hq
  have HIX : Hid (({ L with turns := L.turns.set i (pickS (L.taskAt i) (L.turnAt i) d) } : LocV).turnAt i = pickS (L.taskAt i) (L.turnAt i) d) := hide (by
    unfold LocV.turnAt
    rw [getD_set, if_pos ⟨rfl, by rw [HLT.out, hlm]; exact hi⟩])
  have HPM := hide (pick_may hE)
  have CP := hide (fun V (hV : PLoc lo q V b (.slice (some ⟨g, 0, none⟩) n c) vj ms L) (hs : W.heap.size ≤ V.heap.size) => pick_on (L.taskAt i) i m d V hV HM.out (fun k hk => Nat.lt_of_lt_of_le (HQ.out k hk) hs) HLT.out hE)
  generalize hL9 : ({ L with turns := L.turns.set i (pickS (L.taskAt i) (L.turnAt i) d) } : LocV) = L9 at *
  have HT9 : Hid (L9.tasks = L.tasks) := hide (by rw [← hL9])
  have HI9 : Hid (L9.idx = L.idx) := hide (by rw [← hL9])
  clear hL9
  generalize hPS : pickS (L.taskAt i) (L.turnAt i) d = PS at *
  clear hPS hE
  generalize hT : L.taskAt i = T at *
  obtain ⟨x0, x1, x2, x3, x4, x5⟩ := T
  clear hT
  dsimp only at HTK hx1
  clear hx1
  have CL := hide (fun V (ms' : List RunM) (m' : RunM) (hm' : ms'[i]? = some m') (hV : PLoc lo q V b (.slice (some ⟨g, 0, none⟩) n c) vj ms' L9) => late_at (q := q) ⟨x0, x1, x2, x3, x4, x5⟩ i m' now V hV hm')
  rw [HIX.out, hlate] at CL
  have hq0 : ¬((i : Int) < 0) := by omega
  have hq1 : ¬((n : Int) ≤ (i : Int)) := by omega
  have hq2 : (i : Int) < (n : Int) := by omega
  clear h
  go_enter Tryz.func16, Tryz.ntmps16
  go_wp2_with (first | fail)
  refine (CK.out _).mono ?_; rintro e W0 ⟨rfl, rfl⟩
  go_upto_region 6 with (first | fail)
  clear c2
  refine wp_region_held_drew (S := fun V => V.cell? ⟨g, i * 9, none⟩ = some (.int .i64 x0) ∧ V.cell? ⟨g, i * 9 + 1, none⟩ = some (.int .i64 x1) ∧ V.cell? ⟨g, i * 9 + 2, none⟩ = some (.int .i64 x2) ∧ V.cell? ⟨g, i * 9 + 3, none⟩ = some (.int .i64 x3) ∧ V.cell? ⟨g, i * 9 + 4, none⟩ = some (.int .i64 x4) ∧ V.cell? ⟨g, i * 9 + 5, none⟩ = some (.int .i64 x5)) (by kernel_rfl) (HTK.out _ _ _ rfl (HL0.out.grown (grownBy_draws W 1 none))) (fun hHeld => ?_)
  have HP := hide (HL0.out.grown (grownBy_draws W 1 none))
  have HGW := hide (grownBy_draws W 1 none)
  have hdd : W.drewN 1 = W.drew := rfl
  rw [hdd] at HGW HP
  clear hdd
  generalize W.drew = V0 at *
  refine take_put (i := 0) (v := .pointer (some ⟨g, i * 9, none⟩)) 36 rfl rfl (by kernel_rfl) (by kernel_rfl) (by kernel_rfl) (fun _ _ _ h => h) (Or.inl ⟨by rfl, by intro Wy hSW; go_simp⟩) (by assumption) ?_
  (try simp only [Act.put, List.setIfInBounds_toArray, List.set_cons_zero, List.set_cons_succ])
  refine take_put (i := 1) (v := .pointer (some ⟨g, i * 9, none⟩)) 37 rfl rfl (by kernel_rfl) (by kernel_rfl) (by kernel_rfl) (fun _ _ _ h => h) (Or.inl ⟨by rfl, by intro Wy hSW; go_simp⟩) (by assumption) ?_
  (try simp only [Act.put, List.setIfInBounds_toArray, List.set_cons_zero, List.set_cons_succ])
  refine take_put (i := 2) (v := .pointer (some ⟨g, i * 9 + 6, none⟩)) 38 rfl rfl (by kernel_rfl) (by kernel_rfl) (by kernel_rfl) (fun _ _ _ h => h) (Or.inl ⟨by rfl, by intro Wy hSW; go_simp⟩) (by assumption) ?_
  (try simp only [Act.put, List.setIfInBounds_toArray, List.set_cons_zero, List.set_cons_succ])
  refine take_put (i := 3) (v := .pointer (some ⟨g, i * 9, none⟩)) 39 rfl rfl (by kernel_rfl) (by kernel_rfl) (by kernel_rfl) (fun _ _ _ h => h) (Or.inl ⟨by rfl, by intro Wy hSW; go_simp⟩) (by assumption) ?_
  (try simp only [Act.put, List.setIfInBounds_toArray, List.set_cons_zero, List.set_cons_succ])
  refine take_put (i := 4) (v := .pointer (some ⟨g, i * 9, none⟩)) 40 rfl rfl (by kernel_rfl) (by kernel_rfl) (by kernel_rfl) (fun _ _ _ h => h) (Or.inl ⟨by rfl, by intro Wy hSW; go_simp⟩) (by assumption) ?_
  (try simp only [Act.put, List.setIfInBounds_toArray, List.set_cons_zero, List.set_cons_succ])
  refine take_put (i := 5) (v := .pointer (some ⟨g, i * 9, none⟩)) 41 rfl rfl (by kernel_rfl) (by kernel_rfl) (by kernel_rfl) (fun _ _ _ h => h) (Or.inl ⟨by rfl, by intro Wy hSW; go_simp⟩) (by assumption) ?_
  (try simp only [Act.put, List.setIfInBounds_toArray, List.set_cons_zero, List.set_cons_succ])
  refine take_put (i := 6) (v := .agg #[.int .i64 x0, .int .i64 x1, .int .i64 x2, .int .i64 x3, .int .i64 x4, .int .i64 x5]) 42 rfl rfl (by kernel_rfl) (by kernel_rfl) (by kernel_rfl) (fun _ _ _ h => h) (Or.inl ⟨by rfl, by intro Wy hSW; have hc := hSW; go_simp⟩) (by assumption) ?_
  (try simp only [Act.put, List.setIfInBounds_toArray, List.set_cons_zero, List.set_cons_succ])
  refine take_put (i := 7) (v := .int .i64 d) 43 rfl rfl (by kernel_rfl) (by kernel_rfl) (by kernel_rfl) (fun _ _ _ h => h) (Or.inl ⟨by rfl, by intro Wy hSW; go_simp⟩) (by assumption) ?_
  (try simp only [Act.put, List.setIfInBounds_toArray, List.set_cons_zero, List.set_cons_succ])
  refine wpAnyH_ready (rs := [8]) (by kernel_rfl) (by simp) ?_
  refine AllReadyH.cons rfl (fun Kx hKx => ?_) AllReadyH.nil
  go_simp
  refine (CP.out _ HP.out HGW.out.size).mono ?_; rintro e V1 ⟨rfl, ⟨ms1, hP1⟩, hg⟩
  have HGX := hide (grown_any HGW.out hg)
  clear hg HGW HP hHeld
  have HP := hide hP1
  clear hP1
  refine hKx.out _ _ (HTK.out _ _ _ HT9.out HP.out) (fun hHeld => ?_)
  clear hKx Kx
  (try simp only [Act.put])
  refine take_put (i := 9) (v := .int .i64 0) 11 rfl rfl (by kernel_rfl) (by kernel_rfl) (by kernel_rfl) (fun _ _ _ h => h) (Or.inl ⟨by rfl, by intro Wy hSW; go_simp⟩) (by assumption) ?_
  (try simp only [Act.put, List.setIfInBounds_toArray, List.set_cons_zero, List.set_cons_succ])
  refine wpAnyH_done (by kernel_rfl) ?_ _
  clear hHeld
  obtain ⟨m1, hm1⟩ : ∃ m1, ms1[i]? = some m1 := ⟨_, List.getElem?_eq_getElem (by rw [HP.out.mlen, HT9.out, hlm]; exact hi)⟩
  have HM1 := hide hm1
  clear hm1
  go_upto_region 9 with (first | fail)
  refine wp_region_held_drew (S := fun V => V.cell? ⟨g, i * 9, none⟩ = some (.int .i64 x0) ∧ V.cell? ⟨g, i * 9 + 1, none⟩ = some (.int .i64 x1) ∧ V.cell? ⟨g, i * 9 + 2, none⟩ = some (.int .i64 x2) ∧ V.cell? ⟨g, i * 9 + 3, none⟩ = some (.int .i64 x3) ∧ V.cell? ⟨g, i * 9 + 4, none⟩ = some (.int .i64 x4) ∧ V.cell? ⟨g, i * 9 + 5, none⟩ = some (.int .i64 x5)) (by kernel_rfl) (HTK.out _ _ _ HT9.out (HP.out.grown (grownBy_draws V1 1 none))) (fun hHeld => ?_)
  have HPd := hide (HP.out.grown (grownBy_draws V1 1 none))
  have HGd := hide (grown_more HGX.out (grownBy_draws V1 1 none))
  have hdd : V1.drewN 1 = V1.drew := rfl
  rw [hdd] at HPd HGd
  clear hdd HP HGX
  have HP := HPd
  have HGX := HGd
  clear HPd HGd
  generalize V1.drew = Y0 at *
  refine take_put (i := 0) (v := .pointer (some ⟨g, i * 9, none⟩)) 48 rfl rfl (by kernel_rfl) (by kernel_rfl) (by kernel_rfl) (fun _ _ _ h => h) (Or.inl ⟨by rfl, by intro Wy hSW; go_simp⟩) (by assumption) ?_
  (try simp only [Act.put, List.setIfInBounds_toArray, List.set_cons_zero, List.set_cons_succ])
  refine take_put (i := 1) (v := .pointer (some ⟨g, i * 9, none⟩)) 49 rfl rfl (by kernel_rfl) (by kernel_rfl) (by kernel_rfl) (fun _ _ _ h => h) (Or.inl ⟨by rfl, by intro Wy hSW; go_simp⟩) (by assumption) ?_
  (try simp only [Act.put, List.setIfInBounds_toArray, List.set_cons_zero, List.set_cons_succ])
  refine take_put (i := 2) (v := .pointer (some ⟨g, i * 9 + 6, none⟩)) 50 rfl rfl (by kernel_rfl) (by kernel_rfl) (by kernel_rfl) (fun _ _ _ h => h) (Or.inl ⟨by rfl, by intro Wy hSW; go_simp⟩) (by assumption) ?_
  (try simp only [Act.put, List.setIfInBounds_toArray, List.set_cons_zero, List.set_cons_succ])
  refine take_put (i := 3) (v := .pointer (some ⟨g, i * 9, none⟩)) 51 rfl rfl (by kernel_rfl) (by kernel_rfl) (by kernel_rfl) (fun _ _ _ h => h) (Or.inl ⟨by rfl, by intro Wy hSW; go_simp⟩) (by assumption) ?_
  (try simp only [Act.put, List.setIfInBounds_toArray, List.set_cons_zero, List.set_cons_succ])
  refine take_put (i := 4) (v := .pointer (some ⟨g, i * 9, none⟩)) 52 rfl rfl (by kernel_rfl) (by kernel_rfl) (by kernel_rfl) (fun _ _ _ h => h) (Or.inl ⟨by rfl, by intro Wy hSW; go_simp⟩) (by assumption) ?_
  (try simp only [Act.put, List.setIfInBounds_toArray, List.set_cons_zero, List.set_cons_succ])
  refine take_put (i := 5) (v := .pointer (some ⟨g, i * 9, none⟩)) 53 rfl rfl (by kernel_rfl) (by kernel_rfl) (by kernel_rfl) (fun _ _ _ h => h) (Or.inl ⟨by rfl, by intro Wy hSW; go_simp⟩) (by assumption) ?_
  (try simp only [Act.put, List.setIfInBounds_toArray, List.set_cons_zero, List.set_cons_succ])
  refine take_put (i := 6) (v := .agg #[.int .i64 x0, .int .i64 x1, .int .i64 x2, .int .i64 x3, .int .i64 x4, .int .i64 x5]) 54 rfl rfl (by kernel_rfl) (by kernel_rfl) (by kernel_rfl) (fun _ _ _ h => h) (Or.inl ⟨by rfl, by intro Wy hSW; have hc := hSW; go_simp⟩) (by assumption) ?_
  (try simp only [Act.put, List.setIfInBounds_toArray, List.set_cons_zero, List.set_cons_succ])
  refine take_put (i := 7) (v := .int .i64 now) 55 rfl rfl (by kernel_rfl) (by kernel_rfl) (by kernel_rfl) (fun _ _ _ h => h) (Or.inl ⟨by rfl, by intro Wy hSW; go_simp⟩) (by assumption) ?_
  (try simp only [Act.put, List.setIfInBounds_toArray, List.set_cons_zero, List.set_cons_succ])
  refine wpAnyH_ready (rs := [8]) (by kernel_rfl) (by simp) ?_
  refine AllReadyH.cons rfl (fun Kx hKx => ?_) AllReadyH.nil
  go_simp
  refine (CL.out _ _ _ HM1.out HP.out).mono ?_; rintro e Y1 ⟨rfl, hg⟩
  have HPn := hide (HP.out.grown hg)
  have HGn := hide (grown_more HGX.out hg)
  clear hg HGX HP hHeld
  have HP := HPn
  have HGX := HGn
  clear HPn HGn
  refine hKx.out _ _ (HTK.out _ _ _ HT9.out HP.out) (fun hHeld => ?_)
  clear hKx Kx
  (try simp only [Act.put])
  refine take_put (i := 9) (v := .bool true) 57 rfl rfl (by kernel_rfl) (by kernel_rfl) (by kernel_rfl) (fun _ _ _ h => h) (Or.inl ⟨by rfl, by intro Wy hSW; go_simp⟩) (by assumption) ?_
  (try simp only [Act.put, List.setIfInBounds_toArray, List.set_cons_zero, List.set_cons_succ])
  refine wpAnyH_done (by kernel_rfl) ?_ _
  clear hHeld
  go_wp2
  go_ret2
  exact ⟨rfl, ⟨_, HP.out⟩, HGX.out⟩
set_option maxRecDepth 100000 in
set_option maxHeartbeats 16000000 in
theorem ppick_late {lo b g n c : Nat} {q vj : Value} {ms : List RunM} {L : LocV} (i : Nat) (d now : Int) (W : World) (h : PLoc lo q W b (.slice (some ⟨g, 0, none⟩) n c) vj ms L) (hi : i < n) (hlm : L.tasks.length = n) (hlt : L.turns.length = L.tasks.length) (hq : ∀ k, q.ownBlock = some k → k < W.heap.size) (hn0 : 0 ≤ now) (hn1 : now ≤ 1099511627776) (hmay : taskMay (L.taskAt i) = true) (hE : pickE (L.taskAt i) (L.turnAt i) d = 0) (hlate : lateB (L.taskAt i) (pickS (L.taskAt i) (L.turnAt i) d) now = true) :
    Calls Tryz.prog 16 #[.pointer (some ⟨b, 0, none⟩), .int .i64 i, .int .i64 d, .int .i64 now] W fun e w' => ∃ v, e = .returned (.tuple #[v, .int .i64 0]) ∧ (∃ ms', PLoc lo q w' b (.slice (some ⟨g, 0, none⟩) n c) vj ms' { L with turns := L.turns.set i (pickS (L.taskAt i) (L.turnAt i) d) }) ∧ OwnE W.heap.size w' v [⟨2, L.idx, i, (pickS (L.taskAt i) (L.turnAt i) d).last + (L.taskAt i).period - now⟩] ∧ W.grownBy w' (some g) := by
  have c2 : W.cell? ⟨b, 2, none⟩ = some (.slice (some ⟨g, 0, none⟩) n c) := blk_cell h.box 2
  obtain ⟨m, hm⟩ : ∃ m, ms[i]? = some m := ⟨_, List.getElem?_eq_getElem (by rw [h.mlen, hlm]; exact hi)⟩
  have HTK := hide (fun V (ms' : List RunM) (L' : LocV) (hT : L'.tasks = L.tasks) (hV : PLoc lo q V b (.slice (some ⟨g, 0, none⟩) n c) vj ms' L') => (by have := hV.task (i := i) (by rw [hT, hlm]; exact hi); rw [show L'.taskAt i = L.taskAt i from by unfold LocV.taskAt; rw [hT]] at this; exact this : V.cell? ⟨g, i * 9, none⟩ = some (.int .i64 (L.taskAt i).kind) ∧ V.cell? ⟨g, i * 9 + 1, none⟩ = some (.int .i64 (L.taskAt i).period) ∧ V.cell? ⟨g, i * 9 + 2, none⟩ = some (.int .i64 (L.taskAt i).deadline) ∧ V.cell? ⟨g, i * 9 + 3, none⟩ = some (.int .i64 (L.taskAt i).clow) ∧ V.cell? ⟨g, i * 9 + 4, none⟩ = some (.int .i64 (L.taskAt i).chigh) ∧ V.cell? ⟨g, i * 9 + 5, none⟩ = some (.int .i64 (L.taskAt i).prio)))
  have HM := hide hm
  have HLT := hide hlt
  have HQ := hide hq
  have HL0 := hide h
  have CK := hide (clock_ok hn0 hn1)
  have hx1 := J.may_parts hmay
  clear hm hlt hq
  have HIX : Hid (({ L with turns := L.turns.set i (pickS (L.taskAt i) (L.turnAt i) d) } : LocV).turnAt i = pickS (L.taskAt i) (L.turnAt i) d) := hide (by
    unfold LocV.turnAt
    rw [getD_set, if_pos ⟨rfl, by rw [HLT.out, hlm]; exact hi⟩])
  have HPM := hide (pick_may hE)
  have CP := hide (fun V (hV : PLoc lo q V b (.slice (some ⟨g, 0, none⟩) n c) vj ms L) (hs : W.heap.size ≤ V.heap.size) => pick_on (L.taskAt i) i m d V hV HM.out (fun k hk => Nat.lt_of_lt_of_le (HQ.out k hk) hs) HLT.out hE)
  generalize hL9 : ({ L with turns := L.turns.set i (pickS (L.taskAt i) (L.turnAt i) d) } : LocV) = L9 at *
  have HT9 : Hid (L9.tasks = L.tasks) := hide (by rw [← hL9])
  have HI9 : Hid (L9.idx = L.idx) := hide (by rw [← hL9])
  clear hL9
  generalize hPS : pickS (L.taskAt i) (L.turnAt i) d = PS at *
  clear hPS hE
  generalize hT : L.taskAt i = T at *
  obtain ⟨x0, x1, x2, x3, x4, x5⟩ := T
  clear hT
  dsimp only at HTK hx1
  obtain ⟨-, hx1a, hx1b, -⟩ := hx1
  have HBD : Hid (-1 ≤ PS.last ∧ PS.last ≤ 1099511627776) := hide (by have := HPM.out; unfold turnsMay at this; simp only [Bool.and_eq_true, decide_eq_true_eq] at this; exact ⟨this.1, this.2.1⟩)
  have CW := hide (fun V (ms' : List RunM) (m' : RunM) (hm' : ms'[i]? = some m') (hV : PLoc lo q V b (.slice (some ⟨g, 0, none⟩) n c) vj ms' L9) => wait_at (q := q) i m' x1 now V hV hm' (by rw [HIX.out]; exact HBD.out.1) (by rw [HIX.out]; exact HBD.out.2) (by omega) hx1b hn0 hn1)
  rw [HIX.out] at CW
  have CL := hide (fun V (ms' : List RunM) (m' : RunM) (hm' : ms'[i]? = some m') (hV : PLoc lo q V b (.slice (some ⟨g, 0, none⟩) n c) vj ms' L9) => late_at (q := q) ⟨x0, x1, x2, x3, x4, x5⟩ i m' now V hV hm')
  rw [HIX.out, hlate] at CL
  have hq0 : ¬((i : Int) < 0) := by omega
  have hq1 : ¬((n : Int) ≤ (i : Int)) := by omega
  have hq2 : (i : Int) < (n : Int) := by omega
  clear h
  go_enter Tryz.func16, Tryz.ntmps16
  go_wp2_with (first | fail)
  refine (CK.out _).mono ?_; rintro e W0 ⟨rfl, rfl⟩
  go_upto_region 6 with (first | fail)
  clear c2
  refine wp_region_held_drew (S := fun V => V.cell? ⟨g, i * 9, none⟩ = some (.int .i64 x0) ∧ V.cell? ⟨g, i * 9 + 1, none⟩ = some (.int .i64 x1) ∧ V.cell? ⟨g, i * 9 + 2, none⟩ = some (.int .i64 x2) ∧ V.cell? ⟨g, i * 9 + 3, none⟩ = some (.int .i64 x3) ∧ V.cell? ⟨g, i * 9 + 4, none⟩ = some (.int .i64 x4) ∧ V.cell? ⟨g, i * 9 + 5, none⟩ = some (.int .i64 x5)) (by kernel_rfl) (HTK.out _ _ _ rfl (HL0.out.grown (grownBy_draws W 1 none))) (fun hHeld => ?_)
  have HP := hide (HL0.out.grown (grownBy_draws W 1 none))
  have HGW := hide (grownBy_draws W 1 none)
  have hdd : W.drewN 1 = W.drew := rfl
  rw [hdd] at HGW HP
  clear hdd
  generalize W.drew = V0 at *
  refine take_put (i := 0) (v := .pointer (some ⟨g, i * 9, none⟩)) 36 rfl rfl (by kernel_rfl) (by kernel_rfl) (by kernel_rfl) (fun _ _ _ h => h) (Or.inl ⟨by rfl, by intro Wy hSW; go_simp⟩) (by assumption) ?_
  (try simp only [Act.put, List.setIfInBounds_toArray, List.set_cons_zero, List.set_cons_succ])
  refine take_put (i := 1) (v := .pointer (some ⟨g, i * 9, none⟩)) 37 rfl rfl (by kernel_rfl) (by kernel_rfl) (by kernel_rfl) (fun _ _ _ h => h) (Or.inl ⟨by rfl, by intro Wy hSW; go_simp⟩) (by assumption) ?_
  (try simp only [Act.put, List.setIfInBounds_toArray, List.set_cons_zero, List.set_cons_succ])
  refine take_put (i := 2) (v := .pointer (some ⟨g, i * 9 + 6, none⟩)) 38 rfl rfl (by kernel_rfl) (by kernel_rfl) (by kernel_rfl) (fun _ _ _ h => h) (Or.inl ⟨by rfl, by intro Wy hSW; go_simp⟩) (by assumption) ?_
  (try simp only [Act.put, List.setIfInBounds_toArray, List.set_cons_zero, List.set_cons_succ])
  refine take_put (i := 3) (v := .pointer (some ⟨g, i * 9, none⟩)) 39 rfl rfl (by kernel_rfl) (by kernel_rfl) (by kernel_rfl) (fun _ _ _ h => h) (Or.inl ⟨by rfl, by intro Wy hSW; go_simp⟩) (by assumption) ?_
  (try simp only [Act.put, List.setIfInBounds_toArray, List.set_cons_zero, List.set_cons_succ])
  refine take_put (i := 4) (v := .pointer (some ⟨g, i * 9, none⟩)) 40 rfl rfl (by kernel_rfl) (by kernel_rfl) (by kernel_rfl) (fun _ _ _ h => h) (Or.inl ⟨by rfl, by intro Wy hSW; go_simp⟩) (by assumption) ?_
  (try simp only [Act.put, List.setIfInBounds_toArray, List.set_cons_zero, List.set_cons_succ])
  refine take_put (i := 5) (v := .pointer (some ⟨g, i * 9, none⟩)) 41 rfl rfl (by kernel_rfl) (by kernel_rfl) (by kernel_rfl) (fun _ _ _ h => h) (Or.inl ⟨by rfl, by intro Wy hSW; go_simp⟩) (by assumption) ?_
  (try simp only [Act.put, List.setIfInBounds_toArray, List.set_cons_zero, List.set_cons_succ])
  refine take_put (i := 6) (v := .agg #[.int .i64 x0, .int .i64 x1, .int .i64 x2, .int .i64 x3, .int .i64 x4, .int .i64 x5]) 42 rfl rfl (by kernel_rfl) (by kernel_rfl) (by kernel_rfl) (fun _ _ _ h => h) (Or.inl ⟨by rfl, by intro Wy hSW; have hc := hSW; go_simp⟩) (by assumption) ?_
  (try simp only [Act.put, List.setIfInBounds_toArray, List.set_cons_zero, List.set_cons_succ])
  refine take_put (i := 7) (v := .int .i64 d) 43 rfl rfl (by kernel_rfl) (by kernel_rfl) (by kernel_rfl) (fun _ _ _ h => h) (Or.inl ⟨by rfl, by intro Wy hSW; go_simp⟩) (by assumption) ?_
  (try simp only [Act.put, List.setIfInBounds_toArray, List.set_cons_zero, List.set_cons_succ])
  refine wpAnyH_ready (rs := [8]) (by kernel_rfl) (by simp) ?_
  refine AllReadyH.cons rfl (fun Kx hKx => ?_) AllReadyH.nil
  go_simp
  refine (CP.out _ HP.out HGW.out.size).mono ?_; rintro e V1 ⟨rfl, ⟨ms1, hP1⟩, hg⟩
  have HGX := hide (grown_any HGW.out hg)
  clear hg HGW HP hHeld
  have HP := hide hP1
  clear hP1
  refine hKx.out _ _ (HTK.out _ _ _ HT9.out HP.out) (fun hHeld => ?_)
  clear hKx Kx
  (try simp only [Act.put])
  refine take_put (i := 9) (v := .int .i64 0) 11 rfl rfl (by kernel_rfl) (by kernel_rfl) (by kernel_rfl) (fun _ _ _ h => h) (Or.inl ⟨by rfl, by intro Wy hSW; go_simp⟩) (by assumption) ?_
  (try simp only [Act.put, List.setIfInBounds_toArray, List.set_cons_zero, List.set_cons_succ])
  refine wpAnyH_done (by kernel_rfl) ?_ _
  clear hHeld
  obtain ⟨m1, hm1⟩ : ∃ m1, ms1[i]? = some m1 := ⟨_, List.getElem?_eq_getElem (by rw [HP.out.mlen, HT9.out, hlm]; exact hi)⟩
  have HM1 := hide hm1
  clear hm1
  go_upto_region 9 with (first | fail)
  refine wp_region_held_drew (S := fun V => V.cell? ⟨g, i * 9, none⟩ = some (.int .i64 x0) ∧ V.cell? ⟨g, i * 9 + 1, none⟩ = some (.int .i64 x1) ∧ V.cell? ⟨g, i * 9 + 2, none⟩ = some (.int .i64 x2) ∧ V.cell? ⟨g, i * 9 + 3, none⟩ = some (.int .i64 x3) ∧ V.cell? ⟨g, i * 9 + 4, none⟩ = some (.int .i64 x4) ∧ V.cell? ⟨g, i * 9 + 5, none⟩ = some (.int .i64 x5)) (by kernel_rfl) (HTK.out _ _ _ HT9.out (HP.out.grown (grownBy_draws V1 1 none))) (fun hHeld => ?_)
  have HPd := hide (HP.out.grown (grownBy_draws V1 1 none))
  have HGd := hide (grown_more HGX.out (grownBy_draws V1 1 none))
  have hdd : V1.drewN 1 = V1.drew := rfl
  rw [hdd] at HPd HGd
  clear hdd HP HGX
  have HP := HPd
  have HGX := HGd
  clear HPd HGd
  generalize V1.drew = Y0 at *
  refine take_put (i := 0) (v := .pointer (some ⟨g, i * 9, none⟩)) 48 rfl rfl (by kernel_rfl) (by kernel_rfl) (by kernel_rfl) (fun _ _ _ h => h) (Or.inl ⟨by rfl, by intro Wy hSW; go_simp⟩) (by assumption) ?_
  (try simp only [Act.put, List.setIfInBounds_toArray, List.set_cons_zero, List.set_cons_succ])
  refine take_put (i := 1) (v := .pointer (some ⟨g, i * 9, none⟩)) 49 rfl rfl (by kernel_rfl) (by kernel_rfl) (by kernel_rfl) (fun _ _ _ h => h) (Or.inl ⟨by rfl, by intro Wy hSW; go_simp⟩) (by assumption) ?_
  (try simp only [Act.put, List.setIfInBounds_toArray, List.set_cons_zero, List.set_cons_succ])
  refine take_put (i := 2) (v := .pointer (some ⟨g, i * 9 + 6, none⟩)) 50 rfl rfl (by kernel_rfl) (by kernel_rfl) (by kernel_rfl) (fun _ _ _ h => h) (Or.inl ⟨by rfl, by intro Wy hSW; go_simp⟩) (by assumption) ?_
  (try simp only [Act.put, List.setIfInBounds_toArray, List.set_cons_zero, List.set_cons_succ])
  refine take_put (i := 3) (v := .pointer (some ⟨g, i * 9, none⟩)) 51 rfl rfl (by kernel_rfl) (by kernel_rfl) (by kernel_rfl) (fun _ _ _ h => h) (Or.inl ⟨by rfl, by intro Wy hSW; go_simp⟩) (by assumption) ?_
  (try simp only [Act.put, List.setIfInBounds_toArray, List.set_cons_zero, List.set_cons_succ])
  refine take_put (i := 4) (v := .pointer (some ⟨g, i * 9, none⟩)) 52 rfl rfl (by kernel_rfl) (by kernel_rfl) (by kernel_rfl) (fun _ _ _ h => h) (Or.inl ⟨by rfl, by intro Wy hSW; go_simp⟩) (by assumption) ?_
  (try simp only [Act.put, List.setIfInBounds_toArray, List.set_cons_zero, List.set_cons_succ])
  refine take_put (i := 5) (v := .pointer (some ⟨g, i * 9, none⟩)) 53 rfl rfl (by kernel_rfl) (by kernel_rfl) (by kernel_rfl) (fun _ _ _ h => h) (Or.inl ⟨by rfl, by intro Wy hSW; go_simp⟩) (by assumption) ?_
  (try simp only [Act.put, List.setIfInBounds_toArray, List.set_cons_zero, List.set_cons_succ])
  refine take_put (i := 6) (v := .agg #[.int .i64 x0, .int .i64 x1, .int .i64 x2, .int .i64 x3, .int .i64 x4, .int .i64 x5]) 54 rfl rfl (by kernel_rfl) (by kernel_rfl) (by kernel_rfl) (fun _ _ _ h => h) (Or.inl ⟨by rfl, by intro Wy hSW; have hc := hSW; go_simp⟩) (by assumption) ?_
  (try simp only [Act.put, List.setIfInBounds_toArray, List.set_cons_zero, List.set_cons_succ])
  refine take_put (i := 7) (v := .int .i64 now) 55 rfl rfl (by kernel_rfl) (by kernel_rfl) (by kernel_rfl) (fun _ _ _ h => h) (Or.inl ⟨by rfl, by intro Wy hSW; go_simp⟩) (by assumption) ?_
  (try simp only [Act.put, List.setIfInBounds_toArray, List.set_cons_zero, List.set_cons_succ])
  refine wpAnyH_ready (rs := [8]) (by kernel_rfl) (by simp) ?_
  refine AllReadyH.cons rfl (fun Kx hKx => ?_) AllReadyH.nil
  go_simp
  refine (CL.out _ _ _ HM1.out HP.out).mono ?_; rintro e Y1 ⟨rfl, hg⟩
  have HPn := hide (HP.out.grown hg)
  have HGn := hide (grown_more HGX.out hg)
  clear hg HGX HP hHeld
  have HP := HPn
  have HGX := HGn
  clear HPn HGn
  refine hKx.out _ _ (HTK.out _ _ _ HT9.out HP.out) (fun hHeld => ?_)
  clear hKx Kx
  (try simp only [Act.put])
  refine take_put (i := 9) (v := .bool false) 57 rfl rfl (by kernel_rfl) (by kernel_rfl) (by kernel_rfl) (fun _ _ _ h => h) (Or.inl ⟨by rfl, by intro Wy hSW; go_simp⟩) (by assumption) ?_
  (try simp only [Act.put, List.setIfInBounds_toArray, List.set_cons_zero, List.set_cons_succ])
  refine wpAnyH_done (by kernel_rfl) ?_ _
  clear hHeld
  go_upto_region 11 with (first | fail)
  refine wp_region_held_drew (S := fun V => V.cell? ⟨g, i * 9, none⟩ = some (.int .i64 x0) ∧ V.cell? ⟨g, i * 9 + 1, none⟩ = some (.int .i64 x1) ∧ V.cell? ⟨g, i * 9 + 2, none⟩ = some (.int .i64 x2) ∧ V.cell? ⟨g, i * 9 + 3, none⟩ = some (.int .i64 x3) ∧ V.cell? ⟨g, i * 9 + 4, none⟩ = some (.int .i64 x4) ∧ V.cell? ⟨g, i * 9 + 5, none⟩ = some (.int .i64 x5)) (by kernel_rfl) (HTK.out _ _ _ HT9.out (HP.out.grown (grownBy_draws Y1 1 none))) (fun hHeld => ?_)
  have HPd := hide (HP.out.grown (grownBy_draws Y1 1 none))
  have HGd := hide (grown_more HGX.out (grownBy_draws Y1 1 none))
  have hdd : Y1.drewN 1 = Y1.drew := rfl
  rw [hdd] at HPd HGd
  clear hdd HP HGX
  have HP := HPd
  have HGX := HGd
  clear HPd HGd
  generalize Y1.drew = Z0 at *
  refine take_put (i := 0) (v := .pointer (some ⟨b, 0, none⟩)) 58 rfl rfl (by kernel_rfl) (by kernel_rfl) (by kernel_rfl) (fun _ _ _ h => h) (Or.inl ⟨by rfl, by intro Wy hSW; go_simp⟩) (by assumption) ?_
  (try simp only [Act.put, List.setIfInBounds_toArray, List.set_cons_zero, List.set_cons_succ])
  refine take_put (i := 1) (v := .int .i64 i) 59 rfl rfl (by kernel_rfl) (by kernel_rfl) (by kernel_rfl) (fun _ _ _ h => h) (Or.inl ⟨by rfl, by intro Wy hSW; go_simp⟩) (by assumption) ?_
  (try simp only [Act.put, List.setIfInBounds_toArray, List.set_cons_zero, List.set_cons_succ])
  refine take_put (i := 2) (v := .pointer (some ⟨g, i * 9, none⟩)) 60 rfl rfl (by kernel_rfl) (by kernel_rfl) (by kernel_rfl) (fun _ _ _ h => h) (Or.inl ⟨by rfl, by intro Wy hSW; go_simp⟩) (by assumption) ?_
  (try simp only [Act.put, List.setIfInBounds_toArray, List.set_cons_zero, List.set_cons_succ])
  refine take_put (i := 3) (v := .pointer (some ⟨g, i * 9, none⟩)) 61 rfl rfl (by kernel_rfl) (by kernel_rfl) (by kernel_rfl) (fun _ _ _ h => h) (Or.inl ⟨by rfl, by intro Wy hSW; go_simp⟩) (by assumption) ?_
  (try simp only [Act.put, List.setIfInBounds_toArray, List.set_cons_zero, List.set_cons_succ])
  refine take_put (i := 4) (v := .pointer (some ⟨g, i * 9 + 6, none⟩)) 62 rfl rfl (by kernel_rfl) (by kernel_rfl) (by kernel_rfl) (fun _ _ _ h => h) (Or.inl ⟨by rfl, by intro Wy hSW; go_simp⟩) (by assumption) ?_
  (try simp only [Act.put, List.setIfInBounds_toArray, List.set_cons_zero, List.set_cons_succ])
  refine take_put (i := 5) (v := .pointer (some ⟨g, i * 9, none⟩)) 63 rfl rfl (by kernel_rfl) (by kernel_rfl) (by kernel_rfl) (fun _ _ _ h => h) (Or.inl ⟨by rfl, by intro Wy hSW; go_simp⟩) (by assumption) ?_
  (try simp only [Act.put, List.setIfInBounds_toArray, List.set_cons_zero, List.set_cons_succ])
  refine take_put (i := 6) (v := .pointer (some ⟨g, i * 9, none⟩)) 64 rfl rfl (by kernel_rfl) (by kernel_rfl) (by kernel_rfl) (fun _ _ _ h => h) (Or.inl ⟨by rfl, by intro Wy hSW; go_simp⟩) (by assumption) ?_
  (try simp only [Act.put, List.setIfInBounds_toArray, List.set_cons_zero, List.set_cons_succ])
  refine take_put (i := 7) (v := .pointer (some ⟨g, i * 9, none⟩)) 65 rfl rfl (by kernel_rfl) (by kernel_rfl) (by kernel_rfl) (fun _ _ _ h => h) (Or.inl ⟨by rfl, by intro Wy hSW; go_simp⟩) (by assumption) ?_
  (try simp only [Act.put, List.setIfInBounds_toArray, List.set_cons_zero, List.set_cons_succ])
  refine take_put (i := 8) (v := .pointer (some ⟨g, i * 9 + 1, none⟩)) 66 rfl rfl (by kernel_rfl) (by kernel_rfl) (by kernel_rfl) (fun _ _ _ h => h) (Or.inl ⟨by rfl, by intro Wy hSW; go_simp⟩) (by assumption) ?_
  (try simp only [Act.put, List.setIfInBounds_toArray, List.set_cons_zero, List.set_cons_succ])
  refine take_put (i := 9) (v := .int .i64 x1) 67 rfl rfl (by kernel_rfl) (by kernel_rfl) (by kernel_rfl) (fun _ _ _ h => h) (Or.inl ⟨by rfl, by intro Wy hSW; have hc := hSW.2.1; go_simp⟩) (by assumption) ?_
  (try simp only [Act.put, List.setIfInBounds_toArray, List.set_cons_zero, List.set_cons_succ])
  refine take_put (i := 10) (v := .int .i64 now) 68 rfl rfl (by kernel_rfl) (by kernel_rfl) (by kernel_rfl) (fun _ _ _ h => h) (Or.inl ⟨by rfl, by intro Wy hSW; go_simp⟩) (by assumption) ?_
  (try simp only [Act.put, List.setIfInBounds_toArray, List.set_cons_zero, List.set_cons_succ])
  refine wpAnyH_ready (rs := [11]) (by kernel_rfl) (by simp) ?_
  refine AllReadyH.cons rfl (fun Kx hKx => ?_) AllReadyH.nil
  go_simp
  refine (CW.out _ _ _ HM1.out HP.out).mono ?_; rintro e Zw ⟨rfl, rfl⟩
  clear hHeld
  refine hKx.out _ _ (HTK.out _ _ _ HT9.out HP.out) (fun hHeld => ?_)
  clear hKx Kx
  (try simp only [Act.put])
  refine wpAnyH_ready (rs := [12]) (by kernel_rfl) (by simp) ?_
  refine AllReadyH.cons rfl (fun Kx hKx => ?_) AllReadyH.nil
  go_simp
  refine (event_any b L.idx 2 i (PS.last + x1 - now) _ (by have := blk_cell HP.out.box 0; rw [HI9.out] at this; exact this)).mono ?_; rintro e Z2 ⟨rfl, hg⟩
  have HPn := hide (HP.out.grown hg)
  have HGn := hide (grown_more HGX.out hg)
  clear hg HGX HP hHeld
  have HP := HPn
  have HGX := HGn
  clear HPn HGn
  refine hKx.out _ _ (HTK.out _ _ _ HT9.out HP.out) (fun hHeld => ?_)
  clear hKx Kx
  (try simp only [Act.put])
  refine wpAnyH_ready (rs := [13]) (by kernel_rfl) (by simp) ?_
  refine AllReadyH.cons rfl (fun Kx hKx => ?_) AllReadyH.nil
  go_simp
  have hg := World.grownBy_alloc Z2 (.cells #[.int .i64 2, .int .i64 L.idx, .int .i64 i, .int .i64 (PS.last + x1 - now)] 68) none
  have HEV := hide (show OwnE W.heap.size (Z2.alloc (.cells #[.int .i64 2, .int .i64 L.idx, .int .i64 i, .int .i64 (PS.last + x1 - now)] 68)) (.slice (some ⟨Z2.heap.size, 0, none⟩) 1 1) [⟨2, L.idx, i, PS.last + x1 - now⟩] from own_mono (ev_lit Z2 ⟨2, L.idx, i, PS.last + x1 - now⟩) HGX.out.size)
  have HPn := hide (HP.out.grown hg)
  have HGn := hide (grown_more HGX.out hg)
  clear hg HGX HP hHeld
  have HP := HPn
  have HGX := HGn
  clear HPn HGn
  refine hKx.out _ _ (HTK.out _ _ _ HT9.out HP.out) (fun hHeld => ?_)
  clear hKx Kx
  (try simp only [Act.put])
  generalize Z2.alloc (.cells #[.int .i64 2, .int .i64 L.idx, .int .i64 i, .int .i64 (PS.last + x1 - now)] 68) = Z3 at *
  generalize Z2.heap.size = BL at *
  refine take_put (i := 14) (v := .slice (some ⟨BL, 0, none⟩) 1 1) 8 rfl rfl (by kernel_rfl) (by kernel_rfl) (by kernel_rfl) (fun _ _ _ h => h) (Or.inl ⟨by rfl, by intro Wy hSW; go_simp⟩) (by assumption) ?_
  (try simp only [Act.put, List.setIfInBounds_toArray, List.set_cons_zero, List.set_cons_succ])
  refine take_put (i := 15) (v := .int .i64 0) 9 rfl rfl (by kernel_rfl) (by kernel_rfl) (by kernel_rfl) (fun _ _ _ h => h) (Or.inl ⟨by rfl, by intro Wy hSW; go_simp⟩) (by assumption) ?_
  (try simp only [Act.put, List.setIfInBounds_toArray, List.set_cons_zero, List.set_cons_succ])
  refine wpAnyH_done (by kernel_rfl) ?_ _
  clear hHeld
  go_wp2
  go_ret2
  exact ⟨_, rfl, ⟨_, HP.out⟩, HEV.out, HGX.out⟩

/-- All of Pick. -/
theorem pick_all {lo b m : Nat} {q vr vj : Value} {ms : List RunM} {L : LocV} (i d now : Int) (w W : World) (hg : w.grownBy W none) (hlo : w.heap.size ≤ lo) (h : PLoc lo q W b vr vj ms L) (hF : Fine L m) (hq : ∀ k, q.ownBlock = some k → k < W.heap.size) :
    Calls Tryz.prog 16 #[.pointer (some ⟨b, 0, none⟩), .int .i64 i, .int .i64 d, .int .i64 now] W fun e w' => ∃ v ms', e = .returned (.tuple #[v, .int .i64 (pickN L i d now)]) ∧ PLoc lo q w' b vr vj ms' (pickL L i d now) ∧ OwnE W.heap.size w' v (pickV L i d now) ∧ w.grownBy w' none ∧ W.heap.size ≤ w'.heap.size ∧ ∀ k, k < W.heap.size → k ≠ b → vr.ownBlock ≠ some k → w'.heap[k]? = W.heap[k]? := by
  cases hok : pickOk L i now with
  | false =>
    obtain ⟨a, c, rfl⟩ := own_form h.runs
    have e1 : pickN L i d now = 1400 := by unfold pickN; rw [hok]; rfl
    have e2 : pickL L i d now = L := by unfold pickL; rw [e1]; rfl
    have e3 : pickV L i d now = [] := by unfold pickV; rw [e1]; rfl
    rw [e1, e2, e3]
    refine (ppick_bad i d now W h h.mlen.symm hok).mono ?_
    rintro e w' ⟨rfl, rfl⟩
    exact ⟨_, _, rfl, h, ownE_nil _ _, hg, Nat.le_refl _, fun k _ _ _ => rfl⟩
  | true =>
    have hok2 := hok
    unfold pickOk tickB at hok2
    simp only [Bool.and_eq_true, decide_eq_true_eq] at hok2
    obtain ⟨k, rfl⟩ : ∃ k : Nat, i = (k : Int) := ⟨i.toNat, by omega⟩
    have hk : k < L.tasks.length := by omega
    have hml := h.mlen
    obtain ⟨g, c, rfl, -⟩ := own_at h.runs (by omega)
    rw [hml] at h ⊢
    have hge := h.ge.1
    have e1 : pickN L k d now = pickE (L.taskAt k) (L.turnAt k) d := by unfold pickN; rw [hok, if_pos rfl, Int.toNat_natCast]
    have hmay := hF.taskMay k hk
    by_cases hE : pickE (L.taskAt k) (L.turnAt k) d = 0
    · have e2 : pickL L k d now = { L with turns := L.turns.set k (pickS (L.taskAt k) (L.turnAt k) d) } := by unfold pickL; rw [e1, hE, if_pos rfl, Int.toNat_natCast]
      rw [e2, e1, hE]
      cases hlt : lateB (L.taskAt k) (pickS (L.taskAt k) (L.turnAt k) d) now with
      | false =>
        have e3 : pickV L k d now = [] := by unfold pickV; rw [e1, hE, if_pos rfl, Int.toNat_natCast, hlt]; rfl
        rw [e3]
        exact (ppick_on k d now W h hk rfl hF.turns hq hok2.2.2.1 hok2.2.2.2 hmay hE hlt).mono fun e w' ⟨h1, ⟨ms', h2⟩, h3⟩ => ⟨_, ms', h1, h2, ownE_nil _ _, grown_spoil hg (Nat.le_trans hlo hge) h3, h3.size, fun j hj _ hu => h3.block j hj (fun e => hu e.symm)⟩
      | true =>
        have e3 : pickV L k d now = [⟨2, L.idx, k, (pickS (L.taskAt k) (L.turnAt k) d).last + (L.taskAt k).period - now⟩] := by unfold pickV; rw [e1, hE, if_pos rfl, Int.toNat_natCast, hlt]; rfl
        rw [e3]
        exact (ppick_late k d now W h hk rfl hF.turns hq hok2.2.2.1 hok2.2.2.2 hmay hE hlt).mono fun e w' ⟨v, h1, ⟨ms', h2⟩, h3, h4⟩ => ⟨v, ms', h1, h2, h3, grown_spoil hg (Nat.le_trans hlo hge) h4, h4.size, fun j hj _ hu => h4.block j hj (fun e => hu e.symm)⟩
    · have e2 : pickL L k d now = L := by unfold pickL; rw [e1, if_neg hE]
      have e3 : pickV L k d now = [] := by unfold pickV; rw [e1, if_neg hE]
      rw [e2, e3, e1]
      exact (ppick_err k d now W h hk rfl hF.turns hq hok2.2.2.1 hok2.2.2.2 hmay hE).mono fun e w' ⟨h1, h2⟩ => ⟨_, _, h1, h.grown h2, ownE_nil _ _, grownBy_trans hg h2, h2.size, fun j hj _ _ => h2.block j hj (by simp)⟩
#print axioms pick_all
end Go.Proofs.YtlppfocoonnpjaaGreatDoor.L

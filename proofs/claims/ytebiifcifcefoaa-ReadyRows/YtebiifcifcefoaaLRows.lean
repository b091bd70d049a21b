/- The walk of the statement ReadyRows: jobs put one by one, from the begin and from the end; proved over the translation. -/
import Derived.Test.YtebiifcifcefoaaAw
import Derived.Test.YtebiifcifcefoaaRmath
import Derived.Test.YtebiifcifcefoaaBits
import Derived.Test.YtebiifcifcefoaaNums
import Derived.Test.YtebiifcifcefoaaStill
namespace Go.Proofs.Ytebiifcifcefoaa
open Go.RowKit
attribute [local go_sem] alloc_drewN setCell_drewN

set_option maxRecDepth 100000 in
set_option maxHeartbeats 8000000 in
theorem rows_law {lo : Nat} (v : Value) (zs : List Int) (w : World) (hv : RowAt shN lo w v zs) :
    Calls Try.prog 4 #[v] w fun e w' => e = .returned (.bool true) ∧ w.grownBy w' none := by
  have HV := hide (fun W (hg : w.grownBy W none) => hv.grown hg)
  have NUM := hide num_to
  have HG := hide (grownBy_refl w none)
  obtain ⟨hl, a, cap, rfl, -⟩ := hv
  generalize hN : zs.length = N at *
  have HN := hide hN
  clear hN
  go_enter Try.func4, Try.ntmps4
  go_wp2_with (first | fail)
  refine (awake_any _).mono ?_; rintro e w1 ⟨rfl, hg⟩
  have HGn := hide (grownBy_trans HG.out hg)
  clear hg HG
  have HG := HGn
  clear HGn
  go_wp2
  go_loopw [5, 6] (fun v i W => ∃ (n : Nat) (a1 : Option Addr) (c1 : Nat) (L : List JobV), n ≤ N ∧ n ≤ 16 ∧ i = .int .i64 n ∧ v = .slice a1 n c1 ∧ Hid (L.length = n) ∧ Hid (∀ x ∈ L, Small3 x) ∧ Hid (Own w.heap.size W (.slice a1 n c1) L) ∧ Hid (w.grownBy W none)) (fun _ i _ => 16 - (intOf i).toNat)
  case atStart => exact ⟨0, none, 0, [], by omega, by omega, rfl, rfl, hide rfl, hide (fun x hx => by simp at hx), own_nil _ _, HG⟩
  case round =>
    clear HG
    obtain ⟨n, a1, c1, L, hn, hn16, rfl, rfl, HL, HS, OA, HG⟩ := hrel
    by_cases hlt : n < N ∧ n < 16
    · obtain ⟨hlt, hlt16⟩ := hlt
      obtain ⟨g, o, rfl⟩ := row_addr (HV.out wr HG.out) (by omega)
      obtain ⟨z, hz⟩ : ∃ z, zs[n]? = some z := ⟨_, List.getElem?_eq_getElem (by rw [HN.out]; exact hlt)⟩
      have HC : Hid (∀ W, w.grownBy W none → W.cell? ⟨g, o + n, none⟩ = some (.int .i64 z)) := hide (fun W hg => by have := row_cell (S := shN) (HV.out W hg) hz (k := 0) rfl; simpa [shN] using this)
      obtain ⟨p, hp, ep⟩ := and3 z
      obtain ⟨r, hr, er⟩ := and3 (z / 8)
      obtain ⟨t, ht, et⟩ := and2 (z / 64)
      clear hz
      have CK := hide (fun W => mk_any p r t (r + 9) rfl (by omega) (by omega) W)
      have HSM : Hid (Small3 (kJ p r t)) := hide ⟨p, r, t, hp, hr, ht, rfl⟩
      have hd9 : ∃ d : Int, (r : Int) + 9 = d := ⟨_, rfl⟩
      obtain ⟨d, hd⟩ := hd9
      have HJ : Hid (kJ p r t = ⟨t, 0, p, r, d, 5, 0⟩) := hide (by unfold kJ; rw [hd])
      rw [hd] at CK
      rw [HJ.out] at HSM
      clear hd HJ hp hr ht
      go_upto_region 7 with (first | fail)
      refine wp_region_held_drew (S := fun W => W.cell? ⟨g, o + n, none⟩ = some (.int .i64 z)) (by kernel_rfl) (HC.out _ (grownBy_trans HG.out (grownBy_draws wr 1 none))) (fun hHeld => ?_)
      have HGd : Hid (w.grownBy wr.drew none) := hide (grownBy_trans HG.out (grownBy_draws wr 1 none))
      have OAd : Hid (Own w.heap.size wr.drew (.slice a1 n c1) L) := hide (OA.out.grown (grownBy_draws wr 1 none))
      clear HG OA
      generalize wr.drew = W at *
      have HG := HGd
      have OA := OAd
      clear HGd OAd
      refine take_put (i := 0) (v := .slice a1 n c1) 27 rfl rfl (by kernel_rfl) (by kernel_rfl) (by kernel_rfl) (fun _ _ _ h => h) (Or.inl ⟨by rfl, by intro Wy hSW; go_simp⟩) (by assumption) ?_
      (try simp only [Act.put, List.setIfInBounds_toArray, List.set_cons_zero, List.set_cons_succ])
      refine take_put (i := 1) (v := .slice (some ⟨g, o, none⟩) N cap) 28 rfl rfl (by kernel_rfl) (by kernel_rfl) (by kernel_rfl) (fun _ _ _ h => h) (Or.inl ⟨by rfl, by intro Wy hSW; go_simp⟩) (by assumption) ?_
      (try simp only [Act.put, List.setIfInBounds_toArray, List.set_cons_zero, List.set_cons_succ])
      refine take_put (i := 2) (v := .int .i64 (n : Nat)) 29 rfl rfl (by kernel_rfl) (by kernel_rfl) (by kernel_rfl) (fun _ _ _ h => h) (Or.inl ⟨by rfl, by intro Wy hSW; go_simp⟩) (by assumption) ?_
      (try simp only [Act.put, List.setIfInBounds_toArray, List.set_cons_zero, List.set_cons_succ])
      refine take_put (i := 3) (v := .pointer (some ⟨g, o + n, none⟩)) 30 rfl rfl (by kernel_rfl) (by kernel_rfl) (by kernel_rfl) (fun _ _ _ h => h) (Or.inl ⟨by rfl, by intro Wy hSW; have hc := (show n < N from hlt); go_simp⟩) (by assumption) ?_
      (try simp only [Act.put, List.setIfInBounds_toArray, List.set_cons_zero, List.set_cons_succ])
      refine take_put (i := 4) (v := .int .i64 z) 31 rfl rfl (by kernel_rfl) (by kernel_rfl) (by kernel_rfl) (fun _ _ _ h => h) (Or.inl ⟨by rfl, by intro Wy hSW; have hc := hSW; go_simp⟩) (by assumption) ?_
      (try simp only [Act.put, List.setIfInBounds_toArray, List.set_cons_zero, List.set_cons_succ])
      refine take_put (i := 5) (v := .int .i64 (p : Nat)) 32 rfl rfl (by kernel_rfl) (by kernel_rfl) (by kernel_rfl) (fun _ _ _ h => h) (Or.inl ⟨by rfl, by intro Wy hSW; have hc := ep; go_simp⟩) (by assumption) ?_
      (try simp only [Act.put, List.setIfInBounds_toArray, List.set_cons_zero, List.set_cons_succ])
      refine take_put (i := 6) (v := .slice (some ⟨g, o, none⟩) N cap) 33 rfl rfl (by kernel_rfl) (by kernel_rfl) (by kernel_rfl) (fun _ _ _ h => h) (Or.inl ⟨by rfl, by intro Wy hSW; go_simp⟩) (by assumption) ?_
      (try simp only [Act.put, List.setIfInBounds_toArray, List.set_cons_zero, List.set_cons_succ])
      refine take_put (i := 7) (v := .int .i64 (n : Nat)) 34 rfl rfl (by kernel_rfl) (by kernel_rfl) (by kernel_rfl) (fun _ _ _ h => h) (Or.inl ⟨by rfl, by intro Wy hSW; go_simp⟩) (by assumption) ?_
      (try simp only [Act.put, List.setIfInBounds_toArray, List.set_cons_zero, List.set_cons_succ])
      refine take_put (i := 8) (v := .pointer (some ⟨g, o + n, none⟩)) 35 rfl rfl (by kernel_rfl) (by kernel_rfl) (by kernel_rfl) (fun _ _ _ h => h) (Or.inl ⟨by rfl, by intro Wy hSW; have hc := (show n < N from hlt); go_simp⟩) (by assumption) ?_
      (try simp only [Act.put, List.setIfInBounds_toArray, List.set_cons_zero, List.set_cons_succ])
      refine take_put (i := 9) (v := .int .i64 z) 36 rfl rfl (by kernel_rfl) (by kernel_rfl) (by kernel_rfl) (fun _ _ _ h => h) (Or.inl ⟨by rfl, by intro Wy hSW; have hc := hSW; go_simp⟩) (by assumption) ?_
      (try simp only [Act.put, List.setIfInBounds_toArray, List.set_cons_zero, List.set_cons_succ])
      refine take_put (i := 10) (v := .int .i64 (z / 8)) 37 rfl rfl (by kernel_rfl) (by kernel_rfl) (by kernel_rfl) (fun _ _ _ h => h) (Or.inl ⟨by rfl, by intro Wy hSW; go_simp⟩) (by assumption) ?_
      (try simp only [Act.put, List.setIfInBounds_toArray, List.set_cons_zero, List.set_cons_succ])
      refine take_put (i := 11) (v := .int .i64 (r : Nat)) 38 rfl rfl (by kernel_rfl) (by kernel_rfl) (by kernel_rfl) (fun _ _ _ h => h) (Or.inl ⟨by rfl, by intro Wy hSW; have hc := er; go_simp⟩) (by assumption) ?_
      (try simp only [Act.put, List.setIfInBounds_toArray, List.set_cons_zero, List.set_cons_succ])
      refine take_put (i := 12) (v := .slice (some ⟨g, o, none⟩) N cap) 39 rfl rfl (by kernel_rfl) (by kernel_rfl) (by kernel_rfl) (fun _ _ _ h => h) (Or.inl ⟨by rfl, by intro Wy hSW; go_simp⟩) (by assumption) ?_
      (try simp only [Act.put, List.setIfInBounds_toArray, List.set_cons_zero, List.set_cons_succ])
      refine take_put (i := 13) (v := .int .i64 (n : Nat)) 40 rfl rfl (by kernel_rfl) (by kernel_rfl) (by kernel_rfl) (fun _ _ _ h => h) (Or.inl ⟨by rfl, by intro Wy hSW; go_simp⟩) (by assumption) ?_
      (try simp only [Act.put, List.setIfInBounds_toArray, List.set_cons_zero, List.set_cons_succ])
      refine take_put (i := 14) (v := .pointer (some ⟨g, o + n, none⟩)) 41 rfl rfl (by kernel_rfl) (by kernel_rfl) (by kernel_rfl) (fun _ _ _ h => h) (Or.inl ⟨by rfl, by intro Wy hSW; have hc := (show n < N from hlt); go_simp⟩) (by assumption) ?_
      (try simp only [Act.put, List.setIfInBounds_toArray, List.set_cons_zero, List.set_cons_succ])
      refine take_put (i := 15) (v := .int .i64 z) 42 rfl rfl (by kernel_rfl) (by kernel_rfl) (by kernel_rfl) (fun _ _ _ h => h) (Or.inl ⟨by rfl, by intro Wy hSW; have hc := hSW; go_simp⟩) (by assumption) ?_
      (try simp only [Act.put, List.setIfInBounds_toArray, List.set_cons_zero, List.set_cons_succ])
      refine take_put (i := 16) (v := .int .i64 (z / 64)) 43 rfl rfl (by kernel_rfl) (by kernel_rfl) (by kernel_rfl) (fun _ _ _ h => h) (Or.inl ⟨by rfl, by intro Wy hSW; go_simp⟩) (by assumption) ?_
      (try simp only [Act.put, List.setIfInBounds_toArray, List.set_cons_zero, List.set_cons_succ])
      refine take_put (i := 17) (v := .int .i64 (t : Nat)) 44 rfl rfl (by kernel_rfl) (by kernel_rfl) (by kernel_rfl) (fun _ _ _ h => h) (Or.inl ⟨by rfl, by intro Wy hSW; have hc := et; go_simp⟩) (by assumption) ?_
      (try simp only [Act.put, List.setIfInBounds_toArray, List.set_cons_zero, List.set_cons_succ])
      refine wpAnyH_ready (rs := [18]) (by kernel_rfl) (by simp) ?_
      refine AllReadyH.cons rfl (fun Kx hKx => ?_) AllReadyH.nil
      go_simp
      refine (CK.out _).mono ?_; rintro e W1 ⟨rfl, hg⟩
      have HGn := hide (grownBy_trans HG.out hg)
      have OAn := hide (OA.out.grown hg)
      clear HG OA hg hHeld
      have HG := HGn
      have OA := OAn
      clear HGn OAn
      refine hKx.out _ _ (HC.out _ HG.out) (fun hHeld => ?_)
      clear hKx Kx
      (try simp only [Act.put])
      refine wpAnyH_ready (rs := [19]) (by kernel_rfl) (by simp) ?_
      refine AllReadyH.cons rfl (fun Kx hKx => ?_) AllReadyH.nil
      go_simp
      have hg := World.grownBy_alloc W1 (.cells #[.int .i64 t, .int .i64 0, .int .i64 p, .int .i64 r, .int .i64 d, .int .i64 5, .int .i64 0] 24) none
      have HLT := hide (heap_alloc_new W1 (.cells #[.int .i64 t, .int .i64 0, .int .i64 p, .int .i64 r, .int .i64 d, .int .i64 5, .int .i64 0] 24))
      have HGn := hide (grownBy_trans HG.out hg)
      have OAn := hide (OA.out.grown hg)
      clear HG OA hg hHeld
      have HG := HGn
      have OA := OAn
      clear HGn OAn
      refine hKx.out _ _ (HC.out _ HG.out) (fun hHeld => ?_)
      clear hKx Kx
      (try simp only [Act.put])
      generalize W1.alloc (.cells #[.int .i64 t, .int .i64 0, .int .i64 p, .int .i64 r, .int .i64 d, .int .i64 5, .int .i64 0] 24) = W2 at *
      generalize W1.heap.size = gl at *
      refine wpAnyH_ready (rs := [20]) (by kernel_rfl) (by simp) ?_
      refine AllReadyH.cons rfl (fun Kx hKx => ?_) AllReadyH.nil
      have HSZ := hide HG.out.size
      have hown := OA.out
      unfold Own at hown
      rw [HL.out] at hown
      refine step_appd (S := shJ) _ rfl (.tmp 27) (.tmp 46) 22 rfl 24 (.agg #[.int .i64 0, .int .i64 0, .int .i64 0, .int .i64 0, .int .i64 0, .int .i64 0, .int .i64 0]) 56 Try.underlying22 infoJ rfl w.heap.size (.slice a1 n c1) n L rfl hown ⟨gl, 0, none⟩ 1 1 [⟨t, 0, p, r, d, 5, 0⟩] rfl rfl (one_at shJ ⟨t, 0, p, r, d, 5, 0⟩ HLT.out) (by omega) (by omega) HSZ.out 47 rfl ?_
      intro a2 c2 W3 ho hgw
      have HGn := hide (grown_own HG.out (fun g hg => (World.ownsRow.lt OA.out g hg).1) hgw)
      have HO := hide ho
      clear hHeld ho hgw HG OA hown HLT
      have HG := HGn
      clear HGn
      refine hKx.out _ _ (HC.out _ HG.out) (fun hHeld => ?_)
      clear hKx Kx
      (try simp only [Act.put])
      refine take_put (i := 21) (v := .slice a2 (n + 1) c2) 5 rfl rfl (by kernel_rfl) (by kernel_rfl) (by kernel_rfl) (fun _ _ _ h => h) (Or.inl ⟨by rfl, by intro Wy hSW; go_simp⟩) (by assumption) ?_
      (try simp only [Act.put, List.setIfInBounds_toArray, List.set_cons_zero, List.set_cons_succ])
      refine wpAnyH_done (by kernel_rfl) ?_ _
      clear hHeld
      clear CK ep er et
      go_wp2
      go_roundw
      case rel => exact ⟨n + 1, a2, c2, L ++ [⟨t, 0, p, r, d, 5, 0⟩], by omega, by omega, by go_num, by go_num, hide (by rw [List.length_append, HL.out]; rfl), hide (fun x hx => by rcases List.mem_append.1 hx with h | h; (exact HS.out x h); (rw [List.mem_singleton.1 h]; exact HSM.out)), hide (by unfold Own; rw [List.length_append, HL.out]; exact HO.out), HG⟩
      case measure => simp [intOf]; omega
    · have hM : ¬ (n < N ∧ n < 16) := hlt
      by_cases hM1 : n < N
      · have hM3 : ¬ n < 16 := fun h => hM ⟨hM1, h⟩
        have HUP := hide (fun i (hi : i ≤ n) => up_ok HS.out (by rw [HL.out]; exact hn16) i (by rw [HL.out]; exact hi))
        have HDN := hide (fun i (hi : i ≤ n) => down_ok HS.out (by rw [HL.out]; exact hn16) i (by rw [HL.out]; exact hi))
        have HUD : Hid (upL L n = downL L n) := hide (by have := up_down HS.out (by rw [HL.out]; exact hn16); rwa [HL.out] at this)
        have HUF : Hid (firstB (upL L n) = decide (0 < n)) := hide (by have := up_first HS.out (by rw [HL.out]; exact hn16); rwa [HL.out] at this)
        have HSM := hide (fun i (hi : i < n) => HS.out _ (List.mem_of_getElem? (jobAt_mem (js := L) (i := i) (by rw [HL.out]; exact hi))))
        have HMEM := hide (fun i (hi : i < n) => jobAt_mem (js := L) (i := i) (by rw [HL.out]; exact hi))
        have HNX := hide (fun i => (show upL L (i + 1) = nextL (upL L i) (jobAt L i) from rfl))
        have HNX2 : Hid (∀ i m, m = n - 1 - i → downL L (i + 1) = nextL (downL L i) (jobAt L m)) := hide (fun i m hm => by show nextL (downL L i) (jobAt L (L.length - 1 - i)) = _; rw [HL.out, hm])
        obtain ⟨wl, hwl⟩ : ∃ y, y = wr := ⟨_, rfl⟩
        subst hwl
        have RALL := hide (fun W (hg : wl.grownBy W none) => OA.out.row.grown hg)
        have HGL := HG
        clear HG OA HL HS hM
        have hM4 : ¬ ((n : Int) < 16) := by omega
        go_wp2
        clear hM4
        go_loopw [3, 4, 7] (fun u v i W => ∃ (k : Nat) (a2 a3 : Option Addr) (c2 c3 : Nat), k ≤ n ∧ i = .int .i64 k ∧ u = .slice a2 (upL L k).length c2 ∧ v = .slice a3 (downL L k).length c3 ∧ Hid (Own w.heap.size W (.slice a2 (upL L k).length c2) (upL L k)) ∧ Hid (Own w.heap.size W (.slice a3 (downL L k).length c3) (downL L k)) ∧ Hid (wl.grownBy W none)) (fun _ _ i _ => n - (intOf i).toNat)
        case atStart => exact ⟨0, none, none, 0, 0, by omega, rfl, rfl, rfl, own_nil _ _, own_nil _ _, grownBy_refl _ _⟩
        case round =>
          obtain ⟨k, a2, a3, c2, c3, hk, rfl, rfl, rfl, OU, OD, HG⟩ := hrel
          by_cases hkn : k < n
          · obtain ⟨g, o, rfl⟩ := row_addr (RALL.out wr HG.out) (by omega)
            have hq := HMEM.out k hkn
            have hm1 : ∃ m : Nat, (n : Int) - 1 - k = m ∧ m = n - 1 - k := ⟨n - 1 - k, by omega, rfl⟩
            obtain ⟨m, hm, hm2⟩ := hm1
            have hmn : m < n := by omega
            have hq2 := HMEM.out m hmn
            have S1 := put_step (HUP.out k hk).1 (HSM.out k hkn) (by have := (HUP.out k hk).2.1; omega)
            have S2 := put_step (HDN.out k hk).1 (HSM.out m hmn) (by have := (HDN.out k hk).2.1; omega)
            rw [← HNX.out k] at S1
            rw [← HNX2.out k m hm2] at S2
            have P1 := hide S1.2.2.2.1
            have Q1 := hide S1.2.2.2.2
            have P2 := hide S2.2.2.2.1
            have Q2 := hide S2.2.2.2.2
            have CP1 := hide (fun W (ho : Own w.heap.size W (.slice a2 (upL L k).length c2) (upL L k)) => put_at (j := jobAt L k) W ho.row rfl rfl rfl)
            have CP2 := hide (fun W (ho : Own w.heap.size W (.slice a3 (downL L k).length c3) (downL L k)) => put_at (j := jobAt L m) W ho.row rfl rfl rfl)
            clear S1 S2 hm2
            generalize hV1 : putV (upL L k) (jobAt L k) = V1 at *
            generalize hE1 : putE (upL L k) (jobAt L k) = E1 at *
            generalize hV2 : putV (downL L k) (jobAt L m) = V2 at *
            generalize hE2 : putE (downL L k) (jobAt L m) = E2 at *
            clear hV1 hE1 hV2 hE2
            generalize hU1 : upL L (k + 1) = U1 at *
            generalize hD1 : downL L (k + 1) = D1 at *
            have HU1 := hide hU1
            have HD1 := hide hD1
            clear hU1 hD1
            generalize upL L k = U0 at *
            generalize downL L k = D0 at *
            generalize hX : jobAt L k = X at *
            generalize hY : jobAt L m = Y at *
            clear hX hY
            obtain ⟨x0, x1, x2, x3, x4, x5, x6⟩ := X
            obtain ⟨y0, y1, y2, y3, y4, y5, y6⟩ := Y
            dsimp only [jobVal] at CP1 CP2
            have d0 : wr.cell? ⟨g, o + k * 7, none⟩ = some (.int .i64 x0) := row_cell (S := shJ) (RALL.out wr HG.out) hq (k := 0) rfl
            have d1 : wr.cell? ⟨g, o + k * 7 + 1, none⟩ = some (.int .i64 x1) := row_cell (S := shJ) (RALL.out wr HG.out) hq (k := 1) rfl
            have d2 : wr.cell? ⟨g, o + k * 7 + 2, none⟩ = some (.int .i64 x2) := row_cell (S := shJ) (RALL.out wr HG.out) hq (k := 2) rfl
            have d3 : wr.cell? ⟨g, o + k * 7 + 3, none⟩ = some (.int .i64 x3) := row_cell (S := shJ) (RALL.out wr HG.out) hq (k := 3) rfl
            have d4 : wr.cell? ⟨g, o + k * 7 + 4, none⟩ = some (.int .i64 x4) := row_cell (S := shJ) (RALL.out wr HG.out) hq (k := 4) rfl
            have d5 : wr.cell? ⟨g, o + k * 7 + 5, none⟩ = some (.int .i64 x5) := row_cell (S := shJ) (RALL.out wr HG.out) hq (k := 5) rfl
            have d6 : wr.cell? ⟨g, o + k * 7 + 6, none⟩ = some (.int .i64 x6) := row_cell (S := shJ) (RALL.out wr HG.out) hq (k := 6) rfl
            go_wp2_with (first | fail)
            refine (CP1.out _ OU.out).mono ?_; rintro e w2 ⟨a4, c4, rfl, ho, hg⟩
            have HGn := hide (grownBy_trans HG.out hg)
            have HO4 := hide (ho.base (Nat.le_trans HGL.out.size HG.out.size))
            have OUn := hide (OU.out.grown hg)
            have ODn := hide (OD.out.grown hg)
            clear ho hg CP1 HG OU OD d0 d1 d2 d3 d4 d5 d6
            have HG := HGn
            have OU := OUn
            have OD := ODn
            clear HGn OUn ODn
            have d0 : w2.cell? ⟨g, o + m * 7, none⟩ = some (.int .i64 y0) := row_cell (S := shJ) (RALL.out w2 HG.out) hq2 (k := 0) rfl
            have d1 : w2.cell? ⟨g, o + m * 7 + 1, none⟩ = some (.int .i64 y1) := row_cell (S := shJ) (RALL.out w2 HG.out) hq2 (k := 1) rfl
            have d2 : w2.cell? ⟨g, o + m * 7 + 2, none⟩ = some (.int .i64 y2) := row_cell (S := shJ) (RALL.out w2 HG.out) hq2 (k := 2) rfl
            have d3 : w2.cell? ⟨g, o + m * 7 + 3, none⟩ = some (.int .i64 y3) := row_cell (S := shJ) (RALL.out w2 HG.out) hq2 (k := 3) rfl
            have d4 : w2.cell? ⟨g, o + m * 7 + 4, none⟩ = some (.int .i64 y4) := row_cell (S := shJ) (RALL.out w2 HG.out) hq2 (k := 4) rfl
            have d5 : w2.cell? ⟨g, o + m * 7 + 5, none⟩ = some (.int .i64 y5) := row_cell (S := shJ) (RALL.out w2 HG.out) hq2 (k := 5) rfl
            have d6 : w2.cell? ⟨g, o + m * 7 + 6, none⟩ = some (.int .i64 y6) := row_cell (S := shJ) (RALL.out w2 HG.out) hq2 (k := 6) rfl
            clear hq hq2
            by_cases hE1 : E1 = 0
            · skip
              have EU := hide (P1.out hE1)
              subst hE1
              clear P1 Q1
              go_wp2_with (first | (go_at_call 16; refine (NUM.out _ _).mono ?_; rintro e wn ⟨rfl, rfl⟩) | fail)
              refine (CP2.out _ OD.out).mono ?_; rintro e w3 ⟨a5, c5, rfl, ho, hg⟩
              have HGn := hide (grownBy_trans HG.out hg)
              have HO5 := hide (ho.base (Nat.le_trans HGL.out.size HG.out.size))
              have ODn := hide (OD.out.grown hg)
              have OXn := hide (HO4.out.grown hg)
              clear ho hg CP2 HG OU OD HO4 d0 d1 d2 d3 d4 d5 d6
              have HG := HGn
              have OD := ODn
              have OX := OXn
              clear HGn ODn OXn
              by_cases hE2 : E2 = 0
              · have ED := hide (P2.out hE2)
                subst hE2
                clear P2 Q2
                go_wp2_with (first | (go_at_call 16; refine (NUM.out _ _).mono ?_; rintro e wn ⟨rfl, rfl⟩) | fail)
                go_roundw
                case rel => exact ⟨k + 1, a4, a5, c4, c5, by omega, by go_num, by rw [HU1.out, EU.out], by rw [HD1.out, ED.out], by rw [HU1.out, EU.out]; exact OX, by rw [HD1.out, ED.out]; exact HO5, HG⟩
                case measure => simp [intOf]; omega
              · have ED := hide (Q2.out hE2)
                clear P2 Q2
                go_wp2_with (first | (go_at_call 16; refine (NUM.out _ _).mono ?_; rintro e wn ⟨rfl, rfl⟩) | fail)
                go_roundw
                case rel => exact ⟨k + 1, a4, a3, c4, c3, by omega, by go_num, by rw [HU1.out, EU.out], by rw [HD1.out, ED.out], by rw [HU1.out, EU.out]; exact OX, by rw [HD1.out, ED.out]; exact OD, HG⟩
                case measure => simp [intOf]; omega
            · skip
              have EU := hide (Q1.out hE1)
              have HE1 := hide hE1
              clear P1 Q1
              go_wp2_with (first | (go_at_call 16; refine (NUM.out _ _).mono ?_; rintro e wn ⟨rfl, rfl⟩) | fail)
              refine (CP2.out _ OD.out).mono ?_; rintro e w3 ⟨a5, c5, rfl, ho, hg⟩
              have HGn := hide (grownBy_trans HG.out hg)
              have HO5 := hide (ho.base (Nat.le_trans HGL.out.size HG.out.size))
              have ODn := hide (OD.out.grown hg)
              have OXn := hide (OU.out.grown hg)
              clear ho hg CP2 HG OU OD HO4 d0 d1 d2 d3 d4 d5 d6
              have HG := HGn
              have OD := ODn
              have OX := OXn
              clear HGn ODn OXn
              by_cases hE2 : E2 = 0
              · have ED := hide (P2.out hE2)
                subst hE2
                clear P2 Q2
                go_wp2_with (first | (go_at_call 16; refine (NUM.out _ _).mono ?_; rintro e wn ⟨rfl, rfl⟩) | fail)
                go_roundw
                case rel => exact ⟨k + 1, a2, a5, c2, c5, by omega, by go_num, by rw [HU1.out, EU.out], by rw [HD1.out, ED.out], by rw [HU1.out, EU.out]; exact OX, by rw [HD1.out, ED.out]; exact HO5, HG⟩
                case measure => simp [intOf]; omega
              · have ED := hide (Q2.out hE2)
                clear P2 Q2
                go_wp2_with (first | (go_at_call 16; refine (NUM.out _ _).mono ?_; rintro e wn ⟨rfl, rfl⟩) | fail)
                go_roundw
                case rel => exact ⟨k + 1, a2, a3, c2, c3, by omega, by go_num, by rw [HU1.out, EU.out], by rw [HD1.out, ED.out], by rw [HU1.out, EU.out]; exact OX, by rw [HD1.out, ED.out]; exact OD, HG⟩
                case measure => simp [intOf]; omega
          · obtain rfl : k = n := by omega
            have MAY := (HUP.out k (Nat.le_refl _)).1.may
            have hu16 : (upL L k).length ≤ 16 := by have := (HUP.out k (Nat.le_refl _)).2.1; omega
            have HLEAST := hide (fun i (hi : i < (upL L k).length) => first_least MAY hi)
            have HMU := hide (fun i (hi : i < (upL L k).length) => jobAt_mem hi)
            rw [← HUD.out] at OD ⊢
            have HUF2 := HUF
            obtain ⟨wm, hwm⟩ : ∃ y, y = wr := ⟨_, rfl⟩
            subst hwm
            have CS := hide (same_at (zs := upL L k) wm OU.out.row OD.out.row)
            have CY := hide (fun W (hg : wm.grownBy W none) => may_at W (OU.out.row.grown hg) MAY)
            have CF := hide (fun W (hg : wm.grownBy W none) => first_at W (OU.out.row.grown hg) rfl HUF2.out)
            have RU := hide (fun W (hg : wm.grownBy W none) => OU.out.row.grown hg)
            have HGM := hide (grownBy_trans HGL.out HG.out)
            clear HG OU OD HUD HUF HUF2 HUP HDN HSM HMEM HNX HNX2 MAY RALL HGL
            generalize firstV (upL L k) = X at *
            generalize upL L k = U at *
            obtain ⟨x0, x1, x2, x3, x4, x5, x6⟩ := X
            dsimp only [jobVal] at CF HLEAST
            obtain ⟨b, hb⟩ : ∃ b, decide (0 < k) = b := ⟨_, rfl⟩
            rw [hb] at CF
            have HB := hide hb
            clear hb
            generalize hU : U.length = u at *
            have HU := hide hU
            clear hU
            go_wp2_with (first | fail)
            refine CS.out.mono ?_; rintro e w4 ⟨rfl, hg⟩
            have HR := hide hg
            clear hg CS
            go_wp2_with (first | fail)
            refine (CY.out _ HR.out).mono ?_; rintro e w5 ⟨rfl, hg⟩
            have HRn := hide (grownBy_trans HR.out hg)
            clear hg CY HR
            go_wp2_with (first | fail)
            refine (CF.out _ HRn.out).mono ?_; rintro e w6 ⟨rfl, hg⟩
            have HR := hide (grownBy_trans HRn.out hg)
            clear hg CF HRn
            go_upto_region 20 with (first | fail)
            have HX0 := hide (heap_alloc_new w6 (.cells #[.int .i64 x0, .int .i64 x1, .int .i64 x2, .int .i64 x3, .int .i64 x4, .int .i64 x5, .int .i64 x6] 24))
            have HR7 := hide (grownBy_trans HR.out (World.grownBy_alloc w6 (.cells #[.int .i64 x0, .int .i64 x1, .int .i64 x2, .int .i64 x3, .int .i64 x4, .int .i64 x5, .int .i64 x6] 24) none))
            generalize w6.alloc (.cells #[.int .i64 x0, .int .i64 x1, .int .i64 x2, .int .i64 x3, .int .i64 x4, .int .i64 x5, .int .i64 x6] 24) = w7 at *
            generalize w6.heap.size = BX at *
            clear HR
            have HX := hide (fun W (hg : w7.grownBy W none) => box_grown HX0.out hg (by simp))
            clear HX0
            go_wp2
            go_loopw [14] (fun i W => ∃ (q : Nat), q ≤ u ∧ i = .int .i64 q ∧ Hid (w7.grownBy W none)) (fun i _ => u - (intOf i).toNat)
            case atStart => exact ⟨0, by omega, rfl, grownBy_refl _ _⟩
            case round =>
              obtain ⟨q, hq, rfl, HG⟩ := hrel
              by_cases hqu : q < u
              · obtain ⟨g2, o2, rfl⟩ := row_addr (RU.out wr (grownBy_trans HR7.out HG.out)) (by omega)
                have hm := HMU.out q hqu
                have hle := HLEAST.out q hqu
                generalize jobAt U q = Y at *
                obtain ⟨y0, y1, y2, y3, y4, y5, y6⟩ := Y
                dsimp only at hle
                have hnl : ¬ y2 < x2 := by omega
                go_upto_region 23 with (first | fail)
                obtain ⟨U9, hU9, F, HF, HRC⟩ := class_of wr
                have c2 : ∀ u, (F u).cell? ⟨g2, o2 + q * 7 + 2, none⟩ = some (.int .i64 y2) := fun u => row_cell (S := shJ) (RU.out _ (grownBy_trans HR7.out (grownBy_trans HG.out (HF.out u)))) hm (k := 2) rfl
                have d2 : ∀ u, (F u).cell? ⟨BX, 2, none⟩ = some (.int .i64 x2) := fun u => blk_cell (HX.out _ (grownBy_trans HG.out (HF.out u))) 2
                clear hm hle
                refine wp_region_quiet_in F (by kernel_rfl) (by kernel_rfl) (HRC.out _ (drew_grown _)) ?_
                repeat (go_big_quiet_step (first | fail))
                refine wpQuiet_nil ?_
                intro _ hw1
                obtain ⟨uq, hw2⟩ := hw1
                subst hw2
                have HGn := hide (grownBy_trans HG.out (HF.out uq))
                clear HG c2 d2
                go_wp2
                go_roundw
                case rel => exact ⟨q + 1, by omega, by go_num, HGn⟩
                case measure => simp [intOf]; omega
              · by_cases h0 : 0 < k
                · obtain rfl : b = true := by rw [← HB.out, decide_eq_true h0]
                  go_wp2
                  go_ret
                  exact ⟨rfl, grownBy_trans HGM.out (grownBy_trans HR7.out HG.out)⟩
                · obtain rfl : b = false := by rw [← HB.out, decide_eq_false h0]
                  go_wp2
                  go_ret
                  exact ⟨rfl, grownBy_trans HGM.out (grownBy_trans HR7.out HG.out)⟩
      · skip
        have HUP := hide (fun i (hi : i ≤ n) => up_ok HS.out (by rw [HL.out]; exact hn16) i (by rw [HL.out]; exact hi))
        have HDN := hide (fun i (hi : i ≤ n) => down_ok HS.out (by rw [HL.out]; exact hn16) i (by rw [HL.out]; exact hi))
        have HUD : Hid (upL L n = downL L n) := hide (by have := up_down HS.out (by rw [HL.out]; exact hn16); rwa [HL.out] at this)
        have HUF : Hid (firstB (upL L n) = decide (0 < n)) := hide (by have := up_first HS.out (by rw [HL.out]; exact hn16); rwa [HL.out] at this)
        have HSM := hide (fun i (hi : i < n) => HS.out _ (List.mem_of_getElem? (jobAt_mem (js := L) (i := i) (by rw [HL.out]; exact hi))))
        have HMEM := hide (fun i (hi : i < n) => jobAt_mem (js := L) (i := i) (by rw [HL.out]; exact hi))
        have HNX := hide (fun i => (show upL L (i + 1) = nextL (upL L i) (jobAt L i) from rfl))
        have HNX2 : Hid (∀ i m, m = n - 1 - i → downL L (i + 1) = nextL (downL L i) (jobAt L m)) := hide (fun i m hm => by show nextL (downL L i) (jobAt L (L.length - 1 - i)) = _; rw [HL.out, hm])
        obtain ⟨wl, hwl⟩ : ∃ y, y = wr := ⟨_, rfl⟩
        subst hwl
        have RALL := hide (fun W (hg : wl.grownBy W none) => OA.out.row.grown hg)
        have HGL := HG
        clear HG OA HL HS hM
        go_wp2
        go_loopw [3, 4, 7] (fun u v i W => ∃ (k : Nat) (a2 a3 : Option Addr) (c2 c3 : Nat), k ≤ n ∧ i = .int .i64 k ∧ u = .slice a2 (upL L k).length c2 ∧ v = .slice a3 (downL L k).length c3 ∧ Hid (Own w.heap.size W (.slice a2 (upL L k).length c2) (upL L k)) ∧ Hid (Own w.heap.size W (.slice a3 (downL L k).length c3) (downL L k)) ∧ Hid (wl.grownBy W none)) (fun _ _ i _ => n - (intOf i).toNat)
        case atStart => exact ⟨0, none, none, 0, 0, by omega, rfl, rfl, rfl, own_nil _ _, own_nil _ _, grownBy_refl _ _⟩
        case round =>
          obtain ⟨k, a2, a3, c2, c3, hk, rfl, rfl, rfl, OU, OD, HG⟩ := hrel
          by_cases hkn : k < n
          · obtain ⟨g, o, rfl⟩ := row_addr (RALL.out wr HG.out) (by omega)
            have hq := HMEM.out k hkn
            have hm1 : ∃ m : Nat, (n : Int) - 1 - k = m ∧ m = n - 1 - k := ⟨n - 1 - k, by omega, rfl⟩
            obtain ⟨m, hm, hm2⟩ := hm1
            have hmn : m < n := by omega
            have hq2 := HMEM.out m hmn
            have S1 := put_step (HUP.out k hk).1 (HSM.out k hkn) (by have := (HUP.out k hk).2.1; omega)
            have S2 := put_step (HDN.out k hk).1 (HSM.out m hmn) (by have := (HDN.out k hk).2.1; omega)
            rw [← HNX.out k] at S1
            rw [← HNX2.out k m hm2] at S2
            have P1 := hide S1.2.2.2.1
            have Q1 := hide S1.2.2.2.2
            have P2 := hide S2.2.2.2.1
            have Q2 := hide S2.2.2.2.2
            have CP1 := hide (fun W (ho : Own w.heap.size W (.slice a2 (upL L k).length c2) (upL L k)) => put_at (j := jobAt L k) W ho.row rfl rfl rfl)
            have CP2 := hide (fun W (ho : Own w.heap.size W (.slice a3 (downL L k).length c3) (downL L k)) => put_at (j := jobAt L m) W ho.row rfl rfl rfl)
            clear S1 S2 hm2
            generalize hV1 : putV (upL L k) (jobAt L k) = V1 at *
            generalize hE1 : putE (upL L k) (jobAt L k) = E1 at *
            generalize hV2 : putV (downL L k) (jobAt L m) = V2 at *
            generalize hE2 : putE (downL L k) (jobAt L m) = E2 at *
            clear hV1 hE1 hV2 hE2
            generalize hU1 : upL L (k + 1) = U1 at *
            generalize hD1 : downL L (k + 1) = D1 at *
            have HU1 := hide hU1
            have HD1 := hide hD1
            clear hU1 hD1
            generalize upL L k = U0 at *
            generalize downL L k = D0 at *
            generalize hX : jobAt L k = X at *
            generalize hY : jobAt L m = Y at *
            clear hX hY
            obtain ⟨x0, x1, x2, x3, x4, x5, x6⟩ := X
            obtain ⟨y0, y1, y2, y3, y4, y5, y6⟩ := Y
            dsimp only [jobVal] at CP1 CP2
            have d0 : wr.cell? ⟨g, o + k * 7, none⟩ = some (.int .i64 x0) := row_cell (S := shJ) (RALL.out wr HG.out) hq (k := 0) rfl
            have d1 : wr.cell? ⟨g, o + k * 7 + 1, none⟩ = some (.int .i64 x1) := row_cell (S := shJ) (RALL.out wr HG.out) hq (k := 1) rfl
            have d2 : wr.cell? ⟨g, o + k * 7 + 2, none⟩ = some (.int .i64 x2) := row_cell (S := shJ) (RALL.out wr HG.out) hq (k := 2) rfl
            have d3 : wr.cell? ⟨g, o + k * 7 + 3, none⟩ = some (.int .i64 x3) := row_cell (S := shJ) (RALL.out wr HG.out) hq (k := 3) rfl
            have d4 : wr.cell? ⟨g, o + k * 7 + 4, none⟩ = some (.int .i64 x4) := row_cell (S := shJ) (RALL.out wr HG.out) hq (k := 4) rfl
            have d5 : wr.cell? ⟨g, o + k * 7 + 5, none⟩ = some (.int .i64 x5) := row_cell (S := shJ) (RALL.out wr HG.out) hq (k := 5) rfl
            have d6 : wr.cell? ⟨g, o + k * 7 + 6, none⟩ = some (.int .i64 x6) := row_cell (S := shJ) (RALL.out wr HG.out) hq (k := 6) rfl
            go_wp2_with (first | fail)
            refine (CP1.out _ OU.out).mono ?_; rintro e w2 ⟨a4, c4, rfl, ho, hg⟩
            have HGn := hide (grownBy_trans HG.out hg)
            have HO4 := hide (ho.base (Nat.le_trans HGL.out.size HG.out.size))
            have OUn := hide (OU.out.grown hg)
            have ODn := hide (OD.out.grown hg)
            clear ho hg CP1 HG OU OD d0 d1 d2 d3 d4 d5 d6
            have HG := HGn
            have OU := OUn
            have OD := ODn
            clear HGn OUn ODn
            have d0 : w2.cell? ⟨g, o + m * 7, none⟩ = some (.int .i64 y0) := row_cell (S := shJ) (RALL.out w2 HG.out) hq2 (k := 0) rfl
            have d1 : w2.cell? ⟨g, o + m * 7 + 1, none⟩ = some (.int .i64 y1) := row_cell (S := shJ) (RALL.out w2 HG.out) hq2 (k := 1) rfl
            have d2 : w2.cell? ⟨g, o + m * 7 + 2, none⟩ = some (.int .i64 y2) := row_cell (S := shJ) (RALL.out w2 HG.out) hq2 (k := 2) rfl
            have d3 : w2.cell? ⟨g, o + m * 7 + 3, none⟩ = some (.int .i64 y3) := row_cell (S := shJ) (RALL.out w2 HG.out) hq2 (k := 3) rfl
            have d4 : w2.cell? ⟨g, o + m * 7 + 4, none⟩ = some (.int .i64 y4) := row_cell (S := shJ) (RALL.out w2 HG.out) hq2 (k := 4) rfl
            have d5 : w2.cell? ⟨g, o + m * 7 + 5, none⟩ = some (.int .i64 y5) := row_cell (S := shJ) (RALL.out w2 HG.out) hq2 (k := 5) rfl
            have d6 : w2.cell? ⟨g, o + m * 7 + 6, none⟩ = some (.int .i64 y6) := row_cell (S := shJ) (RALL.out w2 HG.out) hq2 (k := 6) rfl
            clear hq hq2
            by_cases hE1 : E1 = 0
            · skip
              have EU := hide (P1.out hE1)
              subst hE1
              clear P1 Q1
              go_wp2_with (first | (go_at_call 16; refine (NUM.out _ _).mono ?_; rintro e wn ⟨rfl, rfl⟩) | fail)
              refine (CP2.out _ OD.out).mono ?_; rintro e w3 ⟨a5, c5, rfl, ho, hg⟩
              have HGn := hide (grownBy_trans HG.out hg)
              have HO5 := hide (ho.base (Nat.le_trans HGL.out.size HG.out.size))
              have ODn := hide (OD.out.grown hg)
              have OXn := hide (HO4.out.grown hg)
              clear ho hg CP2 HG OU OD HO4 d0 d1 d2 d3 d4 d5 d6
              have HG := HGn
              have OD := ODn
              have OX := OXn
              clear HGn ODn OXn
              by_cases hE2 : E2 = 0
              · have ED := hide (P2.out hE2)
                subst hE2
                clear P2 Q2
                go_wp2_with (first | (go_at_call 16; refine (NUM.out _ _).mono ?_; rintro e wn ⟨rfl, rfl⟩) | fail)
                go_roundw
                case rel => exact ⟨k + 1, a4, a5, c4, c5, by omega, by go_num, by rw [HU1.out, EU.out], by rw [HD1.out, ED.out], by rw [HU1.out, EU.out]; exact OX, by rw [HD1.out, ED.out]; exact HO5, HG⟩
                case measure => simp [intOf]; omega
              · have ED := hide (Q2.out hE2)
                clear P2 Q2
                go_wp2_with (first | (go_at_call 16; refine (NUM.out _ _).mono ?_; rintro e wn ⟨rfl, rfl⟩) | fail)
                go_roundw
                case rel => exact ⟨k + 1, a4, a3, c4, c3, by omega, by go_num, by rw [HU1.out, EU.out], by rw [HD1.out, ED.out], by rw [HU1.out, EU.out]; exact OX, by rw [HD1.out, ED.out]; exact OD, HG⟩
                case measure => simp [intOf]; omega
            · skip
              have EU := hide (Q1.out hE1)
              have HE1 := hide hE1
              clear P1 Q1
              go_wp2_with (first | (go_at_call 16; refine (NUM.out _ _).mono ?_; rintro e wn ⟨rfl, rfl⟩) | fail)
              refine (CP2.out _ OD.out).mono ?_; rintro e w3 ⟨a5, c5, rfl, ho, hg⟩
              have HGn := hide (grownBy_trans HG.out hg)
              have HO5 := hide (ho.base (Nat.le_trans HGL.out.size HG.out.size))
              have ODn := hide (OD.out.grown hg)
              have OXn := hide (OU.out.grown hg)
              clear ho hg CP2 HG OU OD HO4 d0 d1 d2 d3 d4 d5 d6
              have HG := HGn
              have OD := ODn
              have OX := OXn
              clear HGn ODn OXn
              by_cases hE2 : E2 = 0
              · have ED := hide (P2.out hE2)
                subst hE2
                clear P2 Q2
                go_wp2_with (first | (go_at_call 16; refine (NUM.out _ _).mono ?_; rintro e wn ⟨rfl, rfl⟩) | fail)
                go_roundw
                case rel => exact ⟨k + 1, a2, a5, c2, c5, by omega, by go_num, by rw [HU1.out, EU.out], by rw [HD1.out, ED.out], by rw [HU1.out, EU.out]; exact OX, by rw [HD1.out, ED.out]; exact HO5, HG⟩
                case measure => simp [intOf]; omega
              · have ED := hide (Q2.out hE2)
                clear P2 Q2
                go_wp2_with (first | (go_at_call 16; refine (NUM.out _ _).mono ?_; rintro e wn ⟨rfl, rfl⟩) | fail)
                go_roundw
                case rel => exact ⟨k + 1, a2, a3, c2, c3, by omega, by go_num, by rw [HU1.out, EU.out], by rw [HD1.out, ED.out], by rw [HU1.out, EU.out]; exact OX, by rw [HD1.out, ED.out]; exact OD, HG⟩
                case measure => simp [intOf]; omega
          · obtain rfl : k = n := by omega
            have MAY := (HUP.out k (Nat.le_refl _)).1.may
            have hu16 : (upL L k).length ≤ 16 := by have := (HUP.out k (Nat.le_refl _)).2.1; omega
            have HLEAST := hide (fun i (hi : i < (upL L k).length) => first_least MAY hi)
            have HMU := hide (fun i (hi : i < (upL L k).length) => jobAt_mem hi)
            rw [← HUD.out] at OD ⊢
            have HUF2 := HUF
            obtain ⟨wm, hwm⟩ : ∃ y, y = wr := ⟨_, rfl⟩
            subst hwm
            have CS := hide (same_at (zs := upL L k) wm OU.out.row OD.out.row)
            have CY := hide (fun W (hg : wm.grownBy W none) => may_at W (OU.out.row.grown hg) MAY)
            have CF := hide (fun W (hg : wm.grownBy W none) => first_at W (OU.out.row.grown hg) rfl HUF2.out)
            have RU := hide (fun W (hg : wm.grownBy W none) => OU.out.row.grown hg)
            have HGM := hide (grownBy_trans HGL.out HG.out)
            clear HG OU OD HUD HUF HUF2 HUP HDN HSM HMEM HNX HNX2 MAY RALL HGL
            generalize firstV (upL L k) = X at *
            generalize upL L k = U at *
            obtain ⟨x0, x1, x2, x3, x4, x5, x6⟩ := X
            dsimp only [jobVal] at CF HLEAST
            obtain ⟨b, hb⟩ : ∃ b, decide (0 < k) = b := ⟨_, rfl⟩
            rw [hb] at CF
            have HB := hide hb
            clear hb
            generalize hU : U.length = u at *
            have HU := hide hU
            clear hU
            go_wp2_with (first | fail)
            refine CS.out.mono ?_; rintro e w4 ⟨rfl, hg⟩
            have HR := hide hg
            clear hg CS
            go_wp2_with (first | fail)
            refine (CY.out _ HR.out).mono ?_; rintro e w5 ⟨rfl, hg⟩
            have HRn := hide (grownBy_trans HR.out hg)
            clear hg CY HR
            go_wp2_with (first | fail)
            refine (CF.out _ HRn.out).mono ?_; rintro e w6 ⟨rfl, hg⟩
            have HR := hide (grownBy_trans HRn.out hg)
            clear hg CF HRn
            go_upto_region 20 with (first | fail)
            have HX0 := hide (heap_alloc_new w6 (.cells #[.int .i64 x0, .int .i64 x1, .int .i64 x2, .int .i64 x3, .int .i64 x4, .int .i64 x5, .int .i64 x6] 24))
            have HR7 := hide (grownBy_trans HR.out (World.grownBy_alloc w6 (.cells #[.int .i64 x0, .int .i64 x1, .int .i64 x2, .int .i64 x3, .int .i64 x4, .int .i64 x5, .int .i64 x6] 24) none))
            generalize w6.alloc (.cells #[.int .i64 x0, .int .i64 x1, .int .i64 x2, .int .i64 x3, .int .i64 x4, .int .i64 x5, .int .i64 x6] 24) = w7 at *
            generalize w6.heap.size = BX at *
            clear HR
            have HX := hide (fun W (hg : w7.grownBy W none) => box_grown HX0.out hg (by simp))
            clear HX0
            go_wp2
            go_loopw [14] (fun i W => ∃ (q : Nat), q ≤ u ∧ i = .int .i64 q ∧ Hid (w7.grownBy W none)) (fun i _ => u - (intOf i).toNat)
            case atStart => exact ⟨0, by omega, rfl, grownBy_refl _ _⟩
            case round =>
              obtain ⟨q, hq, rfl, HG⟩ := hrel
              by_cases hqu : q < u
              · obtain ⟨g2, o2, rfl⟩ := row_addr (RU.out wr (grownBy_trans HR7.out HG.out)) (by omega)
                have hm := HMU.out q hqu
                have hle := HLEAST.out q hqu
                generalize jobAt U q = Y at *
                obtain ⟨y0, y1, y2, y3, y4, y5, y6⟩ := Y
                dsimp only at hle
                have hnl : ¬ y2 < x2 := by omega
                go_upto_region 23 with (first | fail)
                obtain ⟨U9, hU9, F, HF, HRC⟩ := class_of wr
                have c2 : ∀ u, (F u).cell? ⟨g2, o2 + q * 7 + 2, none⟩ = some (.int .i64 y2) := fun u => row_cell (S := shJ) (RU.out _ (grownBy_trans HR7.out (grownBy_trans HG.out (HF.out u)))) hm (k := 2) rfl
                have d2 : ∀ u, (F u).cell? ⟨BX, 2, none⟩ = some (.int .i64 x2) := fun u => blk_cell (HX.out _ (grownBy_trans HG.out (HF.out u))) 2
                clear hm hle
                refine wp_region_quiet_in F (by kernel_rfl) (by kernel_rfl) (HRC.out _ (drew_grown _)) ?_
                repeat (go_big_quiet_step (first | fail))
                refine wpQuiet_nil ?_
                intro _ hw1
                obtain ⟨uq, hw2⟩ := hw1
                subst hw2
                have HGn := hide (grownBy_trans HG.out (HF.out uq))
                clear HG c2 d2
                go_wp2
                go_roundw
                case rel => exact ⟨q + 1, by omega, by go_num, HGn⟩
                case measure => simp [intOf]; omega
              · by_cases h0 : 0 < k
                · obtain rfl : b = true := by rw [← HB.out, decide_eq_true h0]
                  go_wp2
                  go_ret
                  exact ⟨rfl, grownBy_trans HGM.out (grownBy_trans HR7.out HG.out)⟩
                · obtain rfl : b = false := by rw [← HB.out, decide_eq_false h0]
                  go_wp2
                  go_ret
                  exact ⟨rfl, grownBy_trans HGM.out (grownBy_trans HR7.out HG.out)⟩
#print axioms rows_law
end Go.Proofs.Ytebiifcifcefoaa

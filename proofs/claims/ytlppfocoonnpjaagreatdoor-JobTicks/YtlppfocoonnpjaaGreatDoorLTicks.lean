/- The walk of the statement JobTicks: tick by tick, each job that comes is done, killed, missed, or still there; proved over the translation. -/
import Derived.Test.YtlppfocoonnpjaaGreatDoorAw14
import Derived.Test.YtlppfocoonnpjaaGreatDoorQh
import Derived.Test.YtlppfocoonnpjaaGreatDoorTmath
namespace Go.Proofs.YtlppfocoonnpjaaGreatDoor.L
open Go.RowKit
open Go.Proofs.YtlppfocoonnpjaaGreatDoor.J (JobV jobAt jobVal shJ blk_cell box_lt box_grown type_box type_own own_type own_mono row_cell take_put)
attribute [local go_sem] alloc_drewN setCell_drewN

theorem pair_ne {js : List JobV} (h : js.Pairwise fun a b => a.task ≠ b.task) {i k : Nat} {a c : JobV} (ha : js[i]? = some a) (hc : js[k]? = some c) (hik : i < k) : a.task ≠ c.task := by
  have hk := (List.getElem?_eq_some_iff.1 hc)
  have hi := (List.getElem?_eq_some_iff.1 ha)
  have := List.pairwise_iff_getElem.1 h i k hi.1 hk.1 hik
  rw [hi.2, hk.2] at this
  exact this
set_option maxRecDepth 100000 in
set_option maxHeartbeats 16000000 in
theorem ticks_any (q : PartM) (pv : PartV) (v1 v2 : Value) (rs ps : List Int) (w : World) (hp : PartIs 0 w q pv) (h1 : RowAt U.shN 0 w v1 rs) (h2 : RowAt U.shN 0 w v2 ps) (hT : Tab w) : Calls Tryz.prog 4 #[.agg #[.int .i64 q.level, .slice q.ta q.tn q.tc, .slice q.ca q.cn q.cc], v1, v2] w fun e w' => e = .returned (.bool true) ∧ w.grownBy w' none := by
  have HR1 := hide h1
  have HR2 := hide h2
  obtain ⟨hl1, b1, d1, he1, -⟩ := id h1
  obtain ⟨hl2, b2, d2, he2, -⟩ := id h2
  subst he1 he2
  have HT := hide (fun V (hg : w.grownBy V none) => hT.grown hg)
  have HPI := hide (fun V (hg : w.grownBy V none) => hp.kept (keep_grown hg))
  clear h1 h2 hT hp
  generalize hn1 : rs.length = n1 at *
  have HN1 := hide hn1
  clear hn1
  generalize hn2 : ps.length = n2 at *
  have HN2 := hide hn2
  clear hn2
  have CA := hide (fun V hT => awake_any V hT)
  have HG := hide (World.grownBy_alloc w (.cells #[.int .i64 q.level, .slice q.ta q.tn q.tc, .slice q.ca q.cn q.cc] 25) none)
  have HP := hide (heap_alloc_new w (.cells #[.int .i64 q.level, .slice q.ta q.tn q.tc, .slice q.ca q.cn q.cc] 25))
  go_enter Tryz.func4, Tryz.ntmps4
  go_upto_region 1 with (first | fail)
  generalize w.alloc (.cells #[.int .i64 q.level, .slice q.ta q.tn q.tc, .slice q.ca q.cn q.cc] 25) = W0 at *
  generalize hBP : w.heap.size = BP at *
  have HBP := hide hBP
  clear hBP
  go_wp2_with (first | (go_at_call 13; refine (num_any _ _).mono ?_; rintro e w' ⟨rfl, rfl⟩) | fail)
  refine (CA.out _ (HT.out _ HG.out)).mono ?_; rintro e W1 ⟨rfl, hg⟩
  have HGn := hide (grownBy_trans HG.out hg)
  have HPn := hide (box_grown HP.out hg (by simp))
  clear HG HP
  have HG := HGn
  have HP := HPn
  clear HGn HPn
  clear hg
  have cP0 := blk_cell HP.out 0
  have cP1 := blk_cell HP.out 1
  have cP2 := blk_cell HP.out 2
  go_wp2_with (first | (go_at_call 13; refine (num_any _ _).mono ?_; rintro e w' ⟨rfl, rfl⟩) | fail)
  cases hok : newOk 0 pv with
  | false =>
    refine (new_no 0 _ (HT.out _ HG.out) (HPI.out _ HG.out) hok).mono ?_; rintro e W2 ⟨rfl, hg⟩
    clear cP0 cP1 cP2
    have HGn := hide (grownBy_trans HG.out hg)
    have HPn := hide (box_grown HP.out hg (by simp))
    clear HG HP
    have HG := HGn
    have HP := HPn
    clear HGn HPn
    clear hg
    go_wp2_with (first | (go_at_call 13; refine (num_any _ _).mono ?_; rintro e w' ⟨rfl, rfl⟩) | fail)
    go_ret
    exact ⟨rfl, HG.out⟩
  | true =>
    have HFN := hide (new_fine hok)
    refine (lnew 0 HG.out (HT.out _ HG.out) (HPI.out _ HG.out) hok).mono ?_; rintro e W2 ⟨b, rfl, hX, hg, hg2⟩
    clear cP0 cP1 cP2
    have HX := hide hX
    have HPn := hide (box_grown HP.out hg2 (by simp))
    have HGn := hide hg
    clear HP HG hX hg hg2 hok
    have HP := HPn
    have HG := HGn
    clear HPn HGn HPI CA HT
    have HA := hide (new_ahead HFN.out ((0 : Nat) : Int))
    clear HFN
    go_wp2_with (first | (go_at_call 13; refine (num_any _ _).mono ?_; rintro e w' ⟨rfl, rfl⟩) | fail)
    go_loopw [9, 10, 11] (fun c9 c10 i V => ∃ (n ca we : Nat) (L : LocV), n ≤ 80 ∧ i = .int .i64 n ∧ c9 = .int .i64 ca ∧ c10 = .int .i64 we ∧ Hid (PX w V b L (6 * n)) ∧ Hid (Ahead L (6 * n) (n : Int)) ∧ Hid (ca = we + L.jobs.length ∧ ca ≤ 6 * n) ∧ Hid (V.heap[BP]? = some (.cells #[.int .i64 q.level, .slice q.ta q.tn q.tc, .slice q.ca q.cn q.cc] 25 (0, 0))) ∧ Hid (w.grownBy V none)) (fun _ _ i _ => 80 - (intOf i).toNat)
    case atStart => exact ⟨0, 0, 0, _, by omega, rfl, rfl, rfl, HX, HA, hide ⟨rfl, by omega⟩, HP, HG⟩
    case round =>
      clear HX HA HP HG
      obtain ⟨n, ca, we, L, hn, rfl, rfl, rfl, HX, HA, HC, HP, HG⟩ := hrel
      by_cases hlt : n < 80
      · have hni : (n : Int) < 80 := by omega
        have hn0 : ¬((n : Int) < 0) := by omega
        go_upto_region 10 with (first | (go_at_call 13; refine (num_any _ _).mono ?_; rintro e w' ⟨rfl, rfl⟩) | fail)
        go_cut [55] (fun bb W => ∃ x : Bool, bb = .bool x ∧ Hid (PX w W b L (6 * n)) ∧ Hid (W.heap[BP]? = some (.cells #[.int .i64 q.level, .slice q.ta q.tn q.tc, .slice q.ca q.cn q.cc] 25 (0, 0))) ∧ Hid (w.grownBy W none) ∧ Hid (x = true → n < n2))
        case first =>
          by_cases hn2 : n < n2
          · have hni2 : (n : Int) < n2 := by omega
            have hr := HR2.out.grown HG.out
            obtain ⟨g2, o2, had⟩ := J.row_addr hr (by omega)
            subst had
            obtain ⟨z, hz⟩ : ∃ z, ps[n]? = some z := ⟨_, List.getElem?_eq_getElem (by rw [HN2.out]; exact hn2)⟩
            have d0 : wr.cell? ⟨g2, o2 + n, none⟩ = some (.int .i64 z) := by have := row_cell (S := U.shN) (j := n) hr hz (k := 0) rfl; have e9 : o2 + n * U.shN.k + 0 = o2 + n := (by show o2 + n * 1 + 0 = o2 + n; omega); rw [e9] at this; exact this
            clear hr hz
            obtain ⟨c, hc, ec⟩ := and3 z
            by_cases hct : (c : Int) < q.tn
            · skip
              refine wp_region_held_drew (S := fun V => V.cell? ⟨g2, o2 + n, none⟩ = some (.int .i64 z) ∧ V.heap[BP]? = some (.cells #[.int .i64 q.level, .slice q.ta q.tn q.tc, .slice q.ca q.cn q.cc] 25 (0, 0))) (by kernel_rfl) ⟨d0, HP.out⟩ (fun hHeld => ?_)
              have hgd := grownBy_draws wr 1 none
              have HXd := hide (HX.out.grown hgd)
              have HPd := hide (box_grown HP.out hgd (by simp))
              have HGd := hide (grownBy_trans HG.out hgd)
              have hdd : (wr).drewN 1 = (wr).drew := rfl
              rw [hdd] at HXd HPd HGd
              clear hdd hgd
              generalize (wr).drew = V0 at *
              refine take_put (i := 0) (v := .int .i64 n) 41 rfl rfl (by kernel_rfl) (by kernel_rfl) (by kernel_rfl) (fun _ _ _ h => h) (Or.inl ⟨by rfl, by intro Wy hSW; go_simp⟩) (by assumption) ?_
              (try simp only [Act.put, List.setIfInBounds_toArray, List.set_cons_zero, List.set_cons_succ])
              refine take_put (i := 1) (v := .slice (some ⟨g2, o2, none⟩) n2 d2) 42 rfl rfl (by kernel_rfl) (by kernel_rfl) (by kernel_rfl) (fun _ _ _ h => h) (Or.inl ⟨by rfl, by intro Wy hSW; go_simp⟩) (by assumption) ?_
              (try simp only [Act.put, List.setIfInBounds_toArray, List.set_cons_zero, List.set_cons_succ])
              refine take_put (i := 2) (v := .int .i64 n2) 43 rfl rfl (by kernel_rfl) (by kernel_rfl) (by kernel_rfl) (fun _ _ _ h => h) (Or.inl ⟨by rfl, by intro Wy hSW; go_simp⟩) (by assumption) ?_
              (try simp only [Act.put, List.setIfInBounds_toArray, List.set_cons_zero, List.set_cons_succ])
              refine take_put (i := 3) (v := .bool true) 44 rfl rfl (by kernel_rfl) (by kernel_rfl) (by kernel_rfl) (fun _ _ _ h => h) (Or.inl ⟨by rfl, by intro Wy hSW; go_simp⟩) (by assumption) ?_
              (try simp only [Act.put, List.setIfInBounds_toArray, List.set_cons_zero, List.set_cons_succ])
              refine take_put (i := 4) (v := .bool true) 45 rfl rfl (by kernel_rfl) (by kernel_rfl) (by kernel_rfl) (fun _ _ _ h => h) (Or.inl ⟨by rfl, by intro Wy hSW; go_simp⟩) (by assumption) ?_
              (try simp only [Act.put, List.setIfInBounds_toArray, List.set_cons_zero, List.set_cons_succ])
              refine take_put (i := 5) (v := .slice (some ⟨g2, o2, none⟩) n2 d2) 46 rfl rfl (by kernel_rfl) (by kernel_rfl) (by kernel_rfl) (fun _ _ _ h => h) (Or.inl ⟨by rfl, by intro Wy hSW; go_simp⟩) (by assumption) ?_
              (try simp only [Act.put, List.setIfInBounds_toArray, List.set_cons_zero, List.set_cons_succ])
              refine take_put (i := 6) (v := .int .i64 n) 47 rfl rfl (by kernel_rfl) (by kernel_rfl) (by kernel_rfl) (fun _ _ _ h => h) (Or.inl ⟨by rfl, by intro Wy hSW; go_simp⟩) (by assumption) ?_
              (try simp only [Act.put, List.setIfInBounds_toArray, List.set_cons_zero, List.set_cons_succ])
              refine take_put (i := 7) (v := .pointer (some ⟨g2, o2 + n, none⟩)) 48 rfl rfl (by kernel_rfl) (by kernel_rfl) (by kernel_rfl) (fun _ _ _ h => h) (Or.inl ⟨by rfl, by intro Wy hSW; go_simp⟩) (by assumption) ?_
              (try simp only [Act.put, List.setIfInBounds_toArray, List.set_cons_zero, List.set_cons_succ])
              refine take_put (i := 8) (v := .int .i64 z) 49 rfl rfl (by kernel_rfl) (by kernel_rfl) (by kernel_rfl) (fun _ _ _ h => h) (Or.inl ⟨by rfl, by intro Wy hSW; have hc := hSW.1; go_simp⟩) (by assumption) ?_
              (try simp only [Act.put, List.setIfInBounds_toArray, List.set_cons_zero, List.set_cons_succ])
              refine take_put (i := 9) (v := .int .i64 c) 50 rfl rfl (by kernel_rfl) (by kernel_rfl) (by kernel_rfl) (fun _ _ _ h => h) (Or.inl ⟨by rfl, by intro Wy hSW; go_simp⟩) (by assumption) ?_
              (try simp only [Act.put, List.setIfInBounds_toArray, List.set_cons_zero, List.set_cons_succ])
              refine take_put (i := 10) (v := .pointer (some ⟨BP, 1, none⟩)) 51 rfl rfl (by kernel_rfl) (by kernel_rfl) (by kernel_rfl) (fun _ _ _ h => h) (Or.inl ⟨by rfl, by intro Wy hSW; go_simp⟩) (by assumption) ?_
              (try simp only [Act.put, List.setIfInBounds_toArray, List.set_cons_zero, List.set_cons_succ])
              refine take_put (i := 11) (v := .slice q.ta q.tn q.tc) 52 rfl rfl (by kernel_rfl) (by kernel_rfl) (by kernel_rfl) (fun _ _ _ h => h) (Or.inl ⟨by rfl, by intro Wy hSW; have hc := blk_cell hSW.2 1; go_simp⟩) (by assumption) ?_
              (try simp only [Act.put, List.setIfInBounds_toArray, List.set_cons_zero, List.set_cons_succ])
              refine take_put (i := 12) (v := .int .i64 q.tn) 53 rfl rfl (by kernel_rfl) (by kernel_rfl) (by kernel_rfl) (fun _ _ _ h => h) (Or.inl ⟨by rfl, by intro Wy hSW; go_simp⟩) (by assumption) ?_
              (try simp only [Act.put, List.setIfInBounds_toArray, List.set_cons_zero, List.set_cons_succ])
              refine take_put (i := 13) (v := .bool true) 54 rfl rfl (by kernel_rfl) (by kernel_rfl) (by kernel_rfl) (fun _ _ _ h => h) (Or.inl ⟨by rfl, by intro Wy hSW; go_simp⟩) (by assumption) ?_
              (try simp only [Act.put, List.setIfInBounds_toArray, List.set_cons_zero, List.set_cons_succ])
              refine take_put (i := 14) (v := .bool true) 55 rfl rfl (by kernel_rfl) (by kernel_rfl) (by kernel_rfl) (fun _ _ _ h => h) (Or.inl ⟨by rfl, by intro Wy hSW; go_simp⟩) (by assumption) ?_
              (try simp only [Act.put, List.setIfInBounds_toArray, List.set_cons_zero, List.set_cons_succ])
              refine wpAnyH_done (by kernel_rfl) ?_ _
              clear hHeld
              go_wp2
              go_meet
              case rel => exact ⟨true, rfl, HXd, HPd, HGd, hide (fun _ => hn2)⟩
            · skip
              refine wp_region_held_drew (S := fun V => V.cell? ⟨g2, o2 + n, none⟩ = some (.int .i64 z) ∧ V.heap[BP]? = some (.cells #[.int .i64 q.level, .slice q.ta q.tn q.tc, .slice q.ca q.cn q.cc] 25 (0, 0))) (by kernel_rfl) ⟨d0, HP.out⟩ (fun hHeld => ?_)
              have hgd := grownBy_draws wr 1 none
              have HXd := hide (HX.out.grown hgd)
              have HPd := hide (box_grown HP.out hgd (by simp))
              have HGd := hide (grownBy_trans HG.out hgd)
              have hdd : (wr).drewN 1 = (wr).drew := rfl
              rw [hdd] at HXd HPd HGd
              clear hdd hgd
              generalize (wr).drew = V0 at *
              refine take_put (i := 0) (v := .int .i64 n) 41 rfl rfl (by kernel_rfl) (by kernel_rfl) (by kernel_rfl) (fun _ _ _ h => h) (Or.inl ⟨by rfl, by intro Wy hSW; go_simp⟩) (by assumption) ?_
              (try simp only [Act.put, List.setIfInBounds_toArray, List.set_cons_zero, List.set_cons_succ])
              refine take_put (i := 1) (v := .slice (some ⟨g2, o2, none⟩) n2 d2) 42 rfl rfl (by kernel_rfl) (by kernel_rfl) (by kernel_rfl) (fun _ _ _ h => h) (Or.inl ⟨by rfl, by intro Wy hSW; go_simp⟩) (by assumption) ?_
              (try simp only [Act.put, List.setIfInBounds_toArray, List.set_cons_zero, List.set_cons_succ])
              refine take_put (i := 2) (v := .int .i64 n2) 43 rfl rfl (by kernel_rfl) (by kernel_rfl) (by kernel_rfl) (fun _ _ _ h => h) (Or.inl ⟨by rfl, by intro Wy hSW; go_simp⟩) (by assumption) ?_
              (try simp only [Act.put, List.setIfInBounds_toArray, List.set_cons_zero, List.set_cons_succ])
              refine take_put (i := 3) (v := .bool true) 44 rfl rfl (by kernel_rfl) (by kernel_rfl) (by kernel_rfl) (fun _ _ _ h => h) (Or.inl ⟨by rfl, by intro Wy hSW; go_simp⟩) (by assumption) ?_
              (try simp only [Act.put, List.setIfInBounds_toArray, List.set_cons_zero, List.set_cons_succ])
              refine take_put (i := 4) (v := .bool true) 45 rfl rfl (by kernel_rfl) (by kernel_rfl) (by kernel_rfl) (fun _ _ _ h => h) (Or.inl ⟨by rfl, by intro Wy hSW; go_simp⟩) (by assumption) ?_
              (try simp only [Act.put, List.setIfInBounds_toArray, List.set_cons_zero, List.set_cons_succ])
              refine take_put (i := 5) (v := .slice (some ⟨g2, o2, none⟩) n2 d2) 46 rfl rfl (by kernel_rfl) (by kernel_rfl) (by kernel_rfl) (fun _ _ _ h => h) (Or.inl ⟨by rfl, by intro Wy hSW; go_simp⟩) (by assumption) ?_
              (try simp only [Act.put, List.setIfInBounds_toArray, List.set_cons_zero, List.set_cons_succ])
              refine take_put (i := 6) (v := .int .i64 n) 47 rfl rfl (by kernel_rfl) (by kernel_rfl) (by kernel_rfl) (fun _ _ _ h => h) (Or.inl ⟨by rfl, by intro Wy hSW; go_simp⟩) (by assumption) ?_
              (try simp only [Act.put, List.setIfInBounds_toArray, List.set_cons_zero, List.set_cons_succ])
              refine take_put (i := 7) (v := .pointer (some ⟨g2, o2 + n, none⟩)) 48 rfl rfl (by kernel_rfl) (by kernel_rfl) (by kernel_rfl) (fun _ _ _ h => h) (Or.inl ⟨by rfl, by intro Wy hSW; go_simp⟩) (by assumption) ?_
              (try simp only [Act.put, List.setIfInBounds_toArray, List.set_cons_zero, List.set_cons_succ])
              refine take_put (i := 8) (v := .int .i64 z) 49 rfl rfl (by kernel_rfl) (by kernel_rfl) (by kernel_rfl) (fun _ _ _ h => h) (Or.inl ⟨by rfl, by intro Wy hSW; have hc := hSW.1; go_simp⟩) (by assumption) ?_
              (try simp only [Act.put, List.setIfInBounds_toArray, List.set_cons_zero, List.set_cons_succ])
              refine take_put (i := 9) (v := .int .i64 c) 50 rfl rfl (by kernel_rfl) (by kernel_rfl) (by kernel_rfl) (fun _ _ _ h => h) (Or.inl ⟨by rfl, by intro Wy hSW; go_simp⟩) (by assumption) ?_
              (try simp only [Act.put, List.setIfInBounds_toArray, List.set_cons_zero, List.set_cons_succ])
              refine take_put (i := 10) (v := .pointer (some ⟨BP, 1, none⟩)) 51 rfl rfl (by kernel_rfl) (by kernel_rfl) (by kernel_rfl) (fun _ _ _ h => h) (Or.inl ⟨by rfl, by intro Wy hSW; go_simp⟩) (by assumption) ?_
              (try simp only [Act.put, List.setIfInBounds_toArray, List.set_cons_zero, List.set_cons_succ])
              refine take_put (i := 11) (v := .slice q.ta q.tn q.tc) 52 rfl rfl (by kernel_rfl) (by kernel_rfl) (by kernel_rfl) (fun _ _ _ h => h) (Or.inl ⟨by rfl, by intro Wy hSW; have hc := blk_cell hSW.2 1; go_simp⟩) (by assumption) ?_
              (try simp only [Act.put, List.setIfInBounds_toArray, List.set_cons_zero, List.set_cons_succ])
              refine take_put (i := 12) (v := .int .i64 q.tn) 53 rfl rfl (by kernel_rfl) (by kernel_rfl) (by kernel_rfl) (fun _ _ _ h => h) (Or.inl ⟨by rfl, by intro Wy hSW; go_simp⟩) (by assumption) ?_
              (try simp only [Act.put, List.setIfInBounds_toArray, List.set_cons_zero, List.set_cons_succ])
              refine take_put (i := 13) (v := .bool false) 54 rfl rfl (by kernel_rfl) (by kernel_rfl) (by kernel_rfl) (fun _ _ _ h => h) (Or.inl ⟨by rfl, by intro Wy hSW; go_simp⟩) (by assumption) ?_
              (try simp only [Act.put, List.setIfInBounds_toArray, List.set_cons_zero, List.set_cons_succ])
              refine take_put (i := 14) (v := .bool false) 55 rfl rfl (by kernel_rfl) (by kernel_rfl) (by kernel_rfl) (fun _ _ _ h => h) (Or.inl ⟨by rfl, by intro Wy hSW; go_simp⟩) (by assumption) ?_
              (try simp only [Act.put, List.setIfInBounds_toArray, List.set_cons_zero, List.set_cons_succ])
              refine wpAnyH_done (by kernel_rfl) ?_ _
              clear hHeld
              go_wp2
              go_meet
              case rel => exact ⟨false, rfl, HXd, HPd, HGd, hide (fun h => by cases h)⟩
          · have hni2 : ¬((n : Int) < n2) := by omega
            refine wp_region_held_drew (S := fun V => True) (by kernel_rfl) trivial (fun hHeld => ?_)
            have hgd := grownBy_draws wr 1 none
            have HXd := hide (HX.out.grown hgd)
            have HPd := hide (box_grown HP.out hgd (by simp))
            have HGd := hide (grownBy_trans HG.out hgd)
            have hdd : (wr).drewN 1 = (wr).drew := rfl
            rw [hdd] at HXd HPd HGd
            clear hdd hgd
            generalize (wr).drew = V0 at *
            refine take_put (i := 0) (v := .int .i64 n) 41 rfl rfl (by kernel_rfl) (by kernel_rfl) (by kernel_rfl) (fun _ _ _ h => h) (Or.inl ⟨by rfl, by intro Wy hSW; go_simp⟩) (by assumption) ?_
            (try simp only [Act.put, List.setIfInBounds_toArray, List.set_cons_zero, List.set_cons_succ])
            refine take_put (i := 1) (v := .slice b2 n2 d2) 42 rfl rfl (by kernel_rfl) (by kernel_rfl) (by kernel_rfl) (fun _ _ _ h => h) (Or.inl ⟨by rfl, by intro Wy hSW; go_simp⟩) (by assumption) ?_
            (try simp only [Act.put, List.setIfInBounds_toArray, List.set_cons_zero, List.set_cons_succ])
            refine take_put (i := 2) (v := .int .i64 n2) 43 rfl rfl (by kernel_rfl) (by kernel_rfl) (by kernel_rfl) (fun _ _ _ h => h) (Or.inl ⟨by rfl, by intro Wy hSW; go_simp⟩) (by assumption) ?_
            (try simp only [Act.put, List.setIfInBounds_toArray, List.set_cons_zero, List.set_cons_succ])
            refine take_put (i := 3) (v := .bool false) 44 rfl rfl (by kernel_rfl) (by kernel_rfl) (by kernel_rfl) (fun _ _ _ h => h) (Or.inl ⟨by rfl, by intro Wy hSW; go_simp⟩) (by assumption) ?_
            (try simp only [Act.put, List.setIfInBounds_toArray, List.set_cons_zero, List.set_cons_succ])
            refine take_put (i := 4) (v := .bool false) 45 rfl rfl (by kernel_rfl) (by kernel_rfl) (by kernel_rfl) (fun _ _ _ h => h) (Or.inl ⟨by rfl, by intro Wy hSW; go_simp⟩) (by assumption) ?_
            (try simp only [Act.put, List.setIfInBounds_toArray, List.set_cons_zero, List.set_cons_succ])
            refine take_put (i := 5) (v := undef) 46 rfl rfl (by kernel_rfl) (by kernel_rfl) (by kernel_rfl) (fun _ _ _ h => h) (Or.inr ⟨by rfl, rfl⟩) (by assumption) ?_
            (try simp only [Act.put, List.setIfInBounds_toArray, List.set_cons_zero, List.set_cons_succ])
            refine take_put (i := 6) (v := undef) 47 rfl rfl (by kernel_rfl) (by kernel_rfl) (by kernel_rfl) (fun _ _ _ h => h) (Or.inr ⟨by rfl, rfl⟩) (by assumption) ?_
            (try simp only [Act.put, List.setIfInBounds_toArray, List.set_cons_zero, List.set_cons_succ])
            refine take_put (i := 7) (v := undef) 48 rfl rfl (by kernel_rfl) (by kernel_rfl) (by kernel_rfl) (fun _ _ _ h => h) (Or.inr ⟨by rfl, rfl⟩) (by assumption) ?_
            (try simp only [Act.put, List.setIfInBounds_toArray, List.set_cons_zero, List.set_cons_succ])
            refine take_put (i := 8) (v := undef) 49 rfl rfl (by kernel_rfl) (by kernel_rfl) (by kernel_rfl) (fun _ _ _ h => h) (Or.inr ⟨by rfl, rfl⟩) (by assumption) ?_
            (try simp only [Act.put, List.setIfInBounds_toArray, List.set_cons_zero, List.set_cons_succ])
            refine take_put (i := 9) (v := undef) 50 rfl rfl (by kernel_rfl) (by kernel_rfl) (by kernel_rfl) (fun _ _ _ h => h) (Or.inr ⟨by rfl, rfl⟩) (by assumption) ?_
            (try simp only [Act.put, List.setIfInBounds_toArray, List.set_cons_zero, List.set_cons_succ])
            refine take_put (i := 10) (v := undef) 51 rfl rfl (by kernel_rfl) (by kernel_rfl) (by kernel_rfl) (fun _ _ _ h => h) (Or.inr ⟨by rfl, rfl⟩) (by assumption) ?_
            (try simp only [Act.put, List.setIfInBounds_toArray, List.set_cons_zero, List.set_cons_succ])
            refine take_put (i := 11) (v := undef) 52 rfl rfl (by kernel_rfl) (by kernel_rfl) (by kernel_rfl) (fun _ _ _ h => h) (Or.inr ⟨by rfl, rfl⟩) (by assumption) ?_
            (try simp only [Act.put, List.setIfInBounds_toArray, List.set_cons_zero, List.set_cons_succ])
            refine take_put (i := 12) (v := undef) 53 rfl rfl (by kernel_rfl) (by kernel_rfl) (by kernel_rfl) (fun _ _ _ h => h) (Or.inr ⟨by rfl, rfl⟩) (by assumption) ?_
            (try simp only [Act.put, List.setIfInBounds_toArray, List.set_cons_zero, List.set_cons_succ])
            refine take_put (i := 13) (v := undef) 54 rfl rfl (by kernel_rfl) (by kernel_rfl) (by kernel_rfl) (fun _ _ _ h => h) (Or.inr ⟨by rfl, rfl⟩) (by assumption) ?_
            (try simp only [Act.put, List.setIfInBounds_toArray, List.set_cons_zero, List.set_cons_succ])
            refine take_put (i := 14) (v := .bool false) 55 rfl rfl (by kernel_rfl) (by kernel_rfl) (by kernel_rfl) (fun _ _ _ h => h) (Or.inl ⟨by rfl, by intro Wy hSW; go_simp⟩) (by assumption) ?_
            (try simp only [Act.put, List.setIfInBounds_toArray, List.set_cons_zero, List.set_cons_succ])
            refine wpAnyH_done (by kernel_rfl) ?_ _
            clear hHeld
            go_wp2
            go_meet
            case rel => exact ⟨false, rfl, HXd, HPd, HGd, hide (fun h => by cases h)⟩
        case rest =>
          clear HX HP HG
          obtain ⟨x, rfl, HX, HP, HG, HXN⟩ := hcut
          obtain ⟨wq, hwq⟩ : ∃ y, y = wc := ⟨_, rfl⟩
          subst hwq
          go_upto_if 55 with fail
          go_cut [11] (fun i W => i = .int .i64 n ∧ ∃ L2, Hid (PX w W b L2 (6 * n)) ∧ Hid (Ahead L2 (6 * n) (n : Int)) ∧ Hid (ca = we + L2.jobs.length ∧ ca ≤ 6 * n) ∧ Hid (W.heap[BP]? = some (.cells #[.int .i64 q.level, .slice q.ta q.tn q.tc, .slice q.ca q.cn q.cc] 25 (0, 0))) ∧ Hid (w.grownBy W none))
          case first =>
            cases x with
            | false =>
              go_wp2
              go_meet
              case rel => exact ⟨rfl, L, HX, HA, HC, HP, HG⟩
            | true =>
              have hn2 := HXN.out rfl
              clear HXN
              have hni2 : (n : Int) < n2 := by omega
              have hr := HR2.out.grown HG.out
              obtain ⟨g2, o2, had⟩ := J.row_addr hr (by omega)
              subst had
              obtain ⟨z, hz⟩ : ∃ z, ps[n]? = some z := ⟨_, List.getElem?_eq_getElem (by rw [HN2.out]; exact hn2)⟩
              have d0 : wq.cell? ⟨g2, o2 + n, none⟩ = some (.int .i64 z) := by have := row_cell (S := U.shN) (j := n) hr hz (k := 0) rfl; have e9 : o2 + n * U.shN.k + 0 = o2 + n := (by show o2 + n * 1 + 0 = o2 + n; omega); rw [e9] at this; exact this
              clear hr hz
              obtain ⟨c, hc, ec⟩ := and3 z
              obtain ⟨y, hy⟩ : ∃ y, z / 8 = y := ⟨_, rfl⟩
              have hfd : z.fdiv 8 = y := by rw [Int.fdiv_eq_ediv_of_nonneg z (by decide)]; exact hy
              obtain ⟨c4, hc4, ec4⟩ := and4 y
              have hw41 : IntKind.i64.wrap (1 + (c4 : Int)) = 1 + c4 := by rw [IntKind.wrap_i64]; omega
              have HAP := hide (pick_ahead HA.out (c : Int) (1 + (c4 : Int)) (n : Int))
              have HJP := hide (show (pickL L (c : Int) (1 + (c4 : Int)) (n : Int)).jobs = L.jobs from by unfold pickL; split <;> rfl)
              obtain ⟨ln, hln⟩ : ∃ m, (pickV L (c : Int) (1 + (c4 : Int)) (n : Int)).length = m := ⟨_, rfl⟩
              have HLN := hide hln
              clear hln
              go_upto_region 11 with (first | fail)
              refine wp_region_held_drew (S := fun V => V.cell? ⟨g2, o2 + n, none⟩ = some (.int .i64 z)) (by kernel_rfl) d0 (fun hHeld => ?_)
              have hgd := grownBy_draws wq 1 none
              have HXd := hide (HX.out.grown hgd)
              have HPd := hide (box_grown HP.out hgd (by simp))
              have HGd := hide (grownBy_trans HG.out hgd)
              have hdd : (wq).drewN 1 = (wq).drew := rfl
              rw [hdd] at HXd HPd HGd
              clear hdd hgd
              generalize (wq).drew = V0 at *
              refine take_put (i := 0) (v := .pointer (some ⟨b, 0, none⟩)) 56 rfl rfl (by kernel_rfl) (by kernel_rfl) (by kernel_rfl) (fun _ _ _ h => h) (Or.inl ⟨by rfl, by intro Wy hSW; go_simp⟩) (by assumption) ?_
              (try simp only [Act.put, List.setIfInBounds_toArray, List.set_cons_zero, List.set_cons_succ])
              refine take_put (i := 1) (v := .slice (some ⟨g2, o2, none⟩) n2 d2) 57 rfl rfl (by kernel_rfl) (by kernel_rfl) (by kernel_rfl) (fun _ _ _ h => h) (Or.inl ⟨by rfl, by intro Wy hSW; go_simp⟩) (by assumption) ?_
              (try simp only [Act.put, List.setIfInBounds_toArray, List.set_cons_zero, List.set_cons_succ])
              refine take_put (i := 2) (v := .int .i64 n) 58 rfl rfl (by kernel_rfl) (by kernel_rfl) (by kernel_rfl) (fun _ _ _ h => h) (Or.inl ⟨by rfl, by intro Wy hSW; go_simp⟩) (by assumption) ?_
              (try simp only [Act.put, List.setIfInBounds_toArray, List.set_cons_zero, List.set_cons_succ])
              refine take_put (i := 3) (v := .pointer (some ⟨g2, o2 + n, none⟩)) 59 rfl rfl (by kernel_rfl) (by kernel_rfl) (by kernel_rfl) (fun _ _ _ h => h) (Or.inl ⟨by rfl, by intro Wy hSW; go_simp⟩) (by assumption) ?_
              (try simp only [Act.put, List.setIfInBounds_toArray, List.set_cons_zero, List.set_cons_succ])
              refine take_put (i := 4) (v := .int .i64 z) 60 rfl rfl (by kernel_rfl) (by kernel_rfl) (by kernel_rfl) (fun _ _ _ h => h) (Or.inl ⟨by rfl, by intro Wy hSW; have hc := hSW; go_simp⟩) (by assumption) ?_
              (try simp only [Act.put, List.setIfInBounds_toArray, List.set_cons_zero, List.set_cons_succ])
              refine take_put (i := 5) (v := .int .i64 c) 61 rfl rfl (by kernel_rfl) (by kernel_rfl) (by kernel_rfl) (fun _ _ _ h => h) (Or.inl ⟨by rfl, by intro Wy hSW; go_simp⟩) (by assumption) ?_
              (try simp only [Act.put, List.setIfInBounds_toArray, List.set_cons_zero, List.set_cons_succ])
              refine take_put (i := 6) (v := .slice (some ⟨g2, o2, none⟩) n2 d2) 62 rfl rfl (by kernel_rfl) (by kernel_rfl) (by kernel_rfl) (fun _ _ _ h => h) (Or.inl ⟨by rfl, by intro Wy hSW; go_simp⟩) (by assumption) ?_
              (try simp only [Act.put, List.setIfInBounds_toArray, List.set_cons_zero, List.set_cons_succ])
              refine take_put (i := 7) (v := .int .i64 n) 63 rfl rfl (by kernel_rfl) (by kernel_rfl) (by kernel_rfl) (fun _ _ _ h => h) (Or.inl ⟨by rfl, by intro Wy hSW; go_simp⟩) (by assumption) ?_
              (try simp only [Act.put, List.setIfInBounds_toArray, List.set_cons_zero, List.set_cons_succ])
              refine take_put (i := 8) (v := .pointer (some ⟨g2, o2 + n, none⟩)) 64 rfl rfl (by kernel_rfl) (by kernel_rfl) (by kernel_rfl) (fun _ _ _ h => h) (Or.inl ⟨by rfl, by intro Wy hSW; go_simp⟩) (by assumption) ?_
              (try simp only [Act.put, List.setIfInBounds_toArray, List.set_cons_zero, List.set_cons_succ])
              refine take_put (i := 9) (v := .int .i64 z) 65 rfl rfl (by kernel_rfl) (by kernel_rfl) (by kernel_rfl) (fun _ _ _ h => h) (Or.inl ⟨by rfl, by intro Wy hSW; have hc := hSW; go_simp⟩) (by assumption) ?_
              (try simp only [Act.put, List.setIfInBounds_toArray, List.set_cons_zero, List.set_cons_succ])
              refine take_put (i := 10) (v := .int .i64 y) 66 rfl rfl (by kernel_rfl) (by kernel_rfl) (by kernel_rfl) (fun _ _ _ h => h) (Or.inl ⟨by rfl, by intro Wy hSW; go_simp⟩) (by assumption) ?_
              (try simp only [Act.put, List.setIfInBounds_toArray, List.set_cons_zero, List.set_cons_succ])
              refine take_put (i := 11) (v := .int .i64 c4) 67 rfl rfl (by kernel_rfl) (by kernel_rfl) (by kernel_rfl) (fun _ _ _ h => h) (Or.inl ⟨by rfl, by intro Wy hSW; go_simp⟩) (by assumption) ?_
              (try simp only [Act.put, List.setIfInBounds_toArray, List.set_cons_zero, List.set_cons_succ])
              refine take_put (i := 12) (v := .int .i64 (1 + (c4 : Int))) 68 rfl rfl (by kernel_rfl) (by kernel_rfl) (by kernel_rfl) (fun _ _ _ h => h) (Or.inl ⟨by rfl, by intro Wy hSW; go_simp⟩) (by assumption) ?_
              (try simp only [Act.put, List.setIfInBounds_toArray, List.set_cons_zero, List.set_cons_succ])
              refine take_put (i := 13) (v := .int .i64 n) 69 rfl rfl (by kernel_rfl) (by kernel_rfl) (by kernel_rfl) (fun _ _ _ h => h) (Or.inl ⟨by rfl, by intro Wy hSW; go_simp⟩) (by assumption) ?_
              (try simp only [Act.put, List.setIfInBounds_toArray, List.set_cons_zero, List.set_cons_succ])
              refine wpAnyH_ready (rs := [14]) (by kernel_rfl) (by simp) ?_
              refine AllReadyH.cons rfl (fun Kx hKx => ?_) AllReadyH.nil
              go_simp
              refine (lpick (c : Int) (1 + (c4 : Int)) (n : Int) HGd.out HXd.out rfl rfl rfl HLN.out).mono ?_; rintro e V1 ⟨az, cz, rfl, hX, ho, hg, hkp⟩
              have HX1 := hide hX
              have HP1 := hide (hkp.box HPd.out (by decide) (by decide) (by decide))
              have HG1 := hide hg
              have HS11 : Hid ((fun V => V.cell? ⟨g2, o2 + n, none⟩ = some (.int .i64 z)) V1) := hide (by show V1.cell? ⟨g2, o2 + n, none⟩ = some (.int .i64 z); have hr := HR2.out.grown hg; obtain ⟨z9, hz⟩ : ∃ z, ps[n]? = some z := ⟨_, List.getElem?_eq_getElem (by rw [HN2.out]; exact hn2)⟩; have t1 := row_cell (S := U.shN) (j := n) hr hz (k := 0) rfl; have t2 := row_cell (S := U.shN) (j := n) (HR2.out.grown HG.out) hz (k := 0) rfl; have e9 : o2 + n * U.shN.k + 0 = o2 + n := (by show o2 + n * 1 + 0 = o2 + n; omega); rw [e9] at t1 t2; rw [d0] at t2; rw [t1]; exact t2.symm)
              clear hHeld hX ho hg hkp
              refine hKx.out _ _ HS11.out (fun hHeld => ?_)
              clear hKx Kx
              (try simp only [Act.put])
              refine wpAnyH_done (by kernel_rfl) ?_ _
              clear hHeld
              go_wp2
              go_meet
              case rel => exact ⟨rfl, _, HX1, HAP, hide (by rw [HJP.out]; exact HC.out), HP1, HG1⟩
          case rest =>
            clear HX HA HC HP HG HXN
            obtain ⟨rfl, L2, HX, HA, HC, HP, HG⟩ := hcut
            obtain ⟨wb, hwb⟩ : ∃ y, y = wc := ⟨_, rfl⟩
            subst hwb
            have HBA := hide (begin_ahead HA.out (by omega) (by omega))
            have HBC := hide (begin_count HA.out.fine (now := (n : Int)) (by omega) (by omega))
            obtain ⟨es, hes⟩ : ∃ es, beginV L2 (n : Int) = es := ⟨_, rfl⟩
            obtain ⟨L1, hL1⟩ : ∃ K, beginL L2 (n : Int) = K := ⟨_, rfl⟩
            have HES := hide hes
            have HL1 := hide hL1
            rw [hes, hL1] at HBC
            rw [hL1] at HBA
            clear hes hL1
            obtain ⟨ln, hln⟩ : ∃ m, es.length = m := ⟨_, rfl⟩
            have HLN := hide hln
            clear hln
            go_wp2_with (first | (go_at_call 13; refine (num_any _ _).mono ?_; rintro e w' ⟨rfl, rfl⟩) | fail)
            refine (lbegin (n : Int) HG.out HX.out (by omega) (N := 0) (by unfold beginN; rw [if_pos (tick_of (by omega) (by omega))]) HL1.out HES.out HLN.out).mono ?_; rintro e Wb ⟨aes, ces, rfl, hX, ho, hg, hkp⟩
            have HX1 := hide hX
            have HE := hide ho
            have HP1 := hide (hkp.box HP.out (by decide) (by decide) (by decide))
            have HG1 := hide hg
            clear hX ho hg hkp HX HP HG HES HL1 HA
            have HER := hide HE.out.row
            have hln22 : ln ≤ 22 := by have := HBC.out.2.2; rw [HLN.out] at this; exact this
            have hca := HC.out.2
            go_wp2_with (first | (go_at_call 13; refine (num_any _ _).mono ?_; rintro e w' ⟨rfl, rfl⟩) | fail)
            go_loopw [9, 10, 14] (fun c9 c10 i V => ∃ (k c2 w2 : Nat), k ≤ ln ∧ i = .int .i64 k ∧ c9 = .int .i64 c2 ∧ c10 = .int .i64 w2 ∧ Wb = V ∧ Hid (c2 = ca + relN (es.take k)) ∧ Hid (w2 + relN (es.take k) = we + k)) (fun _ _ i _ => ln - (intOf i).toNat)
            case atStart => exact ⟨0, ca, we, by omega, rfl, rfl, rfl, rfl, hide rfl, hide rfl⟩
            case round =>
              obtain ⟨k, c2, w2, hk, rfl, rfl, rfl, rfl, HC2, HW2⟩ := hrel
              have hc2b : c2 ≤ 6 * n + 22 := by have h1 := HC2.out; have h2 := relN_le (es.take k); rw [List.length_take] at h2; omega
              have hw2b : w2 ≤ 6 * n + 22 := by have h1 := HW2.out; have h3 := HC.out.1; omega
              by_cases hkl : k < ln
              · have hki : (k : Int) < ln := by omega
                have hk0 : ¬((k : Int) < 0) := by omega
                obtain ⟨e1, he1⟩ : ∃ e, es[k]? = some e := ⟨_, List.getElem?_eq_getElem (by rw [HLN.out]; exact hkl)⟩
                obtain ⟨ge, oe, hae⟩ := J.row_addr (n := ln) (show RowAt shE w.heap.size Wb (.slice aes ln ces) es from HER.out) (by omega)
                subst hae
                have d0 : Wb.cell? ⟨ge, oe + k * 4, none⟩ = some (.int .i64 e1.kind) := by have := row_cell (S := shE) (j := k) HER.out he1 (k := 0) rfl; have e9 : oe + k * shE.k + 0 = oe + k * 4 := rfl; rw [e9] at this; exact this
                have HTK := hide (show relN (es.take (k + 1)) = relN (es.take k) + (if e1.kind = 1 then 1 else 0) from by rw [List.take_add_one, he1]; exact relN_snoc _ _)
                clear he1
                generalize e1.kind = kd at *
                by_cases hkd : kd = 1
                · skip
                  have hkb : (kd == 1) = true := beq_iff_eq.2 hkd
                  have HKD := hide hkd
                  clear hkd
                  go_wp2
                  go_roundw
                  case rel => exact ⟨k + 1, c2 + 1, w2, by omega, by first | rfl | go_num, by first | rfl | go_num, by first | rfl | go_num, by first | rfl | trivial, hide (by have := HTK.out; rw [if_pos HKD.out] at this; have := HC2.out; omega), hide (by have := HTK.out; rw [if_pos HKD.out] at this; have := HW2.out; omega)⟩
                  case measure => first | (simp [intOf]; omega) | simp [intOf]
                · skip
                  have hkb : (kd == 1) = false := beq_eq_false_iff_ne.2 hkd
                  have HKD := hide hkd
                  clear hkd
                  go_wp2
                  go_roundw
                  case rel => exact ⟨k + 1, c2, w2 + 1, by omega, by first | rfl | go_num, by first | rfl | go_num, by first | rfl | go_num, by first | rfl | trivial, hide (by have := HTK.out; rw [if_neg HKD.out] at this; have := HC2.out; omega), hide (by have := HTK.out; rw [if_neg HKD.out] at this; have := HW2.out; omega)⟩
                  case measure => first | (simp [intOf]; omega) | simp [intOf]
              · obtain rfl : k = ln := by omega
                have hki : ¬((k : Int) < k) := by omega
                have HCN := hide (show c2 = w2 + L1.jobs.length ∧ c2 ≤ 6 * n + 6 from by have h1 := HC2.out; have h2 := HW2.out; have h3 := HBC.out; rw [List.take_of_length_le (by rw [HLN.out]; exact Nat.le_refl _)] at h1 h2; rw [HLN.out] at h3; have h4 := HC.out; have h5 := relN_le es; rw [HLN.out] at h5; omega)
                clear HC2 HW2 HBC HC HER HE HLN
                have HX := HX1
                have HP := HP1
                have HG := HG1
                clear HX1 HP1 HG1
                go_upto_region 21 with (first | fail)
                have hn1i : True := trivial
                go_cut [111] (fun bb W => ∃ x : Bool, bb = .bool x ∧ W = Wb ∧ Hid (x = true → L1.jobs ≠ []))
                case first =>
                  by_cases hn1 : n < n1
                  · have hni1 : (n : Int) < n1 := by omega
                    have hr := HR1.out.grown HG.out
                    obtain ⟨g2, o2, had⟩ := J.row_addr hr (by omega)
                    subst had
                    obtain ⟨z, hz⟩ : ∃ z, rs[n]? = some z := ⟨_, List.getElem?_eq_getElem (by rw [HN1.out]; exact hn1)⟩
                    have d0 : Wb.cell? ⟨g2, o2 + n, none⟩ = some (.int .i64 z) := by have := row_cell (S := U.shN) (j := n) hr hz (k := 0) rfl; have e9 : o2 + n * U.shN.k + 0 = o2 + n := (by show o2 + n * 1 + 0 = o2 + n; omega); rw [e9] at this; exact this
                    clear hr hz
                    obtain ⟨c, hc, ec⟩ := and1 z
                    by_cases hc1 : c = 1
                    · have hcb : ((c : Int) == 1) = true := by subst hc1; rfl
                      clear hc1
                      go_wp2_with (first | fail)
                      cases hB : decide (0 < L1.jobs.length) with
                      | true =>
                        refine (lready HX.out hB).mono ?_; rintro e w' ⟨rfl, rfl⟩
                        have HNE := hide (of_decide_eq_true hB)
                        go_wp2
                        go_meet
                        case rel => exact ⟨true, by first | rfl | simp, rfl, hide (fun _ h => by have := HNE.out; rw [h] at this; exact absurd this (by decide))⟩
                      | false =>
                        refine (lready HX.out hB).mono ?_; rintro e w' ⟨rfl, rfl⟩
                        clear hB d0
                        go_wp2
                        go_meet
                        case rel => exact ⟨false, by first | rfl | simp, rfl, hide (fun h => by cases h)⟩
                    · have hcb : ((c : Int) == 1) = false := beq_eq_false_iff_ne.2 (by omega)
                      clear hc1
                      go_wp2
                      go_meet
                      case rel => exact ⟨false, by first | rfl | simp, rfl, hide (fun h => by cases h)⟩
                  · have hni1 : ¬((n : Int) < n1) := by omega
                    go_wp2
                    go_meet
                    case rel => exact ⟨false, by first | rfl | simp, rfl, hide (fun h => by cases h)⟩
                case rest =>
                  obtain ⟨x, rfl, rfl, HXE⟩ := hcut
                  obtain ⟨wd, hwd⟩ : ∃ y, y = wc := ⟨_, rfl⟩
                  subst hwd
                  go_upto_if 111 with fail
                  go_cut [10] (fun wt W => ∃ (w4 : Nat) (L3 : LocV), wt = .int .i64 w4 ∧ Hid (PX w W b L3 (6 * n + 6)) ∧ Hid (Ahead L3 (6 * n + 6) ((n : Int) + 1)) ∧ Hid (∀ j, j ∈ L3.jobs → j.rel ≤ (n : Int) ∧ (n : Int) < j.dead) ∧ Hid (c2 = w4 + L3.jobs.length) ∧ Hid (W.heap[BP]? = some (.cells #[.int .i64 q.level, .slice q.ta q.tn q.tc, .slice q.ca q.cn q.cc] 25 (0, 0))) ∧ Hid (w.grownBy W none))
                  case first =>
                    cases x with
                    | false =>
                      go_wp2
                      go_meet
                      case rel => exact ⟨w2, L1, rfl, HX, hide HBA.out.1, hide HBA.out.2, hide HCN.out.1, HP, HG⟩
                    | true =>
                      have hne := HXE.out rfl
                      have HRA := hide (run_ahead HBA.out.1)
                      have HRC := hide (run_count (L := L1))
                      have HRP := hide (HRA.out.2 (fun j => j.rel ≤ (n : Int) ∧ (n : Int) < j.dead) (fun j h => h) HBA.out.2)
                      have HRN := hide (show runN L1 = 0 from by unfold runN; rw [if_neg hne])
                      clear hne HXE
                      obtain ⟨lv, hlv⟩ : ∃ m, (runV L1).length = m := ⟨_, rfl⟩
                      have HLV := hide hlv
                      clear hlv
                      obtain ⟨O, hO⟩ : ∃ x, runO L1 = x := ⟨_, rfl⟩
                      obtain ⟨D, hD⟩ : ∃ x, runD L1 = x := ⟨_, rfl⟩
                      obtain ⟨K, hK⟩ : ∃ x, runK L1 = x := ⟨_, rfl⟩
                      have HO := hide hO
                      have HD := hide hD
                      have HK := hide hK
                      rw [hD, hK] at HRC
                      clear hO hD hK
                      go_wp2_with (first | fail)
                      refine (lrun HG.out HX.out HO.out HD.out HK.out HRN.out rfl rfl HLV.out).mono ?_; rintro e Wr ⟨ar, cr, rfl, hX, ho, hg, hkp⟩
                      have HX2 := hide hX
                      have HP2 := hide (hkp.box HP.out (by decide) (by decide) (by decide))
                      have HG2 := hide hg
                      clear hX ho hg hkp HO HD HK HLV HRN
                      go_upto_region 23 with (first | (go_at_call 13; refine (num_any _ _).mono ?_; rintro e w' ⟨rfl, rfl⟩) | fail)
                      have hgv := World.grownBy_alloc Wr (.cells #[.bool O, .bool D, .bool K] 50) none
                      have HV := hide (heap_alloc_new Wr (.cells #[.bool O, .bool D, .bool K] 50))
                      have HX3 := hide (HX2.out.grown hgv)
                      have HP3 := hide (box_grown HP2.out hgv (by simp))
                      have HG3 := hide (grownBy_trans HG2.out hgv)
                      clear hgv HX2 HP2 HG2
                      generalize Wr.alloc (.cells #[.bool O, .bool D, .bool K] 50) = Wv at *
                      generalize Wr.heap.size = BV at *
                      have v1 := blk_cell HV.out 1
                      have v2 := blk_cell HV.out 2
                      cases D with
                      | true =>
                        go_wp2_with (first | (go_at_call 13; refine (num_any _ _).mono ?_; rintro e w' ⟨rfl, rfl⟩) | fail)
                        go_meet
                        case rel => exact ⟨w2 + 1, _, by first | rfl | go_num, HX3, HRA.out.1 |> hide, HRP, hide (by have h1 := HRC.out; have h2 := HCN.out.1; simp at h1; omega), HP3, HG3⟩
                      | false =>
                        cases K with
                        | true =>
                          go_wp2_with (first | (go_at_call 13; refine (num_any _ _).mono ?_; rintro e w' ⟨rfl, rfl⟩) | fail)
                          go_meet
                          case rel => exact ⟨w2 + 1, _, by first | rfl | go_num, HX3, HRA.out.1 |> hide, HRP, hide (by have h1 := HRC.out; have h2 := HCN.out.1; simp at h1; omega), HP3, HG3⟩
                        | false =>
                          go_wp2_with (first | (go_at_call 13; refine (num_any _ _).mono ?_; rintro e w' ⟨rfl, rfl⟩) | fail)
                          go_meet
                          case rel => exact ⟨w2, _, by first | rfl | go_num, HX3, HRA.out.1 |> hide, HRP, hide (by have h1 := HRC.out; have h2 := HCN.out.1; simp at h1; omega), HP3, HG3⟩
                  case rest =>
                    clear HX HP HG HBA HXE
                    obtain ⟨w4, L3, rfl, HX, HA, HJP, HCX, HP, HG⟩ := hcut
                    obtain ⟨wj, hwj⟩ : ∃ y, y = wc := ⟨_, rfl⟩
                    subst hwj
                    obtain ⟨lj, hlj⟩ : ∃ m, L3.jobs.length = m := ⟨_, rfl⟩
                    have HLJ := hide hlj
                    rw [hlj] at HCX
                    clear hlj
                    have hc2b6 := HCN.out.2
                    have hcw : (c2 : Int) - w4 = lj := by have := HCX.out; omega
                    have hl16 : lj ≤ 16 := by have := (J.rowMay_iff.1 HA.out.fine.row).1; rw [HLJ.out] at this; exact this
                    go_wp2_with (first | fail)
                    refine (ljobs HG.out HX.out HLJ.out).mono ?_; rintro e Wj ⟨aj, cj, rfl, ho, hX, hg, hg2⟩
                    have HX4 := hide hX
                    have HP4 := hide (box_grown HP.out hg2 (by simp))
                    have HG4 := hide hg
                    have HO := hide ho.row
                    clear hX ho hg hg2 HX HP HG
                    go_wp2_with (first | fail)
                    clear hcw
                    go_loopw [19] (fun i V => ∃ (k : Nat), k ≤ lj ∧ i = .int .i64 k ∧ Hid (PX w V b L3 (6 * n + 6)) ∧ Hid (RowAt shJ w.heap.size V (.slice aj lj cj) L3.jobs) ∧ Hid (V.heap[BP]? = some (.cells #[.int .i64 q.level, .slice q.ta q.tn q.tc, .slice q.ca q.cn q.cc] 25 (0, 0))) ∧ Hid (w.grownBy V none)) (fun i _ => lj - (intOf i).toNat)
                    case atStart => exact ⟨0, by omega, rfl, HX4, HO, HP4, HG4⟩
                    case round =>
                      clear HX4 HO HP4 HG4
                      obtain ⟨i3, hi3, rfl, HX, HO, HP, HG⟩ := hrel
                      by_cases hi3l : i3 < lj
                      · have hi3i : (i3 : Int) < lj := by omega
                        have hi30 : ¬((i3 : Int) < 0) := by omega
                        obtain ⟨gj, oj, haj⟩ := J.row_addr (n := lj) (show RowAt shJ w.heap.size wr (.slice aj lj cj) L3.jobs from HO.out) (by omega)
                        subst haj
                        obtain ⟨ji, hji⟩ : ∃ j, L3.jobs[i3]? = some j := ⟨_, List.getElem?_eq_getElem (by rw [HLJ.out]; exact hi3l)⟩
                        have HJI := hide hji
                        have HJB := hide (HJP.out ji (List.mem_of_getElem? hji))
                        clear hji
                        have HCT := hide (fun V (hV : RowAt shJ w.heap.size V (.slice (some ⟨gj, oj, none⟩) lj cj) L3.jobs) => (show V.cell? ⟨gj, oj + i3 * 7, none⟩ = some (.int .i64 ji.task) ∧ V.cell? ⟨gj, oj + i3 * 7 + 4, none⟩ = some (.int .i64 ji.dead) ∧ V.cell? ⟨gj, oj + i3 * 7 + 3, none⟩ = some (.int .i64 ji.rel) from ⟨row_cell (S := shJ) (j := i3) hV HJI.out (k := 0) rfl, row_cell (S := shJ) (j := i3) hV HJI.out (k := 4) rfl, row_cell (S := shJ) (j := i3) hV HJI.out (k := 3) rfl⟩))
                        generalize hti : ji.task = ti at *
                        have HTI := hide hti
                        clear hti
                        generalize ji.dead = di at *
                        generalize ji.rel = ri at *
                        go_wp2_with (first | fail)
                        go_loopw [20] (fun i V => ∃ (k : Nat), k ≤ i3 ∧ i = .int .i64 k ∧ Hid (PX w V b L3 (6 * n + 6)) ∧ Hid (RowAt shJ w.heap.size V (.slice (some ⟨gj, oj, none⟩) lj cj) L3.jobs) ∧ Hid (V.heap[BP]? = some (.cells #[.int .i64 q.level, .slice q.ta q.tn q.tc, .slice q.ca q.cn q.cc] 25 (0, 0))) ∧ Hid (w.grownBy V none)) (fun i _ => i3 - (intOf i).toNat)
                        case atStart => exact ⟨0, by omega, rfl, HX, HO, HP, HG⟩
                        case round =>
                          clear HX HO HP HG
                          obtain ⟨k4, hk4, rfl, HX, HO, HP, HG⟩ := hrel
                          by_cases hk4l : k4 < i3
                          · have hk4i : (k4 : Int) < i3 := by omega
                            have hk40 : ¬((k4 : Int) < 0) := by omega
                            have hk4j : (k4 : Int) < lj := by omega
                            obtain ⟨jk, hjk⟩ : ∃ j, L3.jobs[k4]? = some j := ⟨_, List.getElem?_eq_getElem (by rw [HLJ.out]; omega)⟩
                            have HJK := hide hjk
                            have hne : (jk.task == ti) = false := beq_eq_false_iff_ne.2 (by rw [← HTI.out]; exact pair_ne HA.out.apart hjk HJI.out hk4l)
                            have HCK := hide (fun V (hV : RowAt shJ w.heap.size V (.slice (some ⟨gj, oj, none⟩) lj cj) L3.jobs) => (show V.cell? ⟨gj, oj + k4 * 7, none⟩ = some (.int .i64 jk.task) from row_cell (S := shJ) (j := k4) hV HJK.out (k := 0) rfl))
                            clear hjk
                            generalize jk.task = tk at *
                            go_upto_region 36 with (first | fail)
                            have HOd0 := hide (HO.out.grown (grownBy_draws wr 1 none))
                            have hdd0 : wr.drewN 1 = wr.drew := rfl
                            rw [hdd0] at HOd0
                            refine wp_region_held_drew (S := fun V => RowAt shJ w.heap.size V (.slice (some ⟨gj, oj, none⟩) lj cj) L3.jobs) (by kernel_rfl) (HO.out.grown (grownBy_draws wr 1 none)) (fun hHeld => ?_)
                            have hgd := grownBy_draws wr 1 none
                            have HXd := hide (HX.out.grown hgd)
                            have HPd := hide (box_grown HP.out hgd (by simp))
                            have HGd := hide (grownBy_trans HG.out hgd)
                            have hdd : (wr).drewN 1 = (wr).drew := rfl
                            rw [hdd] at HXd HPd HGd
                            clear hdd hgd
                            generalize (wr).drew = V0 at *
                            refine take_put (i := 0) (v := .slice (some ⟨gj, oj, none⟩) lj cj) 148 rfl rfl (by kernel_rfl) (by kernel_rfl) (by kernel_rfl) (fun _ _ _ h => h) (Or.inl ⟨by rfl, by intro Wy hSW; go_simp⟩) (by assumption) ?_
                            (try simp only [Act.put, List.setIfInBounds_toArray, List.set_cons_zero, List.set_cons_succ])
                            refine take_put (i := 1) (v := .int .i64 k4) 149 rfl rfl (by kernel_rfl) (by kernel_rfl) (by kernel_rfl) (fun _ _ _ h => h) (Or.inl ⟨by rfl, by intro Wy hSW; go_simp⟩) (by assumption) ?_
                            (try simp only [Act.put, List.setIfInBounds_toArray, List.set_cons_zero, List.set_cons_succ])
                            refine take_put (i := 2) (v := .pointer (some ⟨gj, oj + k4 * 7, none⟩)) 150 rfl rfl (by kernel_rfl) (by kernel_rfl) (by kernel_rfl) (fun _ _ _ h => h) (Or.inl ⟨by rfl, by intro Wy hSW; go_simp⟩) (by assumption) ?_
                            (try simp only [Act.put, List.setIfInBounds_toArray, List.set_cons_zero, List.set_cons_succ])
                            refine take_put (i := 3) (v := .pointer (some ⟨gj, oj + k4 * 7, none⟩)) 151 rfl rfl (by kernel_rfl) (by kernel_rfl) (by kernel_rfl) (fun _ _ _ h => h) (Or.inl ⟨by rfl, by intro Wy hSW; go_simp⟩) (by assumption) ?_
                            (try simp only [Act.put, List.setIfInBounds_toArray, List.set_cons_zero, List.set_cons_succ])
                            refine take_put (i := 4) (v := .int .i64 tk) 152 rfl rfl (by kernel_rfl) (by kernel_rfl) (by kernel_rfl) (fun _ _ _ h => h) (Or.inl ⟨by rfl, by intro Wy hSW; have hc := HCK.out _ hSW; go_simp⟩) (by assumption) ?_
                            (try simp only [Act.put, List.setIfInBounds_toArray, List.set_cons_zero, List.set_cons_succ])
                            refine take_put (i := 5) (v := .slice (some ⟨gj, oj, none⟩) lj cj) 153 rfl rfl (by kernel_rfl) (by kernel_rfl) (by kernel_rfl) (fun _ _ _ h => h) (Or.inl ⟨by rfl, by intro Wy hSW; go_simp⟩) (by assumption) ?_
                            (try simp only [Act.put, List.setIfInBounds_toArray, List.set_cons_zero, List.set_cons_succ])
                            refine take_put (i := 6) (v := .int .i64 i3) 154 rfl rfl (by kernel_rfl) (by kernel_rfl) (by kernel_rfl) (fun _ _ _ h => h) (Or.inl ⟨by rfl, by intro Wy hSW; go_simp⟩) (by assumption) ?_
                            (try simp only [Act.put, List.setIfInBounds_toArray, List.set_cons_zero, List.set_cons_succ])
                            refine take_put (i := 7) (v := .pointer (some ⟨gj, oj + i3 * 7, none⟩)) 155 rfl rfl (by kernel_rfl) (by kernel_rfl) (by kernel_rfl) (fun _ _ _ h => h) (Or.inl ⟨by rfl, by intro Wy hSW; go_simp⟩) (by assumption) ?_
                            (try simp only [Act.put, List.setIfInBounds_toArray, List.set_cons_zero, List.set_cons_succ])
                            refine take_put (i := 8) (v := .pointer (some ⟨gj, oj + i3 * 7, none⟩)) 156 rfl rfl (by kernel_rfl) (by kernel_rfl) (by kernel_rfl) (fun _ _ _ h => h) (Or.inl ⟨by rfl, by intro Wy hSW; go_simp⟩) (by assumption) ?_
                            (try simp only [Act.put, List.setIfInBounds_toArray, List.set_cons_zero, List.set_cons_succ])
                            refine take_put (i := 9) (v := .int .i64 ti) 157 rfl rfl (by kernel_rfl) (by kernel_rfl) (by kernel_rfl) (fun _ _ _ h => h) (Or.inl ⟨by rfl, by intro Wy hSW; have hc := (HCT.out _ hSW).1; go_simp⟩) (by assumption) ?_
                            (try simp only [Act.put, List.setIfInBounds_toArray, List.set_cons_zero, List.set_cons_succ])
                            refine take_put (i := 10) (v := .bool false) 158 rfl rfl (by kernel_rfl) (by kernel_rfl) (by kernel_rfl) (fun _ _ _ h => h) (Or.inl ⟨by rfl, by intro Wy hSW; go_simp⟩) (by assumption) ?_
                            (try simp only [Act.put, List.setIfInBounds_toArray, List.set_cons_zero, List.set_cons_succ])
                            refine wpAnyH_done (by kernel_rfl) ?_ _
                            clear hHeld
                            go_wp2
                            go_roundw
                            case rel => exact ⟨k4 + 1, by omega, by first | rfl | go_num, HXd, HOd0, HPd, HGd⟩
                            case measure => first | (simp [intOf]; omega) | simp [intOf]
                          · have hk4i : ¬((k4 : Int) < i3) := by omega
                            have hdn : ¬(di ≤ (n : Int)) := by have := HJB.out; omega
                            have hrn : ¬((n : Int) < ri) := by have := HJB.out; omega
                            obtain ⟨t0, t4, t3⟩ := HCT.out _ HO.out
                            go_wp2
                            clear t0 t4 t3
                            go_roundw
                            case rel => exact ⟨i3 + 1, by omega, by first | rfl | go_num, HX, HO, HP, HG⟩
                            case measure => first | (simp [intOf]; omega) | simp [intOf]
                      · have hi3i : ¬((i3 : Int) < lj) := by omega
                        go_wp2
                        go_roundw
                        case rel => exact ⟨n + 1, c2, w4, L3, by omega, by first | rfl | go_num, rfl, rfl, hide (HX.out.mono (by omega)), hide ⟨HA.out.fine.mono (by omega), HA.out.kept, HA.out.apart⟩, hide (by have h1 := HCX.out; have h2 := HLJ.out; have h3 := HCN.out.2; omega), HP, HG⟩
                        case measure => first | (simp [intOf]; omega) | simp [intOf]
      · have hni : ¬((n : Int) < 80) := by omega
        go_wp2
        go_ret
        exact ⟨rfl, HG.out⟩
#print axioms ticks_any
end Go.Proofs.YtlppfocoonnpjaaGreatDoor.L

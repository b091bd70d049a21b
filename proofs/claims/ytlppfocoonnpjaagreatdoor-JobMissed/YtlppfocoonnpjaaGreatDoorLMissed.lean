/- The walk of the statement JobMissed: a job that is not run is missed just at its deadline; proved over the translation. -/
import Derived.Test.YtlppfocoonnpjaaGreatDoorAw14
import Derived.Test.YtlppfocoonnpjaaGreatDoorQh
namespace Go.Proofs.YtlppfocoonnpjaaGreatDoor.L
open Go.RowKit
open Go.Proofs.YtlppfocoonnpjaaGreatDoor.J (JobV jobAt jobVal shJ blk_cell box_lt box_grown type_box type_own own_type own_mono row_cell)
attribute [local go_sem] alloc_drewN setCell_drewN

/-- The schedule ahead of tick n. -/
def misS (p d lv : Int) (y n : Nat) : LocV := if n = 0 then misN p d lv else if (n : Int) ≤ d then misA p d lv ((if n < y then n else y : Nat) : Int) else beginL (misA p d lv y) d
theorem u64_small {x : Int} (h0 : 0 ≤ x) (h1 : x ≤ 1000000) : IntKind.u64.wrap x = x := by
  rw [IntKind.wrap_u64]; omega
theorem rem_of (z : Int) (P : Int) (h0 : 1 ≤ P) (h1 : P ≤ 1000) : ∃ c : Nat, (c : Int) < P ∧ (IntKind.u64.wrap z).tmod P = (c : Int) := by
  have hz : 0 ≤ IntKind.u64.wrap z := by rw [IntKind.wrap_u64]; omega
  refine ⟨((IntKind.u64.wrap z).tmod P).toNat, ?_, ?_⟩
  · rw [Int.toNat_of_nonneg (Int.tmod_nonneg P hz)]
    exact Int.tmod_lt_of_pos _ (by omega)
  · rw [Int.toNat_of_nonneg (Int.tmod_nonneg P hz)]
set_option maxRecDepth 100000 in
set_option maxHeartbeats 16000000 in
theorem missed_any (a0 a1 a2 a3 : Int) (w : World) (hT : Tab w) : Calls Tryz.prog 8 #[.int .i64 a0, .int .i64 a1, .int .i64 a2, .int .i64 a3] w fun e w' => e = .returned (.bool true) ∧ w.grownBy w' none := by
  have HT := hide (fun V (hg : w.grownBy V none) => hT.grown hg)
  have HG := hide (grownBy_refl w none)
  obtain ⟨c, hc, ec⟩ := and5 a0
  obtain ⟨z, hz, ez⟩ := rem_of a1 (2 + (c : Int)) (by omega) (by omega)
  obtain ⟨y, hy, ey⟩ := rem_of a2 (1 + (z : Int)) (by omega) (by omega)
  obtain ⟨l, hl, el⟩ := and1 a3
  have hw1 : IntKind.u64.wrap (2 + (c : Int)) = 2 + c := u64_small (by omega) (by omega)
  have hw2 : IntKind.u64.wrap (1 + (z : Int)) = 1 + z := u64_small (by omega) (by omega)
  have hlv : (l : Int) = 0 ∨ (l : Int) = 1 := by omega
  have h1 : 1 ≤ 1 + (z : Int) := by omega
  have h2 : 1 + (z : Int) ≤ 2 + (c : Int) := by omega
  have h3 : 2 + (c : Int) ≤ 33 := by omega
  have HOK := hide (one_ok (i := 1) (t := tM (2 + (c : Int)) (1 + (z : Int))) (by decide) (by decide) hlv (tM_may h1 h2 h3) (fun _ => rfl))
  clear hT
  have CA := hide (fun V hT => awake_any V hT)
  go_enter Tryz.func8, Tryz.ntmps8
  go_wp2_with (first | (go_at_call 13; refine (num_any _ _).mono ?_; rintro e w' ⟨rfl, rfl⟩) | fail)
  refine (CA.out _ (HT.out _ HG.out)).mono ?_; rintro e W1 ⟨rfl, hg⟩
  have HGn := hide (grownBy_trans HG.out hg)
  clear HG
  have HG := HGn
  clear HGn
  clear hg
  go_wp2_with (first | (go_at_call 13; refine (num_any _ _).mono ?_; rintro e w' ⟨rfl, rfl⟩) | fail)
  have hg := World.grownBy_alloc W1 (.cells #[.int .i64 0, .int .i64 (2 + (c : Int)), .int .i64 (1 + (z : Int)), .int .i64 (1 + (z : Int)), .int .i64 (1 + (z : Int)), .int .i64 0] 73) none
  have HPI : Hid (PartIs 0 (W1.alloc (.cells #[.int .i64 0, .int .i64 (2 + (c : Int)), .int .i64 (1 + (z : Int)), .int .i64 (1 + (z : Int)), .int .i64 (1 + (z : Int)), .int .i64 0] 73)) ⟨(l : Int), some ⟨W1.heap.size, 0, none⟩, 1, 1, none, 0, 0⟩ ⟨(l : Int), [tM (2 + (c : Int)) (1 + (z : Int))], []⟩) := hide ⟨rfl, RowAt.mono (rowAt_lit (S := shT) W1 [tM (2 + (c : Int)) (1 + (z : Int))] 73 (by simp)) (Nat.zero_le _), rowAt_nil _ _ _ _⟩
  have HGn := hide (grownBy_trans HG.out hg)
  clear HG
  have HG := HGn
  clear HGn
  clear hg ec ez el
  refine (lnew 1 HG.out (HT.out _ HG.out) HPI.out HOK.out).mono ?_; rintro e W2 ⟨b, rfl, hX, hg, -⟩
  have HGn := hide (hg)
  clear HG
  have HG := HGn
  clear HGn
  have HX := hide (show PX w W2 b (misS (2 + (c : Int)) (1 + (z : Int)) l y 0) 0 from hX)
  clear hX hg HPI HOK CA HT
  go_wp2_with (first | (go_at_call 13; refine (num_any _ _).mono ?_; rintro e w' ⟨rfl, rfl⟩) | fail)
  go_loopw [14] (fun i V => ∃ (n : Nat), (n : Int) ≤ (1 + (z : Int)) + 1 ∧ i = .int .i64 n ∧ Hid (PX w V b (misS (2 + (c : Int)) (1 + (z : Int)) l y n) (6 * n)) ∧ Hid (w.grownBy V none)) (fun i _ => z + 2 - (intOf i).toNat)
  case atStart => exact ⟨0, by omega, rfl, HX, HG⟩
  case round =>
    clear HX HG
    obtain ⟨n, hn, rfl, HX, HG⟩ := hrel
    by_cases hlt : (n : Int) ≤ (1 + (z : Int))
    · have hn34 : n ≤ 34 := by omega
      rcases (by omega : n = 0 ∨ (1 ≤ n ∧ (n : Int) < (1 + (z : Int))) ∨ (n : Int) = (1 + (z : Int))) with h0 | h0 | h0
      · skip
        have HF := hide (mis0 (lv := l) h1 h2 h3)
        subst h0
        have HX0 := hide (show PX w wr b (misN (2 + (c : Int)) (1 + (z : Int)) l) (6 * 0) from HX.out)
        clear HX
        have HX := HX0
        clear HX0
        go_wp2_with (first | (go_at_call 13; refine (num_any _ _).mono ?_; rintro e w' ⟨rfl, rfl⟩) | fail)
        refine (lbegin (L' := misA (2 + (c : Int)) (1 + (z : Int)) l 0) (es := [⟨1, 1, 0, (1 + (z : Int))⟩]) (N := 0) (ln := 1) 0 HG.out HX.out (by omega) (by rfl) HF.out.1 HF.out.2 rfl).mono ?_; rintro e W51 ⟨aes, ces, rfl, hX, ho, hg, hk⟩
        have HGn := hide (hg)
        have HXn := hide (hX)
        clear HG HX
        have HG := HGn
        have HX := HXn
        clear HGn HXn
        have Ees := hide ho
        clear hX ho hg hk
        have hnd : ¬((0 : Int) = (1 + (z : Int))) := by omega
        have hm0 : (0 : Int).tmod (2 + (c : Int)) = 0 := Int.zero_tmod _
        go_upto_region 19 with (first | (go_at_call 13; refine (num_any _ _).mono ?_; rintro e w' ⟨rfl, rfl⟩) | fail)
        have LEes := hide (fun k hk => (World.ownsRow.lt (show W51.ownsRow w.heap.size 68 4 _ _ _ from Ees.out) k hk).2)
        have LBwa := hide HG.out.size
        have hg := World.grownBy_alloc W51 (.cells #[.int .i64 1, .int .i64 1, .int .i64 0, .int .i64 (1 + (z : Int))] 68) none
        have HLIT := hide (heap_alloc_new W51 (.cells #[.int .i64 1, .int .i64 1, .int .i64 0, .int .i64 (1 + (z : Int))] 68))
        have HSZ := hide hg.size
        have HGn := hide (grownBy_trans HG.out hg)
        have HXn := hide (HX.out.grown hg)
        have Eesn := hide (OwnE.grown Ees.out hg)
        clear HG HX Ees
        have HG := HGn
        have HX := HXn
        have Ees := Eesn
        clear HGn HXn Eesn
        clear hg
        go_wp2_with (first | (at_builtin; refine app_row (S := shE) _ rfl _ _ 41 68 (.agg #[.int .i64 0, .int .i64 0, .int .i64 0, .int .i64 0]) 32 Tryz.underlying41 infoE rfl rfl (W51.heap.size) (.slice none 0 0) 0 ([] : List EvV) rfl (World.ownsRow_nil _ _ _ _) ⟨W51.heap.size, 0, none⟩ 1 1 [(⟨1, 1, 0, (1 + (z : Int))⟩ : EvV)] rfl rfl (J.one_at shE (⟨1, 1, 0, (1 + (z : Int))⟩ : EvV) HLIT.out) (by omega) (by omega) HSZ.out ?_) | fail)
        intro awa cwa W52 ho hgA hb9
        clear hb9 HLIT HSZ
        replace hgA : _root_.Go.World.grownBy _ W52 none := hgA
        have HGn := hide (grownBy_trans HG.out hgA)
        have HXn := hide (HX.out.grown hgA)
        have Eesn := hide (OwnE.grown Ees.out hgA)
        clear HG HX Ees
        have HG := HGn
        have HX := HXn
        have Ees := Eesn
        clear HGn HXn Eesn
        have Pwa := hide (show W52.ownsRow (W51.heap.size) 68 4 (.slice awa 1 cwa) 1 (shE.cells [⟨1, 1, 0, (1 + (z : Int))⟩]) from ho)
        have Ewa := hide (show OwnE w.heap.size W52 (.slice awa 1 cwa) [⟨1, 1, 0, (1 + (z : Int))⟩] from own_mono Pwa.out LBwa.out)
        have Swa := hide (show W51.heap.size ≤ W52.heap.size from Nat.le_trans (World.grownBy_alloc W51 (.cells #[.int .i64 1, .int .i64 1, .int .i64 0, .int .i64 (1 + (z : Int))] 68) none).size hgA.size)
        clear ho hgA
        go_wp2_with (first | (go_at_call 13; refine (num_any _ _).mono ?_; rintro e w' ⟨rfl, rfl⟩) | fail)
        refine (lsame HG.out Ees.out Ewa.out).mono ?_; rintro e W53 ⟨rfl, hg, -⟩
        have HGn := hide (grownBy_trans HG.out hg)
        have HXn := hide (HX.out.grown hg)
        have Eesn := hide (OwnE.grown Ees.out hg)
        have Ewan := hide (OwnE.grown Ewa.out hg)
        clear HG HX Ees Ewa
        have HG := HGn
        have HX := HXn
        have Ees := Eesn
        have Ewa := Ewan
        clear HGn HXn Eesn Ewan
        clear hg
        by_cases hy0 : 0 < y
        · skip
          have hy1 : (0 : Int) < y := by omega
          have HR := hide (misR (p := (2 + (c : Int))) (lv := (l : Int)) (u := 0) (d := (1 + (z : Int))) (by omega))
          go_wp2_with (first | (go_at_call 13; refine (num_any _ _).mono ?_; rintro e w' ⟨rfl, rfl⟩) | fail)
          refine (lrun (L' := misA (2 + (c : Int)) (1 + (z : Int)) l (0 + 1)) HG.out HX.out rfl rfl rfl rfl HR.out rfl rfl).mono ?_; rintro e W54 ⟨az2, cz2, rfl, hX, ho, hg, hk⟩
          have HGn := hide (hg)
          have HXn := hide (hX)
          have Eesn := hide (show OwnE w.heap.size W54 _ _ from hk.row Ees.out (by decide) (by decide) (by decide))
          have Ewan := hide (show OwnE w.heap.size W54 _ _ from hk.row Ewa.out (by decide) (by decide) (by decide))
          clear HG HX Ees Ewa
          have HG := HGn
          have HX := HXn
          have Ees := Eesn
          have Ewa := Ewan
          clear HGn HXn Eesn Ewan
          clear hX ho hg hk
          go_wp2
          go_roundw
          case rel => exact ⟨1, by omega, by first | rfl | go_num, hide (by have := HX.out.mono (k := 6 * 1) (by omega); unfold misS; rw [if_neg (by omega), if_pos (by omega), show ((if 1 < y then 1 else y : Nat) : Int) = 0 + 1 by split <;> omega]; exact this), HG⟩
          case measure => first | (simp [intOf]; omega) | simp [intOf]
        · skip
          have hy1 : ¬((0 : Int) < y) := by omega
          go_wp2
          go_roundw
          case rel => exact ⟨1, by omega, by first | rfl | go_num, hide (by have := HX.out.mono (k := 6 * 1) (by omega); unfold misS; rw [if_neg (by omega), if_pos (by omega), if_neg (by omega), show y = 0 by omega]; exact this), HG⟩
          case measure => first | (simp [intOf]; omega) | simp [intOf]
      · skip
        obtain ⟨hn1, hnd⟩ := h0
        have hu : (0 : Int) ≤ ((if n < y then n else y : Nat) : Int) ∧ ((if n < y then n else y : Nat) : Int) < (1 + (z : Int)) := by split <;> omega
        have HF := hide (misK (lv := l) (u := ((if n < y then n else y : Nat) : Int)) (now := (n : Int)) h1 h2 h3 hu.1 hu.2 (by omega) hnd)
        have HX0 := hide (show PX w wr b (misA (2 + (c : Int)) (1 + (z : Int)) l ((if n < y then n else y : Nat) : Int)) (6 * n) from by have := HX.out; unfold misS at this; rw [if_neg (by omega), if_pos hlt] at this; exact this)
        clear HX
        have HX := HX0
        clear HX0 hu
        go_wp2_with (first | (go_at_call 13; refine (num_any _ _).mono ?_; rintro e w' ⟨rfl, rfl⟩) | fail)
        refine (lbegin (L' := misA (2 + (c : Int)) (1 + (z : Int)) l ((if n < y then n else y : Nat) : Int)) (es := []) (N := 0) (ln := 0) (n : Int) HG.out HX.out (by omega) (by unfold beginN; rw [if_pos (tick_of (by omega) (by omega))]) HF.out.1 HF.out.2 rfl).mono ?_; rintro e W51 ⟨aes, ces, rfl, hX, ho, hg, hk⟩
        have HGn := hide (hg)
        have HXn := hide (hX)
        clear HG HX
        have HG := HGn
        have HX := HXn
        clear HGn HXn
        have Ees := hide ho
        clear hX ho hg hk
        have hne : ¬((n : Int) = (1 + (z : Int))) := by omega
        have hm0 : (n : Int).tmod (2 + (c : Int)) = n := Int.tmod_eq_of_lt (by omega) (by omega)
        have hm1 : ¬((n : Int) = 0) := by omega
        go_wp2_with (first | (go_at_call 13; refine (num_any _ _).mono ?_; rintro e w' ⟨rfl, rfl⟩) | fail)
        refine (lsame HG.out Ees.out (ownE_nil _ _)).mono ?_; rintro e W52 ⟨rfl, hg, -⟩
        have HGn := hide (grownBy_trans HG.out hg)
        have HXn := hide (HX.out.grown hg)
        have Eesn := hide (OwnE.grown Ees.out hg)
        clear HG HX Ees
        have HG := HGn
        have HX := HXn
        have Ees := Eesn
        clear HGn HXn Eesn
        clear hg
        by_cases hyn : n < y
        · skip
          have hy1 : (n : Int) < y := by omega
          have HX0 := hide (show PX w W52 b (misA (2 + (c : Int)) (1 + (z : Int)) l (n : Int)) (6 * n + 6) from by have := HX.out; rw [if_pos hyn] at this; exact this)
          clear HX
          have HX := HX0
          clear HX0
          have HR := hide (misR (p := (2 + (c : Int))) (lv := (l : Int)) (u := (n : Int)) (d := (1 + (z : Int))) (by omega))
          go_wp2_with (first | (go_at_call 13; refine (num_any _ _).mono ?_; rintro e w' ⟨rfl, rfl⟩) | fail)
          refine (lrun (L' := misA (2 + (c : Int)) (1 + (z : Int)) l ((n : Int) + 1)) HG.out HX.out rfl rfl rfl rfl HR.out rfl rfl).mono ?_; rintro e W53 ⟨az2, cz2, rfl, hX, ho, hg, hk⟩
          have HGn := hide (hg)
          have HXn := hide (hX)
          have Eesn := hide (show OwnE w.heap.size W53 _ _ from hk.row Ees.out (by decide) (by decide) (by decide))
          clear HG HX Ees
          have HG := HGn
          have HX := HXn
          have Ees := Eesn
          clear HGn HXn Eesn
          clear hX ho hg hk
          go_wp2
          go_roundw
          case rel => exact ⟨n + 1, by omega, by first | rfl | go_num, hide (by have := HX.out.mono (k := 6 * (n + 1)) (by omega); unfold misS; rw [if_neg (by omega), if_pos (by omega), show ((if n + 1 < y then n + 1 else y : Nat) : Int) = (n : Int) + 1 by split <;> omega]; exact this), HG⟩
          case measure => first | (simp [intOf]; omega) | simp [intOf]
        · skip
          have hy1 : ¬((n : Int) < y) := by omega
          go_wp2
          go_roundw
          case rel => exact ⟨n + 1, by omega, by first | rfl | go_num, hide (by have := HX.out.mono (k := 6 * (n + 1)) (by omega); rw [if_neg hyn] at this; unfold misS; rw [if_neg (by omega), if_pos (by omega), if_neg (by omega)]; exact this), HG⟩
          case measure => first | (simp [intOf]; omega) | simp [intOf]
      · skip
        have HF := hide (misE (lv := l) (u := (y : Int)) h1 h2 h3 (by omega) (by omega))
        have HX0 := hide (show PX w wr b (misA (2 + (c : Int)) (1 + (z : Int)) l y) (6 * n) from by have := HX.out; unfold misS at this; rw [if_neg (by omega), if_pos hlt, if_neg (by omega)] at this; exact this)
        clear HX
        have HX := HX0
        clear HX0
        have hny : ¬((n : Int) < y) := by omega
        have H0 := hide h0
        have hnb : ((n : Int) == (1 + (z : Int))) = true := beq_iff_eq.2 h0
        have hn1 : 1 ≤ n := by omega
        clear h0
        by_cases hdp : (1 + (z : Int)) % (2 + (c : Int)) = 0
        · skip
          have HE := HF.out.1
          rw [if_pos hdp] at HE
          have hm0 : (n : Int).tmod (2 + (c : Int)) = 0 := by rw [H0.out, Int.tmod_eq_emod_of_nonneg (by omega)]; exact hdp
          have HEV := hide HE
          clear HE
          go_wp2_with (first | (go_at_call 13; refine (num_any _ _).mono ?_; rintro e w' ⟨rfl, rfl⟩) | fail)
          refine (lbegin (L' := beginL (misA (2 + (c : Int)) (1 + (z : Int)) l y) (1 + (z : Int))) (es := [⟨3, 1, 0, (y : Int)⟩, ⟨1, 1, 0, (1 + (z : Int))⟩]) (N := 0) (ln := 2) (n : Int) HG.out HX.out (by omega) (by unfold beginN; rw [if_pos (tick_of (by omega) (by omega))]) (by rw [H0.out]) (by rw [H0.out]; exact HEV.out) rfl).mono ?_; rintro e W51 ⟨aes, ces, rfl, hX, ho, hg, hk⟩
          have HGn := hide (hg)
          have HXn := hide (hX)
          clear HG HX
          have HG := HGn
          have HX := HXn
          clear HGn HXn
          have Ees := hide ho
          clear hX ho hg hk
          go_upto_region 17 with (first | (go_at_call 13; refine (num_any _ _).mono ?_; rintro e w' ⟨rfl, rfl⟩) | fail)
          have LEes := hide (fun k hk => (World.ownsRow.lt (show W51.ownsRow w.heap.size 68 4 _ _ _ from Ees.out) k hk).2)
          have LBwa := hide HG.out.size
          have hg := World.grownBy_alloc W51 (.cells #[.int .i64 3, .int .i64 1, .int .i64 0, .int .i64 (y : Int)] 68) none
          have HLIT := hide (heap_alloc_new W51 (.cells #[.int .i64 3, .int .i64 1, .int .i64 0, .int .i64 (y : Int)] 68))
          have HSZ := hide hg.size
          have HGn := hide (grownBy_trans HG.out hg)
          have HXn := hide (HX.out.grown hg)
          have Eesn := hide (OwnE.grown Ees.out hg)
          clear HG HX Ees
          have HG := HGn
          have HX := HXn
          have Ees := Eesn
          clear HGn HXn Eesn
          clear hg
          go_wp2_with (first | (at_builtin; refine app_row (S := shE) _ rfl _ _ 41 68 (.agg #[.int .i64 0, .int .i64 0, .int .i64 0, .int .i64 0]) 32 Tryz.underlying41 infoE rfl rfl (W51.heap.size) (.slice none 0 0) 0 ([] : List EvV) rfl (World.ownsRow_nil _ _ _ _) ⟨W51.heap.size, 0, none⟩ 1 1 [(⟨3, 1, 0, (y : Int)⟩ : EvV)] rfl rfl (J.one_at shE (⟨3, 1, 0, (y : Int)⟩ : EvV) HLIT.out) (by omega) (by omega) HSZ.out ?_) | fail)
          intro awa cwa W52 ho hgA hb9
          clear hb9 HLIT HSZ
          replace hgA : _root_.Go.World.grownBy _ W52 none := hgA
          have HGn := hide (grownBy_trans HG.out hgA)
          have HXn := hide (HX.out.grown hgA)
          have Eesn := hide (OwnE.grown Ees.out hgA)
          clear HG HX Ees
          have HG := HGn
          have HX := HXn
          have Ees := Eesn
          clear HGn HXn Eesn
          have Pwa := hide (show W52.ownsRow (W51.heap.size) 68 4 (.slice awa 1 cwa) 1 (shE.cells [⟨3, 1, 0, (y : Int)⟩]) from ho)
          have Ewa := hide (show OwnE w.heap.size W52 (.slice awa 1 cwa) [⟨3, 1, 0, (y : Int)⟩] from own_mono Pwa.out LBwa.out)
          have Swa := hide (show W51.heap.size ≤ W52.heap.size from Nat.le_trans (World.grownBy_alloc W51 (.cells #[.int .i64 3, .int .i64 1, .int .i64 0, .int .i64 (y : Int)] 68) none).size hgA.size)
          clear ho hgA
          go_upto_region 19 with (first | (go_at_call 13; refine (num_any _ _).mono ?_; rintro e w' ⟨rfl, rfl⟩) | fail)
          have hg := World.grownBy_alloc W52 (.cells #[.int .i64 1, .int .i64 1, .int .i64 0, .int .i64 (1 + (z : Int))] 68) none
          have HLIT := hide (heap_alloc_new W52 (.cells #[.int .i64 1, .int .i64 1, .int .i64 0, .int .i64 (1 + (z : Int))] 68))
          have HSZ := hide hg.size
          have HGn := hide (grownBy_trans HG.out hg)
          have HXn := hide (HX.out.grown hg)
          have Eesn := hide (OwnE.grown Ees.out hg)
          have Pwan := hide (own_kept Pwa.out hg)
          clear HG HX Ees Pwa
          have HG := HGn
          have HX := HXn
          have Ees := Eesn
          have Pwa := Pwan
          clear HGn HXn Eesn Pwan
          clear hg
          go_wp2_with (first | (at_builtin; refine app_row (S := shE) _ rfl _ _ 41 68 (.agg #[.int .i64 0, .int .i64 0, .int .i64 0, .int .i64 0]) 32 Tryz.underlying41 infoE rfl rfl (W51.heap.size) (.slice awa 1 cwa) 1 ([⟨3, 1, 0, (y : Int)⟩] : List EvV) rfl Pwa.out ⟨W52.heap.size, 0, none⟩ 1 1 [(⟨1, 1, 0, (1 + (z : Int))⟩ : EvV)] rfl rfl (J.one_at shE (⟨1, 1, 0, (1 + (z : Int))⟩ : EvV) HLIT.out) (by omega) (by omega) (Nat.le_trans Swa.out HSZ.out) ?_) | fail)
          intro awb cwb W53 ho hgA hb9
          clear hb9 HLIT HSZ
          have hown := Pwa.out
          have HGn := hide (J.grown_app HG.out hown LBwa.out hgA)
          have HXn := hide (HX.out.app hown hgA)
          have Eesn := hide (show OwnE w.heap.size W53 _ _ from own_apart Ees.out hown LEes.out hgA)
          clear HG HX Ees
          have HG := HGn
          have HX := HXn
          have Ees := Eesn
          clear HGn HXn Eesn
          have Pwb := hide (show W53.ownsRow (W51.heap.size) 68 4 (.slice awb 2 cwb) 2 (shE.cells [⟨3, 1, 0, (y : Int)⟩, ⟨1, 1, 0, (1 + (z : Int))⟩]) from ho)
          have Ewb := hide (show OwnE w.heap.size W53 (.slice awb 2 cwb) [⟨3, 1, 0, (y : Int)⟩, ⟨1, 1, 0, (1 + (z : Int))⟩] from own_mono Pwb.out LBwa.out)
          have Swb := hide (show W51.heap.size ≤ W53.heap.size from Nat.le_trans Swa.out (Nat.le_trans (World.grownBy_alloc W52 (.cells #[.int .i64 1, .int .i64 1, .int .i64 0, .int .i64 (1 + (z : Int))] 68) none).size hgA.size))
          clear ho hgA hown Pwa Ewa
          go_wp2_with (first | (go_at_call 13; refine (num_any _ _).mono ?_; rintro e w' ⟨rfl, rfl⟩) | fail)
          refine (lsame HG.out Ees.out Ewb.out).mono ?_; rintro e W54 ⟨rfl, hg, -⟩
          have HGn := hide (grownBy_trans HG.out hg)
          have HXn := hide (HX.out.grown hg)
          have Eesn := hide (OwnE.grown Ees.out hg)
          have Ewbn := hide (OwnE.grown Ewb.out hg)
          clear HG HX Ees Ewb
          have HG := HGn
          have HX := HXn
          have Ees := Eesn
          have Ewb := Ewbn
          clear HGn HXn Eesn Ewbn
          clear hg
          go_wp2
          go_roundw
          case rel => exact ⟨n + 1, by omega, by first | rfl | go_num, hide (by have h0 := H0.out; have := HX.out.mono (k := 6 * (n + 1)) (by omega); unfold misS; rw [if_neg (by omega), if_neg (by omega)]; exact this), HG⟩
          case measure => first | (simp [intOf]; omega) | simp [intOf]
        · skip
          have HE := HF.out.1
          rw [if_neg hdp] at HE
          have hlt9 : (1 + (z : Int)) < (2 + (c : Int)) := by rcases Int.lt_or_eq_of_le h2 with h | h; exact h; exact absurd (by rw [h]; exact Int.emod_self) hdp
          have hm0 : (n : Int).tmod (2 + (c : Int)) = n := Int.tmod_eq_of_lt (by omega) (by have := H0.out; omega)
          have hm1 : ¬((n : Int) = 0) := by omega
          have HEV := hide HE
          clear HE
          go_wp2_with (first | (go_at_call 13; refine (num_any _ _).mono ?_; rintro e w' ⟨rfl, rfl⟩) | fail)
          refine (lbegin (L' := beginL (misA (2 + (c : Int)) (1 + (z : Int)) l y) (1 + (z : Int))) (es := [⟨3, 1, 0, (y : Int)⟩]) (N := 0) (ln := 1) (n : Int) HG.out HX.out (by omega) (by unfold beginN; rw [if_pos (tick_of (by omega) (by omega))]) (by rw [H0.out]) (by rw [H0.out]; exact HEV.out) rfl).mono ?_; rintro e W51 ⟨aes, ces, rfl, hX, ho, hg, hk⟩
          have HGn := hide (hg)
          have HXn := hide (hX)
          clear HG HX
          have HG := HGn
          have HX := HXn
          clear HGn HXn
          have Ees := hide ho
          clear hX ho hg hk
          go_upto_region 17 with (first | (go_at_call 13; refine (num_any _ _).mono ?_; rintro e w' ⟨rfl, rfl⟩) | fail)
          have LEes := hide (fun k hk => (World.ownsRow.lt (show W51.ownsRow w.heap.size 68 4 _ _ _ from Ees.out) k hk).2)
          have LBwa := hide HG.out.size
          have hg := World.grownBy_alloc W51 (.cells #[.int .i64 3, .int .i64 1, .int .i64 0, .int .i64 (y : Int)] 68) none
          have HLIT := hide (heap_alloc_new W51 (.cells #[.int .i64 3, .int .i64 1, .int .i64 0, .int .i64 (y : Int)] 68))
          have HSZ := hide hg.size
          have HGn := hide (grownBy_trans HG.out hg)
          have HXn := hide (HX.out.grown hg)
          have Eesn := hide (OwnE.grown Ees.out hg)
          clear HG HX Ees
          have HG := HGn
          have HX := HXn
          have Ees := Eesn
          clear HGn HXn Eesn
          clear hg
          go_wp2_with (first | (at_builtin; refine app_row (S := shE) _ rfl _ _ 41 68 (.agg #[.int .i64 0, .int .i64 0, .int .i64 0, .int .i64 0]) 32 Tryz.underlying41 infoE rfl rfl (W51.heap.size) (.slice none 0 0) 0 ([] : List EvV) rfl (World.ownsRow_nil _ _ _ _) ⟨W51.heap.size, 0, none⟩ 1 1 [(⟨3, 1, 0, (y : Int)⟩ : EvV)] rfl rfl (J.one_at shE (⟨3, 1, 0, (y : Int)⟩ : EvV) HLIT.out) (by omega) (by omega) HSZ.out ?_) | fail)
          intro awa cwa W52 ho hgA hb9
          clear hb9 HLIT HSZ
          replace hgA : _root_.Go.World.grownBy _ W52 none := hgA
          have HGn := hide (grownBy_trans HG.out hgA)
          have HXn := hide (HX.out.grown hgA)
          have Eesn := hide (OwnE.grown Ees.out hgA)
          clear HG HX Ees
          have HG := HGn
          have HX := HXn
          have Ees := Eesn
          clear HGn HXn Eesn
          have Pwa := hide (show W52.ownsRow (W51.heap.size) 68 4 (.slice awa 1 cwa) 1 (shE.cells [⟨3, 1, 0, (y : Int)⟩]) from ho)
          have Ewa := hide (show OwnE w.heap.size W52 (.slice awa 1 cwa) [⟨3, 1, 0, (y : Int)⟩] from own_mono Pwa.out LBwa.out)
          have Swa := hide (show W51.heap.size ≤ W52.heap.size from Nat.le_trans (World.grownBy_alloc W51 (.cells #[.int .i64 3, .int .i64 1, .int .i64 0, .int .i64 (y : Int)] 68) none).size hgA.size)
          clear ho hgA
          go_wp2_with (first | (go_at_call 13; refine (num_any _ _).mono ?_; rintro e w' ⟨rfl, rfl⟩) | fail)
          refine (lsame HG.out Ees.out Ewa.out).mono ?_; rintro e W53 ⟨rfl, hg, -⟩
          have HGn := hide (grownBy_trans HG.out hg)
          have HXn := hide (HX.out.grown hg)
          have Eesn := hide (OwnE.grown Ees.out hg)
          have Ewan := hide (OwnE.grown Ewa.out hg)
          clear HG HX Ees Ewa
          have HG := HGn
          have HX := HXn
          have Ees := Eesn
          have Ewa := Ewan
          clear HGn HXn Eesn Ewan
          clear hg
          go_wp2
          go_roundw
          case rel => exact ⟨n + 1, by omega, by first | rfl | go_num, hide (by have h0 := H0.out; have := HX.out.mono (k := 6 * (n + 1)) (by omega); unfold misS; rw [if_neg (by omega), if_neg (by omega)]; exact this), HG⟩
          case measure => first | (simp [intOf]; omega) | simp [intOf]
    · skip
      have hn2 : (n : Int) = (1 + (z : Int)) + 1 := by omega
      have HX0 := hide (show PX w wr b (beginL (misA (2 + (c : Int)) (1 + (z : Int)) l y) (1 + (z : Int))) (6 * n) from by have := HX.out; unfold misS at this; rw [if_neg (by omega), if_neg (by omega)] at this; exact this)
      clear HX
      have HX := HX0
      clear HX0
      have HF := hide (misE (lv := l) (u := (y : Int)) h1 h2 h3 (by omega) (by omega)).2
      by_cases hdp : (1 + (z : Int)) = (2 + (c : Int))
      · have HR := hide (show decide (0 < (beginL (misA (2 + (c : Int)) (1 + (z : Int)) l y) (1 + (z : Int))).jobs.length) = true from decide_eq_true (HF.out.2 hdp))
        have hb : ((1 + (z : Int)) == (2 + (c : Int))) = true := beq_iff_eq.2 hdp
        go_wp2_with (first | fail)
        refine (lready HX.out HR.out).mono ?_; rintro e w' ⟨rfl, rfl⟩
        go_wp2
        go_ret
        exact ⟨rfl, HG.out⟩
      · have HR := hide (show decide (0 < (beginL (misA (2 + (c : Int)) (1 + (z : Int)) l y) (1 + (z : Int))).jobs.length) = false from decide_eq_false (fun h => hdp (HF.out.1 h)))
        have hb : ((1 + (z : Int)) == (2 + (c : Int))) = false := beq_eq_false_iff_ne.2 hdp
        go_wp2_with (first | fail)
        refine (lready HX.out HR.out).mono ?_; rintro e w' ⟨rfl, rfl⟩
        go_wp2
        go_ret
        exact ⟨rfl, HG.out⟩
#print axioms missed_any
end Go.Proofs.YtlppfocoonnpjaaGreatDoor.L

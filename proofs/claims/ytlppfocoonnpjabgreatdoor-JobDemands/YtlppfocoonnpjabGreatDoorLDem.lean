/- The walk of the statement JobDemands: what is picked is asked for in its row; proved over the translation. -/
import Derived.Test.YtlppfocoonnpjabGreatDoorDem14
namespace Go.Proofs.YtlppfocoonnpjabGreatDoor.L
open Go.RowKit
open Go.Proofs.YtlppfocoonnpjabGreatDoor.J (JobV jobAt jobVal shJ blk_cell box_lt box_grown type_box type_own own_type own_mono row_cell)
attribute [local go_sem] alloc_drewN setCell_drewN

/-- The schedule ahead of the k-th begin. -/
def demS (p : Int) (zs : List Int) (k : Nat) : LocV := if k = 1 then demP p zs else demA p (zs.drop (k - 1)) ((k : Int) - 1) ((zs.drop (k - 2))[0]?.getD 2)
theorem drop_in {zs : List Int} {k : Nat} (h : ∀ d, d ∈ zs → 1 ≤ d ∧ d ≤ 256) : ∀ d, d ∈ zs.drop k → 1 ≤ d ∧ d ≤ 256 := fun d hd => h d (List.mem_of_mem_drop hd)
theorem dem_one {p : Int} {zs : List Int} (h1 : 5 ≤ p) (h2 : p ≤ 12) (h3 : zs.length ≤ 4) (h4 : ∀ d, d ∈ zs → 1 ≤ d ∧ d ≤ 256) : beginL (demS p zs 1) (((1 : Nat) : Int) * p) = demS p zs 2 ∧ beginV (demS p zs 1) (((1 : Nat) : Int) * p) = [⟨1, 0, 0, (zs.drop 0)[0]?.getD 2⟩] := by
  have h := dem1 h1 h2 h3 h4
  exact h
theorem dem_more {p : Int} {zs : List Int} {k : Nat} (h1 : 5 ≤ p) (h2 : p ≤ 12) (h3 : zs.length ≤ 4) (h4 : ∀ d, d ∈ zs → 1 ≤ d ∧ d ≤ 256) (hk : 2 ≤ k) (hk6 : k ≤ 6) : beginL (demS p zs k) ((k : Int) * p) = demS p zs (k + 1) ∧ beginV (demS p zs k) ((k : Int) * p) = [⟨3, 0, 0, 0⟩, ⟨1, 0, 0, (zs.drop (k - 1))[0]?.getD 2⟩] := by
  have hx := dem_x (drop_in (k := k - 2) h4)
  have h := demK (p := p) (k := (k : Int) - 1) (x := (zs.drop (k - 2))[0]?.getD 2) (ds := zs.drop (k - 1)) h1 h2 (by rw [List.length_drop]; omega) (drop_in h4) (by omega) (by omega) hx.1 hx.2
  rw [Int.sub_add_cancel] at h
  unfold demS
  rw [if_neg (show ¬k = 1 by omega), if_neg (show ¬k + 1 = 1 by omega)]
  rw [List.drop_drop] at h
  rw [show k - 1 + 1 = k by omega] at h
  rw [show k + 1 - 1 = k by omega, show k + 1 - 2 = k - 1 by omega, show ((k + 1 : Nat) : Int) - 1 = (k : Int) by omega]
  exact h
set_option maxRecDepth 100000 in
set_option maxHeartbeats 16000000 in
theorem demands_any (v : Value) (ds : List Int) (a1 : Int) (w : World) (hv : RowAt U.shN 0 w v ds) (hT : Tab w) : Calls Tryz.prog 3 #[v, .int .i64 a1] w fun e w' => e = .returned (.bool true) ∧ w.grownBy w' none := by
  have HRD := hide hv
  obtain ⟨-, ad, cd, hve, -⟩ := id hv
  subst hve
  have HT := hide (fun V (hg : w.grownBy V none) => hT.grown hg)
  have HG := hide (grownBy_refl w none)
  obtain ⟨c, hc, ec⟩ := and3 a1
  have k1 : 5 ≤ (5 + (c : Int)) := by omega
  have k2 : (5 + (c : Int)) ≤ 12 := by omega
  have HOK := hide (one_ok (i := 0) (l := 1) (t := tD (5 + (c : Int))) (by decide) (by decide) (Or.inr rfl) (tD_may k1 k2) (fun h => absurd h (by decide)))
  have hl63 := hv.1
  clear hT hv
  generalize hn : ds.length = n at *
  have HN := hide hn
  clear hn
  have CA := hide (fun V hT => awake_any V hT)
  go_enter Tryz.func3, Tryz.ntmps3
  go_wp2_with (first | (go_at_call 6; refine (num_any _ _).mono ?_; rintro e w' ⟨rfl, rfl⟩) | fail)
  refine (CA.out _ (HT.out _ HG.out)).mono ?_; rintro e W1 ⟨rfl, hg⟩
  have HGn := hide (grownBy_trans HG.out hg)
  clear HG
  have HG := HGn
  clear HGn
  clear hg
  go_wp2_with (first | (go_at_call 6; refine (num_any _ _).mono ?_; rintro e w' ⟨rfl, rfl⟩) | fail)
  have hg := World.grownBy_alloc W1 (.cells #[.int .i64 0, .int .i64 (5 + (c : Int)), .int .i64 5, .int .i64 2, .int .i64 5, .int .i64 0] 29) none
  have HPI : Hid (PartIs 0 (W1.alloc (.cells #[.int .i64 0, .int .i64 (5 + (c : Int)), .int .i64 5, .int .i64 2, .int .i64 5, .int .i64 0] 29)) ⟨1, some ⟨W1.heap.size, 0, none⟩, 1, 1, none, 0, 0⟩ ⟨1, [tD (5 + (c : Int))], []⟩) := hide ⟨rfl, RowAt.mono (rowAt_lit (S := shT) W1 [tD (5 + (c : Int))] 29 (by simp)) (Nat.zero_le _), rowAt_nil _ _ _ _⟩
  have HGn := hide (grownBy_trans HG.out hg)
  clear HG
  have HG := HGn
  clear HGn
  clear hg ec
  refine (lnew 0 HG.out (HT.out _ HG.out) HPI.out HOK.out).mono ?_; rintro e W2 ⟨b, rfl, hX, hg, -⟩
  have HGn := hide (hg)
  clear HG
  have HG := HGn
  clear HGn
  have HX := hide (show PXq w W2 b (demP (5 + (c : Int)) []) 0 (.slice none 0 0) from PX.nil hX)
  clear hX hg HPI HOK CA HT
  have HR0 := hide (World.ownsRow_nil W2 w.heap.size 3 1)
  go_wp2_with (first | (go_at_call 6; refine (num_any _ _).mono ?_; rintro e w' ⟨rfl, rfl⟩) | fail)
  go_loopw [8, 9] (fun r i V => ∃ (k : Nat) (zs : List Int) (ar : Option Addr) (nz cr : Nat), k ≤ 6 ∧ k ≤ n ∧ i = .int .i64 k ∧ r = .slice ar nz cr ∧ Hid (nz = min k 4) ∧ Hid (zs.length = nz) ∧ Hid (∀ d, d ∈ zs → 1 ≤ d ∧ d ≤ 256) ∧ Hid (V.ownsRow w.heap.size 3 1 (.slice ar nz cr) nz (U.shN.cells zs)) ∧ Hid (PXq w V b (demP (5 + (c : Int)) zs) 0 (.slice ar nz cr)) ∧ Hid (w.grownBy V none)) (fun _ i _ => n - (intOf i).toNat)
  case atStart => exact ⟨0, [], none, 0, 0, by omega, by omega, rfl, rfl, hide (by decide), hide rfl, hide (fun d hd => by cases hd), HR0, HX, HG⟩
  case round =>
    clear HR0 HX HG
    obtain ⟨k, zs, ar, nz, cr, hk6, hkn, rfl, rfl, HNZ, HZL, HZ, HR, HX, HG⟩ := hrel
    have hk0 : ¬((k : Int) < 0) := by omega
    rcases (by omega : (k < n ∧ k < 6) ∨ (k < n ∧ ¬k < 6) ∨ ¬k < n) with ⟨hlt, hl6⟩ | ⟨hlt, hl6⟩ | hlt
    · skip
      have hkn2 : (k : Int) < n := by omega
      have hk62 : (k : Int) < 6 := by omega
      have hr := HRD.out.grown HG.out
      obtain ⟨g2, o2, had⟩ := J.row_addr hr (by omega)
      subst had
      obtain ⟨z, hz⟩ : ∃ z, ds[k]? = some z := ⟨_, List.getElem?_eq_getElem (by rw [HN.out]; exact hlt)⟩
      have d0 : wr.cell? ⟨g2, o2 + k, none⟩ = some (.int .i64 z) := by have := row_cell (S := U.shN) (j := k) hr hz (k := 0) rfl; have e9 : o2 + k * U.shN.k + 0 = o2 + k := (by show o2 + k * 1 + 0 = o2 + k; omega); rw [e9] at this; exact this
      obtain ⟨c8, hc8, ec8⟩ := and8 z
      clear hr hz
      have HF := hide (demPick (p := (5 + (c : Int))) (ds := zs) (d := 1 + (c8 : Int)) k1 k2 (by have := HZL.out; have := HNZ.out; omega) HZ.out (by omega) (by omega))
      by_cases hk4 : k < 4
      · skip
        have hk4i : (k : Int) < 4 := by omega
        have HL4 := hide (show ¬zs.length = 4 by have := HZL.out; have := HNZ.out; omega)
        have HF2 := hide (show pickN (demP (5 + (c : Int)) zs) 0 (1 + (c8 : Int)) 1 = 0 ∧ pickL (demP (5 + (c : Int)) zs) 0 (1 + (c8 : Int)) 1 = demP (5 + (c : Int)) (zs ++ [1 + (c8 : Int)]) ∧ pickV (demP (5 + (c : Int)) zs) 0 (1 + (c8 : Int)) 1 = [] from by have := HF.out; rw [if_neg HL4.out, if_neg HL4.out] at this; exact this)
        clear HF
        go_wp2_with (first | (go_at_call 6; refine (num_any _ _).mono ?_; rintro e w' ⟨rfl, rfl⟩) | fail)
        refine (lpickq (ln := 0) 0 (1 + (c8 : Int)) 1 HG.out HX.out HR.out HF2.out.1 HF2.out.2.1 HF2.out.2.2 rfl).mono ?_; rintro e W70 ⟨az, cz, rfl, hX, hr, hg⟩
        clear d0 ec8 HX HR HG HF2
        have HX := hide hX
        have HR := hide hr
        have HG := hide hg
        clear hX hr hg
        go_upto_region 16 with (first | (go_at_call 6; refine (num_any _ _).mono ?_; rintro e w' ⟨rfl, rfl⟩) | fail)
        have hgl := World.grownBy_alloc W70 (.cells #[.int .i64 (1 + (c8 : Int))] 3) none
        have HLIT := hide (heap_alloc_new W70 (.cells #[.int .i64 (1 + (c8 : Int))] 3))
        have HX1 := hide (HX.out.grown hgl)
        have HR1 := hide (own_kept HR.out hgl)
        have HG1 := hide (grownBy_trans HG.out hgl)
        have HSZ := hide (Nat.le_trans HG.out.size hgl.size)
        clear hgl HX HR HG
        have hnz5 : nz ≤ 4 := by have := HNZ.out; omega
        go_wp2_with (first | (at_builtin; refine app_row (S := U.shN) _ rfl _ _ 22 3 (.int .i64 0) 8 Tryz.underlying22 infoI rfl rfl w.heap.size (.slice ar nz cr) nz zs rfl HR1.out ⟨W70.heap.size, 0, none⟩ 1 1 [(1 + (c8 : Int) : Int)] rfl rfl (J.one_at U.shN (1 + (c8 : Int) : Int) HLIT.out) (by omega) (by omega) HSZ.out ?_) | fail)
        intro a9 c9 W71 ho hgA hb9
        clear HLIT
        have HX2 := hide (HX1.out.app HR1.out hgA (by simpa using hb9) (fun k hk => (World.ownsRow.lt ho k hk).2))
        have HR2 := hide (show W71.ownsRow w.heap.size 3 1 (.slice a9 (nz + 1) c9) (nz + 1) (U.shN.cells (zs ++ [1 + (c8 : Int)])) from ho)
        have HG2 := hide (J.grown_app HG1.out HR1.out (Nat.le_refl _) hgA)
        clear ho hgA hb9 HX1 HR1 HG1 HSZ
        go_wp2
        go_roundw
        case rel => exact ⟨k + 1, zs ++ [1 + (c8 : Int)], a9, nz + 1, c9, by omega, by omega, by first | rfl | go_num, by first | rfl | go_num, hide (by have := HNZ.out; omega), hide (by rw [List.length_append]; have := HZL.out; simp; omega), hide (fun d hd => by rcases List.mem_append.1 hd with h | h; exact HZ.out d h; (simp only [List.mem_singleton] at h; omega)), HR2, HX2, HG2⟩
        case measure => simp [intOf]; omega
      · skip
        have hk4i : ¬((k : Int) < 4) := by omega
        have HL4 := hide (show zs.length = 4 by have := HZL.out; have := HNZ.out; omega)
        have HF2 := hide (show pickN (demP (5 + (c : Int)) zs) 0 (1 + (c8 : Int)) 1 = 1101 ∧ pickL (demP (5 + (c : Int)) zs) 0 (1 + (c8 : Int)) 1 = demP (5 + (c : Int)) zs ∧ pickV (demP (5 + (c : Int)) zs) 0 (1 + (c8 : Int)) 1 = [] from by have := HF.out; rw [if_pos HL4.out, if_pos HL4.out] at this; exact this)
        clear HF
        go_wp2_with (first | (go_at_call 6; refine (num_any _ _).mono ?_; rintro e w' ⟨rfl, rfl⟩) | fail)
        refine (lpickq (ln := 0) 0 (1 + (c8 : Int)) 1 HG.out HX.out HR.out HF2.out.1 HF2.out.2.1 HF2.out.2.2 rfl).mono ?_; rintro e W70 ⟨az, cz, rfl, hX, hr, hg⟩
        clear d0 ec8 HX HR HG HF2
        have HX := hide hX
        have HR := hide hr
        have HG := hide hg
        clear hX hr hg
        go_wp2_with (first | (go_at_call 6; refine (num_any _ _).mono ?_; rintro e w' ⟨rfl, rfl⟩) | fail)
        go_roundw
        case rel => exact ⟨k + 1, zs, ar, nz, cr, by omega, by omega, by first | rfl | go_num, rfl, hide (by have := HNZ.out; omega), HZL, HZ, HR, HX, HG⟩
        case measure => simp [intOf]; omega
    · skip
      have hkn2 : (k : Int) < n := by omega
      have hk62 : ¬((k : Int) < 6) := by omega
      have HRK := HR
      have HP0 := hide (show PX w wr b (demS (5 + (c : Int)) zs 1) (6 * 1) from HX.out.px.mono (by omega))
      have HRR : Hid True := hide trivial
      have hnz4 : nz ≤ 4 := by have := HNZ.out; omega
      clear HX HR
      go_wp2_with (first | (go_at_call 6; refine (num_any _ _).mono ?_; rintro e w' ⟨rfl, rfl⟩) | fail)
      go_loopw [13] (fun i V => ∃ (k : Nat), 1 ≤ k ∧ k ≤ 7 ∧ i = .int .i64 k ∧ Hid (PX w V b (demS (5 + (c : Int)) zs k) (6 * k)) ∧ Hid (V.ownsRow w.heap.size 3 1 (.slice ar nz cr) nz (U.shN.cells zs)) ∧ Hid (w.grownBy V none)) (fun i _ => 8 - (intOf i).toNat)
      case atStart => exact ⟨1, by omega, by omega, rfl, HP0, HRK, HG⟩
      case round =>
        clear HP0 HRK HG
        obtain ⟨k, hk1, hk7, rfl, HX, HR, HG⟩ := hrel
        by_cases hlt : k ≤ 6
        · have hki : (k : Int) ≤ 6 := by omega
          have hkp : 0 ≤ (k : Int) * (5 + (c : Int)) ∧ (k : Int) * (5 + (c : Int)) ≤ 72 := (by obtain ⟨-, -, h1, h2⟩ := dem_is (k := (k : Int)) (x := -1) k1 k2 (by have := HZL.out; omega) HZ.out (by omega) (by omega) (by decide) (by decide); exact ⟨h1, h2⟩)
          obtain ⟨tk, htk⟩ : ∃ t, (k : Int) * (5 + (c : Int)) = t := ⟨_, rfl⟩
          rw [htk] at hkp
          have HTK := hide htk
          have hwm : IntKind.i64.wrap ((k : Int) * (5 + (c : Int))) = tk := by rw [htk, IntKind.wrap_i64]; omega
          clear htk
          obtain ⟨x, hx⟩ : ∃ x, (zs.drop (k - 1))[0]?.getD 2 = x := ⟨_, rfl⟩
          have HXX := hide hx
          clear hx
          have HBN := hide (show beginN tk = 0 from by unfold beginN; rw [if_pos (tick_of (by omega) (by omega))])
          clear hkp
          rcases (by omega : k = 1 ∨ 2 ≤ k) with hone | hmany
          · skip
            have hx9 : tk = (5 + (c : Int)) := by rw [← HTK.out, hone]; simp
            have HF := hide (dem_one k1 k2 (by have := HZL.out; omega) HZ.out)
            subst hone
            rw [HTK.out, HXX.out] at HF
            subst hx9
            clear hwm
            go_wp2_with (first | (go_at_call 6; refine (num_any _ _).mono ?_; rintro e w' ⟨rfl, rfl⟩) | fail)
            refine (lbegin (L' := demS (5 + (c : Int)) zs (1 + 1)) (es := [⟨1, 0, 0, x⟩]) (ln := 1) (5 + (c : Int)) HG.out HX.out (by omega) HBN.out HF.out.1 HF.out.2 rfl).mono ?_; rintro e W60 ⟨aes, ces, rfl, hX, ho, hg, hkp⟩
            have HRn := hide (show W60.ownsRow w.heap.size 3 1 (.slice ar nz cr) nz (U.shN.cells zs) from hkp.row HR.out (by decide) (by decide) (by decide))
            clear HX HG HR
            have HX := hide hX
            have HG := hide hg
            have HR := HRn
            have HE := hide ho
            clear hX ho hg hkp HRn HF
            obtain ⟨ge, ce2, e2, -⟩ := own_at (n := 1) (show W60.ownsRow w.heap.size 40 4 (.slice aes 1 ces) 1 (shE.cells [⟨1, 0, 0, x⟩]) from HE.out) (by decide)
            simp only [Value.slice.injEq, true_and] at e2
            obtain ⟨rfl, rfl⟩ := e2
            have e0 : W60.cell? ⟨ge, 0, none⟩ = some (.int .i64 1) := own_cell (S := shE) (show W60.ownsRow w.heap.size 40 4 (.slice (some ⟨ge, 0, none⟩) 1 ces) 1 (shE.cells [⟨1, 0, 0, x⟩]) from HE.out) (j := 0) (i := 0) rfl rfl
            have e1 : W60.cell? ⟨ge, 1, none⟩ = some (.int .i64 0) := own_cell (S := shE) (show W60.ownsRow w.heap.size 40 4 (.slice (some ⟨ge, 0, none⟩) 1 ces) 1 (shE.cells [⟨1, 0, 0, x⟩]) from HE.out) (j := 0) (i := 1) rfl rfl
            have e2 : W60.cell? ⟨ge, 2, none⟩ = some (.int .i64 0) := own_cell (S := shE) (show W60.ownsRow w.heap.size 40 4 (.slice (some ⟨ge, 0, none⟩) 1 ces) 1 (shE.cells [⟨1, 0, 0, x⟩]) from HE.out) (j := 0) (i := 2) rfl rfl
            have e3 : W60.cell? ⟨ge, 3, none⟩ = some (.int .i64 x) := own_cell (S := shE) (show W60.ownsRow w.heap.size 40 4 (.slice (some ⟨ge, 0, none⟩) 1 ces) 1 (shE.cells [⟨1, 0, 0, x⟩]) from HE.out) (j := 0) (i := 3) rfl rfl
            by_cases hle : 1 ≤ nz
            · skip
              have hlei : (1 : Int) ≤ (nz : Int) := by omega
              obtain ⟨gr, cr2, e3, -⟩ := own_at HR.out (by omega)
              simp only [Value.slice.injEq, true_and] at e3
              obtain ⟨rfl, rfl⟩ := e3
              have hxz : zs[1 - 1]? = some x := by have h9 := HXX.out; rw [List.getElem?_drop] at h9; rw [List.getElem?_eq_getElem (show 1 - 1 < zs.length by have := HZL.out; omega)]; rw [Nat.add_zero, List.getElem?_eq_getElem (show 1 - 1 < zs.length by have := HZL.out; omega)] at h9; exact congrArg some h9
              have r0 : W60.cell? ⟨gr, 0, none⟩ = some (.int .i64 x) := by have := own_cell (S := U.shN) HR.out hxz (i := 0) rfl; have e9 : (1 - 1) * U.shN.k + 0 = 0 := (by show (1 - 1) * 1 + 0 = 0; omega); rw [e9] at this; exact this
              clear hxz
              go_wp2_with (first | (go_at_call 6; refine (num_any _ _).mono ?_; rintro e w' ⟨rfl, rfl⟩) | fail)
              go_roundw
              case rel => exact ⟨1 + 1, by omega, by omega, by first | rfl | go_num, HX, HR, HG⟩
              case measure => first | (simp [intOf]; omega) | simp [intOf]
            · skip
              have hlei : ¬((1 : Int) ≤ (nz : Int)) := by omega
              have hx2 : x = 2 := by have h9 := HXX.out; rw [List.drop_eq_nil_of_le (by have := HZL.out; omega)] at h9; exact h9.symm
              subst hx2
              go_wp2_with (first | (go_at_call 6; refine (num_any _ _).mono ?_; rintro e w' ⟨rfl, rfl⟩) | fail)
              go_roundw
              case rel => exact ⟨1 + 1, by omega, by omega, by first | rfl | go_num, HX, HR, HG⟩
              case measure => first | (simp [intOf]; omega) | simp [intOf]
          · skip
            have HF := hide (dem_more (k := k) k1 k2 (by have := HZL.out; omega) HZ.out hmany hlt)
            rw [HTK.out, HXX.out] at HF
            go_wp2_with (first | (go_at_call 6; refine (num_any _ _).mono ?_; rintro e w' ⟨rfl, rfl⟩) | fail)
            refine (lbegin (L' := demS (5 + (c : Int)) zs (k + 1)) (es := [⟨3, 0, 0, 0⟩, ⟨1, 0, 0, x⟩]) (ln := 2) tk HG.out HX.out (by omega) HBN.out HF.out.1 HF.out.2 rfl).mono ?_; rintro e W60 ⟨aes, ces, rfl, hX, ho, hg, hkp⟩
            have HRn := hide (show W60.ownsRow w.heap.size 3 1 (.slice ar nz cr) nz (U.shN.cells zs) from hkp.row HR.out (by decide) (by decide) (by decide))
            clear HX HG HR
            have HX := hide hX
            have HG := hide hg
            have HR := HRn
            have HE := hide ho
            clear hX ho hg hkp HRn HF
            obtain ⟨ge, ce2, e2, -⟩ := own_at (n := 2) (show W60.ownsRow w.heap.size 40 4 (.slice aes 2 ces) 2 (shE.cells [⟨3, 0, 0, 0⟩, ⟨1, 0, 0, x⟩]) from HE.out) (by decide)
            simp only [Value.slice.injEq, true_and] at e2
            obtain ⟨rfl, rfl⟩ := e2
            have e0 : W60.cell? ⟨ge, 4, none⟩ = some (.int .i64 1) := own_cell (S := shE) (show W60.ownsRow w.heap.size 40 4 (.slice (some ⟨ge, 0, none⟩) 2 ces) 2 (shE.cells [⟨3, 0, 0, 0⟩, ⟨1, 0, 0, x⟩]) from HE.out) (j := 1) (i := 0) rfl rfl
            have e1 : W60.cell? ⟨ge, 5, none⟩ = some (.int .i64 0) := own_cell (S := shE) (show W60.ownsRow w.heap.size 40 4 (.slice (some ⟨ge, 0, none⟩) 2 ces) 2 (shE.cells [⟨3, 0, 0, 0⟩, ⟨1, 0, 0, x⟩]) from HE.out) (j := 1) (i := 1) rfl rfl
            have e2 : W60.cell? ⟨ge, 6, none⟩ = some (.int .i64 0) := own_cell (S := shE) (show W60.ownsRow w.heap.size 40 4 (.slice (some ⟨ge, 0, none⟩) 2 ces) 2 (shE.cells [⟨3, 0, 0, 0⟩, ⟨1, 0, 0, x⟩]) from HE.out) (j := 1) (i := 2) rfl rfl
            have e3 : W60.cell? ⟨ge, 7, none⟩ = some (.int .i64 x) := own_cell (S := shE) (show W60.ownsRow w.heap.size 40 4 (.slice (some ⟨ge, 0, none⟩) 2 ces) 2 (shE.cells [⟨3, 0, 0, 0⟩, ⟨1, 0, 0, x⟩]) from HE.out) (j := 1) (i := 3) rfl rfl
            by_cases hle : k ≤ nz
            · skip
              have hlei : ((k : Int) : Int) ≤ (nz : Int) := by omega
              obtain ⟨gr, cr2, e3, -⟩ := own_at HR.out (by omega)
              simp only [Value.slice.injEq, true_and] at e3
              obtain ⟨rfl, rfl⟩ := e3
              have hxz : zs[k - 1]? = some x := by have h9 := HXX.out; rw [List.getElem?_drop] at h9; rw [List.getElem?_eq_getElem (show k - 1 < zs.length by have := HZL.out; omega)]; rw [Nat.add_zero, List.getElem?_eq_getElem (show k - 1 < zs.length by have := HZL.out; omega)] at h9; exact congrArg some h9
              have r0 : W60.cell? ⟨gr, k - 1, none⟩ = some (.int .i64 x) := by have := own_cell (S := U.shN) HR.out hxz (i := 0) rfl; have e9 : (k - 1) * U.shN.k + 0 = k - 1 := (by show (k - 1) * 1 + 0 = k - 1; omega); rw [e9] at this; exact this
              clear hxz
              have hsub : ((k : Int) - 1) = ((k - 1 : Nat) : Int) := by omega
              have hs0 : ¬(((k : Int) - 1) < 0) := by omega
              have hs1 : ((k : Int) - 1) < (nz : Int) := by omega
              go_wp2_with (first | (go_at_call 6; refine (num_any _ _).mono ?_; rintro e w' ⟨rfl, rfl⟩) | fail)
              go_roundw
              case rel => exact ⟨k + 1, by omega, by omega, by first | rfl | go_num, HX, HR, HG⟩
              case measure => first | (simp [intOf]; omega) | simp [intOf]
            · skip
              have hlei : ¬(((k : Int) : Int) ≤ (nz : Int)) := by omega
              have hx2 : x = 2 := by have h9 := HXX.out; rw [List.drop_eq_nil_of_le (by have := HZL.out; omega)] at h9; exact h9.symm
              subst hx2
              go_wp2_with (first | (go_at_call 6; refine (num_any _ _).mono ?_; rintro e w' ⟨rfl, rfl⟩) | fail)
              go_roundw
              case rel => exact ⟨k + 1, by omega, by omega, by first | rfl | go_num, HX, HR, HG⟩
              case measure => first | (simp [intOf]; omega) | simp [intOf]
        · have hki : ¬((k : Int) ≤ 6) := by omega
          go_wp2
          go_ret
          exact ⟨rfl, HG.out⟩
    · skip
      have hkn2 : ¬((k : Int) < n) := by omega
      have HRK := HR
      have HP0 := hide (show PX w wr b (demS (5 + (c : Int)) zs 1) (6 * 1) from HX.out.px.mono (by omega))
      have HRR : Hid True := hide trivial
      have hnz4 : nz ≤ 4 := by have := HNZ.out; omega
      clear HX HR
      go_wp2_with (first | (go_at_call 6; refine (num_any _ _).mono ?_; rintro e w' ⟨rfl, rfl⟩) | fail)
      go_loopw [13] (fun i V => ∃ (k : Nat), 1 ≤ k ∧ k ≤ 7 ∧ i = .int .i64 k ∧ Hid (PX w V b (demS (5 + (c : Int)) zs k) (6 * k)) ∧ Hid (V.ownsRow w.heap.size 3 1 (.slice ar nz cr) nz (U.shN.cells zs)) ∧ Hid (w.grownBy V none)) (fun i _ => 8 - (intOf i).toNat)
      case atStart => exact ⟨1, by omega, by omega, rfl, HP0, HRK, HG⟩
      case round =>
        clear HP0 HRK HG
        obtain ⟨k, hk1, hk7, rfl, HX, HR, HG⟩ := hrel
        by_cases hlt : k ≤ 6
        · have hki : (k : Int) ≤ 6 := by omega
          have hkp : 0 ≤ (k : Int) * (5 + (c : Int)) ∧ (k : Int) * (5 + (c : Int)) ≤ 72 := (by obtain ⟨-, -, h1, h2⟩ := dem_is (k := (k : Int)) (x := -1) k1 k2 (by have := HZL.out; omega) HZ.out (by omega) (by omega) (by decide) (by decide); exact ⟨h1, h2⟩)
          obtain ⟨tk, htk⟩ : ∃ t, (k : Int) * (5 + (c : Int)) = t := ⟨_, rfl⟩
          rw [htk] at hkp
          have HTK := hide htk
          have hwm : IntKind.i64.wrap ((k : Int) * (5 + (c : Int))) = tk := by rw [htk, IntKind.wrap_i64]; omega
          clear htk
          obtain ⟨x, hx⟩ : ∃ x, (zs.drop (k - 1))[0]?.getD 2 = x := ⟨_, rfl⟩
          have HXX := hide hx
          clear hx
          have HBN := hide (show beginN tk = 0 from by unfold beginN; rw [if_pos (tick_of (by omega) (by omega))])
          clear hkp
          rcases (by omega : k = 1 ∨ 2 ≤ k) with hone | hmany
          · skip
            have hx9 : tk = (5 + (c : Int)) := by rw [← HTK.out, hone]; simp
            have HF := hide (dem_one k1 k2 (by have := HZL.out; omega) HZ.out)
            subst hone
            rw [HTK.out, HXX.out] at HF
            subst hx9
            clear hwm
            go_wp2_with (first | (go_at_call 6; refine (num_any _ _).mono ?_; rintro e w' ⟨rfl, rfl⟩) | fail)
            refine (lbegin (L' := demS (5 + (c : Int)) zs (1 + 1)) (es := [⟨1, 0, 0, x⟩]) (ln := 1) (5 + (c : Int)) HG.out HX.out (by omega) HBN.out HF.out.1 HF.out.2 rfl).mono ?_; rintro e W60 ⟨aes, ces, rfl, hX, ho, hg, hkp⟩
            have HRn := hide (show W60.ownsRow w.heap.size 3 1 (.slice ar nz cr) nz (U.shN.cells zs) from hkp.row HR.out (by decide) (by decide) (by decide))
            clear HX HG HR
            have HX := hide hX
            have HG := hide hg
            have HR := HRn
            have HE := hide ho
            clear hX ho hg hkp HRn HF
            obtain ⟨ge, ce2, e2, -⟩ := own_at (n := 1) (show W60.ownsRow w.heap.size 40 4 (.slice aes 1 ces) 1 (shE.cells [⟨1, 0, 0, x⟩]) from HE.out) (by decide)
            simp only [Value.slice.injEq, true_and] at e2
            obtain ⟨rfl, rfl⟩ := e2
            have e0 : W60.cell? ⟨ge, 0, none⟩ = some (.int .i64 1) := own_cell (S := shE) (show W60.ownsRow w.heap.size 40 4 (.slice (some ⟨ge, 0, none⟩) 1 ces) 1 (shE.cells [⟨1, 0, 0, x⟩]) from HE.out) (j := 0) (i := 0) rfl rfl
            have e1 : W60.cell? ⟨ge, 1, none⟩ = some (.int .i64 0) := own_cell (S := shE) (show W60.ownsRow w.heap.size 40 4 (.slice (some ⟨ge, 0, none⟩) 1 ces) 1 (shE.cells [⟨1, 0, 0, x⟩]) from HE.out) (j := 0) (i := 1) rfl rfl
            have e2 : W60.cell? ⟨ge, 2, none⟩ = some (.int .i64 0) := own_cell (S := shE) (show W60.ownsRow w.heap.size 40 4 (.slice (some ⟨ge, 0, none⟩) 1 ces) 1 (shE.cells [⟨1, 0, 0, x⟩]) from HE.out) (j := 0) (i := 2) rfl rfl
            have e3 : W60.cell? ⟨ge, 3, none⟩ = some (.int .i64 x) := own_cell (S := shE) (show W60.ownsRow w.heap.size 40 4 (.slice (some ⟨ge, 0, none⟩) 1 ces) 1 (shE.cells [⟨1, 0, 0, x⟩]) from HE.out) (j := 0) (i := 3) rfl rfl
            by_cases hle : 1 ≤ nz
            · skip
              have hlei : (1 : Int) ≤ (nz : Int) := by omega
              obtain ⟨gr, cr2, e3, -⟩ := own_at HR.out (by omega)
              simp only [Value.slice.injEq, true_and] at e3
              obtain ⟨rfl, rfl⟩ := e3
              have hxz : zs[1 - 1]? = some x := by have h9 := HXX.out; rw [List.getElem?_drop] at h9; rw [List.getElem?_eq_getElem (show 1 - 1 < zs.length by have := HZL.out; omega)]; rw [Nat.add_zero, List.getElem?_eq_getElem (show 1 - 1 < zs.length by have := HZL.out; omega)] at h9; exact congrArg some h9
              have r0 : W60.cell? ⟨gr, 0, none⟩ = some (.int .i64 x) := by have := own_cell (S := U.shN) HR.out hxz (i := 0) rfl; have e9 : (1 - 1) * U.shN.k + 0 = 0 := (by show (1 - 1) * 1 + 0 = 0; omega); rw [e9] at this; exact this
              clear hxz
              go_wp2_with (first | (go_at_call 6; refine (num_any _ _).mono ?_; rintro e w' ⟨rfl, rfl⟩) | fail)
              go_roundw
              case rel => exact ⟨1 + 1, by omega, by omega, by first | rfl | go_num, HX, HR, HG⟩
              case measure => first | (simp [intOf]; omega) | simp [intOf]
            · skip
              have hlei : ¬((1 : Int) ≤ (nz : Int)) := by omega
              have hx2 : x = 2 := by have h9 := HXX.out; rw [List.drop_eq_nil_of_le (by have := HZL.out; omega)] at h9; exact h9.symm
              subst hx2
              go_wp2_with (first | (go_at_call 6; refine (num_any _ _).mono ?_; rintro e w' ⟨rfl, rfl⟩) | fail)
              go_roundw
              case rel => exact ⟨1 + 1, by omega, by omega, by first | rfl | go_num, HX, HR, HG⟩
              case measure => first | (simp [intOf]; omega) | simp [intOf]
          · skip
            have HF := hide (dem_more (k := k) k1 k2 (by have := HZL.out; omega) HZ.out hmany hlt)
            rw [HTK.out, HXX.out] at HF
            go_wp2_with (first | (go_at_call 6; refine (num_any _ _).mono ?_; rintro e w' ⟨rfl, rfl⟩) | fail)
            refine (lbegin (L' := demS (5 + (c : Int)) zs (k + 1)) (es := [⟨3, 0, 0, 0⟩, ⟨1, 0, 0, x⟩]) (ln := 2) tk HG.out HX.out (by omega) HBN.out HF.out.1 HF.out.2 rfl).mono ?_; rintro e W60 ⟨aes, ces, rfl, hX, ho, hg, hkp⟩
            have HRn := hide (show W60.ownsRow w.heap.size 3 1 (.slice ar nz cr) nz (U.shN.cells zs) from hkp.row HR.out (by decide) (by decide) (by decide))
            clear HX HG HR
            have HX := hide hX
            have HG := hide hg
            have HR := HRn
            have HE := hide ho
            clear hX ho hg hkp HRn HF
            obtain ⟨ge, ce2, e2, -⟩ := own_at (n := 2) (show W60.ownsRow w.heap.size 40 4 (.slice aes 2 ces) 2 (shE.cells [⟨3, 0, 0, 0⟩, ⟨1, 0, 0, x⟩]) from HE.out) (by decide)
            simp only [Value.slice.injEq, true_and] at e2
            obtain ⟨rfl, rfl⟩ := e2
            have e0 : W60.cell? ⟨ge, 4, none⟩ = some (.int .i64 1) := own_cell (S := shE) (show W60.ownsRow w.heap.size 40 4 (.slice (some ⟨ge, 0, none⟩) 2 ces) 2 (shE.cells [⟨3, 0, 0, 0⟩, ⟨1, 0, 0, x⟩]) from HE.out) (j := 1) (i := 0) rfl rfl
            have e1 : W60.cell? ⟨ge, 5, none⟩ = some (.int .i64 0) := own_cell (S := shE) (show W60.ownsRow w.heap.size 40 4 (.slice (some ⟨ge, 0, none⟩) 2 ces) 2 (shE.cells [⟨3, 0, 0, 0⟩, ⟨1, 0, 0, x⟩]) from HE.out) (j := 1) (i := 1) rfl rfl
            have e2 : W60.cell? ⟨ge, 6, none⟩ = some (.int .i64 0) := own_cell (S := shE) (show W60.ownsRow w.heap.size 40 4 (.slice (some ⟨ge, 0, none⟩) 2 ces) 2 (shE.cells [⟨3, 0, 0, 0⟩, ⟨1, 0, 0, x⟩]) from HE.out) (j := 1) (i := 2) rfl rfl
            have e3 : W60.cell? ⟨ge, 7, none⟩ = some (.int .i64 x) := own_cell (S := shE) (show W60.ownsRow w.heap.size 40 4 (.slice (some ⟨ge, 0, none⟩) 2 ces) 2 (shE.cells [⟨3, 0, 0, 0⟩, ⟨1, 0, 0, x⟩]) from HE.out) (j := 1) (i := 3) rfl rfl
            by_cases hle : k ≤ nz
            · skip
              have hlei : ((k : Int) : Int) ≤ (nz : Int) := by omega
              obtain ⟨gr, cr2, e3, -⟩ := own_at HR.out (by omega)
              simp only [Value.slice.injEq, true_and] at e3
              obtain ⟨rfl, rfl⟩ := e3
              have hxz : zs[k - 1]? = some x := by have h9 := HXX.out; rw [List.getElem?_drop] at h9; rw [List.getElem?_eq_getElem (show k - 1 < zs.length by have := HZL.out; omega)]; rw [Nat.add_zero, List.getElem?_eq_getElem (show k - 1 < zs.length by have := HZL.out; omega)] at h9; exact congrArg some h9
              have r0 : W60.cell? ⟨gr, k - 1, none⟩ = some (.int .i64 x) := by have := own_cell (S := U.shN) HR.out hxz (i := 0) rfl; have e9 : (k - 1) * U.shN.k + 0 = k - 1 := (by show (k - 1) * 1 + 0 = k - 1; omega); rw [e9] at this; exact this
              clear hxz
              have hsub : ((k : Int) - 1) = ((k - 1 : Nat) : Int) := by omega
              have hs0 : ¬(((k : Int) - 1) < 0) := by omega
              have hs1 : ((k : Int) - 1) < (nz : Int) := by omega
              go_wp2_with (first | (go_at_call 6; refine (num_any _ _).mono ?_; rintro e w' ⟨rfl, rfl⟩) | fail)
              go_roundw
              case rel => exact ⟨k + 1, by omega, by omega, by first | rfl | go_num, HX, HR, HG⟩
              case measure => first | (simp [intOf]; omega) | simp [intOf]
            · skip
              have hlei : ¬(((k : Int) : Int) ≤ (nz : Int)) := by omega
              have hx2 : x = 2 := by have h9 := HXX.out; rw [List.drop_eq_nil_of_le (by have := HZL.out; omega)] at h9; exact h9.symm
              subst hx2
              go_wp2_with (first | (go_at_call 6; refine (num_any _ _).mono ?_; rintro e w' ⟨rfl, rfl⟩) | fail)
              go_roundw
              case rel => exact ⟨k + 1, by omega, by omega, by first | rfl | go_num, HX, HR, HG⟩
              case measure => first | (simp [intOf]; omega) | simp [intOf]
        · have hki : ¬((k : Int) ≤ 6) := by omega
          go_wp2
          go_ret
          exact ⟨rfl, HG.out⟩
#print axioms demands_any
end Go.Proofs.YtlppfocoonnpjabGreatDoor.L

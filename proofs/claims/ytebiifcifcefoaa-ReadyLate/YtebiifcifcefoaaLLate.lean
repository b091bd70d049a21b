/- The statement ReadyLate answers true: the walk over the translation. -/
import Derived.Test.YtebiifcifcefoaaAw
import Derived.Test.YtebiifcifcefoaaPmath
import Derived.Test.YtebiifcifcefoaaStill
namespace Go.Proofs.Ytebiifcifcefoaa
open Go.RowKit
attribute [local go_sem] alloc_drewN setCell_drewN

set_option maxRecDepth 100000 in
set_option maxHeartbeats 8000000 in
theorem late_law {lo : Nat} (v : Value) (js : List JobV) (now : Int) (w : World) (hv : RowAt shJ lo w v js) :
    Calls Try.prog 5 #[v, .int .i64 now] w fun e w' => e = .returned (.bool true) ∧ w.grownBy w' none := by
  have CA := hide awake_any
  have CM := hide (fun W (hg : w.grownBy W none) => miss_at (now := now) W (hv.grown hg) rfl rfl rfl rfl)
  have CY := hide (fun W (hg : w.grownBy W none) => may_any v js W (hv.grown hg))
  have HV := hide (fun W (hg : w.grownBy W none) => hv.grown hg)
  obtain ⟨hl, a, cap, rfl, -⟩ := hv
  have HNO := hide (fun (h : rowMay js = false) => left_no (now := now) h)
  have HSUM := hide (fun (h : rowMay js = true) => left_sum (now := now) h)
  have HMAY := hide (fun (h : rowMay js = true) => left_may (now := now) h)
  have HA1 := hide (fun (h : rowMay js = true) k (hk : k < js.length) (hd : (jobAt js k).dead ≤ now) => late_at h hk hd)
  have HA2 := hide (fun (h : rowMay js = true) k (hk : k < js.length) (hd : ¬(jobAt js k).dead ≤ now) => left_at h hk hd)
  have HS1 := hide (fun k (h : k < js.length) (hd : (jobAt js k).dead ≤ now) => left_late h hd)
  have HS2 := hide (fun k (h : k < js.length) (hd : ¬(jobAt js k).dead ≤ now) => left_left h hd)
  have HMEM := hide (fun k (h : k < js.length) => jobAt_mem h)
  have H16 := hide (fun (h : rowMay js = true) => (rowMay_iff.1 h).1)
  generalize hN : js.length = N at *
  clear hN
  go_enter Try.func5, Try.ntmps5
  go_wp2_with (first | fail)
  refine (CA.out _).mono ?_; rintro e w1 ⟨rfl, hg⟩
  have HG := hide hg
  clear hg CA
  go_wp2_with (first | fail)
  refine (CM.out _ HG.out).mono ?_; rintro e w2 ⟨a1, q1, a2, q2, rfl, h1, h2, -, hg⟩
  have HGn := hide (grownBy_trans HG.out hg)
  have HL := hide h1
  have HT := hide h2
  clear hg h1 h2 CM HG
  have HG := HGn
  clear HGn
  cases hm : rowMay js with
  | false =>
    obtain ⟨e1, e2⟩ := HNO.out hm
    rw [e1, e2]
    dsimp only [List.length_nil]
    have CY2 := CY
    rw [hm] at CY2
    clear e1 e2 HNO HSUM HMAY HA1 HA2 hm CY HL HT
    go_wp2_with (first | fail)
    refine (CY2.out _ HG.out).mono ?_; rintro e w3 ⟨rfl, hg⟩
    have HGn := hide (grownBy_trans HG.out hg)
    clear hg CY2 HG
    go_wp2
    go_ret
    exact ⟨rfl, HGn.out⟩
  | true =>
    have hsum := HSUM.out hm
    have h16 := H16.out hm
    have CY2 := CY
    rw [hm] at CY2
    have M1 := HMAY.out hm
    have A1 := hide (HA1.out hm)
    have A2 := hide (HA2.out hm)
    clear CY HNO HSUM HMAY HA1 HA2 hm H16
    generalize hLL : leftV js now = L at *
    generalize hTT : lateV js now = T at *
    clear hLL hTT
    have CL := hide (fun W (hg : w2.grownBy W none) => may_at (b := true) W (HL.out.row.grown hg) M1.1)
    have CT := hide (fun W (hg : w2.grownBy W none) => may_at (b := true) W (HT.out.row.grown hg) M1.2)
    have RL := hide (fun W (hg : w2.grownBy W none) => HL.out.row.grown hg)
    have RT := hide (fun W (hg : w2.grownBy W none) => HT.out.row.grown hg)
    have HG0 := HG
    clear M1 HL HT
    generalize hnL : L.length = nL at *
    generalize hnT : T.length = nT at *
    have HNL := hide hnL
    have HNT := hide hnT
    clear hnL hnT
    have hs2 : (nL : Int) + nT = N := by omega
    go_wp2_with (first | fail)
    refine (CY2.out _ HG.out).mono ?_; rintro e w3 ⟨rfl, hg⟩
    have HR := hide hg
    clear hg CY2 HG
    go_wp2_with (first | fail)
    refine (CL.out _ HR.out).mono ?_; rintro e w4 ⟨rfl, hg⟩
    have HRn := hide (grownBy_trans HR.out hg)
    clear hg CL HR
    have HR := HRn
    clear HRn
    go_wp2_with (first | fail)
    refine (CT.out _ HR.out).mono ?_; rintro e w5 ⟨rfl, hg⟩
    have HRn := hide (grownBy_trans HR.out hg)
    clear hg CT HR
    have HR := HRn
    clear HRn
    clear hs2
    go_wp2
    go_loopw [7, 8, 9] (fun p q i W => ∃ (k : Nat), k ≤ N ∧ i = .int .i64 k ∧ p = .int .i64 (leftK js now k).length ∧ q = .int .i64 (lateK js now k).length ∧ Hid (w2.grownBy W none)) (fun _ _ i _ => N - (intOf i).toNat)
    case atStart => exact ⟨0, by omega, rfl, rfl, rfl, HR⟩
    case round =>
      clear HR
      obtain ⟨k, hk, rfl, rfl, rfl, HR⟩ := hrel
      by_cases hlt : k < N
      · obtain ⟨g, o, rfl⟩ := row_addr (HV.out wr (grownBy_trans HG0.out HR.out)) (by omega)
        have hq := HMEM.out k hlt
        have HVk := hide (fun W (hg : wr.grownBy W none) => HV.out W (grownBy_trans HG0.out (grownBy_trans HR.out hg)))
        have S1 := hide (HS1.out k hlt)
        have S2 := hide (HS2.out k hlt)
        have B1 := hide (A1.out k hlt)
        have B2 := hide (A2.out k hlt)
        have c4 : wr.cell? ⟨g, o + k * 7 + 4, none⟩ = some (.int .i64 (jobAt js k).dead) := row_cell (S := shJ) (HVk.out wr (grownBy_refl _ _)) hq (k := 4) rfl
        generalize hX : jobAt js k = X at *
        clear hX
        obtain ⟨x0, x1, x2, x3, x4, x5, x6⟩ := X
        dsimp only at c4 S1 S2 B1 B2
        by_cases hd : x4 ≤ now
        · have hb := B1.out (by omega)
          have hs := S1.out (by omega)
          have HSS := hide hs
          have hblt : (lateK js now k).length < nT := by have := (List.getElem?_eq_some_iff.1 hb).1; have := HNT.out; omega
          obtain ⟨g2, o2, rfl⟩ := row_addr (RT.out wr HR.out) (by omega)
          obtain ⟨U, hU, F, HF, HRC⟩ := class_of wr
          have c0 : ∀ u, (F u).cell? ⟨g, o + k * 7, none⟩ = some (.int .i64 x0) := fun u => row_cell (S := shJ) (HVk.out _ (HF.out u)) hq (k := 0) rfl
          have d0 : ∀ u, (F u).cell? ⟨g2, o2 + (lateK js now k).length * 7, none⟩ = some (.int .i64 x0) := fun u => row_cell (S := shJ) (RT.out _ (grownBy_trans HR.out (HF.out u))) hb (k := 0) rfl
          have c1 : ∀ u, (F u).cell? ⟨g, o + k * 7 + 1, none⟩ = some (.int .i64 x1) := fun u => row_cell (S := shJ) (HVk.out _ (HF.out u)) hq (k := 1) rfl
          have d1 : ∀ u, (F u).cell? ⟨g2, o2 + (lateK js now k).length * 7 + 1, none⟩ = some (.int .i64 x1) := fun u => row_cell (S := shJ) (RT.out _ (grownBy_trans HR.out (HF.out u))) hb (k := 1) rfl
          have c2 : ∀ u, (F u).cell? ⟨g, o + k * 7 + 2, none⟩ = some (.int .i64 x2) := fun u => row_cell (S := shJ) (HVk.out _ (HF.out u)) hq (k := 2) rfl
          have d2 : ∀ u, (F u).cell? ⟨g2, o2 + (lateK js now k).length * 7 + 2, none⟩ = some (.int .i64 x2) := fun u => row_cell (S := shJ) (RT.out _ (grownBy_trans HR.out (HF.out u))) hb (k := 2) rfl
          have c3 : ∀ u, (F u).cell? ⟨g, o + k * 7 + 3, none⟩ = some (.int .i64 x3) := fun u => row_cell (S := shJ) (HVk.out _ (HF.out u)) hq (k := 3) rfl
          have d3 : ∀ u, (F u).cell? ⟨g2, o2 + (lateK js now k).length * 7 + 3, none⟩ = some (.int .i64 x3) := fun u => row_cell (S := shJ) (RT.out _ (grownBy_trans HR.out (HF.out u))) hb (k := 3) rfl
          have c9 : ∀ u, (F u).cell? ⟨g, o + k * 7 + 4, none⟩ = some (.int .i64 x4) := fun u => row_cell (S := shJ) (HVk.out _ (HF.out u)) hq (k := 4) rfl
          have d4 : ∀ u, (F u).cell? ⟨g2, o2 + (lateK js now k).length * 7 + 4, none⟩ = some (.int .i64 x4) := fun u => row_cell (S := shJ) (RT.out _ (grownBy_trans HR.out (HF.out u))) hb (k := 4) rfl
          have c5 : ∀ u, (F u).cell? ⟨g, o + k * 7 + 5, none⟩ = some (.int .i64 x5) := fun u => row_cell (S := shJ) (HVk.out _ (HF.out u)) hq (k := 5) rfl
          have d5 : ∀ u, (F u).cell? ⟨g2, o2 + (lateK js now k).length * 7 + 5, none⟩ = some (.int .i64 x5) := fun u => row_cell (S := shJ) (RT.out _ (grownBy_trans HR.out (HF.out u))) hb (k := 5) rfl
          have c6 : ∀ u, (F u).cell? ⟨g, o + k * 7 + 6, none⟩ = some (.int .i64 x6) := fun u => row_cell (S := shJ) (HVk.out _ (HF.out u)) hq (k := 6) rfl
          have d6 : ∀ u, (F u).cell? ⟨g2, o2 + (lateK js now k).length * 7 + 6, none⟩ = some (.int .i64 x6) := fun u => row_cell (S := shJ) (RT.out _ (grownBy_trans HR.out (HF.out u))) hb (k := 6) rfl
          clear hb hs hq S1 S2 B1 B2
          generalize hbk : (lateK js now k).length = bk at *
          generalize hgk : (leftK js now k).length = gk at *
          have HBK := hide hbk
          have HGK := hide hgk
          clear hbk hgk
          have hnle : ¬ (nT ≤ bk) := by omega
          go_upto_region 13 with (first | fail)
          refine wp_region_quiet_in F (by kernel_rfl) (by kernel_rfl) (HRC.out _ (drew_grown _)) ?_
          repeat (go_big_quiet_step (first | fail))
          refine wpQuiet_nil ?_
          intro _ hw1
          obtain ⟨uq, hw2⟩ := hw1
          subst hw2
          have HRn := hide (grownBy_trans HR.out (HF.out uq))
          clear HR c0 c1 c2 c3 c4 c9 c5 c6 d0 d1 d2 d3 d4 d5 d6
          go_wp2
          go_roundw
          case rel => exact ⟨k + 1, by omega, by go_num, by rw [HSS.out.1, HGK.out], by rw [HSS.out.2, List.length_append, HBK.out]; go_num, HRn⟩
          case measure => simp [intOf]; omega
        · have hb := B2.out (by omega)
          have hs := S2.out (by omega)
          have HSS := hide hs
          have hblt : (leftK js now k).length < nL := by have := (List.getElem?_eq_some_iff.1 hb).1; have := HNL.out; omega
          obtain ⟨g2, o2, rfl⟩ := row_addr (RL.out wr HR.out) (by omega)
          obtain ⟨U, hU, F, HF, HRC⟩ := class_of wr
          have c0 : ∀ u, (F u).cell? ⟨g, o + k * 7, none⟩ = some (.int .i64 x0) := fun u => row_cell (S := shJ) (HVk.out _ (HF.out u)) hq (k := 0) rfl
          have d0 : ∀ u, (F u).cell? ⟨g2, o2 + (leftK js now k).length * 7, none⟩ = some (.int .i64 x0) := fun u => row_cell (S := shJ) (RL.out _ (grownBy_trans HR.out (HF.out u))) hb (k := 0) rfl
          have c1 : ∀ u, (F u).cell? ⟨g, o + k * 7 + 1, none⟩ = some (.int .i64 x1) := fun u => row_cell (S := shJ) (HVk.out _ (HF.out u)) hq (k := 1) rfl
          have d1 : ∀ u, (F u).cell? ⟨g2, o2 + (leftK js now k).length * 7 + 1, none⟩ = some (.int .i64 x1) := fun u => row_cell (S := shJ) (RL.out _ (grownBy_trans HR.out (HF.out u))) hb (k := 1) rfl
          have c2 : ∀ u, (F u).cell? ⟨g, o + k * 7 + 2, none⟩ = some (.int .i64 x2) := fun u => row_cell (S := shJ) (HVk.out _ (HF.out u)) hq (k := 2) rfl
          have d2 : ∀ u, (F u).cell? ⟨g2, o2 + (leftK js now k).length * 7 + 2, none⟩ = some (.int .i64 x2) := fun u => row_cell (S := shJ) (RL.out _ (grownBy_trans HR.out (HF.out u))) hb (k := 2) rfl
          have c3 : ∀ u, (F u).cell? ⟨g, o + k * 7 + 3, none⟩ = some (.int .i64 x3) := fun u => row_cell (S := shJ) (HVk.out _ (HF.out u)) hq (k := 3) rfl
          have d3 : ∀ u, (F u).cell? ⟨g2, o2 + (leftK js now k).length * 7 + 3, none⟩ = some (.int .i64 x3) := fun u => row_cell (S := shJ) (RL.out _ (grownBy_trans HR.out (HF.out u))) hb (k := 3) rfl
          have c9 : ∀ u, (F u).cell? ⟨g, o + k * 7 + 4, none⟩ = some (.int .i64 x4) := fun u => row_cell (S := shJ) (HVk.out _ (HF.out u)) hq (k := 4) rfl
          have d4 : ∀ u, (F u).cell? ⟨g2, o2 + (leftK js now k).length * 7 + 4, none⟩ = some (.int .i64 x4) := fun u => row_cell (S := shJ) (RL.out _ (grownBy_trans HR.out (HF.out u))) hb (k := 4) rfl
          have c5 : ∀ u, (F u).cell? ⟨g, o + k * 7 + 5, none⟩ = some (.int .i64 x5) := fun u => row_cell (S := shJ) (HVk.out _ (HF.out u)) hq (k := 5) rfl
          have d5 : ∀ u, (F u).cell? ⟨g2, o2 + (leftK js now k).length * 7 + 5, none⟩ = some (.int .i64 x5) := fun u => row_cell (S := shJ) (RL.out _ (grownBy_trans HR.out (HF.out u))) hb (k := 5) rfl
          have c6 : ∀ u, (F u).cell? ⟨g, o + k * 7 + 6, none⟩ = some (.int .i64 x6) := fun u => row_cell (S := shJ) (HVk.out _ (HF.out u)) hq (k := 6) rfl
          have d6 : ∀ u, (F u).cell? ⟨g2, o2 + (leftK js now k).length * 7 + 6, none⟩ = some (.int .i64 x6) := fun u => row_cell (S := shJ) (RL.out _ (grownBy_trans HR.out (HF.out u))) hb (k := 6) rfl
          clear hb hs hq S1 S2 B1 B2
          generalize hbk : (leftK js now k).length = bk at *
          generalize hgk : (lateK js now k).length = gk at *
          have HBK := hide hbk
          have HGK := hide hgk
          clear hbk hgk
          have hnle : ¬ (nL ≤ bk) := by omega
          go_upto_region 16 with (first | fail)
          refine wp_region_quiet_in F (by kernel_rfl) (by kernel_rfl) (HRC.out _ (drew_grown _)) ?_
          repeat (go_big_quiet_step (first | fail))
          refine wpQuiet_nil ?_
          intro _ hw1
          obtain ⟨uq, hw2⟩ := hw1
          subst hw2
          have HRn := hide (grownBy_trans HR.out (HF.out uq))
          clear HR c0 c1 c2 c3 c4 c9 c5 c6 d0 d1 d2 d3 d4 d5 d6
          go_wp2
          go_roundw
          case rel => exact ⟨k + 1, by omega, by go_num, by rw [HSS.out.2, List.length_append, HBK.out]; go_num, by rw [HSS.out.1, HGK.out], HRn⟩
          case measure => simp [intOf]; omega
      · go_wp2
        go_ret
        exact ⟨rfl, grownBy_trans HG0.out HR.out⟩
#print axioms late_law
end Go.Proofs.Ytebiifcifcefoaa

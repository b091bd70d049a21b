/- The walk of the statement TaskRegulars: a regular task; proved over the translation. -/
import Derived.Test.YtephnppanbckkaaAw
import Derived.Test.YtephnppanbckkaaRmath
namespace Go.Proofs.Ytephnppanbckkaa
open Go.RowKit
attribute [local go_sem] alloc_drewN setCell_drewN

theorem reg_no {T : TaskV} {s : TurnsV} {k AL D : Int} {AZ : List Int} {B F : Bool} (hF : atMay T s k = F) (hA : relS T s k = ⟨AL, AZ⟩) (hD : relD T s k = D) (hB : isB T s k = B) : F = false → AL = 0 ∧ AZ = [] ∧ D = 0 ∧ B = false := by
  rintro rfl
  obtain ⟨r1, r2, r3, -⟩ := bad_rel hF
  rw [hA] at r1
  cases r1
  exact ⟨rfl, rfl, hD.symm.trans r2, hB.symm.trans r3⟩
theorem reg_yes {x1 x2 x3 x4 x5 : Int} {L : Int} {zs : List Int} {k AL D : Int} {AZ : List Int} {B F : Bool} (hF : atMay ⟨0, x1, x2, x3, x4, x5⟩ ⟨L, zs⟩ k = F) (hA : relS ⟨0, x1, x2, x3, x4, x5⟩ ⟨L, zs⟩ k = ⟨AL, AZ⟩) (hD : relD ⟨0, x1, x2, x3, x4, x5⟩ ⟨L, zs⟩ k = D) (hB : isB ⟨0, x1, x2, x3, x4, x5⟩ ⟨L, zs⟩ k = B) : F = true → 1 ≤ x1 ∧ B = decide (k % x1 = 0) ∧ (B = false → AL = L ∧ AZ = zs ∧ D = 0) ∧ (B = true → AL = k ∧ AZ = zs.drop 1 ∧ D = zs[0]?.getD x3) := by
  rintro rfl
  have hc := reg_comes (t := ⟨0, x1, x2, x3, x4, x5⟩) (s := ⟨L, zs⟩) (k := k) rfl
  dsimp only at hc
  generalize hb : decide (k % x1 = 0) = b at *
  obtain ⟨r1, r2, r3⟩ := rel_out hF hc
  have hBb : B = b := by rw [← hB, r3]; cases b <;> rfl
  subst hBb
  refine ⟨(may_parts (at_parts hF).1).2.1, rfl, ?_, ?_⟩
  · rintro rfl
    have : (⟨AL, AZ⟩ : TurnsV) = ⟨L, zs⟩ := hA.symm.trans r1
    cases this
    exact ⟨rfl, rfl, hD.symm.trans r2⟩
  · rintro rfl
    have : (⟨AL, AZ⟩ : TurnsV) = ⟨k, zs.drop 1⟩ := hA.symm.trans r1
    cases this
    exact ⟨rfl, rfl, hD.symm.trans r2⟩

set_option maxRecDepth 100000 in
set_option maxHeartbeats 40000000 in
theorem taskRegulars_from (t : TaskV) (L : Int) (a : Option Addr) (n cap : Nat) (zs : List Int) (now : Int) (w w0 : World) (hg0 : w.grownBy w0 none) (hv : RowAt shN 0 w (.slice a n cap) zs) : Calls Try.prog 7 #[taskVal t, .agg #[.int .i64 L, .slice a n cap], .int .i64 now] w0 fun e w' => e = .returned (.bool true) ∧ w.grownBy w' none := by
  have hn : zs.length = n := by obtain ⟨-, a2, c2, e, -⟩ := hv; simp only [Value.slice.injEq] at e; exact e.2.1.symm
  have hn63 : n ≤ 9223372036854775807 := by obtain ⟨h, -⟩ := hv; omega
  obtain ⟨K, hK, hmK⟩ := and20 now
  obtain ⟨x0, x1, x2, x3, x4, x5⟩ := t
  obtain ⟨⟨AL, AZ⟩, hA⟩ : ∃ A, relS ⟨0, x1, x2, x3, x4, x5⟩ ⟨L, zs⟩ (K : Int) = A := ⟨_, rfl⟩
  obtain ⟨D, hD⟩ : ∃ D, relD ⟨0, x1, x2, x3, x4, x5⟩ ⟨L, zs⟩ (K : Int) = D := ⟨_, rfl⟩
  obtain ⟨B, hB⟩ : ∃ B, isB ⟨0, x1, x2, x3, x4, x5⟩ ⟨L, zs⟩ (K : Int) = B := ⟨_, rfl⟩
  obtain ⟨M, hM⟩ : ∃ M, AZ.length = M := ⟨_, rfl⟩
  obtain ⟨E, hE⟩ : ∃ E, pickE ⟨0, x1, x2, x3, x4, x5⟩ ⟨L, []⟩ 1 = E := ⟨_, rfl⟩
  obtain ⟨⟨PL, PZ⟩, hP⟩ : ∃ P, pickS ⟨0, x1, x2, x3, x4, x5⟩ ⟨L, []⟩ 1 = P := ⟨_, rfl⟩
  obtain ⟨M2, hM2⟩ : ∃ M, PZ.length = M := ⟨_, rfl⟩
  obtain ⟨F, hF⟩ : ∃ F, atMay ⟨0, x1, x2, x3, x4, x5⟩ ⟨L, zs⟩ (K : Int) = F := ⟨_, rfl⟩
  obtain ⟨F0, hF0⟩ : ∃ F0, (decide (n ≤ 4) && decide (E = 0)) = F0 := ⟨_, rfl⟩
  have HAT : Hid (F = (F0 && zs.all demMay)) := hide (by
    have h := at_iff (t := ⟨0, x1, x2, x3, x4, x5⟩) (L := L) (k := (K : Int)) (zs := zs) (by omega) (by omega)
    rw [hF, hE] at h
    unfold picksOk at h
    rw [hn] at h
    rw [h, ← hF0]
    cases decide (n ≤ 4) <;> cases decide (E = 0) <;> cases zs.all demMay <;> rfl)
  have HLATE := hide (reg_late (t := ⟨0, x1, x2, x3, x4, x5⟩) (s := ⟨L, zs⟩) (k := (K : Int)) rfl)
  have HNO := hide (reg_no hF hA hD hB)
  have HYES := hide (reg_yes hF hA hD hB)
  have HNAT := hide hn
  have HM := hide hM
  have HF0 := hide hF0
  have CR := hide (fun W (h : RowAt shN 0 W (.slice a n cap) zs) => rel_at (t := ⟨0, x1, x2, x3, x4, x5⟩) (L := L) (v := .slice a n cap) (zs := zs) (now := (K : Int)) W h hA hD hB hM)
  have CP := hide (fun W => pick_at (lo := 0) (t := ⟨0, x1, x2, x3, x4, x5⟩) (L := L) (v := .slice none 0 0) (zs := []) (d := 1) W (rowAt_nil 0 W none 0) hP hE hM2)
  have RV := hide (fun W (hg : w.grownBy W none) => hv.grown hg)
  have HW := hide (fun (j : Nat) (hj : j < zs.length) => List.getElem?_eq_getElem (l := zs) hj)
  have NUM := hide num_to
  have HG := hide hg0
  clear hg0 hv hn hA hD hB hM hE hP hM2 hF hF0
  go_enter Try.func7, Try.ntmps7
  go_upto_region 1 with (first | fail)
  have hg := grownBy_trans (World.grownBy_alloc w0 (.cells #[.int .i64 x0, .int .i64 x1, .int .i64 x2, .int .i64 x3, .int .i64 x4, .int .i64 x5] 23) none) (World.grownBy_alloc _ (.cells #[.int .i64 L, .slice a n cap] 26) none)
  have HTq := hide (hp_up (heap_alloc_new w0 (.cells #[.int .i64 x0, .int .i64 x1, .int .i64 x2, .int .i64 x3, .int .i64 x4, .int .i64 x5] 23)) (.cells #[.int .i64 L, .slice a n cap] 26))
  have HSq := hide (alloc_next w0 (.cells #[.int .i64 x0, .int .i64 x1, .int .i64 x2, .int .i64 x3, .int .i64 x4, .int .i64 x5] 23) (.cells #[.int .i64 L, .slice a n cap] 26))
  have LT := hide HG.out.size
  have LS := hide (show w.heap.size ≤ w0.heap.size + 1 from Nat.le_trans HG.out.size (Nat.le_succ _))
  have HGn := hide (grownBy_trans HG.out hg)
  clear HG
  have HG := HGn
  clear HGn
  clear hg
  have HT := HTq
  have HS := HSq
  clear HTq HSq
  generalize hWx : (w0.alloc (.cells #[.int .i64 x0, .int .i64 x1, .int .i64 x2, .int .i64 x3, .int .i64 x4, .int .i64 x5] 23)).alloc (.cells #[.int .i64 L, .slice a n cap] 26) = w1 at *
  clear hWx
  have NTS : Hid (w0.heap.size < w0.heap.size + 1) := hide (Nat.lt_succ_self _)
  generalize hBx : w0.heap.size + 1 = BS at *
  clear hBx
  generalize hBx : w0.heap.size = BT at *
  clear hBx
  go_wp2_with (first | fail)
  refine (awake_any _).mono ?_; rintro e w2 ⟨rfl, hg⟩
  have HGn := hide (grownBy_trans HG.out hg)
  have HTn := hide (box_grown HT.out hg (by simp))
  have HSn := hide (box_grown HS.out hg (by simp))
  clear HG HT HS
  have HG := HGn
  have HT := HTn
  have HS := HSn
  clear HGn HTn HSn
  clear hg
  go_upto_region 4 with (first | fail)
  have cT0 : w2.cell? ⟨BT, 0, none⟩ = some (.int .i64 x0) := blk_cell HT.out 0
  have fT0 := blk_free HT.out 0
  go_upto_region 5 with (first | fail)
  clear cT0 fT0
  have hg := grownBy_set w2 BT 0 (.int .i64 0)
  have HGn := hide (grown_spoil HG.out LT.out hg)
  have HSn := hide (box_type HS.out hg (type_box HT.out) (by decide))
  have HTn := hide (blk_set (j := 0) (u := .int .i64 0) (cs' := #[.int .i64 0, .int .i64 x1, .int .i64 x2, .int .i64 x3, .int .i64 x4, .int .i64 x5]) HT.out rfl)
  clear HG HS HT
  have HG := HGn
  have HS := HSn
  have HT := HTn
  clear HGn HSn HTn
  clear hg
  generalize hWx : w2.setCell ⟨BT, 0, none⟩ (.int .i64 0) = w3 at *
  clear hWx
  have cT0 : w3.cell? ⟨BT, 0, none⟩ = some (.int .i64 0) := blk_cell HT.out 0
  have cT1 : w3.cell? ⟨BT, 1, none⟩ = some (.int .i64 x1) := blk_cell HT.out 1
  have cT2 : w3.cell? ⟨BT, 2, none⟩ = some (.int .i64 x2) := blk_cell HT.out 2
  have cT3 : w3.cell? ⟨BT, 3, none⟩ = some (.int .i64 x3) := blk_cell HT.out 3
  have cT4 : w3.cell? ⟨BT, 4, none⟩ = some (.int .i64 x4) := blk_cell HT.out 4
  have cT5 : w3.cell? ⟨BT, 5, none⟩ = some (.int .i64 x5) := blk_cell HT.out 5
  have cS0 : w3.cell? ⟨BS, 0, none⟩ = some (.int .i64 L) := blk_cell HS.out 0
  have cS1 : w3.cell? ⟨BS, 1, none⟩ = some (.slice a n cap) := blk_cell HS.out 1
  go_wp2_with (first | fail)
  refine (CR.out _ (RV.out _ HG.out)).mono ?_; rintro e w4 ⟨u1, c1, rfl, ho, hg⟩
  clear cT0 cT1 cT2 cT3 cT4 cT5 cS0 cS1
  have HGn := hide (grownBy_trans HG.out hg)
  have HTn := hide (box_grown HT.out hg (by simp))
  have HSn := hide (box_grown HS.out hg (by simp))
  clear HG HT HS
  have HG := HGn
  have HT := HTn
  have HS := HSn
  clear HGn HTn HSn
  clear hg
  have OA := hide (ho.base (Nat.zero_le _))
  clear ho
  go_upto_region 6 with (first | fail)
  have hg := World.grownBy_alloc w4 (.cells #[.int .i64 AL, .slice u1 M c1] 26) none
  have HAq := hide (heap_alloc_new w4 (.cells #[.int .i64 AL, .slice u1 M c1] 26))
  have LA := hide HG.out.size
  have HGn := hide (grownBy_trans HG.out hg)
  have HTn := hide (box_grown HT.out hg (by simp))
  have HSn := hide (box_grown HS.out hg (by simp))
  have OAn := hide (OA.out.grown hg)
  clear HG HT HS OA
  have HG := HGn
  have HT := HTn
  have HS := HSn
  have OA := OAn
  clear HGn HTn HSn OAn
  clear hg
  have HA := HAq
  clear HAq
  generalize hWx : w4.alloc (.cells #[.int .i64 AL, .slice u1 M c1] 26) = w5 at *
  generalize hBx : w4.heap.size = BA at *
  clear hWx hBx
  have cT0 : w5.cell? ⟨BT, 0, none⟩ = some (.int .i64 0) := blk_cell HT.out 0
  have cT1 : w5.cell? ⟨BT, 1, none⟩ = some (.int .i64 x1) := blk_cell HT.out 1
  have cT2 : w5.cell? ⟨BT, 2, none⟩ = some (.int .i64 x2) := blk_cell HT.out 2
  have cT3 : w5.cell? ⟨BT, 3, none⟩ = some (.int .i64 x3) := blk_cell HT.out 3
  have cT4 : w5.cell? ⟨BT, 4, none⟩ = some (.int .i64 x4) := blk_cell HT.out 4
  have cT5 : w5.cell? ⟨BT, 5, none⟩ = some (.int .i64 x5) := blk_cell HT.out 5
  have cS0 : w5.cell? ⟨BS, 0, none⟩ = some (.int .i64 L) := blk_cell HS.out 0
  have cS1 : w5.cell? ⟨BS, 1, none⟩ = some (.slice a n cap) := blk_cell HS.out 1
  go_wp2_with (first | fail)
  refine (CP.out _).mono ?_; rintro e w6 ⟨u2, c2, rfl, ho, hg⟩
  clear cT0 cT1 cT2 cT3 cT4 cT5 cS0 cS1
  have HGn := hide (grownBy_trans HG.out hg)
  have HTn := hide (box_grown HT.out hg (by simp))
  have HSn := hide (box_grown HS.out hg (by simp))
  have HAn := hide (box_grown HA.out hg (by simp))
  have OAn := hide (OA.out.grown hg)
  clear HG HT HS HA OA
  have HG := HGn
  have HT := HTn
  have HS := HSn
  have HA := HAn
  have OA := OAn
  clear HGn HTn HSn HAn OAn
  clear hg
  clear ho
  go_upto_region 7 with (first | fail)
  have hg := World.grownBy_alloc w6 (.cells #[.int .i64 PL, .slice u2 M2 c2] 26) none
  have HXq := hide (heap_alloc_new w6 (.cells #[.int .i64 PL, .slice u2 M2 c2] 26))
  have LX := hide HG.out.size
  have HGn := hide (grownBy_trans HG.out hg)
  have HTn := hide (box_grown HT.out hg (by simp))
  have HSn := hide (box_grown HS.out hg (by simp))
  have HAn := hide (box_grown HA.out hg (by simp))
  have OAn := hide (OA.out.grown hg)
  clear HG HT HS HA OA
  have HG := HGn
  have HT := HTn
  have HS := HSn
  have HA := HAn
  have OA := OAn
  clear HGn HTn HSn HAn OAn
  clear hg
  have HX := HXq
  clear HXq
  generalize hWx : w6.alloc (.cells #[.int .i64 PL, .slice u2 M2 c2] 26) = w7 at *
  generalize hBx : w6.heap.size = BX at *
  clear hWx hBx
  have cS0 : w7.cell? ⟨BS, 0, none⟩ = some (.int .i64 L) := blk_cell HS.out 0
  have cS1 : w7.cell? ⟨BS, 1, none⟩ = some (.slice a n cap) := blk_cell HS.out 1
  go_upto_region 8 with (first | fail)
  clear cS0 cS1
  go_cut [14] (fun f wx => f = .bool F0 ∧ wx = w7)
  case first =>
    by_cases h4 : n ≤ 4
    · by_cases h0 : E = 0
      · have hf : F0 = true := by rw [← HF0.out, decide_eq_true h4, decide_eq_true h0]; rfl
        subst h0
        go_wp2_with (first | (go_at_call 14; refine (NUM.out _ _).mono ?_; rintro e wn ⟨rfl, rfl⟩) | fail)
        go_meet
        case rel => exact ⟨by rw [hf], rfl⟩
      · have hf : F0 = false := by rw [← HF0.out, decide_eq_false h0, Bool.and_false]
        have h00 : (E == 0) = false := by simpa using h0
        go_wp2_with (first | (go_at_call 14; refine (NUM.out _ _).mono ?_; rintro e wn ⟨rfl, rfl⟩) | fail)
        go_meet
        case rel => exact ⟨by rw [hf], rfl⟩
    · have hf : F0 = false := by rw [← HF0.out, decide_eq_false h4, Bool.false_and]
      go_wp2_with (first | (go_at_call 14; refine (NUM.out _ _).mono ?_; rintro e wn ⟨rfl, rfl⟩) | fail)
      go_meet
      case rel => exact ⟨by rw [hf], rfl⟩
  case rest =>
    obtain ⟨rfl, rfl⟩ := hcut
    go_wp2
    go_loopw [14, 15] (fun f i W => ∃ (j : Nat) (b : Bool), j ≤ n ∧ i = .int .i64 j ∧ f = .bool b ∧ W = wc ∧ Hid (b = (F0 && (zs.take j).all demMay))) (fun _ i _ => n - (intOf i).toNat)
    case atStart => exact ⟨0, F0, by omega, rfl, rfl, rfl, hide (by simp)⟩
    case round =>
      obtain ⟨j, b, hj, rfl, rfl, rfl, HBJ⟩ := hrel
      by_cases hlt : j < n
      · skip
        obtain ⟨q, hq⟩ : ∃ q, zs[j]? = some q := ⟨_, HW.out j (by rw [HNAT.out]; exact hlt)⟩
        have HST := hide (picks_step hq)
        obtain ⟨-, a2, cap2, e2, ha⟩ := RV.out _ HG.out
        simp only [Value.slice.injEq] at e2
        obtain ⟨rfl, -, rfl⟩ := e2
        obtain ⟨g, o, rfl, -, hc⟩ := ha (by rw [HNAT.out]; omega)
        have c1 : wr.cell? ⟨g, o + j * 1, none⟩ = some (.int .i64 q) := hc j q hq 0 _ rfl
        rw [Nat.mul_one] at c1
        clear hc ha hq
        have cS1 : wr.cell? ⟨BS, 1, none⟩ = some (.slice (some ⟨g, o, none⟩) n cap) := blk_cell HS.out 1
        cases b with
        | false =>
          go_wp2
          go_roundw
          case rel => exact ⟨j + 1, false, by omega, by go_num, by first | rfl | trivial | simp, by first | rfl | trivial, hide (by rw [HST.out, ← Bool.and_assoc, ← HBJ.out]; rfl)⟩
          case measure => simp [intOf]; omega
        | true =>
          by_cases h1 : 1 ≤ q
          · by_cases h2 : q ≤ 65535
            · have hd : demMay q = true := by unfold demMay; rw [decide_eq_true h1, decide_eq_true h2]; rfl
              have HD := hide hd
              clear hd
              go_wp2
              go_roundw
              case rel => exact ⟨j + 1, true, by omega, by go_num, by first | rfl | trivial | simp, by first | rfl | trivial, hide (by rw [HST.out, ← Bool.and_assoc, ← HBJ.out, HD.out]; rfl)⟩
              case measure => simp [intOf]; omega
            · have hd : demMay q = false := by unfold demMay; rw [decide_eq_false h2, Bool.and_false]
              have HD := hide hd
              clear hd
              go_wp2
              go_roundw
              case rel => exact ⟨j + 1, false, by omega, by go_num, by first | rfl | trivial | simp, by first | rfl | trivial, hide (by rw [HST.out, ← Bool.and_assoc, ← HBJ.out, HD.out]; rfl)⟩
              case measure => simp [intOf]; omega
          · have hd : demMay q = false := by unfold demMay; rw [decide_eq_false h1, Bool.false_and]
            have HD := hide hd
            clear hd
            go_wp2
            go_roundw
            case rel => exact ⟨j + 1, false, by omega, by go_num, by first | rfl | trivial | simp, by first | rfl | trivial, hide (by rw [HST.out, ← Bool.and_assoc, ← HBJ.out, HD.out]; rfl)⟩
            case measure => simp [intOf]; omega
      · skip
        have hbf : b = F := by
          obtain rfl : j = n := by omega
          rw [HBJ.out, HAT.out, ← HNAT.out, List.take_length]
        subst hbf
        clear HBJ HAT HF0 HW
        cases b with
        | false =>
          obtain ⟨rfl, rfl, rfl, rfl⟩ := HNO.out rfl
          clear HNO HYES
          obtain rfl := HM.out
          have HM0 : ([] : List Int).length = 0 := rfl
          have cA0 : wr.cell? ⟨BA, 0, none⟩ = some (.int .i64 0) := blk_cell HA.out 0
          have cA1 : wr.cell? ⟨BA, 1, none⟩ = some (.slice u1 0 c1) := blk_cell HA.out 1
          go_wp2_with (first | fail)
          refine (sameT_any 0 u1 none 0 0 c1 0 [] _ OA.out.row (rowAt_nil 0 _ none 0)).mono ?_; rintro e w8 ⟨rfl, hg⟩
          clear cA0 cA1
          have HGn := hide (grownBy_trans HG.out hg)
          have HTn := hide (box_grown HT.out hg (by simp))
          have HSn := hide (box_grown HS.out hg (by simp))
          have HAn := hide (box_grown HA.out hg (by simp))
          have HXn := hide (box_grown HX.out hg (by simp))
          have OAn := hide (OA.out.grown hg)
          clear HG HT HS HA HX OA
          have HG := HGn
          have HT := HTn
          have HS := HSn
          have HA := HAn
          have HX := HXn
          have OA := OAn
          clear HGn HTn HSn HAn HXn OAn
          clear hg
          go_wp2_with (first | fail)
          go_ret
          exact ⟨rfl, HG.out⟩
        | true =>
          obtain ⟨hp, hBk, hnoj, hjob⟩ := HYES.out rfl
          clear HNO HYES
          have HNOJ := hide hnoj
          have HJOB := hide hjob
          clear hnoj hjob
          cases B with
          | false =>
            obtain ⟨rfl, rfl, rfl⟩ := HNOJ.out rfl
            clear HNOJ HJOB
            obtain rfl : n = M := HNAT.out.symm.trans HM.out
            have hk : ((K : Int) % x1 == 0) = false := by have := hBk.symm; simpa using this
            clear hBk
            have cT0 : wr.cell? ⟨BT, 0, none⟩ = some (.int .i64 0) := blk_cell HT.out 0
            have cT1 : wr.cell? ⟨BT, 1, none⟩ = some (.int .i64 x1) := blk_cell HT.out 1
            have cT2 : wr.cell? ⟨BT, 2, none⟩ = some (.int .i64 x2) := blk_cell HT.out 2
            have cT3 : wr.cell? ⟨BT, 3, none⟩ = some (.int .i64 x3) := blk_cell HT.out 3
            have cT4 : wr.cell? ⟨BT, 4, none⟩ = some (.int .i64 x4) := blk_cell HT.out 4
            have cT5 : wr.cell? ⟨BT, 5, none⟩ = some (.int .i64 x5) := blk_cell HT.out 5
            have cS0 : wr.cell? ⟨BS, 0, none⟩ = some (.int .i64 AL) := blk_cell HS.out 0
            have cS1 : wr.cell? ⟨BS, 1, none⟩ = some (.slice a n cap) := blk_cell HS.out 1
            go_wp2_with (first | fail)
            refine (late_at (t := ⟨0, x1, x2, x3, x4, x5⟩) (L := AL) (zs := AZ) (now := (K : Int)) (b := false) _ (RV.out _ HG.out) HLATE.out).mono ?_; rintro e w8 ⟨rfl, hg⟩
            clear cT0 cT1 cT2 cT3 cT4 cT5 cS0 cS1
            have HGn := hide (grownBy_trans HG.out hg)
            have HTn := hide (box_grown HT.out hg (by simp))
            have HSn := hide (box_grown HS.out hg (by simp))
            have HAn := hide (box_grown HA.out hg (by simp))
            have HXn := hide (box_grown HX.out hg (by simp))
            have OAn := hide (OA.out.grown hg)
            clear HG HT HS HA HX OA
            have HG := HGn
            have HT := HTn
            have HS := HSn
            have HA := HAn
            have HX := HXn
            have OA := OAn
            clear HGn HTn HSn HAn HXn OAn
            clear hg
            have cA0 : w8.cell? ⟨BA, 0, none⟩ = some (.int .i64 AL) := blk_cell HA.out 0
            have cA1 : w8.cell? ⟨BA, 1, none⟩ = some (.slice u1 n c1) := blk_cell HA.out 1
            have cS0 : w8.cell? ⟨BS, 0, none⟩ = some (.int .i64 AL) := blk_cell HS.out 0
            have cS1 : w8.cell? ⟨BS, 1, none⟩ = some (.slice a n cap) := blk_cell HS.out 1
            go_wp2_with (first | fail)
            refine (sameT_any AL u1 a n n c1 cap AZ _ OA.out.row (RV.out _ HG.out)).mono ?_; rintro e w9 ⟨rfl, hg⟩
            clear cA0 cA1 cS0 cS1
            have HGn := hide (grownBy_trans HG.out hg)
            have HTn := hide (box_grown HT.out hg (by simp))
            have HSn := hide (box_grown HS.out hg (by simp))
            have HAn := hide (box_grown HA.out hg (by simp))
            have HXn := hide (box_grown HX.out hg (by simp))
            have OAn := hide (OA.out.grown hg)
            clear HG HT HS HA HX OA
            have HG := HGn
            have HT := HTn
            have HS := HSn
            have HA := HAn
            have HX := HXn
            have OA := OAn
            clear HGn HTn HSn HAn HXn OAn
            clear hg
            go_wp2_with (first | fail)
            go_ret
            exact ⟨rfl, HG.out⟩
          | true =>
            obtain ⟨rfl, rfl, hDq⟩ := HJOB.out rfl
            clear HNOJ HJOB
            have hk : (K : Int) % x1 = 0 := by have := hBk.symm; simpa using this
            have HDQ := hide hDq
            clear hBk hDq
            have cT0 : wr.cell? ⟨BT, 0, none⟩ = some (.int .i64 0) := blk_cell HT.out 0
            have cT1 : wr.cell? ⟨BT, 1, none⟩ = some (.int .i64 x1) := blk_cell HT.out 1
            have cT2 : wr.cell? ⟨BT, 2, none⟩ = some (.int .i64 x2) := blk_cell HT.out 2
            have cT3 : wr.cell? ⟨BT, 3, none⟩ = some (.int .i64 x3) := blk_cell HT.out 3
            have cT4 : wr.cell? ⟨BT, 4, none⟩ = some (.int .i64 x4) := blk_cell HT.out 4
            have cT5 : wr.cell? ⟨BT, 5, none⟩ = some (.int .i64 x5) := blk_cell HT.out 5
            have cS0 : wr.cell? ⟨BS, 0, none⟩ = some (.int .i64 L) := blk_cell HS.out 0
            have cS1 : wr.cell? ⟨BS, 1, none⟩ = some (.slice a n cap) := blk_cell HS.out 1
            go_wp2_with (first | fail)
            refine (late_at (t := ⟨0, x1, x2, x3, x4, x5⟩) (L := L) (zs := zs) (now := (K : Int)) (b := false) _ (RV.out _ HG.out) HLATE.out).mono ?_; rintro e w8 ⟨rfl, hg⟩
            clear cT0 cT1 cT2 cT3 cT4 cT5 cS0 cS1
            have HGn := hide (grownBy_trans HG.out hg)
            have HTn := hide (box_grown HT.out hg (by simp))
            have HSn := hide (box_grown HS.out hg (by simp))
            have HAn := hide (box_grown HA.out hg (by simp))
            have HXn := hide (box_grown HX.out hg (by simp))
            have OAn := hide (OA.out.grown hg)
            clear HG HT HS HA HX OA
            have HG := HGn
            have HT := HTn
            have HS := HSn
            have HA := HAn
            have HX := HXn
            have OA := OAn
            clear HGn HTn HSn HAn HXn OAn
            clear hg
            clear HLATE
            by_cases hz : n = 0
            · skip
              obtain rfl : zs = [] := List.length_eq_zero_iff.1 (by have := HNAT.out; omega)
              subst hz
              have hDq : D = x3 := HDQ.out
              clear HDQ
              obtain rfl : M = 0 := HM.out.symm
              have cT0 : w8.cell? ⟨BT, 0, none⟩ = some (.int .i64 0) := blk_cell HT.out 0
              have cT1 : w8.cell? ⟨BT, 1, none⟩ = some (.int .i64 x1) := blk_cell HT.out 1
              have cT2 : w8.cell? ⟨BT, 2, none⟩ = some (.int .i64 x2) := blk_cell HT.out 2
              have cT3 : w8.cell? ⟨BT, 3, none⟩ = some (.int .i64 x3) := blk_cell HT.out 3
              have cT4 : w8.cell? ⟨BT, 4, none⟩ = some (.int .i64 x4) := blk_cell HT.out 4
              have cT5 : w8.cell? ⟨BT, 5, none⟩ = some (.int .i64 x5) := blk_cell HT.out 5
              have cA0 : w8.cell? ⟨BA, 0, none⟩ = some (.int .i64 (K : Int)) := blk_cell HA.out 0
              have cA1 : w8.cell? ⟨BA, 1, none⟩ = some (.slice u1 0 c1) := blk_cell HA.out 1
              go_wp2_with (first | fail)
              refine (sameT_any (K : Int) u1 none 0 0 c1 0 [] _ OA.out.row (rowAt_nil 0 _ none 0)).mono ?_; rintro e w9 ⟨rfl, hg⟩
              clear cT0 cT1 cT2 cT3 cT4 cT5 cA0 cA1
              have HGn := hide (grownBy_trans HG.out hg)
              have HTn := hide (box_grown HT.out hg (by simp))
              have HSn := hide (box_grown HS.out hg (by simp))
              have HAn := hide (box_grown HA.out hg (by simp))
              have HXn := hide (box_grown HX.out hg (by simp))
              have OAn := hide (OA.out.grown hg)
              clear HG HT HS HA HX OA
              have HG := HGn
              have HT := HTn
              have HS := HSn
              have HA := HAn
              have HX := HXn
              have OA := OAn
              clear HGn HTn HSn HAn HXn OAn
              clear hg
              go_wp2_with (first | fail)
              go_ret
              exact ⟨rfl, HG.out⟩
            · skip
              obtain ⟨q, rest, rfl⟩ : ∃ q rest, zs = q :: rest := by
                cases zs with
                | nil => exact absurd HNAT.out.symm hz
                | cons q rest => exact ⟨q, rest, rfl⟩
              have hDq : D = q := HDQ.out
              clear HDQ
              subst hDq
              have HM : Hid (rest.length = M) := HM
              have hnM : n = M + 1 := by have h1 := HNAT.out; have h2 := HM.out; simp at h1; omega
              obtain ⟨g, o, rfl⟩ : ∃ g o, a = some ⟨g, o, none⟩ := by
                obtain ⟨-, a2, c2, e, ha⟩ := RV.out _ HG.out
                simp only [Value.slice.injEq] at e
                obtain ⟨rfl, -, rfl⟩ := e
                obtain ⟨g, o, e, -⟩ := ha (by simp)
                exact ⟨g, o, e⟩
              have HCQ : Hid (∀ W, w.grownBy W none → W.cell? ⟨g, o, none⟩ = some (.int .i64 D)) := hide (fun W hg => by
                obtain ⟨-, a2, c2, e, ha⟩ := RV.out W hg
                simp only [Value.slice.injEq] at e
                obtain ⟨rfl, -, rfl⟩ := e
                obtain ⟨g', o', e, -, hc⟩ := ha (by simp)
                simp only [Option.some.injEq, Addr.mk.injEq, and_true] at e
                obtain ⟨rfl, rfl⟩ := e
                have := hc 0 D rfl 0 _ rfl
                simpa using this)
              have hnn : ¬ ((n : Int) < 1) := by omega
              have hnz : ((n : Int) == 0) = false := by simp; omega
              have HNM := hide hnM
              clear hnM
              go_wp2
              by_cases hcap : cap = 1
              · skip
                subst hcap
                obtain rfl : n = 1 := by
                  obtain ⟨-, a2, c2, e, ha⟩ := RV.out _ HG.out
                  simp only [Value.slice.injEq] at e
                  obtain ⟨rfl, -, rfl⟩ := e
                  obtain ⟨g', o', e, hlo, -⟩ := ha (by simp)
                  have h1 := hlo.2
                  have h2 := HNAT.out
                  simp only [List.length_cons] at h1 h2
                  omega
                obtain rfl : M = 0 := by have := HNM.out; omega
                refine wp_region_held_drew (S := fun W => (W.heap[BS]? = some (.cells #[.int .i64 L, .slice (some ⟨g, o, none⟩) 1 1] 26 (0, 0)) ∧ W.heap[BA]? = some (.cells #[.int .i64 (K : Int), .slice u1 0 c1] 26 (0, 0))) ∧ W.cell? ⟨g, o, none⟩ = some (.int .i64 D)) (by kernel_rfl) ⟨⟨HS.out, HA.out⟩, HCQ.out _ (grownBy_trans HG.out (grownBy_draws _ 1 none))⟩ (fun hHeld => ?_)
                have HGn : Hid (w.grownBy w8.drew none) := hide (grownBy_trans HG.out (grownBy_draws w8 1 none))
                have OAn : Hid (Own 0 w8.drew (.slice u1 0 c1) rest) := hide (OA.out.grown (grownBy_draws w8 1 none))
                clear HG OA HS HA HT HX
                generalize w8.drew = W at *
                have HG := HGn
                have OA := OAn
                clear HGn OAn
                refine take_put (i := 0) (v := .int .i64 D) 116 rfl rfl (by kernel_rfl) (by kernel_rfl) (by kernel_rfl) (fun _ _ _ h => h) (Or.inl ⟨by rfl, by intro Wy hSW; go_simp⟩) (by assumption) ?_
                (try simp only [Act.put, List.setIfInBounds_toArray, List.set_cons_zero, List.set_cons_succ])
                refine take_put (i := 1) (v := .pointer (some ⟨BS, 1, none⟩)) 117 rfl rfl (by kernel_rfl) (by kernel_rfl) (by kernel_rfl) (fun _ _ _ h => h) (Or.inl ⟨by rfl, by intro Wy hSW; go_simp⟩) (by assumption) ?_
                (try simp only [Act.put, List.setIfInBounds_toArray, List.set_cons_zero, List.set_cons_succ])
                refine take_put (i := 2) (v := .slice (some ⟨g, o, none⟩) 1 1) 118 rfl rfl (by kernel_rfl) (by kernel_rfl) (by kernel_rfl) (fun _ _ _ h => h) (Or.inl ⟨by rfl, by intro Wy hSW; have hc := blk_cell hSW.1.1 1; go_simp⟩) (by assumption) ?_
                (try simp only [Act.put, List.setIfInBounds_toArray, List.set_cons_zero, List.set_cons_succ])
                refine take_put (i := 3) (v := .pointer (some ⟨g, o, none⟩)) 119 rfl rfl (by kernel_rfl) (by kernel_rfl) (by kernel_rfl) (fun _ _ _ h => h) (Or.inl ⟨by rfl, by intro Wy hSW; have hc := hnn; go_simp⟩) (by assumption) ?_
                (try simp only [Act.put, List.setIfInBounds_toArray, List.set_cons_zero, List.set_cons_succ])
                refine take_put (i := 4) (v := .int .i64 D) 120 rfl rfl (by kernel_rfl) (by kernel_rfl) (by kernel_rfl) (fun _ _ _ h => h) (Or.inl ⟨by rfl, by intro Wy hSW; have hc := hSW.2; go_simp⟩) (by assumption) ?_
                (try simp only [Act.put, List.setIfInBounds_toArray, List.set_cons_zero, List.set_cons_succ])
                refine take_put (i := 5) (v := .bool true) 121 rfl rfl (by kernel_rfl) (by kernel_rfl) (by kernel_rfl) (fun _ _ _ h => h) (Or.inl ⟨by rfl, by intro Wy hSW; go_simp⟩) (by assumption) ?_
                (try simp only [Act.put, List.setIfInBounds_toArray, List.set_cons_zero, List.set_cons_succ])
                refine take_put (i := 6) (v := .bool true) 122 rfl rfl (by kernel_rfl) (by kernel_rfl) (by kernel_rfl) (fun _ _ _ h => h) (Or.inl ⟨by rfl, by intro Wy hSW; go_simp⟩) (by assumption) ?_
                (try simp only [Act.put, List.setIfInBounds_toArray, List.set_cons_zero, List.set_cons_succ])
                refine take_put (i := 7) (v := .agg #[.int .i64 (K : Int), .slice u1 0 c1]) 123 rfl rfl (by kernel_rfl) (by kernel_rfl) (by kernel_rfl) (fun _ _ _ h => h) (Or.inl ⟨by rfl, by intro Wy hSW; have hc := blk_cell hSW.1.2 0; have hc2 := blk_cell hSW.1.2 1; go_simp⟩) (by assumption) ?_
                (try simp only [Act.put, List.setIfInBounds_toArray, List.set_cons_zero, List.set_cons_succ])
                refine take_put (i := 8) (v := .int .i64 (K : Int)) 124 rfl rfl (by kernel_rfl) (by kernel_rfl) (by kernel_rfl) (fun _ _ _ h => h) (Or.inl ⟨by rfl, by intro Wy hSW; go_simp⟩) (by assumption) ?_
                (try simp only [Act.put, List.setIfInBounds_toArray, List.set_cons_zero, List.set_cons_succ])
                refine take_put (i := 9) (v := .pointer (some ⟨BS, 1, none⟩)) 125 rfl rfl (by kernel_rfl) (by kernel_rfl) (by kernel_rfl) (fun _ _ _ h => h) (Or.inl ⟨by rfl, by intro Wy hSW; go_simp⟩) (by assumption) ?_
                (try simp only [Act.put, List.setIfInBounds_toArray, List.set_cons_zero, List.set_cons_succ])
                refine take_put (i := 10) (v := .slice (some ⟨g, o, none⟩) 1 1) 126 rfl rfl (by kernel_rfl) (by kernel_rfl) (by kernel_rfl) (fun _ _ _ h => h) (Or.inl ⟨by rfl, by intro Wy hSW; have hc := blk_cell hSW.1.1 1; go_simp⟩) (by assumption) ?_
                (try simp only [Act.put, List.setIfInBounds_toArray, List.set_cons_zero, List.set_cons_succ])
                refine take_put (i := 11) (v := .slice (some ⟨g, o, none⟩) 0 0) 127 rfl rfl (by kernel_rfl) (by kernel_rfl) (by kernel_rfl) (fun _ _ _ h => h) (Or.inl ⟨by rfl, by intro Wy hSW; have hc := hnn; go_simp⟩) (by assumption) ?_
                (try simp only [Act.put, List.setIfInBounds_toArray, List.set_cons_zero, List.set_cons_succ])
                refine take_put (i := 12) (v := .agg #[.int .i64 (K : Int), .slice (some ⟨g, o, none⟩) 0 0]) 128 rfl rfl (by kernel_rfl) (by kernel_rfl) (by kernel_rfl) (fun _ _ _ h => h) (Or.inl ⟨by rfl, by intro Wy hSW; go_simp⟩) (by assumption) ?_
                (try simp only [Act.put, List.setIfInBounds_toArray, List.set_cons_zero, List.set_cons_succ])
                refine wpAnyH_ready (rs := [13]) (by kernel_rfl) (by simp) ?_
                refine AllReadyH.cons rfl (fun Kx hKx => ?_) AllReadyH.nil
                go_simp
                refine (sameT_any (K : Int) u1 (some ⟨g, o, none⟩) 0 0 c1 0 rest W OA.out.row (row_tail1 (RV.out _ HG.out))).mono ?_; rintro e W1 ⟨rfl, hg⟩
                have HGn := hide (grownBy_trans HG.out hg)
                clear HG OA
                have HG := HGn
                clear HGn
                refine hKx.out _ _ ⟨⟨box_grown hHeld.1.1 hg (by simp), box_grown hHeld.1.2 hg (by simp)⟩, HCQ.out _ HG.out⟩ (fun hHeld => ?_)
                clear hKx Kx
                (try simp only [Act.put])
                clear hg
                refine take_put (i := 14) (v := .bool true) 130 rfl rfl (by kernel_rfl) (by kernel_rfl) (by kernel_rfl) (fun _ _ _ h => h) (Or.inl ⟨by rfl, by intro Wy hSW; go_simp⟩) (by assumption) ?_
                (try simp only [Act.put, List.setIfInBounds_toArray, List.set_cons_zero, List.set_cons_succ])
                refine take_put (i := 15) (v := .bool true) 6 rfl rfl (by kernel_rfl) (by kernel_rfl) (by kernel_rfl) (fun _ _ _ h => h) (Or.inl ⟨by rfl, by intro Wy hSW; go_simp⟩) (by assumption) ?_
                (try simp only [Act.put, List.setIfInBounds_toArray, List.set_cons_zero, List.set_cons_succ])
                refine wpAnyH_done (by kernel_rfl) ?_ _
                clear hHeld
                go_wp2
                go_ret
                exact ⟨rfl, HG.out⟩
              · skip
                have hcc : n ≤ cap ∧ cap ≠ 1 := ⟨by
                  obtain ⟨-, a2, c2, e, ha⟩ := RV.out _ HG.out
                  simp only [Value.slice.injEq] at e
                  obtain ⟨rfl, -, rfl⟩ := e
                  obtain ⟨g', o', e, hlo, -⟩ := ha (by simp)
                  have h1 := hlo.2
                  have h2 := HNAT.out
                  simp only [List.length_cons] at h1 h2
                  omega, hcap⟩
                refine wp_region_held_drew (S := fun W => (W.heap[BS]? = some (.cells #[.int .i64 L, .slice (some ⟨g, o, none⟩) n cap] 26 (0, 0)) ∧ W.heap[BA]? = some (.cells #[.int .i64 (K : Int), .slice u1 M c1] 26 (0, 0))) ∧ W.cell? ⟨g, o, none⟩ = some (.int .i64 D)) (by kernel_rfl) ⟨⟨HS.out, HA.out⟩, HCQ.out _ (grownBy_trans HG.out (grownBy_draws _ 1 none))⟩ (fun hHeld => ?_)
                have HGn : Hid (w.grownBy w8.drew none) := hide (grownBy_trans HG.out (grownBy_draws w8 1 none))
                have OAn : Hid (Own 0 w8.drew (.slice u1 M c1) rest) := hide (OA.out.grown (grownBy_draws w8 1 none))
                clear HG OA HS HA HT HX
                generalize w8.drew = W at *
                have HG := HGn
                have OA := OAn
                clear HGn OAn
                refine take_put (i := 0) (v := .int .i64 D) 116 rfl rfl (by kernel_rfl) (by kernel_rfl) (by kernel_rfl) (fun _ _ _ h => h) (Or.inl ⟨by rfl, by intro Wy hSW; go_simp⟩) (by assumption) ?_
                (try simp only [Act.put, List.setIfInBounds_toArray, List.set_cons_zero, List.set_cons_succ])
                refine take_put (i := 1) (v := .pointer (some ⟨BS, 1, none⟩)) 117 rfl rfl (by kernel_rfl) (by kernel_rfl) (by kernel_rfl) (fun _ _ _ h => h) (Or.inl ⟨by rfl, by intro Wy hSW; go_simp⟩) (by assumption) ?_
                (try simp only [Act.put, List.setIfInBounds_toArray, List.set_cons_zero, List.set_cons_succ])
                refine take_put (i := 2) (v := .slice (some ⟨g, o, none⟩) n cap) 118 rfl rfl (by kernel_rfl) (by kernel_rfl) (by kernel_rfl) (fun _ _ _ h => h) (Or.inl ⟨by rfl, by intro Wy hSW; have hc := blk_cell hSW.1.1 1; go_simp⟩) (by assumption) ?_
                (try simp only [Act.put, List.setIfInBounds_toArray, List.set_cons_zero, List.set_cons_succ])
                refine take_put (i := 3) (v := .pointer (some ⟨g, o, none⟩)) 119 rfl rfl (by kernel_rfl) (by kernel_rfl) (by kernel_rfl) (fun _ _ _ h => h) (Or.inl ⟨by rfl, by intro Wy hSW; have hc := hnn; go_simp⟩) (by assumption) ?_
                (try simp only [Act.put, List.setIfInBounds_toArray, List.set_cons_zero, List.set_cons_succ])
                refine take_put (i := 4) (v := .int .i64 D) 120 rfl rfl (by kernel_rfl) (by kernel_rfl) (by kernel_rfl) (fun _ _ _ h => h) (Or.inl ⟨by rfl, by intro Wy hSW; have hc := hSW.2; go_simp⟩) (by assumption) ?_
                (try simp only [Act.put, List.setIfInBounds_toArray, List.set_cons_zero, List.set_cons_succ])
                refine take_put (i := 5) (v := .bool true) 121 rfl rfl (by kernel_rfl) (by kernel_rfl) (by kernel_rfl) (fun _ _ _ h => h) (Or.inl ⟨by rfl, by intro Wy hSW; go_simp⟩) (by assumption) ?_
                (try simp only [Act.put, List.setIfInBounds_toArray, List.set_cons_zero, List.set_cons_succ])
                refine take_put (i := 6) (v := .bool true) 122 rfl rfl (by kernel_rfl) (by kernel_rfl) (by kernel_rfl) (fun _ _ _ h => h) (Or.inl ⟨by rfl, by intro Wy hSW; go_simp⟩) (by assumption) ?_
                (try simp only [Act.put, List.setIfInBounds_toArray, List.set_cons_zero, List.set_cons_succ])
                refine take_put (i := 7) (v := .agg #[.int .i64 (K : Int), .slice u1 M c1]) 123 rfl rfl (by kernel_rfl) (by kernel_rfl) (by kernel_rfl) (fun _ _ _ h => h) (Or.inl ⟨by rfl, by intro Wy hSW; have hc := blk_cell hSW.1.2 0; have hc2 := blk_cell hSW.1.2 1; go_simp⟩) (by assumption) ?_
                (try simp only [Act.put, List.setIfInBounds_toArray, List.set_cons_zero, List.set_cons_succ])
                refine take_put (i := 8) (v := .int .i64 (K : Int)) 124 rfl rfl (by kernel_rfl) (by kernel_rfl) (by kernel_rfl) (fun _ _ _ h => h) (Or.inl ⟨by rfl, by intro Wy hSW; go_simp⟩) (by assumption) ?_
                (try simp only [Act.put, List.setIfInBounds_toArray, List.set_cons_zero, List.set_cons_succ])
                refine take_put (i := 9) (v := .pointer (some ⟨BS, 1, none⟩)) 125 rfl rfl (by kernel_rfl) (by kernel_rfl) (by kernel_rfl) (fun _ _ _ h => h) (Or.inl ⟨by rfl, by intro Wy hSW; go_simp⟩) (by assumption) ?_
                (try simp only [Act.put, List.setIfInBounds_toArray, List.set_cons_zero, List.set_cons_succ])
                refine take_put (i := 10) (v := .slice (some ⟨g, o, none⟩) n cap) 126 rfl rfl (by kernel_rfl) (by kernel_rfl) (by kernel_rfl) (fun _ _ _ h => h) (Or.inl ⟨by rfl, by intro Wy hSW; have hc := blk_cell hSW.1.1 1; go_simp⟩) (by assumption) ?_
                (try simp only [Act.put, List.setIfInBounds_toArray, List.set_cons_zero, List.set_cons_succ])
                refine take_put (i := 11) (v := .slice (some ⟨g, o + 1, none⟩) (n - 1) (cap - 1)) 127 rfl rfl (by kernel_rfl) (by kernel_rfl) (by kernel_rfl) (fun _ _ _ h => h) (Or.inl ⟨by rfl, by intro Wy hSW; have hc := hnn; go_simp⟩) (by assumption) ?_
                (try simp only [Act.put, List.setIfInBounds_toArray, List.set_cons_zero, List.set_cons_succ])
                refine take_put (i := 12) (v := .agg #[.int .i64 (K : Int), .slice (some ⟨g, o + 1, none⟩) (n - 1) (cap - 1)]) 128 rfl rfl (by kernel_rfl) (by kernel_rfl) (by kernel_rfl) (fun _ _ _ h => h) (Or.inl ⟨by rfl, by intro Wy hSW; go_simp⟩) (by assumption) ?_
                (try simp only [Act.put, List.setIfInBounds_toArray, List.set_cons_zero, List.set_cons_succ])
                refine wpAnyH_ready (rs := [13]) (by kernel_rfl) (by simp) ?_
                refine AllReadyH.cons rfl (fun Kx hKx => ?_) AllReadyH.nil
                go_simp
                refine (sameT_any (K : Int) u1 (some ⟨g, o + 1, none⟩) M (n - 1) c1 (cap - 1) rest W OA.out.row (row_tail (RV.out _ HG.out))).mono ?_; rintro e W1 ⟨rfl, hg⟩
                have HGn := hide (grownBy_trans HG.out hg)
                clear HG OA
                have HG := HGn
                clear HGn
                refine hKx.out _ _ ⟨⟨box_grown hHeld.1.1 hg (by simp), box_grown hHeld.1.2 hg (by simp)⟩, HCQ.out _ HG.out⟩ (fun hHeld => ?_)
                clear hKx Kx
                (try simp only [Act.put])
                clear hg
                refine take_put (i := 14) (v := .bool true) 130 rfl rfl (by kernel_rfl) (by kernel_rfl) (by kernel_rfl) (fun _ _ _ h => h) (Or.inl ⟨by rfl, by intro Wy hSW; go_simp⟩) (by assumption) ?_
                (try simp only [Act.put, List.setIfInBounds_toArray, List.set_cons_zero, List.set_cons_succ])
                refine take_put (i := 15) (v := .bool true) 6 rfl rfl (by kernel_rfl) (by kernel_rfl) (by kernel_rfl) (fun _ _ _ h => h) (Or.inl ⟨by rfl, by intro Wy hSW; go_simp⟩) (by assumption) ?_
                (try simp only [Act.put, List.setIfInBounds_toArray, List.set_cons_zero, List.set_cons_succ])
                refine wpAnyH_done (by kernel_rfl) ?_ _
                clear hHeld
                go_wp2
                go_ret
                exact ⟨rfl, HG.out⟩
theorem taskRegulars_any (t : TaskV) (L : Int) (a : Option Addr) (n cap : Nat) (zs : List Int) (now : Int) (w : World) (hv : RowAt shN 0 w (.slice a n cap) zs) : Calls Try.prog 7 #[taskVal t, .agg #[.int .i64 L, .slice a n cap], .int .i64 now] w fun e w' => e = .returned (.bool true) ∧ w.grownBy w' none := taskRegulars_from t L a n cap zs now w w (grownBy_refl _ _) hv
#print axioms taskRegulars_any
end Go.Proofs.Ytephnppanbckkaa

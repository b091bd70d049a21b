/- Contract of the document's Step, proved over the translation: it answers the same function as the program's. -/
import Derived.Test.YthdpdnibgmjdaaaDoorRefSm
import Derived.Test.YthdpdnibgmjdaaaDoorRefDo
namespace Go.Proofs.YthdpdnibgmjdaaaDoor
open Go.RowKit
attribute [local go_sem] alloc_drewN setCell_drewN

theorem does_any {lo : Nat} (op n : Nat) (v : VmS) (inn outs : Int) (gv : Value) (gs : List Int) (w : World) (hA : Able op n v) (hv : RowAt shN lo w gv gs) :
    Calls Tryd.prog 25 #[.agg #[.int .i64 (op : Int), .int .i64 (n : Int)], vmV v, .int .i64 inn, .int .i64 outs, gv] w fun e w' => e = .returned (.tuple #[vmV (doS op n v inn outs gs).1, efV (doS op n v inn outs gs).2]) ∧ w.grownBy w' none := by
  obtain ⟨pc, acc, m⟩ := v
  have h12 := hA.is
  have hacc := hA.acc
  have hmem := hA.mem
  have hword := hA.word
  have hport := hA.port
  have : op = 0 ∨ op = 1 ∨ op = 2 ∨ op = 3 ∨ op = 4 ∨ op = 5 ∨ op = 6 ∨ op = 7 ∨ op = 8 ∨ op = 9 ∨ op = 10 ∨ op = 11 := by omega
  rcases this with rfl | rfl | rfl | rfl | rfl | rfl | rfl | rfl | rfl | rfl | rfl | rfl
  · exact does_0 n pc acc m inn outs gv w
  · exact does_1 n pc acc m inn outs gv w
  · exact does_2 n pc acc m inn outs gv w (hword (by simp))
  · exact does_3 n pc acc m inn outs gv w (hword (by simp)) _ rfl
  · exact does_4 n pc acc m inn outs gv w (hword (by simp)) hacc (hmem n (hword (by simp)))
  · exact does_5 n pc acc m inn outs gv w (hword (by simp)) hacc (hmem n (hword (by simp)))
  · exact does_6 n pc acc m inn outs gv w
  · by_cases h0 : acc = 0
    · rw [show doS 7 n ⟨pc, acc, m⟩ inn outs gs = (⟨n, acc, m⟩, quietE) from if_pos h0]
      exact does_7z n pc acc m inn outs gv w (by simpa using h0)
    · rw [show doS 7 n ⟨pc, acc, m⟩ inn outs gs = (⟨pc, acc, m⟩, quietE) from if_neg h0]
      exact does_7n n pc acc m inn outs gv w (by simpa using h0)
  · exact does_8 n pc acc m inn outs gv w
  · by_cases hb : outs / 2 ^ n % 2 = 1
    · rw [show doS 9 n ⟨pc, acc, m⟩ inn outs gs = (⟨pc, acc, m⟩, ⟨false, n, -1, acc, false⟩) from if_pos (by unfold bitB; rw [decide_eq_true hb])]
      exact does_9y n pc acc m inn outs gv w (hport (by simp)) hb
    · rw [show doS 9 n ⟨pc, acc, m⟩ inn outs gs = (⟨0, 0, m⟩, faultE) from if_neg (by unfold bitB; rw [decide_eq_false hb]; simp)]
      exact does_9n n pc acc m inn outs gv w (hport (by simp)) (by omega)
  · obtain ⟨hl, ga, gcap, rfl, ha⟩ := hv
    by_cases hlt : n < gs.length
    · obtain ⟨g, o, rfl, -, hc⟩ := ha (by omega)
      have cg : w.cell? ⟨g, o + n * 1, none⟩ = some (.int .i64 gs[n]) := hc n _ (List.getElem?_eq_getElem hlt) 0 _ rfl
      rw [Nat.mul_one] at cg
      by_cases h1 : gs[n] = -1
      · have hgo : gotO gs n = none := by unfold gotO; rw [List.getElem?_eq_getElem hlt]; simp [h1]
        rw [show doS 10 n ⟨pc, acc, m⟩ inn outs gs = (⟨0, 0, m⟩, faultE) by simp only [doS, hgo]; rfl]
        rw [h1] at cg
        exact does_10m n pc acc m inn outs g o gs.length gcap w hlt cg
      · have hgo : gotO gs n = some gs[n] := by unfold gotO; rw [List.getElem?_eq_getElem hlt]; simp [h1]
        rw [show doS 10 n ⟨pc, acc, m⟩ inn outs gs = (⟨pc, gs[n], m⟩, ⟨false, -1, n, 0, false⟩) by simp only [doS, hgo]]
        exact does_10y n pc acc m inn outs g o gs.length gcap gs[n] w hlt cg (by simpa using h1)
    · have hgo : gotO gs n = none := by unfold gotO; rw [List.getElem?_eq_none (by omega)]
      rw [show doS 10 n ⟨pc, acc, m⟩ inn outs gs = (⟨0, 0, m⟩, faultE) by simp only [doS, hgo]; rfl]
      exact does_10l n pc acc m inn outs ga gs.length gcap w (by omega)
  · exact does_11 n pc acc m inn outs gv w
#print axioms does_any

set_option maxRecDepth 100000 in
set_option maxHeartbeats 16000000 in
theorem stepRef_any {lo : Nat} (pv : Value) (zs : List Ins) (v : VmS) (inn outs : Int) (gv : Value) (gs : List Int) (w : World) (hz : zs.length ≤ 9223372036854775807) (hp : PReads w pv zs) (hv : RowAt shN lo w gv gs) :
    Calls Tryd.prog 12 #[pv, vmV v, .int .i64 inn, .int .i64 outs, gv] w fun e w' => e = .returned (.tuple #[vmV (stepAns zs v inn outs gs).1, efV (stepAns zs v inn outs gs).2.1, .int .i64 (stepAns zs v inn outs gs).2.2]) ∧ w.grownBy w' none := by
  have CM := hide (fun W (hg : w.grownBy W none) => mayRef_any pv zs v inn outs gv gs W hz (hp.grown hg) (hv.grown hg))
  have HP := hide (fun W (hg : w.grownBy W none) => hp.grown hg)
  have HV0 := hide (fun W (hg : w.grownBy W none) => hv.grown hg)
  obtain ⟨pa, pcap, rfl, -⟩ := hp
  obtain ⟨-, ga, gcap, rfl, -⟩ := hv
  have HAB := hide (able_of (zs := zs) (v := v) (inn := inn) (outs := outs) (gs := gs))
  obtain ⟨A, hA⟩ : ∃ A, stepAns zs v inn outs gs = A := ⟨_, rfl⟩
  rw [hA]
  have HAns := hide hA
  clear hA
  obtain ⟨pc, acc, m⟩ := v
  generalize hb : stepMay zs ⟨pc, acc, m⟩ inn outs gs = bb at *
  have HB := hide hb
  clear hb
  generalize hN : zs.length = N at CM HP ⊢
  have HN := hide hN
  generalize hM : gs.length = M at CM HV0 ⊢
  clear hN hM
  dsimp only [vmV] at CM ⊢
  obtain ⟨b1, b2, b3, bg⟩ := three (w := w) (o1 := .cells #[.int .i64 pc, .int .i64 acc, .int .i64 (m 0), .int .i64 (m 1), .int .i64 (m 2), .int .i64 (m 3), .int .i64 (m 4), .int .i64 (m 5), .int .i64 (m 6), .int .i64 (m 7), .int .i64 (m 8), .int .i64 (m 9), .int .i64 (m 10), .int .i64 (m 11), .int .i64 (m 12), .int .i64 (m 13), .int .i64 (m 14), .int .i64 (m 15)] 25) (o2 := .cells #[.int .i64 0, .int .i64 0, .int .i64 0, .int .i64 0, .int .i64 0, .int .i64 0, .int .i64 0, .int .i64 0, .int .i64 0, .int .i64 0, .int .i64 0, .int .i64 0, .int .i64 0, .int .i64 0, .int .i64 0, .int .i64 0, .int .i64 0, .int .i64 0] 25) (o3 := .cells #[.bool false, .int .i64 0, .int .i64 0, .int .i64 0, .bool false] 30)
  go_enter Tryd.func12, Tryd.ntmps12
  go_upto_region 1 with fail
  generalize hw1 : ((w.alloc (.cells #[.int .i64 pc, .int .i64 acc, .int .i64 (m 0), .int .i64 (m 1), .int .i64 (m 2), .int .i64 (m 3), .int .i64 (m 4), .int .i64 (m 5), .int .i64 (m 6), .int .i64 (m 7), .int .i64 (m 8), .int .i64 (m 9), .int .i64 (m 10), .int .i64 (m 11), .int .i64 (m 12), .int .i64 (m 13), .int .i64 (m 14), .int .i64 (m 15)] 25)).alloc (.cells #[.int .i64 0, .int .i64 0, .int .i64 0, .int .i64 0, .int .i64 0, .int .i64 0, .int .i64 0, .int .i64 0, .int .i64 0, .int .i64 0, .int .i64 0, .int .i64 0, .int .i64 0, .int .i64 0, .int .i64 0, .int .i64 0, .int .i64 0, .int .i64 0] 25)).alloc (.cells #[.bool false, .int .i64 0, .int .i64 0, .int .i64 0, .bool false] 30) = w1 at *
  clear hw1
  have HL := hide (box_lt b3)
  obtain ⟨B, hB⟩ : ∃ B, B = w.heap.size := ⟨_, rfl⟩
  rw [← hB] at b1 b2 b3 HL ⊢
  generalize hR1 : B + 1 = R1 at *
  generalize hR2 : R1 + 1 = R2 at *
  have HO : Hid (w.heap.size ≤ B ∧ B < R1 ∧ R1 < R2) := hide (by omega)
  clear hR1 hR2 hB HL
  have HV := hide b1
  have H1 := hide b2
  have H2 := hide b3
  have HG := hide bg
  clear b1 b2 b3 bg
  go_wp2_with (first | ((with_reducible refine list_load 25 (.tmp 6) (B) 25 #[.int .i64 pc, .int .i64 acc, .int .i64 (m 0), .int .i64 (m 1), .int .i64 (m 2), .int .i64 (m 3), .int .i64 (m 4), .int .i64 (m 5), .int .i64 (m 6), .int .i64 (m 7), .int .i64 (m 8), .int .i64 (m 9), .int .i64 (m 10), .int .i64 (m 11), .int .i64 (m 12), .int .i64 (m 13), .int .i64 (m 14), .int .i64 (m 15)] (0, 0) _ ?hw ?hx ?hg Tryd.underlying25 ?hd ?hi ?_); (case hw => kernel_rfl); (case hx => rfl); (case hg => exact HV.out); (case hd => rfl); (case hi => exact sizeVm)) | fail)
  refine (CM.out _ HG.out).mono ?_; rintro e w2 ⟨rfl, hg⟩
  have HV := hide (box_grown HV.out hg (by simp))
  have H1 := hide (box_grown H1.out hg (by simp))
  have H2 := hide (box_grown H2.out hg (by simp))
  have HG := hide (grownBy_trans HG.out hg)
  clear hg CM
  cases bb with
  | false =>
    have hA : A = (⟨0, 0, fun _ => 0⟩, ⟨false, 0, 0, 0, false⟩, 1000) := by rw [← HAns.out]; exact step_no HB.out
    subst hA
    clear HAns HB HAB HP HV0 HN
    dsimp only [vmV, efV]
    go_wp2_with (first | ((with_reducible refine list_store 25 (.tmp 10) (.tmp 23) (R1) #[.int .i64 0, .int .i64 0, .int .i64 0, .int .i64 0, .int .i64 0, .int .i64 0, .int .i64 0, .int .i64 0, .int .i64 0, .int .i64 0, .int .i64 0, .int .i64 0, .int .i64 0, .int .i64 0, .int .i64 0, .int .i64 0, .int .i64 0, .int .i64 0] 25 #[.int .i64 0, .int .i64 0, .int .i64 0, .int .i64 0, .int .i64 0, .int .i64 0, .int .i64 0, .int .i64 0, .int .i64 0, .int .i64 0, .int .i64 0, .int .i64 0, .int .i64 0, .int .i64 0, .int .i64 0, .int .i64 0, .int .i64 0, .int .i64 0] ?hx ?hy ?hg ?hi ?ho ?h1 ?_); (case hx => rfl); (case hy => rfl); (case hg => exact H1.out); (case hi => exact sizeVm); (case ho => rfl); (case h1 => simp [Value.oneCell']); intro w3 h1 e1 g1; have H1 := hide h1; have H2 := hide ((e1 R2 (by have := HO.out; omega)).trans H2.out); have HG := hide (grown_spoil HG.out (by have := HO.out; omega) g1); clear h1 e1 g1) | ((with_reducible refine list_store 30 (.tmp 11) (.tmp 24) (R2) #[.bool false, .int .i64 0, .int .i64 0, .int .i64 0, .bool false] 30 #[.bool false, .int .i64 0, .int .i64 0, .int .i64 0, .bool false] ?hx ?hy ?hg ?hi ?ho ?h1 ?_); (case hx => rfl); (case hy => rfl); (case hg => exact H2.out); (case hi => exact sizeEf); (case ho => rfl); (case h1 => simp [Value.oneCell']); intro w4 h1 e1 g1; have H2 := hide h1; have H1 := hide ((e1 R1 (by have := HO.out; omega)).trans H1.out); have HG := hide (grown_spoil HG.out (by have := HO.out; omega) g1); clear h1 e1 g1) | fail)
    refine bodyPost_ret (results_rrt rfl _ _ R1 R2 25 30 #[.int .i64 0, .int .i64 0, .int .i64 0, .int .i64 0, .int .i64 0, .int .i64 0, .int .i64 0, .int .i64 0, .int .i64 0, .int .i64 0, .int .i64 0, .int .i64 0, .int .i64 0, .int .i64 0, .int .i64 0, .int .i64 0, .int .i64 0, .int .i64 0] #[.bool false, .int .i64 0, .int .i64 0, .int .i64 0, .bool false] (0, 0) (0, 0) _ _ rfl H1.out Tryd.underlying25 rfl sizeVm rfl H2.out Tryd.underlying30 rfl sizeEf) rfl ?_
    exact ⟨rfl, HG.out⟩
  | true =>
    by_cases h0 : zs.length = 0
    · have hA : A = (⟨pc, acc, m⟩, quietE, 0) := by rw [← HAns.out]; unfold stepAns; rw [HB.out, if_pos rfl, if_pos h0]
      subst hA
      have hN0 : N = 0 := by rw [← HN.out]; exact h0
      subst hN0
      clear HAns HB HAB HP HV0 HN h0
      dsimp only [vmV, efV, quietE]
      go_wp2_with (first | ((with_reducible refine list_load 25 (.tmp 6) (B) 25 #[.int .i64 pc, .int .i64 acc, .int .i64 (m 0), .int .i64 (m 1), .int .i64 (m 2), .int .i64 (m 3), .int .i64 (m 4), .int .i64 (m 5), .int .i64 (m 6), .int .i64 (m 7), .int .i64 (m 8), .int .i64 (m 9), .int .i64 (m 10), .int .i64 (m 11), .int .i64 (m 12), .int .i64 (m 13), .int .i64 (m 14), .int .i64 (m 15)] (0, 0) _ ?hw ?hx ?hg Tryd.underlying25 ?hd ?hi ?_); (case hw => kernel_rfl); (case hx => rfl); (case hg => exact HV.out); (case hd => rfl); (case hi => exact sizeVm)) | ((with_reducible refine list_store 25 (.tmp 10) (.tmp 28) (R1) #[.int .i64 pc, .int .i64 acc, .int .i64 (m 0), .int .i64 (m 1), .int .i64 (m 2), .int .i64 (m 3), .int .i64 (m 4), .int .i64 (m 5), .int .i64 (m 6), .int .i64 (m 7), .int .i64 (m 8), .int .i64 (m 9), .int .i64 (m 10), .int .i64 (m 11), .int .i64 (m 12), .int .i64 (m 13), .int .i64 (m 14), .int .i64 (m 15)] 25 #[.int .i64 0, .int .i64 0, .int .i64 0, .int .i64 0, .int .i64 0, .int .i64 0, .int .i64 0, .int .i64 0, .int .i64 0, .int .i64 0, .int .i64 0, .int .i64 0, .int .i64 0, .int .i64 0, .int .i64 0, .int .i64 0, .int .i64 0, .int .i64 0] ?hx ?hy ?hg ?hi ?ho ?h1 ?_); (case hx => rfl); (case hy => rfl); (case hg => exact H1.out); (case hi => exact sizeVm); (case ho => rfl); (case h1 => simp [Value.oneCell']); intro w3 h1 e1 g1; have H1 := hide h1; have H2 := hide ((e1 R2 (by have := HO.out; omega)).trans H2.out); have HG := hide (grown_spoil HG.out (by have := HO.out; omega) g1); clear h1 e1 g1) | ((with_reducible refine list_store 30 (.tmp 11) (.tmp 29) (R2) #[.bool false, .int .i64 (-1), .int .i64 (-1), .int .i64 0, .bool false] 30 #[.bool false, .int .i64 0, .int .i64 0, .int .i64 0, .bool false] ?hx ?hy ?hg ?hi ?ho ?h1 ?_); (case hx => rfl); (case hy => rfl); (case hg => exact H2.out); (case hi => exact sizeEf); (case ho => rfl); (case h1 => simp [Value.oneCell']); intro w4 h1 e1 g1; have H2 := hide h1; have H1 := hide ((e1 R1 (by have := HO.out; omega)).trans H1.out); have HG := hide (grown_spoil HG.out (by have := HO.out; omega) g1); clear h1 e1 g1) | fail)
      refine bodyPost_ret (results_rrt rfl _ _ R1 R2 25 30 #[.int .i64 pc, .int .i64 acc, .int .i64 (m 0), .int .i64 (m 1), .int .i64 (m 2), .int .i64 (m 3), .int .i64 (m 4), .int .i64 (m 5), .int .i64 (m 6), .int .i64 (m 7), .int .i64 (m 8), .int .i64 (m 9), .int .i64 (m 10), .int .i64 (m 11), .int .i64 (m 12), .int .i64 (m 13), .int .i64 (m 14), .int .i64 (m 15)] #[.bool false, .int .i64 (-1), .int .i64 (-1), .int .i64 0, .bool false] (0, 0) (0, 0) _ _ rfl H1.out Tryd.underlying25 rfl sizeVm rfl H2.out Tryd.underlying30 rfl sizeEf) rfl ?_
      exact ⟨rfl, HG.out⟩
    · obtain ⟨k, op, n, hpc, hk, h64, hz', hin, hab⟩ := HAB.out rfl h0
      try dsimp only at hpc hab
      subst hpc
      have HM : (((k + 1) % zs.length : Nat) : Int) = ((k : Int) + 1).tmod (zs.length : Int) := by
        rw [Int.tmod_eq_emod_of_nonneg (by omega)]; simp
      obtain ⟨D, hD⟩ : ∃ D, doS op n ⟨((k + 1) % zs.length : Nat), acc, m⟩ inn outs gs = D := ⟨_, rfl⟩
      have hA : A = (D.1, D.2, 0) := by
        rw [← HAns.out]; unfold stepAns; rw [HB.out, if_pos rfl, if_neg h0]
        simp only [Int.toNat_natCast, hin, hD]
      subst hA
      obtain ⟨k', hk'⟩ : ∃ k', (k + 1) % zs.length = k' := ⟨_, rfl⟩
      have hk2 : k' < zs.length := by rw [← hk']; exact Nat.mod_lt _ (by omega)
      rw [hk'] at hab hD HM
      have CD := hide (fun W (hg : w.grownBy W none) => does_any op n ⟨k', acc, m⟩ inn outs (.slice ga M gcap) gs W hab (HV0.out W hg))
      rw [hD] at CD
      obtain ⟨pa', pcap', e, ha⟩ := HP.out w2 HG.out
      simp only [Value.slice.injEq] at e
      obtain ⟨rfl, -, rfl⟩ := e
      obtain ⟨g, o, rfl, hc⟩ := ha (by omega)
      obtain ⟨p0, p1⟩ := hc k hk
      rw [hz'] at p0 p1
      dsimp only [Option.getD_some] at p0 p1
      rw [HN.out] at hk h64 HM hk2
      have hN1 : 0 < N := by omega
      have hM' := HM.symm
      clear HAB HAns HB hD hab hin hz' ha hc HV0 HP HM h0 HN hk'
      obtain ⟨⟨d0, d1, dm⟩, ⟨f0, f1, f2, f3, f4⟩⟩ := D
      dsimp only [vmV, efV] at CD ⊢
      have c0 : w2.cell? ⟨B, 0, none⟩ = some (.int .i64 (k : Int)) := blk_cell HV.out 0
      go_upto_region 6 with fail
      have HX := hide (World.heap_alloc_new w2 (.cells #[.int .i64 (op : Int), .int .i64 (n : Int)] 43))
      have hg := World.grownBy_alloc w2 (.cells #[.int .i64 (op : Int), .int .i64 (n : Int)] 43) none
      have HLX := hide (box_lt H2.out)
      have HV := hide (box_grown HV.out hg (by simp))
      have H1 := hide (box_grown H1.out hg (by simp))
      have H2 := hide (box_grown H2.out hg (by simp))
      have HG := hide (grownBy_trans HG.out hg)
      clear hg c0 p0 p1
      generalize hw3 : w2.alloc (.cells #[.int .i64 (op : Int), .int .i64 (n : Int)] 43) = w3 at *
      generalize hXe : w2.heap.size = X at *
      clear hw3 hXe
      have HO : Hid (w.heap.size ≤ B ∧ B < R1 ∧ R1 < R2 ∧ R2 < X) := hide ⟨HO.out.1, HO.out.2.1, HO.out.2.2, HLX.out⟩
      clear HLX
      have c0 : w3.cell? ⟨B, 0, none⟩ = some (.int .i64 (k : Int)) := blk_cell HV.out 0
      have f0' := blk_free HV.out 0
      have HVn : Hid ((w3.setCell ⟨B, 0, none⟩ (.int .i64 (k' : Int))).heap[B]? = some (.cells #[.int .i64 (k' : Int), .int .i64 acc, .int .i64 (m 0), .int .i64 (m 1), .int .i64 (m 2), .int .i64 (m 3), .int .i64 (m 4), .int .i64 (m 5), .int .i64 (m 6), .int .i64 (m 7), .int .i64 (m 8), .int .i64 (m 9), .int .i64 (m 10), .int .i64 (m 11), .int .i64 (m 12), .int .i64 (m 13), .int .i64 (m 14), .int .i64 (m 15)] 25 (0, 0))) := hide (blk_set HV.out (by rfl))
      have H1 := hide ((heap_else w3 0 (.int .i64 (k' : Int)) (show B ≠ R1 by have := HO.out; omega)).trans H1.out)
      have H2 := hide ((heap_else w3 0 (.int .i64 (k' : Int)) (show B ≠ R2 by have := HO.out; omega)).trans H2.out)
      have HX := hide ((heap_else w3 0 (.int .i64 (k' : Int)) (show B ≠ X by have := HO.out; omega)).trans HX.out)
      have HG := hide (grown_set_new (R := B) (j := 0) (u := .int .i64 (k' : Int)) (by have := HO.out; omega) HG.out)
      go_upto_region 7 with fail
      generalize hw4 : w3.setCell ⟨B, 0, none⟩ (.int .i64 (k' : Int)) = w4 at *
      clear hw4 c0 f0' HV
      have HV := HVn
      clear HVn hM' hk2
      have x0 : w4.cell? ⟨X, 0, none⟩ = some (.int .i64 (op : Int)) := blk_cell HX.out 0
      have x1 : w4.cell? ⟨X, 1, none⟩ = some (.int .i64 (n : Int)) := blk_cell HX.out 1
      go_wp2_with (first | ((with_reducible refine list_load 25 (.tmp 6) (B) 25 #[.int .i64 (k' : Int), .int .i64 acc, .int .i64 (m 0), .int .i64 (m 1), .int .i64 (m 2), .int .i64 (m 3), .int .i64 (m 4), .int .i64 (m 5), .int .i64 (m 6), .int .i64 (m 7), .int .i64 (m 8), .int .i64 (m 9), .int .i64 (m 10), .int .i64 (m 11), .int .i64 (m 12), .int .i64 (m 13), .int .i64 (m 14), .int .i64 (m 15)] (0, 0) _ ?hw ?hx ?hg Tryd.underlying25 ?hd ?hi ?_); (case hw => kernel_rfl); (case hx => rfl); (case hg => exact HV.out); (case hd => rfl); (case hi => exact sizeVm)) | fail)
      refine (CD.out _ HG.out).mono ?_; rintro e w5 ⟨rfl, hg⟩
      have HLX := hide (box_lt (box_grown HX.out hg (by simp)))
      have H1 := hide (box_grown H1.out hg (by simp))
      have H2 := hide (box_grown H2.out hg (by simp))
      have HG := hide (grownBy_trans HG.out hg)
      clear hg CD x0 x1
      go_upto_region 8 with (first | ((with_reducible refine list_store 25 (.tmp 14) (.tmp 49) (w5.heap.size) #[.int .i64 d0, .int .i64 d1, .int .i64 (dm 0), .int .i64 (dm 1), .int .i64 (dm 2), .int .i64 (dm 3), .int .i64 (dm 4), .int .i64 (dm 5), .int .i64 (dm 6), .int .i64 (dm 7), .int .i64 (dm 8), .int .i64 (dm 9), .int .i64 (dm 10), .int .i64 (dm 11), .int .i64 (dm 12), .int .i64 (dm 13), .int .i64 (dm 14), .int .i64 (dm 15)] 25 #[.int .i64 0, .int .i64 0, .int .i64 0, .int .i64 0, .int .i64 0, .int .i64 0, .int .i64 0, .int .i64 0, .int .i64 0, .int .i64 0, .int .i64 0, .int .i64 0, .int .i64 0, .int .i64 0, .int .i64 0, .int .i64 0, .int .i64 0, .int .i64 0] ?hx ?hy ?hg ?hi ?ho ?h1 ?_); (case hx => rfl); (case hy => rfl); (case hg => exact box_grown (World.heap_alloc_new _ _) (World.grownBy_alloc _ _ none) (by simp)); (case hi => exact sizeVm); (case ho => rfl); (case h1 => simp [Value.oneCell']); intro w6 h1 e1 g1; have HA := hide h1; have HE := hide ((e1 (w5.heap.size + 1) (by omega)).trans (alloc_next _ _ _)); have HNN := hide (grown_spoil (grownBy_trans (World.grownBy_alloc w5 _ none) (World.grownBy_alloc _ _ none)) (Nat.le_refl _) g1); clear h1 e1 g1) | ((with_reducible refine list_store 30 (.tmp 15) (.tmp 50) (w5.heap.size + 1) #[.bool f0, .int .i64 f1, .int .i64 f2, .int .i64 f3, .bool f4] 30 #[.bool false, .int .i64 0, .int .i64 0, .int .i64 0, .bool false] ?hx ?hy ?hg ?hi ?ho ?h1 ?_); (case hx => rfl); (case hy => rfl); (case hg => exact HE.out); (case hi => exact sizeEf); (case ho => rfl); (case h1 => simp [Value.oneCell']); intro w7 h1 e1 g1; have HQ := hide ((e1 (w5.heap.size) (by omega)).trans HA.out); have HF := hide h1; have hgN := grown_spoil HNN.out (Nat.le_succ _) g1; have H1 := hide (box_grown H1.out hgN (by simp)); have H2 := hide (box_grown H2.out hgN (by simp)); have HG := hide (grownBy_trans HG.out hgN); clear h1 e1 g1 hgN HA HE HNN) | fail)
      generalize hYe : w5.heap.size = Y at *
      have HO : Hid (w.heap.size ≤ B ∧ B < R1 ∧ R1 < R2 ∧ R2 < Y) := hide ⟨HO.out.1, HO.out.2.1, HO.out.2.2.1, Nat.lt_trans HO.out.2.2.2 HLX.out⟩
      clear HLX hYe
      refine wp_region_held_drew (S := fun W => W.heap[Y]? = some (.cells #[.int .i64 d0, .int .i64 d1, .int .i64 (dm 0), .int .i64 (dm 1), .int .i64 (dm 2), .int .i64 (dm 3), .int .i64 (dm 4), .int .i64 (dm 5), .int .i64 (dm 6), .int .i64 (dm 7), .int .i64 (dm 8), .int .i64 (dm 9), .int .i64 (dm 10), .int .i64 (dm 11), .int .i64 (dm 12), .int .i64 (dm 13), .int .i64 (dm 14), .int .i64 (dm 15)] 25 (0, 0)) ∧ W.heap[Y + 1]? = some (.cells #[.bool f0, .int .i64 f1, .int .i64 f2, .int .i64 f3, .bool f4] 30 (0, 0))) (by kernel_rfl) ⟨HQ.out, HF.out⟩ (fun hHeld => ?_)
      refine take_put (i := 0) (v := .agg #[.int .i64 d0, .int .i64 d1, .int .i64 (dm 0), .int .i64 (dm 1), .int .i64 (dm 2), .int .i64 (dm 3), .int .i64 (dm 4), .int .i64 (dm 5), .int .i64 (dm 6), .int .i64 (dm 7), .int .i64 (dm 8), .int .i64 (dm 9), .int .i64 (dm 10), .int .i64 (dm 11), .int .i64 (dm 12), .int .i64 (dm 13), .int .i64 (dm 14), .int .i64 (dm 15)]) 51 rfl rfl (by kernel_rfl) (by kernel_rfl) (by kernel_rfl) (fun _ _ _ h => h) (yieldsIf_load_mid (by rfl) 25 (.tmp 14) rfl Y 0 rfl [.int .i64 d0, .int .i64 d1, .int .i64 (dm 0), .int .i64 (dm 1), .int .i64 (dm 2), .int .i64 (dm 3), .int .i64 (dm 4), .int .i64 (dm 5), .int .i64 (dm 6), .int .i64 (dm 7), .int .i64 (dm 8), .int .i64 (dm 9), .int .i64 (dm 10), .int .i64 (dm 11), .int .i64 (dm 12), .int .i64 (dm 13), .int .i64 (dm 14), .int .i64 (dm 15)] _ (fun W h => range_of h.1) Tryd.underlying25 rfl sizeVm) (by assumption) ?_
      simp only [Act.put, List.setIfInBounds_toArray, List.set_cons_zero, List.set_cons_succ]
      refine take_put (i := 1) (v := .agg #[.bool f0, .int .i64 f1, .int .i64 f2, .int .i64 f3, .bool f4]) 52 rfl rfl (by kernel_rfl) (by kernel_rfl) (by kernel_rfl) (fun _ _ _ h => h) (yieldsIf_load_mid (by rfl) 30 (.tmp 15) rfl (Y + 1) 0 rfl [.bool f0, .int .i64 f1, .int .i64 f2, .int .i64 f3, .bool f4] _ (fun W h => range_of h.2) Tryd.underlying30 rfl sizeEf) (by assumption) ?_
      simp only [Act.put, List.setIfInBounds_toArray, List.set_cons_zero, List.set_cons_succ]
      refine wpAnyH_ready (rs := [2]) (by kernel_rfl) (by simp) ?_
      refine AllReadyH.cons rfl (fun K hK => ?_) AllReadyH.nil
      refine step_store 25 (.tmp 10) (.tmp 51) R1 #[.int .i64 d0, .int .i64 d1, .int .i64 (dm 0), .int .i64 (dm 1), .int .i64 (dm 2), .int .i64 (dm 3), .int .i64 (dm 4), .int .i64 (dm 5), .int .i64 (dm 6), .int .i64 (dm 7), .int .i64 (dm 8), .int .i64 (dm 9), .int .i64 (dm 10), .int .i64 (dm 11), .int .i64 (dm 12), .int .i64 (dm 13), .int .i64 (dm 14), .int .i64 (dm 15)] 25 #[.int .i64 0, .int .i64 0, .int .i64 0, .int .i64 0, .int .i64 0, .int .i64 0, .int .i64 0, .int .i64 0, .int .i64 0, .int .i64 0, .int .i64 0, .int .i64 0, .int .i64 0, .int .i64 0, .int .i64 0, .int .i64 0, .int .i64 0, .int .i64 0] rfl rfl H1.out sizeVm rfl (by simp [Value.oneCell']) ?_
      intro w8 h5 e5 g5
      have HF5 := hide ((e5 (Y + 1) (by have := HO.out; omega)).trans HF.out)
      refine hK.out _ _ ⟨(e5 Y (by have := HO.out; omega)).trans HQ.out, HF5.out⟩ (fun hHeld => ?_)
      simp only [Act.put]
      refine wpAnyH_ready (rs := [3]) (by kernel_rfl) (by simp) ?_
      refine AllReadyH.cons rfl (fun K hK => ?_) AllReadyH.nil
      refine step_store 30 (.tmp 11) (.tmp 52) R2 #[.bool f0, .int .i64 f1, .int .i64 f2, .int .i64 f3, .bool f4] 30 #[.bool false, .int .i64 0, .int .i64 0, .int .i64 0, .bool false] rfl rfl ((e5 R2 (by have := HO.out; omega)).trans H2.out) sizeEf rfl (by simp [Value.oneCell']) ?_
      intro w9 h6 e6 g6
      refine hK.out _ _ ⟨(e6 Y (by have := HO.out; omega)).trans hHeld.1, (e6 (Y + 1) (by have := HO.out; omega)).trans HF5.out⟩ (fun hHeld2 => ?_)
      simp only [Act.put]
      refine take_put (i := 4) (v := .int .i64 0) 12 rfl rfl (by kernel_rfl) (by kernel_rfl) (by kernel_rfl) (fun _ _ _ h => h) (Or.inl ⟨by rfl, by intro w hSw; go_simp⟩) (by assumption) ?_
      simp only [Act.put, List.setIfInBounds_toArray, List.set_cons_zero, List.set_cons_succ]
      refine wpAnyH_done (by kernel_rfl) ?_ _
      have H5 := hide ((e6 R1 (by have := HO.out; omega)).trans h5)
      have H6 := hide h6
      have HGF := hide (grown_spoil (grown_spoil (grownBy_trans HG.out (grownBy_draws _ 1 none)) (by have := HO.out; omega) g5) (by have := HO.out; omega) g6)
      clear h5 h6 e5 e6 g5 g6 hHeld hHeld2 hK
      go_wp2
      refine bodyPost_ret (results_rrt rfl _ _ R1 R2 25 30 #[.int .i64 d0, .int .i64 d1, .int .i64 (dm 0), .int .i64 (dm 1), .int .i64 (dm 2), .int .i64 (dm 3), .int .i64 (dm 4), .int .i64 (dm 5), .int .i64 (dm 6), .int .i64 (dm 7), .int .i64 (dm 8), .int .i64 (dm 9), .int .i64 (dm 10), .int .i64 (dm 11), .int .i64 (dm 12), .int .i64 (dm 13), .int .i64 (dm 14), .int .i64 (dm 15)] #[.bool f0, .int .i64 f1, .int .i64 f2, .int .i64 f3, .bool f4] (0, 0) (0, 0) _ _ rfl H5.out Tryd.underlying25 rfl sizeVm rfl H6.out Tryd.underlying30 rfl sizeEf) rfl ?_
      exact ⟨rfl, HGF.out⟩
#print axioms stepRef_any
end Go.Proofs.YthdpdnibgmjdaaaDoor

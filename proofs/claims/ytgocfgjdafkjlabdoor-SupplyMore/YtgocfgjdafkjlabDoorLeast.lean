/- Contracts of package supply's leastOf and Least, proved over the translation. -/
import Derived.Test.YtgocfgjdafkjlabDoorSums
namespace Go.Proofs.YtgocfgjdafkjlabDoor
open Go.RowKit
attribute [local go_sem] alloc_drewN setCell_drewN

set_option maxRecDepth 100000 in
set_option maxHeartbeats 2000000 in
theorem leastOf_any (B F r : Nat) (f : Nat → Int) (w W : World) (h : Arr w B (2 * F + 1) f W) (hr : r < F) (hF : F ≤ 256) (hf : ∀ i, 0 ≤ f i ∧ f i ≤ i) :
    Calls Tryd.prog 13 #[.slice (some ⟨B, 0, none⟩) (2 * F + 1) (2 * F + 1), .int .i64 F, .int .i64 r] W fun e W' => e = .returned (.int .i64 (minTo (fun s => f (s + r) - f s) r F)) ∧ W.grownBy W' none := by
  have HA := hide h
  have HF := hide hf
  obtain ⟨K, hK⟩ : ∃ K, K = 2 * F + 1 := ⟨_, rfl⟩
  rw [← hK] at HA ⊢
  have hK1 : K ≤ 2 * F + 1 := by omega
  have hK2 : 2 * F + 1 ≤ K := by omega
  clear h hf hK
  have HM0 : Hid (minTo (fun s => f (s + r) - f s) r 0 = r) := rfl
  have HMS : Hid (∀ n, minTo (fun s => f (s + r) - f s) r (n + 1) = min (minTo (fun s => f (s + r) - f s) r n) (f (n + r) - f n)) := fun n => rfl
  generalize minTo (fun s => f (s + r) - f s) r = M at *
  go_enter Tryd.func13, Tryd.ntmps13
  go_wp2
  go_loopw [7, 8, 11] (fun s _ i V => ∃ (j : Nat), j ≤ F ∧ i = .int .i64 j ∧ s = .int .i64 (M j) ∧ Hid (W.grownBy V none)) (fun _ _ i _ => F - (intOf i).toNat)
  case atStart => exact ⟨0, by omega, rfl, by rw [HM0.out], grownBy_refl _ _⟩
  case round =>
    obtain ⟨j, hj, rfl, rfl, HG⟩ := hrel
    by_cases hlt : j < F
    · have HR := hide (HA.out.up HG.out)
      have c0 := HR.out.cell j (by omega)
      have c1 := HR.out.cell (j + r) (by omega)
      have b0 := HF.out j
      have b1 := HF.out (j + r)
      have HS := hide (HMS.out j)
      generalize f j = x at *
      generalize f (j + r) = y at *
      have hsub : IntKind.i64.wrap (y - x) = y - x := by rw [IntKind.wrap_i64]; omega
      generalize M j = m at *
      go_wp2
      go_region
      all_goals
        go_wp2
        go_roundw
        case rel => exact ⟨j + 1, by omega, by go_num, by rw [HS.out], hide (grownBy_trans HG.out (grownBy_draws _ _ _))⟩
        case measure => simp [intOf]; omega
    · have e : j = F := by omega
      subst e
      go_wp2
      go_ret
      exact ⟨rfl, HG.out⟩

set_option maxRecDepth 100000 in
set_option maxHeartbeats 4000000 in
theorem least_any {lo : Nat} (c : Value) (C : ConfV) (p k : Int) (w : World) (hT : Tab w) (hc : ConfAt lo w c C) :
    Calls Tryd.prog 7 #[c, .int .i64 p, .int .i64 k] w fun e w' => e = .returned (.tuple #[.int .i64 (leV C p k), .int .i64 (leE C p k)]) ∧ w.grownBy w' none := by
  have C1 := hide (fun W (hg : w.grownBy W none) => check_any c C W (hT.grown hg) (hc.grown hg))
  have C2 := hide (fun W (hg : w.grownBy W none) (q F : Nat) (hF : (F : Int) = C.frame) (hck : checkN C = 0) => sums_any c C q F hF hck W (hc.grown hg))
  obtain ⟨vp, vw, vo, rfl, ⟨qs, hlen, ⟨hl, pa, pc, rfl, -⟩, -⟩, ⟨-, wa, wc, rfl, -⟩, ⟨-, oa, oc, rfl, -⟩⟩ := hc
  have HFI := hide (fun h : checkN C = 0 => fine_of h)
  have HV : Hid (leV C p k = if leOK C p k = true then leastN (own1 C p.toNat C.frame.toNat) C.frame.toNat k.toNat else 0) := rfl
  have HE : Hid (leE C p k = if leOK C p k = true then 0 else 700) := rfl
  have HOK : Hid (leOK C p k = (decide (checkN C = 0) && (decide (0 ≤ p) && (decide (p < C.parts.length) && (decide (0 ≤ k) && decide (k ≤ 4096)))))) := rfl
  rw [← hlen] at HOK
  have HFR : Hid (checkN C = 0 → 1 ≤ C.frame ∧ C.frame ≤ 256) := fun h => ⟨(fine_of h).f0, (fine_of h).f1⟩
  clear hT hlen HFI
  generalize leV C p k = av at *
  generalize leE C p k = ae at *
  generalize leOK C p k = ok at *
  have HOB := hide (fun q F => own1_bd C q F)
  generalize own1 C = ow at *
  generalize checkN C = ce at *
  generalize C.frame = fr at *
  generalize C.quiet = qt at *
  generalize qs.length = n0 at *
  generalize C.wins.length = n1 at *
  generalize C.ports.length = n2 at *
  have HG0 := hide (World.grownBy_alloc w (.cells #[.int .i64 fr, .int .i64 qt, .slice pa n0 pc, .slice wa n1 wc, .slice oa n2 oc] 30) none)
  have KEEP : Hid (∀ W, (w.alloc (.cells #[.int .i64 fr, .int .i64 qt, .slice pa n0 pc, .slice wa n1 wc, .slice oa n2 oc] 30)).grownBy W none → W.cell? ⟨w.heap.size, 0, none⟩ = some (.int .i64 fr) ∧ W.cell? ⟨w.heap.size, 1, none⟩ = some (.int .i64 qt) ∧ W.cell? ⟨w.heap.size, 2, none⟩ = some (.slice pa n0 pc) ∧ W.cell? ⟨w.heap.size, 3, none⟩ = some (.slice wa n1 wc) ∧ W.cell? ⟨w.heap.size, 4, none⟩ = some (.slice oa n2 oc)) := by
    intro W hW
    have b := fun k => World.cell?_of_block (a := ⟨w.heap.size, k, none⟩) (hW.block w.heap.size (by simp) (by simp))
    exact ⟨(b 0).trans (by simp), (b 1).trans (by simp), (b 2).trans (by simp), (b 3).trans (by simp), (b 4).trans (by simp)⟩
  go_enter Tryd.func7, Tryd.ntmps7
  go_wp2_with (first | fail)
  refine (C1.out _ HG0.out).mono ?_; rintro e w1 ⟨rfl, hg⟩
  have G1 := hide hg
  clear hg C1
  obtain ⟨f0, f1, f2, f3, f4⟩ := KEEP.out w1 G1.out
  by_cases h : ce = 0
  · subst h
    have hfr := HFR.out rfl
    by_cases h0 : p < 0
    · have HO := hide (HOK.out.trans (show _ = false by simp; omega))
      go_wp2
      go_ret2
      exact ⟨by rw [HV.out, HE.out, HO.out]; rfl, grownBy_trans HG0.out G1.out⟩
      
    by_cases h1 : (n0 : Int) ≤ p
    · have HO := hide (HOK.out.trans (show _ = false by simp; omega))
      go_wp2
      go_ret2
      exact ⟨by rw [HV.out, HE.out, HO.out]; rfl, grownBy_trans HG0.out G1.out⟩
      
    by_cases h2 : k < 0
    · have HO := hide (HOK.out.trans (show _ = false by simp; omega))
      go_wp2
      go_ret2
      exact ⟨by rw [HV.out, HE.out, HO.out]; rfl, grownBy_trans HG0.out G1.out⟩
      
    by_cases h3 : 4096 < k
    · have HO := hide (HOK.out.trans (show _ = false by simp; omega))
      go_wp2
      go_ret2
      exact ⟨by rw [HV.out, HE.out, HO.out]; rfl, grownBy_trans HG0.out G1.out⟩
      
    have HO := hide (HOK.out.trans (show _ = true by simp; omega))
    obtain ⟨P, rfl⟩ : ∃ P : Nat, p = P := ⟨p.toNat, by omega⟩
    obtain ⟨L, rfl⟩ : ∃ L : Nat, k = L := ⟨k.toNat, by omega⟩
    obtain ⟨F, rfl⟩ : ∃ F : Nat, fr = F := ⟨fr.toNat, by omega⟩
    have HV2 := hide (HV.out.trans (by rw [HO.out, if_pos rfl, Int.toNat_natCast, Int.toNat_natCast, Int.toNat_natCast]))
    have HE2 := hide (HE.out.trans (by rw [HO.out, if_pos rfl]))
    clear HV HE HOK
    have HD0 := hide (grownBy_trans HG0.out G1.out)
    have CS := hide (C2.out w1 HD0.out P F rfl rfl)
    clear C2
    go_wp2_with (go_at_call 12; refine CS.out.mono ?_; rintro e w2 ⟨B, rfl, ha⟩; have HA := hide ha; clear ha)
    have HOB2 := hide (HOB.out P F)
    clear HOB
    generalize ow P F = o at *
    have HSU : Hid (∀ n : Nat, 0 ≤ sumTo o n ∧ sumTo o n ≤ n) := fun n => by
      have := cf_bd HOB2.out 0 n
      unfold cf at this
      rw [Nat.zero_add] at this
      have z : sumTo o 0 = 0 := rfl
      omega
    have hR : L % F < F := Nat.mod_lt _ (by omega)
    have HLO := hide (fun W (hg : w2.grownBy W none) => leastOf_any B F (L % F) _ w1 W (HA.out.up hg) hR (by omega) HSU.out)
    have HMB := hide (show 0 ≤ minTo (fun s => cf o s (L % F)) ((L % F : Nat) : Int) F ∧ minTo (fun s => cf o s (L % F)) ((L % F : Nat) : Int) F ≤ ((L % F : Nat) : Int) from ⟨le_minTo (by omega) fun i _ => (cf_bd HOB2.out i _).1, minTo_le0 _ _ _⟩)
    have HV3 : Hid (av = ((L / F : Nat) : Int) * sumTo o F + minTo (fun s => cf o s (L % F)) ((L % F : Nat) : Int) F) := HV2.out
    have HLO2 : Hid (∀ W, w2.grownBy W none → Calls Tryd.prog 13 #[.slice (some ⟨B, 0, none⟩) (2 * F + 1) (2 * F + 1), .int .i64 F, .int .i64 ((L % F : Nat) : Int)] W fun e W' => e = .returned (.int .i64 (minTo (fun s => cf o s (L % F)) ((L % F : Nat) : Int) F)) ∧ W.grownBy W' none) := HLO.out
    clear HV2 HLO
    have hq : Int.tdiv (L : Int) (F : Int) = ((L / F : Nat) : Int) := by rw [Int.tdiv_eq_ediv_of_nonneg (by omega)]; rfl
    have hm : Int.tmod (L : Int) (F : Int) = ((L % F : Nat) : Int) := by rw [Int.tmod_eq_emod_of_nonneg (by omega)]; rfl
    have hQ : L / F ≤ L := Nat.div_le_self _ _
    have HQF : Hid (((L / F : Nat) : Int) * (F : Int) ≤ L) := by
      have := Nat.div_mul_le_self L F
      exact_mod_cast this
    generalize L / F = Q at *
    generalize L % F = R at *
    generalize minTo (fun s => cf o s R) ((R : Nat) : Int) F = M at *
    have s0 := HSU.out F
    have mb := HMB.out
    have HC : Hid (∀ W, w2.grownBy W none → W.cell? ⟨B, F, none⟩ = some (.int .i64 (sumTo o F))) := fun W hg => (HA.out.up hg).cell F (by omega)
    have HG2 := hide HA.out.grown
    generalize sumTo o F = S at *
    have hPS : 0 ≤ (Q : Int) * S ∧ (Q : Int) * S ≤ 4096 := by
      have a1 := Int.mul_nonneg (show (0 : Int) ≤ Q by omega) s0.1
      have a2 := Int.mul_le_mul_of_nonneg_left s0.2 (show (0 : Int) ≤ Q by omega)
      have := HQF.out
      omega
    have HWF : Hid (RowKit.wrap64 (RowKit.wrap64 ((Q : Int) * S) + M) = (Q : Int) * S + M) := by
      rw [IntWalk.wrap64_in ((Q : Int) * S) (by omega)]
      exact IntWalk.wrap64_in _ (by omega)
    clear hPS
    have hne : (F : Int) ≠ 0 := by omega
    clear HA HSU HMB HQF HOB2
    clear f0 f1 f2 f3 f4
    obtain ⟨U, hU, V, HF, HR⟩ := class_of w2
    have HKU : Hid (∀ u, (w.alloc (.cells #[.int .i64 F, .int .i64 qt, .slice pa n0 pc, .slice wa n1 wc, .slice oa n2 oc] 30)).grownBy (V u) none) := fun u => grownBy_trans G1.out (grownBy_trans HG2.out (HF.out u))
    have d0 := fun u => (KEEP.out _ (HKU.out u)).1
    have dB := fun u => HC.out _ (HF.out u)
    have hB0 := HC.out w2 (grownBy_refl _ _)
    obtain ⟨f0, -, -, -, -⟩ := KEEP.out w2 (grownBy_trans G1.out HG2.out)
    go_wp2
    refine wp_region_quiet_in V (by kernel_rfl) (by kernel_rfl) (HR.out _ (drew_grown _)) ?_
    repeat (go_big_quiet_step (fail))
    refine wpQuiet_nil ?_
    intro _ hwq
    obtain ⟨uq, hwq2⟩ := hwq
    subst hwq2
    go_wp2
    refine wp_region_quiet_in V (by kernel_rfl) (by kernel_rfl) (HR.out _ (grownBy_trans (HF.out uq) (drew_grown _))) ?_
    repeat (go_big_quiet_step (first | (go_at_call 13; exact calls_in HR (HF.out _) (HLO2.out _ (HF.out _)))))
    refine wpQuiet_nil ?_
    intro _ hwq
    obtain ⟨ur, hwq2⟩ := hwq
    subst hwq2
    go_wp2
    go_ret2
    exact ⟨by rw [HV3.out, HE2.out, ← HWF.out]; rfl, grownBy_trans HD0.out (grownBy_trans HG2.out (HF.out ur))⟩
  · have HO := hide (HOK.out.trans (show _ = false by simp [h]))
    have hd : (ce != 0) = true := by simp [h]
    go_wp2
    go_ret2
    exact ⟨by rw [HV.out, HE.out, HO.out]; rfl, grownBy_trans HG0.out G1.out⟩
#print axioms least_any
end Go.Proofs.YtgocfgjdafkjlabDoor

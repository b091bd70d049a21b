/- Contracts of the document's own least and Least, proved over the translation: they answer as the program's. -/
import Derived.Test.YtgocfgjdafkjlaaDoorRefOwn
import Derived.Test.YtgocfgjdafkjlaaDoorLeast
namespace Go.Proofs.YtgocfgjdafkjlaaDoor.R6
open Go.RowKit
attribute [local go_sem] alloc_drewN setCell_drewN

set_option maxRecDepth 100000 in
set_option maxHeartbeats 4000000 in
theorem rleast_any {lo : Nat} (c : Value) (C : ConfV) (p F L : Nat) (hF : (F : Int) = C.frame) (hFI : Fine C) (hL : L ≤ 4096) (w : World) (hc : ConfAt lo w c C) :
    Calls Tryd.prog 65 #[c, .int .i64 p, .int .i64 L] w fun e w' => e = .returned (.int .i64 (leastN (own1 C p F) F L)) ∧ w.grownBy w' none := by
  have CO := hide (fun W (hg : w.grownBy W none) => rowns_any c C p F hF hFI W (hc.grown hg))
  have CS := hide (fun W (hg : w.grownBy W none) => rshare_any c C hFI p W (hc.grown hg))
  obtain ⟨vp, vw, vo, rfl, ⟨qs, -, ⟨-, pa, pc, rfl, -⟩, -⟩, ⟨-, wa, wc, rfl, -⟩, ⟨-, oa, oc, rfl, -⟩⟩ := hc
  have f0 := hFI.f0
  have f1 := hFI.f1
  have HOB := hide (own1_bd C p F)
  have HWH := hide (hFI.whole p F hF)
  have HOV : Hid (∀ t, t < F → decide (ownerN C.wins (t : Nat) = p) = decide (own1 C p F t = 1)) := fun t ht => by
    unfold own1
    rw [Nat.mod_eq_of_lt ht]
    by_cases e : ownerN C.wins (t : Nat) = p
    · rw [if_pos e, decide_eq_true e]; rfl
    · rw [if_neg e, decide_eq_false e]; rfl
  have HPE := hide (own1_period C p F)
  rw [← hF] at f0 f1 CO CS ⊢
  clear hF hFI
  have F0 : 0 < F := by omega
  have F1 : F ≤ 256 := by omega
  generalize ticksN C.wins p = T at *
  have HOVF : Hid (∀ (V : World) B, ArrB w B F (fun t => decide (ownerN C.wins (t : Nat) = p)) V → ArrB w B F (fun t => decide (own1 C p F t = 1)) V) := fun V B h => h.congr HOV.out
  have HOVG : Hid (∀ W, w.grownBy W none → Calls Tryd.prog 103 #[.agg #[.int .i64 F, .int .i64 C.quiet, .slice pa qs.length pc, .slice wa C.wins.length wc, .slice oa C.ports.length oc], .int .i64 p] W fun e w' => ∃ B, e = .returned (.slice (some ⟨B, 0, none⟩) F F) ∧ ArrB W B F (fun t => decide (own1 C p F t = 1)) w') := fun W hg => (CO.out W hg).mono fun e w' ⟨B, h1, h2⟩ => ⟨B, h1, h2.congr HOV.out⟩
  clear CO HOV HOVF
  have HMB := hide (fun n => cf_bd HOB.out 0 n)
  generalize own1 C p F = o at *
  have HSU : Hid (∀ n : Nat, 0 ≤ sumTo o n ∧ sumTo o n ≤ n) := fun n => by
    have := HMB.out n
    unfold cf at this
    rw [Nat.zero_add] at this
    have z : sumTo o 0 = 0 := rfl
    omega
  generalize C.quiet = qt at *
  generalize qs.length = n0 at *
  generalize C.wins.length = N at *
  generalize C.ports.length = n2 at *
  have hR : L % F < F := Nat.mod_lt _ F0
  have HEQ : Hid (leastN o F L = ((L / F : Nat) : Int) * T + minTo (fun s => sumTo o (s + L % F) - sumTo o s) F F) := by
    have e : minTo (fun s => cf o s (L % F)) ((L % F : Nat) : Int) F = minTo (fun s => cf o s (L % F)) (F : Int) F := minTo_init F0 (HMB.out _).2 (by have := (HMB.out (L % F)).2; omega)
    show leastN o F L = _
    unfold leastN
    rw [e, HWH.out]
    rfl
  have HQF : Hid (((L / F : Nat) : Int) * (F : Int) ≤ L) := by
    have := Nat.div_mul_le_self L F
    exact_mod_cast this
  have hq : Int.tdiv (L : Int) (F : Int) = ((L / F : Nat) : Int) := by rw [Int.tdiv_eq_ediv_of_nonneg (by omega)]; rfl
  have hm : Int.tmod (L : Int) (F : Int) = ((L % F : Nat) : Int) := by rw [Int.tmod_eq_emod_of_nonneg (by omega)]; rfl
  have hTB := HSU.out F
  rw [HWH.out] at hTB
  generalize leastN o F L = res at *
  have hQ : L / F ≤ L := Nat.div_le_self _ _
  generalize L / F = Q at *
  generalize L % F = r at *
  obtain ⟨K, hK⟩ : ∃ K, K = 2 * F + 1 := ⟨_, rfl⟩
  have hmk : ∀ W, (Instr.makeSlice 54 (.int .i64 (2 * (F : Int) + 1)) (.int .i64 (2 * (F : Int) + 1))).run Tryd.prog W = .ok (.slice (some ⟨W.heap.size, 0, none⟩) K K) (W.alloc (.cells (made K) 3)) := fun W => by
    have := make_any K (by omega) W
    rwa [show (K : Int) = 2 * (F : Int) + 1 by omega] at this
  have hK1 : K ≤ 2 * F + 1 := by omega
  have hK2 : 2 * F + 1 ≤ K := by omega
  clear hK
  have HTM : Hid (∀ t : Nat, Int.tmod (t : Int) (F : Int) = ((t % F : Nat) : Int)) := fun t => by rw [Int.tmod_eq_emod_of_nonneg (by omega)]; rfl
  have HMOD : Hid (∀ t : Nat, t < 2 * F → o (t % F) = o t) := fun t ht => by
    rcases Nat.lt_or_ge t F with h | h
    · rw [Nat.mod_eq_of_lt h]
    · rw [Nat.mod_eq_sub_mod h, Nat.mod_eq_of_lt (by omega)]
      have := HPE.out (t - F)
      rw [show t - F + F = t by omega] at this
      exact this.symm
  generalize hwb : w.alloc (.cells #[.int .i64 F, .int .i64 qt, .slice pa n0 pc, .slice wa N wc, .slice oa n2 oc] 26) = wb
  have HG0 := hide (show w.grownBy wb none by rw [← hwb]; exact World.grownBy_alloc _ _ none)
  have KEEP : Hid (∀ V, wb.grownBy V none → V.cell? ⟨w.heap.size, 0, none⟩ = some (.int .i64 F) ∧ V.cell? ⟨w.heap.size, 1, none⟩ = some (.int .i64 qt) ∧ V.cell? ⟨w.heap.size, 2, none⟩ = some (.slice pa n0 pc) ∧ V.cell? ⟨w.heap.size, 3, none⟩ = some (.slice wa N wc) ∧ V.cell? ⟨w.heap.size, 4, none⟩ = some (.slice oa n2 oc)) := by
    intro V hV
    have b := fun k => World.cell?_of_block (a := ⟨w.heap.size, k, none⟩) (hV.block w.heap.size (by rw [← hwb]; simp) (by simp))
    exact ⟨(b 0).trans (by rw [← hwb]; simp), (b 1).trans (by rw [← hwb]; simp), (b 2).trans (by rw [← hwb]; simp), (b 3).trans (by rw [← hwb]; simp), (b 4).trans (by rw [← hwb]; simp)⟩
  go_enter Tryd.func65, Tryd.ntmps65
  go_upto_region 1 with fail
  have HWB := hide hwb
  clear hwb
  obtain ⟨k0, k1, k2, k3, k4⟩ := KEEP.out wb (grownBy_refl _ _)
  go_wp2_with (first | fail)
  refine (HOVG.out _ HG0.out).mono ?_; rintro e w1 ⟨Bo, rfl, hb⟩
  have HB1 := hide hb
  have G1 := hide hb.grown
  clear hb k0 k1 k2 k3 k4
  obtain ⟨k0, k1, k2, k3, k4⟩ := KEEP.out w1 G1.out
  have HA2 := hide (made_arr w1 w1 K (grownBy_refl _ _))
  generalize hBs : w1.heap.size = Bs at *
  have HBS := hide hBs
  have hne : (F : Int) ≠ 0 := by omega
  go_upto_region 4 with fail
  clear hBs
  have HA3 := hide (show Arr w1 Bs K (halfF o (fun _ => 0) 0) (w1.alloc (.cells (made K) 3)) from HA2.out.congr fun i _ => by
    unfold halfF
    cases i with
    | zero => rw [if_pos (Nat.le_refl _)]; rfl
    | succ i => rw [if_neg (by omega)])
  have HK1 : Hid (∀ V, w1.grownBy V none → V.cell? ⟨w.heap.size, 0, none⟩ = some (.int .i64 F) ∧ V.cell? ⟨w.heap.size, 1, none⟩ = some (.int .i64 qt) ∧ V.cell? ⟨w.heap.size, 2, none⟩ = some (.slice pa n0 pc) ∧ V.cell? ⟨w.heap.size, 3, none⟩ = some (.slice wa N wc) ∧ V.cell? ⟨w.heap.size, 4, none⟩ = some (.slice oa n2 oc)) := fun V hV => KEEP.out V (grownBy_trans G1.out hV)
  have HBK : Hid (∀ V, w1.grownBy V none → ∀ t, t < F → V.cell? ⟨Bo, t, none⟩ = some (.bool (decide (o t = 1)))) := fun V hV t ht => (HB1.out.up hV).cell t ht
  clear k0 k1 k2 k3 k4 HA2
  go_wp2
  go_loopw [10] (fun s V => ∃ (t : Nat), t ≤ 2 * F ∧ s = .int .i64 t ∧ Hid (Arr w1 Bs K (halfF o (fun _ => 0) t) V)) (fun s _ => 2 * F - (intOf s).toNat)
  case atStart => exact ⟨0, by omega, rfl, HA3⟩
  case round =>
    obtain ⟨t, ht, rfl, HR⟩ := hrel
    obtain ⟨k0, k1, k2, k3, k4⟩ := HK1.out wr HR.out.grown
    by_cases hlt : t < 2 * F
    · have d0 : wr.cell? ⟨Bs, t, none⟩ = some (.int .i64 (sumTo o t)) := by
        have := HR.out.cell t (by omega)
        rwa [halfF, if_pos (Nat.le_refl _)] at this
      have d1 : wr.cell? ⟨Bs, t + 1, none⟩ = some (.int .i64 0) := by
        have := HR.out.cell (t + 1) (by omega)
        rwa [halfF, if_neg (by omega)] at this
      have d2 := HR.out.free (t + 1) (by omega)
      have HX1 := hide (show Arr w1 Bs K (fun i => if i = t + 1 then sumTo o t else halfF o (fun _ => 0) t i) (wr.setCell ⟨Bs, t + 1, none⟩ (.int .i64 (sumTo o t))) from HR.out.set (t + 1) _ (by simp) (fun i hi => if_neg hi))
      have HNX : Hid (∀ x, x = sumTo o (t + 1) → ∀ V, Arr w1 Bs K (fun i => if i = t + 1 then x else halfF o (fun _ => 0) t i) V → Arr w1 Bs K (halfF o (fun _ => 0) (t + 1)) V) := fun x hx V h => h.congr fun i _ => by
        unfold halfF
        by_cases e : i = t + 1
        · rw [if_pos e, if_pos (by omega), hx, e]
        · rw [if_neg e]
          by_cases e2 : i ≤ t
          · rw [if_pos e2, if_pos (by omega)]
          · rw [if_neg e2, if_neg (by omega)]
      have HS1 : Hid (sumTo o (t + 1) = sumTo o t + o t) := rfl
      have s0 := HSU.out t
      have htm := HTM.out t
      have hmo := HMOD.out t hlt
      have hlm : t % F < F := Nat.mod_lt _ F0
      have ob := HOB.out t
      go_upto_region 8 with fail
      generalize wr.setCell ⟨Bs, t + 1, none⟩ (.int .i64 (sumTo o t)) = wx at *
      clear k0 k1 k2 k3 k4 d0 d1 d2
      obtain ⟨k0, k1, k2, k3, k4⟩ := HK1.out wx HX1.out.grown
      have e0 := HBK.out wx HX1.out.grown (t % F) hlm
      rw [hmo] at e0
      have d1 : wx.cell? ⟨Bs, t + 1, none⟩ = some (.int .i64 (sumTo o t)) := by
        have := HX1.out.cell (t + 1) (by omega)
        rwa [if_pos rfl] at this
      have d2 := HX1.out.free (t + 1) (by omega)
      by_cases ho : o t = 1
      · have hd : decide (o t = 1) = true := decide_eq_true ho
        rw [hd] at e0
        have HN1 := hide (HNX.out (sumTo o t + 1) (by rw [HS1.out, ho]) (wx.setCell ⟨Bs, t + 1, none⟩ (.int .i64 (sumTo o t + 1))) (HX1.out.set (t + 1) _ (by simp) (fun i hi => by rw [if_neg hi, if_neg hi])))
        clear hmo hd ho ob HS1 HNX
        generalize sumTo o t = S at *
        generalize t % F = tf at *
        go_wp2
        go_roundw
        case rel => exact ⟨t + 1, by omega, by go_num, HN1⟩
        case measure => simp [intOf]; omega
      · have hd : decide (o t = 1) = false := decide_eq_false ho
        rw [hd] at e0
        have HN1 := hide (HNX.out (sumTo o t) (by rw [HS1.out]; omega) wx HX1.out)
        clear hmo hd ho ob HS1 HNX
        generalize sumTo o t = S at *
        generalize t % F = tf at *
        go_wp2
        go_roundw
        case rel => exact ⟨t + 1, by omega, by go_num, HN1⟩
        case measure => simp [intOf]; omega
    · have HH := hide (show Arr w1 Bs K (fun i => sumTo o i) wr from HR.out.congr fun i hi => by unfold halfF; rw [if_pos (by omega)])
      have HM0 : Hid (minTo (fun s => sumTo o (s + r) - sumTo o s) (F : Int) 0 = F) := rfl
      have HMS : Hid (∀ n, minTo (fun s => sumTo o (s + r) - sumTo o s) (F : Int) (n + 1) = min (minTo (fun s => sumTo o (s + r) - sumTo o s) (F : Int) n) (sumTo o (n + r) - sumTo o n)) := fun n => rfl
      have HMN : Hid (∀ n, 0 ≤ minTo (fun s => sumTo o (s + r) - sumTo o s) (F : Int) n ∧ minTo (fun s => sumTo o (s + r) - sumTo o s) (F : Int) n ≤ F) := fun n => ⟨le_minTo (by omega) fun i _ => (cf_bd HOB.out i r).1, minTo_le0 _ _ _⟩
      generalize minTo (fun s => sumTo o (s + r) - sumTo o s) (F : Int) = M at *
      clear HR
      go_wp2
      go_loopw [11, 12] (fun lw s V => ∃ (n : Nat), n ≤ F ∧ s = .int .i64 n ∧ lw = .int .i64 (M n) ∧ Hid (Arr w1 Bs K (fun i => sumTo o i) V)) (fun _ s _ => F - (intOf s).toNat)
      case atStart => exact ⟨0, by omega, rfl, by rw [HM0.out], HH⟩
      case round =>
        obtain ⟨n, hn, rfl, rfl, HI⟩ := hrel
        clear k0 k1 k2 k3 k4
        obtain ⟨k0, k1, k2, k3, k4⟩ := HK1.out wr HI.out.grown
        by_cases hn2 : n < F
        · have c0 := HI.out.cell n (by omega)
          have c1 := HI.out.cell (n + r) (by omega)
          have b0 := HSU.out n
          have b1 := HSU.out (n + r)
          have HS := hide (HMS.out n)
          generalize sumTo o n = x at *
          generalize sumTo o (n + r) = y at *
          have hsub : IntKind.i64.wrap (y - x) = y - x := by rw [IntKind.wrap_i64]; omega
          generalize M n = mn at *
          go_wp2
          go_region
          all_goals
            go_wp2
            go_roundw
            case rel => exact ⟨n + 1, by omega, by go_num, by rw [HS.out], hide (HI.out.up (grownBy_draws _ _ _))⟩
            case measure => simp [intOf]; omega
        · have e : n = F := by omega
          subst e
          have mb := HMN.out n
          have HRES := hide HEQ.out
          generalize M n = mn at *
          have HWF : Hid (RowKit.wrap64 (RowKit.wrap64 ((Q : Int) * T) + mn) = (Q : Int) * T + mn) := by
            have a1 := Int.mul_nonneg (show (0 : Int) ≤ Q by omega) hTB.1
            have a2 := Int.mul_le_mul_of_nonneg_left hTB.2 (show (0 : Int) ≤ Q by omega)
            have := HQF.out
            rw [IntWalk.wrap64_in ((Q : Int) * T) (by omega)]
            exact IntWalk.wrap64_in _ (by omega)
          obtain ⟨U, hU, V, HF, HC⟩ := class_of wr
          have dk := fun u => HK1.out _ (grownBy_trans HI.out.grown (HF.out u))
          have q0 := fun u => (dk u).1
          have q1 := fun u => (dk u).2.1
          have q2 := fun u => (dk u).2.2.1
          have q3 := fun u => (dk u).2.2.2.1
          have q4 := fun u => (dk u).2.2.2.2
          have HCS := hide (fun u => CS.out (V u) (grownBy_trans HG0.out (grownBy_trans G1.out (grownBy_trans HI.out.grown (HF.out u)))))
          have HD0 := hide (fun u => grownBy_trans HG0.out (grownBy_trans G1.out (grownBy_trans HI.out.grown (HF.out u))))
          clear dk
          go_wp2
          refine wp_region_quiet_in V (by kernel_rfl) (by kernel_rfl) (HC.out _ (drew_grown _)) ?_
          repeat (go_big_quiet_step (first | (go_at_call 59; exact calls_in HC (HF.out _) (HCS.out _))))
          refine wpQuiet_nil ?_
          intro _ hwq
          obtain ⟨ur, hwq2⟩ := hwq
          subst hwq2
          go_wp2
          go_ret
          exact ⟨by rw [HRES.out, ← HWF.out]; rfl, HD0.out ur⟩

set_option maxRecDepth 100000 in
set_option maxHeartbeats 4000000 in
theorem rLeast_any {lo : Nat} (c : Value) (C : ConfV) (p k : Int) (w : World) (hc : ConfAt lo w c C) :
    Calls Tryd.prog 28 #[c, .int .i64 p, .int .i64 k] w fun e w' => e = .returned (.tuple #[.int .i64 (leV C p k), .int .i64 (leE C p k)]) ∧ w.grownBy w' none := by
  have C1 := hide (fun W (hg : w.grownBy W none) => rcheck_any c C W (hc.grown hg))
  have C2 := hide (fun W (hg : w.grownBy W none) (q F L : Nat) (hF : (F : Int) = C.frame) (hck : checkN C = 0) (hL : L ≤ 4096) => rleast_any c C q F L hF (fine_of hck) hL W (hc.grown hg))
  obtain ⟨vp, vw, vo, rfl, ⟨qs, hlen, ⟨hl, pa, pc, rfl, -⟩, -⟩, ⟨-, wa, wc, rfl, -⟩, ⟨-, oa, oc, rfl, -⟩⟩ := hc
  have HV : Hid (leV C p k = if leOK C p k = true then leastN (own1 C p.toNat C.frame.toNat) C.frame.toNat k.toNat else 0) := rfl
  have HE : Hid (leE C p k = if leOK C p k = true then 0 else 700) := rfl
  have HOK : Hid (leOK C p k = (decide (checkN C = 0) && (decide (0 ≤ p) && (decide (p < C.parts.length) && (decide (0 ≤ k) && decide (k ≤ 4096)))))) := rfl
  rw [← hlen] at HOK
  have HFR : Hid (checkN C = 0 → 1 ≤ C.frame ∧ C.frame ≤ 256) := fun h => ⟨(fine_of h).f0, (fine_of h).f1⟩
  clear hlen
  generalize leV C p k = av at *
  generalize leE C p k = ae at *
  generalize leOK C p k = ok at *
  generalize own1 C = ow at *
  generalize checkN C = ce at *
  generalize C.frame = fr at *
  generalize C.quiet = qt at *
  generalize qs.length = n0 at *
  generalize C.wins.length = N at *
  generalize C.ports.length = n2 at *
  generalize hwb : w.alloc (.cells #[.int .i64 fr, .int .i64 qt, .slice pa n0 pc, .slice wa N wc, .slice oa n2 oc] 26) = wb
  have HG0 := hide (show w.grownBy wb none by rw [← hwb]; exact World.grownBy_alloc _ _ none)
  have KEEP : Hid (∀ V, wb.grownBy V none → V.cell? ⟨w.heap.size, 0, none⟩ = some (.int .i64 fr) ∧ V.cell? ⟨w.heap.size, 1, none⟩ = some (.int .i64 qt) ∧ V.cell? ⟨w.heap.size, 2, none⟩ = some (.slice pa n0 pc) ∧ V.cell? ⟨w.heap.size, 3, none⟩ = some (.slice wa N wc) ∧ V.cell? ⟨w.heap.size, 4, none⟩ = some (.slice oa n2 oc)) := by
    intro V hV
    have b := fun k => World.cell?_of_block (a := ⟨w.heap.size, k, none⟩) (hV.block w.heap.size (by rw [← hwb]; simp) (by simp))
    exact ⟨(b 0).trans (by rw [← hwb]; simp), (b 1).trans (by rw [← hwb]; simp), (b 2).trans (by rw [← hwb]; simp), (b 3).trans (by rw [← hwb]; simp), (b 4).trans (by rw [← hwb]; simp)⟩
  go_enter Tryd.func28, Tryd.ntmps28
  go_upto_region 1 with fail
  have HWB := hide hwb
  clear hwb
  obtain ⟨k0, k1, k2, k3, k4⟩ := KEEP.out wb (grownBy_refl _ _)
  go_wp2_with (first | fail)
  refine (C1.out _ HG0.out).mono ?_; rintro e w1 ⟨rfl, hg⟩
  have G1 := hide hg
  clear hg C1 k0 k1 k2 k3 k4
  obtain ⟨f0, f1, f2, f3, f4⟩ := KEEP.out w1 G1.out
  by_cases h : ce = 0
  · subst h
    have hfr := HFR.out rfl
    by_cases h0 : p < 0
    · have HO := hide (HOK.out.trans (show _ = false by simp; omega))
      go_wp2
      go_ret2
      exact ⟨by rw [HV.out, HE.out, HO.out]; rfl, grownBy_trans HG0.out G1.out⟩
    by_cases h1 : (n0 : Int) ≤ p
    · have HO := hide (HOK.out.trans (show _ = false by simp; omega))
      go_wp2
      go_ret2
      exact ⟨by rw [HV.out, HE.out, HO.out]; rfl, grownBy_trans HG0.out G1.out⟩
    by_cases h2 : k < 0
    · have HO := hide (HOK.out.trans (show _ = false by simp; omega))
      go_wp2
      go_ret2
      exact ⟨by rw [HV.out, HE.out, HO.out]; rfl, grownBy_trans HG0.out G1.out⟩
    by_cases h3 : 4096 < k
    · have HO := hide (HOK.out.trans (show _ = false by simp; omega))
      go_wp2
      go_ret2
      exact ⟨by rw [HV.out, HE.out, HO.out]; rfl, grownBy_trans HG0.out G1.out⟩
    have HO := hide (HOK.out.trans (show _ = true by simp; omega))
    obtain ⟨P, rfl⟩ : ∃ P : Nat, p = P := ⟨p.toNat, by omega⟩
    obtain ⟨L, rfl⟩ : ∃ L : Nat, k = L := ⟨k.toNat, by omega⟩
    obtain ⟨F, rfl⟩ : ∃ F : Nat, fr = F := ⟨fr.toNat, by omega⟩
    have HV2 := hide (HV.out.trans (by rw [HO.out, if_pos rfl, Int.toNat_natCast, Int.toNat_natCast, Int.toNat_natCast]))
    have HE2 := hide (HE.out.trans (by rw [HO.out, if_pos rfl]))
    clear HV HE HOK
    have CSS := hide (C2.out w1 (grownBy_trans HG0.out G1.out) P F L rfl rfl (by omega))
    clear C2
    generalize leastN (ow P F) F L = res at *
    go_wp2_with (go_at_call 65; refine CSS.out.mono ?_; rintro e w2 ⟨rfl, hg⟩; have G2 := hide (grownBy_trans G1.out hg); clear hg)
    go_ret2
    exact ⟨by rw [HV2.out, HE2.out]; rfl, grownBy_trans HG0.out G2.out⟩
  · have HO := hide (HOK.out.trans (show _ = false by simp [h]))
    have hd : (ce != 0) = true := by simp [h]
    go_wp2
    go_ret2
    exact ⟨by rw [HV.out, HE.out, HO.out]; rfl, grownBy_trans HG0.out G1.out⟩
#print axioms rLeast_any
end Go.Proofs.YtgocfgjdafkjlaaDoor.R6

/- The walk of the statement FrameCounts: a part's share is the ticks of a frame that are its; frames repeat; proved over the translation. -/
import Derived.Test.YtgaegggiehhcpabDoorLCnt0
namespace Go.Proofs.YtgaegggiehhcpabDoor.P6
open Go.RowKit
attribute [local go_sem] alloc_drewN setCell_drewN
set_option maxRecDepth 100000 in
set_option maxHeartbeats 1000000 in
theorem frameCounts_any {lo : Nat} (c : Value) (C : ConfV) (t : Int) (w : World) (hT : Tab w) (hc : ConfAt lo w c C) :
    Calls Tryd.prog 4 #[c, .int .i64 t] w fun e w' => e = .returned (.bool true) ∧ w.grownBy w' none := by
  have NUM : Hid (∀ (e : Int) (W : World), Calls Tryd.prog 15 #[.int .i64 e] W fun r w' => r = .returned (.int .i64 e) ∧ W = w') := fun e W => (num_any e W).mono fun _ _ h => ⟨h.1, h.2.symm⟩
  have CA := hide (fun W (hg : w.grownBy W none) => awake_any W (hT.grown hg))
  have CT := hide (fun k W (hg : w.grownBy W none) => at_any c C k W (hT.grown hg) (hc.grown hg))
  have CS := hide (fun k W (hg : w.grownBy W none) => share_any c C k W (hT.grown hg) (hc.grown hg))
  obtain ⟨vp, vw, vo, rfl, ⟨qs, hlen, ⟨hl, pa, pc, rfl, -⟩, -⟩, ⟨-, wa, wc, rfl, -⟩, ⟨-, oa, oc, rfl, -⟩⟩ := hc
  rw [hlen] at hl CT CS ⊢
  clear hT hlen
  obtain ⟨T, T0, T1, hT2⟩ := and20 t
  by_cases hck : checkN C = 0
  · have HF := hide (fine_of hck)
    obtain ⟨F, hF⟩ : ∃ F : Nat, (F : Int) = C.frame := ⟨C.frame.toNat, by have := HF.out.f0; omega⟩
    have HA0 := hide (fun i hi => at_in0 hck i hi)
    have HA1 := hide (fun i hi => at_in hck i hi T T0 T1)
    have HSH := hide (fun p hp => sh_in hck p F hp hF)
    have HRG := hide (fun i : Nat => HF.out.range i)
    have f0 := HF.out.f0
    have f1 := HF.out.f1
    have p1 := HF.out.p1
    have e00 := HA0.out 0 (by omega)
    have hFl : F ≤ 256 := by omega
    have hmul := HA1.out 0 (by omega)
    obtain ⟨-, -, m0, m1⟩ := hmul
    have HCB := hide (fun p n => cnt_bd C p n)
    have HCS := hide (fun p n => cnt_succ C p n)
    generalize hown : ownerN C.wins = own at *
    have HC0 : Hid (∀ p, cnt C p 0 = 0) := fun p => rfl
    generalize hcn : cnt C = cn at *
    clear hck HF hown hcn
    obtain ⟨e01, e02⟩ := e00
    generalize C.quiet = qt at *
    generalize C.wins.length = n1 at *
    generalize C.ports.length = n2 at *
    generalize hN : C.parts.length = N at *
    clear hN
    generalize C.frame = fr at *
    have hFa : (F : Int) ≤ fr := by omega
    have hFb : fr ≤ (F : Int) := by omega
    clear hF
    generalize atV C = aV at *
    generalize atE C = aE at *
    generalize shV C = sV at *
    generalize shE C = sE at *
    obtain ⟨P, hP⟩ : ∃ P, fr * T = P := ⟨_, rfl⟩
    rw [hP] at HA1 m0 m1
    have hwr : IntKind.i64.wrap (fr * T) = P := by rw [hP, IntKind.wrap_i64]; omega
    clear hP
    have HG0 := hide (World.grownBy_alloc w (.cells #[.int .i64 fr, .int .i64 qt, .slice pa N pc, .slice wa n1 wc, .slice oa n2 oc] 26) none)
    have KEEP : Hid (∀ W : World, W.heap[w.heap.size]? = (w.alloc (.cells #[.int .i64 fr, .int .i64 qt, .slice pa N pc, .slice wa n1 wc, .slice oa n2 oc] 26)).heap[w.heap.size]? → W.cell? ⟨w.heap.size, 0, none⟩ = some (.int .i64 fr) ∧ W.cell? ⟨w.heap.size, 1, none⟩ = some (.int .i64 qt) ∧ W.cell? ⟨w.heap.size, 2, none⟩ = some (.slice pa N pc) ∧ W.cell? ⟨w.heap.size, 3, none⟩ = some (.slice wa n1 wc) ∧ W.cell? ⟨w.heap.size, 4, none⟩ = some (.slice oa n2 oc)) := by
      intro W hW
      have b := fun k => World.cell?_of_block (a := ⟨w.heap.size, k, none⟩) hW
      exact ⟨(b 0).trans (by simp), (b 1).trans (by simp), (b 2).trans (by simp), (b 3).trans (by simp), (b 4).trans (by simp)⟩
    have HLT : Hid (w.heap.size < (w.alloc (.cells #[.int .i64 fr, .int .i64 qt, .slice pa N pc, .slice wa n1 wc, .slice oa n2 oc] 26)).heap.size) := hide (by simp)
    go_enter Tryd.func4, Tryd.ntmps4
    go_wp2_with (first | fail)
    refine (CA.out _ HG0.out).mono ?_; rintro e w1 ⟨rfl, hg⟩
    have G1 := hide hg
    clear hg CA
    obtain ⟨k0, k1, k2, k3, k4⟩ := KEEP.out w1 (G1.out.block _ HLT.out (by simp))
    go_wp2_with (first | fail)
    refine (CT.out 0 _ (grownBy_trans HG0.out G1.out)).mono ?_; rintro e w2 ⟨rfl, hg⟩
    have G2 := hide (grownBy_trans G1.out hg)
    clear hg k0 k1 k2 k3 k4
    rw [show ((0 : Nat) : Int) = 0 from rfl] at e01 e02
    rw [e02]
    clear e01 e02
    go_wp2_with (go_at_call 15; refine (NUM.out _ _).mono ?_; rintro e w' ⟨rfl, rfl⟩)
    have HB2 : Hid (w.heap.size < w2.heap.size) := hide (Nat.lt_of_lt_of_le HLT.out G2.out.size)
    have ST0 : Hid (Cn w2 w2.heap.size (fun p => cn p 0) (w2.alloc (.cells #[.int .i64 0, .int .i64 0, .int .i64 0, .int .i64 0, .int .i64 0, .int .i64 0, .int .i64 0, .int .i64 0] 42))) := by
      refine ⟨below_of_grown (World.grownBy_alloc _ _ _), by simp, fun p hp => ?_, fun p hp => ?_⟩
      · rw [HC0.out p]
        match p, hp with
        | 0, _ => simp
        | 1, _ => simp
        | 2, _ => simp
        | 3, _ => simp
        | 4, _ => simp
        | 5, _ => simp
        | 6, _ => simp
        | 7, _ => simp
      · simp
    have HW : Hid (∀ f (W : World), Cn w2 w2.heap.size f W → w.grownBy W none) := fun f W h => grownBy_trans HG0.out (grownBy_trans G2.out (grown_of_below h.below))
    have HK : Hid (∀ f (W : World), Cn w2 w2.heap.size f W → W.heap[w.heap.size]? = (w.alloc (.cells #[.int .i64 fr, .int .i64 qt, .slice pa N pc, .slice wa n1 wc, .slice oa n2 oc] 26)).heap[w.heap.size]?) := fun f W h => (h.below.block _ HB2.out).trans (G2.out.block _ HLT.out (by simp))
    generalize hW2 : w2.heap.size = B at *
    clear hW2
    go_loopw [8] (fun s W => ∃ a : Nat, a ≤ F ∧ s = .int .i64 a ∧ Hid (Cn w2 B (fun p => cn p a) W)) (fun s _ => F - (intOf s).toNat)
    case atStart => exact ⟨0, by omega, rfl, ST0⟩
    case round =>
      obtain ⟨a, ha, rfl, HA⟩ := hrel
      obtain ⟨k0, k1, k2, k3, k4⟩ := KEEP.out wr (HK.out _ _ HA.out)
      by_cases hlt : a < F
      · obtain ⟨v1, v2⟩ := HA0.out a (by omega)
        obtain ⟨v3, v4, -, -⟩ := HA1.out a (by omega)
        obtain ⟨r0, r1⟩ := HRG.out a
        have HSUC := hide (fun p => HCS.out p a)
        have HBD := hide (fun p => HCB.out p a)
        have HX : Hid (∀ q : Nat, own (a : Int) = q → ∀ W, Cn w2 B (fun p => cn p a) W → Cn w2 B (fun p => cn p (a + 1)) (W.setCell ⟨B, q, none⟩ (.int .i64 (cn q a + 1))) ∨ 8 ≤ q) := by
          intro q hq W h
          by_cases h8 : q < 8
          · exact .inl (h.set q _ (by rw [HCS.out q a, if_pos hq]) (fun p hp => by rw [HCS.out p a, if_neg (fun e => hp (by omega)), Int.add_zero]) h8)
          · exact .inr (by omega)
        have HY : Hid (own (a : Int) < 0 → ∀ W, Cn w2 B (fun p => cn p a) W → Cn w2 B (fun p => cn p (a + 1)) W) := by
          intro hq W h
          have e : (fun p => cn p (a + 1)) = (fun p => cn p a) := by
            funext p
            rw [HCS.out p a, if_neg (by omega), Int.add_zero]
          rw [e]
          exact h
        generalize own (a : Int) = O at *
        go_wp2_with (first | fail)
        refine (CT.out a _ (HW.out _ _ HA.out)).mono ?_; rintro e wa1 ⟨rfl, hg⟩
        have HA2 := hide (HA.out.grown hg)
        clear hg k0 k1 k2 k3 k4
        rw [v1, v2]
        obtain ⟨k0, k1, k2, k3, k4⟩ := KEEP.out wa1 (HK.out _ _ HA2.out)
        go_wp2_with (first | fail)
        refine (CT.out (a + P) _ (HW.out _ _ HA2.out)).mono ?_; rintro e wa2 ⟨rfl, hg⟩
        have HA3 := hide (HA2.out.grown hg)
        clear hg k0 k1 k2 k3 k4
        rw [v3, v4]
        clear v1 v2 v3 v4
        obtain ⟨-, -, k2, -, -⟩ := KEEP.out wa2 (HK.out _ _ HA3.out)
        by_cases hO : 0 ≤ O
        · obtain ⟨q, rfl⟩ : ∃ q : Nat, O = q := ⟨O.toNat, by omega⟩
          have hq8 : q < 8 := by omega
          have c0 := HA3.out.cell q hq8
          have c1 := HA3.out.free q hq8
          have b0 := HCB.out q a
          have HZ := hide (Or.resolve_right (HX.out q rfl wa2 HA3.out) (by omega))
          clear HX HY
          skip
          generalize cn q a = z at *
          go_wp2_with (go_at_call 15; refine (NUM.out _ _).mono ?_; rintro e w' ⟨rfl, rfl⟩)
          go_roundw
          case rel => exact ⟨a + 1, by omega, by go_num, HZ⟩
          case measure => simp [intOf]; omega
        · have HZ := hide (HY.out (by omega) wa2 HA3.out)
          clear HX HY
          go_wp2_with (go_at_call 15; refine (NUM.out _ _).mono ?_; rintro e w' ⟨rfl, rfl⟩)
          go_roundw
          case rel => exact ⟨a + 1, by omega, by go_num, HZ⟩
          case measure => simp [intOf]; omega
      · have e : a = F := by omega
        subst e
        clear HA0 HA1
        go_wp2
        go_loopw [13] (fun s W => ∃ n : Nat, n ≤ N ∧ s = .int .i64 n ∧ Hid (Cn w2 B (fun p => cn p a) W)) (fun s _ => N - (intOf s).toNat)
        case atStart => exact ⟨0, by omega, rfl, HA⟩
        case round =>
          obtain ⟨n, hn, rfl, HB⟩ := hrel
          clear k0 k1 k2 k3 k4
          obtain ⟨k0, k1, k2, k3, k4⟩ := KEEP.out wr (HK.out _ _ HB.out)
          by_cases hlt2 : n < N
          · obtain ⟨s1, s2⟩ := HSH.out n hlt2
            go_wp2_with (first | fail)
            refine (CS.out n _ (HW.out _ _ HB.out)).mono ?_; rintro e wb ⟨rfl, hg⟩
            have HB3 := hide (HB.out.grown hg)
            clear hg
            rw [s1, s2]
            clear s1 s2
            have c0 := HB3.out.cell n (by omega)
            skip
            generalize cn n a = z at *
            go_wp2_with (go_at_call 15; refine (NUM.out _ _).mono ?_; rintro e w' ⟨rfl, rfl⟩)
            go_roundw
            case rel => exact ⟨n + 1, by omega, by go_num, HB3⟩
            case measure => simp [intOf]; omega
          · go_wp2
            go_ret
            exact ⟨rfl, HW.out _ _ HB.out⟩
  · have e0 : atE C 0 = 600 := by unfold atE atOK; rw [if_neg (by simp [hck])]
    clear hck CS hT2 T0 T1
    generalize C.parts.length = N at *
    generalize C.quiet = qt at *
    generalize C.wins.length = n1 at *
    generalize C.ports.length = n2 at *
    generalize C.frame = fr at *
    have HG0 := hide (World.grownBy_alloc w (.cells #[.int .i64 fr, .int .i64 qt, .slice pa N pc, .slice wa n1 wc, .slice oa n2 oc] 26) none)
    have KEEP : Hid (∀ W : World, W.heap[w.heap.size]? = (w.alloc (.cells #[.int .i64 fr, .int .i64 qt, .slice pa N pc, .slice wa n1 wc, .slice oa n2 oc] 26)).heap[w.heap.size]? → W.cell? ⟨w.heap.size, 0, none⟩ = some (.int .i64 fr) ∧ W.cell? ⟨w.heap.size, 1, none⟩ = some (.int .i64 qt) ∧ W.cell? ⟨w.heap.size, 2, none⟩ = some (.slice pa N pc) ∧ W.cell? ⟨w.heap.size, 3, none⟩ = some (.slice wa n1 wc) ∧ W.cell? ⟨w.heap.size, 4, none⟩ = some (.slice oa n2 oc)) := by
      intro W hW
      have b := fun k => World.cell?_of_block (a := ⟨w.heap.size, k, none⟩) hW
      exact ⟨(b 0).trans (by simp), (b 1).trans (by simp), (b 2).trans (by simp), (b 3).trans (by simp), (b 4).trans (by simp)⟩
    have HLT : Hid (w.heap.size < (w.alloc (.cells #[.int .i64 fr, .int .i64 qt, .slice pa N pc, .slice wa n1 wc, .slice oa n2 oc] 26)).heap.size) := hide (by simp)
    go_enter Tryd.func4, Tryd.ntmps4
    go_wp2_with (first | fail)
    refine (CA.out _ HG0.out).mono ?_; rintro e w1 ⟨rfl, hg⟩
    have G1 := hide hg
    clear hg CA
    obtain ⟨k0, k1, k2, k3, k4⟩ := KEEP.out w1 (G1.out.block _ HLT.out (by simp))
    go_wp2_with (first | fail)
    refine (CT.out 0 _ (grownBy_trans HG0.out G1.out)).mono ?_; rintro e w2 ⟨rfl, hg⟩
    have G2 := hide (grownBy_trans G1.out hg)
    clear hg k0 k1 k2 k3 k4
    rw [e0]
    go_wp2_with (go_at_call 15; refine (NUM.out _ _).mono ?_; rintro e w' ⟨rfl, rfl⟩)
    go_ret
    exact ⟨rfl, grownBy_trans HG0.out G2.out⟩
#print axioms frameCounts_any
end Go.Proofs.YtgaegggiehhcpabDoor.P6

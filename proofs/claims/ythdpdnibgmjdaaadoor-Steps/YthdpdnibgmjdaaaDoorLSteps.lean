/- The walk of the statement Steps: any program, machine, ports: a step, and what is handed in stays; proved over the translation. -/
import Derived.Test.YthdpdnibgmjdaaaDoorAw
import Derived.Test.YthdpdnibgmjdaaaDoorLendI
import Derived.Test.YthdpdnibgmjdaaaDoorLendN
import Derived.Test.YthdpdnibgmjdaaaDoorRefStep
namespace Go.Proofs.YthdpdnibgmjdaaaDoor
open Go.RowKit
attribute [local go_sem] alloc_drewN setCell_drewN

set_option maxRecDepth 100000 in
set_option maxHeartbeats 40000000 in
theorem steps_any (pa : Option Addr) (N pcap : Nat) (zs : List Ins) (V : VmS) (inn outs : Int) (ga : Option Addr) (M gcap : Nat) (gs : List Int) (w : World) (hp : RowAt shI 0 w (.slice pa N pcap) zs) (hpb : zs.length * 16 ≤ reachBytes) (hv : RowAt shN 0 w (.slice ga M gcap) gs) (hvb : gs.length * 8 ≤ reachBytes) (hT : Tab w) :
    Calls Tryd.prog 3 #[.slice pa N pcap, vmV V, .int .i64 inn, .int .i64 outs, .slice ga M gcap] w fun e w' => e = .returned (.bool true) ∧ w.grownBy w' none := by
  obtain ⟨hl, -⟩ := id hp
  have hN : N = zs.length := by obtain ⟨-, a', c', e, -⟩ := hp; simp only [Value.slice.injEq] at e; exact e.2.1
  have hM : M = gs.length := by obtain ⟨-, a', c', e, -⟩ := hv; simp only [Value.slice.injEq] at e; exact e.2.1
  subst hN
  subst hM
  have hrb : reachBytes = 140737488351232 := rfl
  have hzb : zs.length ≤ 8796093021952 := by omega
  have hgb : gs.length ≤ 17592186043904 := by omega
  obtain ⟨A, hA⟩ : ∃ A, stepAns zs V inn outs gs = A := ⟨_, rfl⟩
  have CLI := hide (fun W (hg : w.grownBy W none) => Li.lend_any (.slice pa zs.length pcap) zs hzb W (hp.grown hg))
  have CLN := hide (fun W (hg : w.grownBy W none) => Nn.lend_any (.slice ga gs.length gcap) gs hgb W (hv.grown hg))
  have CS : Hid (∀ (lo lo2 g1 g2 cap1 cap2 : Nat) W, w.grownBy W none → RowAt shI lo W (.slice (some ⟨g1, 0, none⟩) (zs.length + 2) cap1) (zs ++ Li.mark) → RowAt shN lo2 W (.slice (some ⟨g2, 0, none⟩) (gs.length + 2) cap2) (gs ++ Nn.mark) → Calls Tryd.prog 11 #[.slice (some ⟨g1, 0, none⟩) zs.length cap1, vmV V, .int .i64 inn, .int .i64 outs, .slice (some ⟨g2, 0, none⟩) gs.length cap2] W fun e w' => e = .returned (.tuple #[vmV A.1, efV A.2.1, .int .i64 A.2.2]) ∧ W.grownBy w' none) := hide (fun lo lo2 g1 g2 cap1 cap2 W hg h1 h2 => by
    have := step_any (.slice (some ⟨g1, 0, none⟩) zs.length cap1) zs V inn outs (.slice (some ⟨g2, 0, none⟩) gs.length cap2) gs W hl (hT.grown hg) (preads_row (Li.lent_reads h1)) (Nn.lent_reads h2)
    rw [hA] at this
    exact this)
  have CR := hide (fun W (hg : w.grownBy W none) => stepRef_any (.slice pa zs.length pcap) zs V inn outs (.slice ga gs.length gcap) gs W hl ((preads_row hp).grown hg) (hv.grown hg))
  rw [hA] at CR
  have CKI := hide (fun (lo g cap : Nat) W (hc : zs.length + 2 ≤ cap) (h : RowAt shI lo W (.slice (some ⟨g, 0, none⟩) (zs.length + 2) cap) (zs ++ Li.mark)) (hg : w.grownBy W none) => Li.kept_any g cap (.slice pa zs.length pcap) zs hzb hc W h (hp.grown hg))
  have CKN := hide (fun (lo g cap : Nat) W (hc : gs.length + 2 ≤ cap) (h : RowAt shN lo W (.slice (some ⟨g, 0, none⟩) (gs.length + 2) cap) (gs ++ Nn.mark)) (hg : w.grownBy W none) => Nn.kept_any g cap (.slice ga gs.length gcap) gs hgb hc W h (hv.grown hg))
  have HT := hide (fun W (hg : w.grownBy W none) => hT.grown hg)
  clear hA hT hp hv hpb hvb hzb hgb hrb hl
  generalize zs.length = N at *
  generalize gs.length = M at *
  obtain ⟨⟨q0, q1, qm⟩, ⟨f0, f1, f2, f3, f4⟩, E⟩ := A
  obtain ⟨pc, acc, m⟩ := V
  dsimp only [vmV, efV] at CS CR ⊢
  have NUM := hide num_to
  go_enter Tryd.func3, Tryd.ntmps3
  go_upto_region 1 with fail
  have HV := hide (World.heap_alloc_new w (.cells #[.int .i64 pc, .int .i64 acc, .int .i64 (m 0), .int .i64 (m 1), .int .i64 (m 2), .int .i64 (m 3), .int .i64 (m 4), .int .i64 (m 5), .int .i64 (m 6), .int .i64 (m 7), .int .i64 (m 8), .int .i64 (m 9), .int .i64 (m 10), .int .i64 (m 11), .int .i64 (m 12), .int .i64 (m 13), .int .i64 (m 14), .int .i64 (m 15)] 25))
  have HG := hide (World.grownBy_alloc w (.cells #[.int .i64 pc, .int .i64 acc, .int .i64 (m 0), .int .i64 (m 1), .int .i64 (m 2), .int .i64 (m 3), .int .i64 (m 4), .int .i64 (m 5), .int .i64 (m 6), .int .i64 (m 7), .int .i64 (m 8), .int .i64 (m 9), .int .i64 (m 10), .int .i64 (m 11), .int .i64 (m 12), .int .i64 (m 13), .int .i64 (m 14), .int .i64 (m 15)] 25) none)
  generalize hwb : w.alloc (.cells #[.int .i64 pc, .int .i64 acc, .int .i64 (m 0), .int .i64 (m 1), .int .i64 (m 2), .int .i64 (m 3), .int .i64 (m 4), .int .i64 (m 5), .int .i64 (m 6), .int .i64 (m 7), .int .i64 (m 8), .int .i64 (m 9), .int .i64 (m 10), .int .i64 (m 11), .int .i64 (m 12), .int .i64 (m 13), .int .i64 (m 14), .int .i64 (m 15)] 25) = wb at *
  generalize hB : w.heap.size = B at *
  clear hwb hB
  go_wp2_with (first | fail)
  refine (CLI.out wb HG.out).mono ?_; rintro e w1 ⟨g1, cap1, rfl, hc1, hc1', hr1, hg⟩
  have HC1 := hide (And.intro hc1 hc1')
  have HR1 := hide hr1
  have HV := hide (box_grown HV.out hg (by simp))
  have HG := hide (grownBy_trans HG.out hg)
  clear hg CLI hc1 hc1' hr1
  go_wp2_with (first | fail)
  refine (CLN.out w1 HG.out).mono ?_; rintro e w2 ⟨g2, cap2, rfl, hc1, hc1', hr1, hg⟩
  have HC2 := hide (And.intro hc1 hc1')
  have HR1 := hide (HR1.out.grown hg)
  have HR2 := hide hr1
  have HV := hide (box_grown HV.out hg (by simp))
  have HG := hide (grownBy_trans HG.out hg)
  clear hg CLN hc1 hc1' hr1
  go_wp2_with (first | ((with_reducible refine list_load 25 (.tmp 6) (B) 25 #[.int .i64 pc, .int .i64 acc, .int .i64 (m 0), .int .i64 (m 1), .int .i64 (m 2), .int .i64 (m 3), .int .i64 (m 4), .int .i64 (m 5), .int .i64 (m 6), .int .i64 (m 7), .int .i64 (m 8), .int .i64 (m 9), .int .i64 (m 10), .int .i64 (m 11), .int .i64 (m 12), .int .i64 (m 13), .int .i64 (m 14), .int .i64 (m 15)] (0, 0) _ ?hw ?hx ?hg Tryd.underlying25 ?hd ?hi ?_); (case hw => kernel_rfl); (case hx => rfl); (case hg => exact HV.out); (case hd => rfl); (case hi => exact sizeVm)) | fail)
  refine (CS.out _ _ g1 g2 cap1 cap2 w2 HG.out HR1.out HR2.out).mono ?_; rintro e w3 ⟨rfl, hg⟩
  have HR1 := hide (HR1.out.grown hg)
  have HR2 := hide (HR2.out.grown hg)
  have HV := hide (box_grown HV.out hg (by simp))
  have HG := hide (grownBy_trans HG.out hg)
  clear hg CS
  go_wp2_with (first | ((with_reducible refine list_store 25 (.tmp 13) (.tmp 30) (w3.heap.size) #[.int .i64 q0, .int .i64 q1, .int .i64 (qm 0), .int .i64 (qm 1), .int .i64 (qm 2), .int .i64 (qm 3), .int .i64 (qm 4), .int .i64 (qm 5), .int .i64 (qm 6), .int .i64 (qm 7), .int .i64 (qm 8), .int .i64 (qm 9), .int .i64 (qm 10), .int .i64 (qm 11), .int .i64 (qm 12), .int .i64 (qm 13), .int .i64 (qm 14), .int .i64 (qm 15)] 25 #[.int .i64 0, .int .i64 0, .int .i64 0, .int .i64 0, .int .i64 0, .int .i64 0, .int .i64 0, .int .i64 0, .int .i64 0, .int .i64 0, .int .i64 0, .int .i64 0, .int .i64 0, .int .i64 0, .int .i64 0, .int .i64 0, .int .i64 0, .int .i64 0] ?hx ?hy ?hg ?hi ?ho ?h1 ?_); (case hx => rfl); (case hy => rfl); (case hg => exact box_grown (World.heap_alloc_new _ _) (World.grownBy_alloc _ _ none) (by simp)); (case hi => exact sizeVm); (case ho => rfl); (case h1 => simp [Value.oneCell']); intro w4a h1 e1 g1; have HA := hide h1; have HE := hide ((e1 (w3.heap.size + 1) (by omega)).trans (alloc_next _ _ _)); have HNN := hide (grown_spoil (grownBy_trans (World.grownBy_alloc w3 _ none) (World.grownBy_alloc _ _ none)) (Nat.le_refl _) g1); clear h1 e1 g1) | ((with_reducible refine list_store 30 (.tmp 14) (.tmp 31) (w3.heap.size + 1) #[.bool f0, .int .i64 f1, .int .i64 f2, .int .i64 f3, .bool f4] 30 #[.bool false, .int .i64 0, .int .i64 0, .int .i64 0, .bool false] ?hx ?hy ?hg ?hi ?ho ?h1 ?_); (case hx => rfl); (case hy => rfl); (case hg => exact HE.out); (case hi => exact sizeEf); (case ho => rfl); (case h1 => simp [Value.oneCell']); intro w4 h1 e1 g1; have HAv := hide ((e1 (w3.heap.size) (by omega)).trans HA.out); have HAe := hide h1; have hgN := grown_spoil HNN.out (Nat.le_succ _) g1; have HV := hide (box_grown HV.out hgN (by simp)); have HR1 := hide (HR1.out.grown hgN); have HR2 := hide (HR2.out.grown hgN); have HG := hide (grownBy_trans HG.out hgN); clear h1 e1 g1 hgN HA HE HNN) | ((with_reducible refine list_load 25 (.tmp 6) (B) 25 #[.int .i64 pc, .int .i64 acc, .int .i64 (m 0), .int .i64 (m 1), .int .i64 (m 2), .int .i64 (m 3), .int .i64 (m 4), .int .i64 (m 5), .int .i64 (m 6), .int .i64 (m 7), .int .i64 (m 8), .int .i64 (m 9), .int .i64 (m 10), .int .i64 (m 11), .int .i64 (m 12), .int .i64 (m 13), .int .i64 (m 14), .int .i64 (m 15)] (0, 0) _ ?hw ?hx ?hg Tryd.underlying25 ?hd ?hi ?_); (case hw => kernel_rfl); (case hx => rfl); (case hg => exact HV.out); (case hd => rfl); (case hi => exact sizeVm)) | fail)
  refine (CR.out _ HG.out).mono ?_; rintro e w5 ⟨rfl, hg⟩
  have HR1 := hide (HR1.out.grown hg)
  have HR2 := hide (HR2.out.grown hg)
  have HAv := hide (box_grown HAv.out hg (by simp))
  have HAe := hide (box_grown HAe.out hg (by simp))
  have HG := hide (grownBy_trans HG.out hg)
  clear hg CR HV
  go_upto_region 4 with (first | ((with_reducible refine list_store 25 (.tmp 16) (.tmp 40) (w5.heap.size) #[.int .i64 q0, .int .i64 q1, .int .i64 (qm 0), .int .i64 (qm 1), .int .i64 (qm 2), .int .i64 (qm 3), .int .i64 (qm 4), .int .i64 (qm 5), .int .i64 (qm 6), .int .i64 (qm 7), .int .i64 (qm 8), .int .i64 (qm 9), .int .i64 (qm 10), .int .i64 (qm 11), .int .i64 (qm 12), .int .i64 (qm 13), .int .i64 (qm 14), .int .i64 (qm 15)] 25 #[.int .i64 0, .int .i64 0, .int .i64 0, .int .i64 0, .int .i64 0, .int .i64 0, .int .i64 0, .int .i64 0, .int .i64 0, .int .i64 0, .int .i64 0, .int .i64 0, .int .i64 0, .int .i64 0, .int .i64 0, .int .i64 0, .int .i64 0, .int .i64 0] ?hx ?hy ?hg ?hi ?ho ?h1 ?_); (case hx => rfl); (case hy => rfl); (case hg => exact box_grown (World.heap_alloc_new _ _) (World.grownBy_alloc _ _ none) (by simp)); (case hi => exact sizeVm); (case ho => rfl); (case h1 => simp [Value.oneCell']); intro w6a h1 e1 g1; have HA := hide h1; have HE := hide ((e1 (w5.heap.size + 1) (by omega)).trans (alloc_next _ _ _)); have HNN := hide (grown_spoil (grownBy_trans (World.grownBy_alloc w5 _ none) (World.grownBy_alloc _ _ none)) (Nat.le_refl _) g1); clear h1 e1 g1) | ((with_reducible refine list_store 30 (.tmp 17) (.tmp 41) (w5.heap.size + 1) #[.bool f0, .int .i64 f1, .int .i64 f2, .int .i64 f3, .bool f4] 30 #[.bool false, .int .i64 0, .int .i64 0, .int .i64 0, .bool false] ?hx ?hy ?hg ?hi ?ho ?h1 ?_); (case hx => rfl); (case hy => rfl); (case hg => exact HE.out); (case hi => exact sizeEf); (case ho => rfl); (case h1 => simp [Value.oneCell']); intro w6 h1 e1 g1; have HBv := hide ((e1 (w5.heap.size) (by omega)).trans HA.out); have HBe := hide h1; have hgN := grown_spoil HNN.out (Nat.le_succ _) g1; have HAv := hide (box_grown HAv.out hgN (by simp)); have HAe := hide (box_grown HAe.out hgN (by simp)); have HR1 := hide (HR1.out.grown hgN); have HR2 := hide (HR2.out.grown hgN); have HG := hide (grownBy_trans HG.out hgN); clear h1 e1 g1 hgN HA HE HNN) | fail)
  have hARR := arr_self
  go_wp2_with (first | (go_at_call 13; refine (NUM.out _ _).mono ?_; rintro e wn ⟨rfl, rfl⟩) | ((with_reducible refine list_load 25 (.tmp 13) (w3.heap.size) 25 #[.int .i64 q0, .int .i64 q1, .int .i64 (qm 0), .int .i64 (qm 1), .int .i64 (qm 2), .int .i64 (qm 3), .int .i64 (qm 4), .int .i64 (qm 5), .int .i64 (qm 6), .int .i64 (qm 7), .int .i64 (qm 8), .int .i64 (qm 9), .int .i64 (qm 10), .int .i64 (qm 11), .int .i64 (qm 12), .int .i64 (qm 13), .int .i64 (qm 14), .int .i64 (qm 15)] (0, 0) _ ?hw ?hx ?hg Tryd.underlying25 ?hd ?hi ?_); (case hw => kernel_rfl); (case hx => rfl); (case hg => exact HAv.out); (case hd => rfl); (case hi => exact sizeVm)) | ((with_reducible refine list_load 25 (.tmp 16) (w5.heap.size) 25 #[.int .i64 q0, .int .i64 q1, .int .i64 (qm 0), .int .i64 (qm 1), .int .i64 (qm 2), .int .i64 (qm 3), .int .i64 (qm 4), .int .i64 (qm 5), .int .i64 (qm 6), .int .i64 (qm 7), .int .i64 (qm 8), .int .i64 (qm 9), .int .i64 (qm 10), .int .i64 (qm 11), .int .i64 (qm 12), .int .i64 (qm 13), .int .i64 (qm 14), .int .i64 (qm 15)] (0, 0) _ ?hw ?hx ?hg Tryd.underlying25 ?hd ?hi ?_); (case hw => kernel_rfl); (case hx => rfl); (case hg => exact HBv.out); (case hd => rfl); (case hi => exact sizeVm)) | ((with_reducible refine list_load 30 (.tmp 14) (w3.heap.size + 1) 30 #[.bool f0, .int .i64 f1, .int .i64 f2, .int .i64 f3, .bool f4] (0, 0) _ ?hw ?hx ?hg Tryd.underlying30 ?hd ?hi ?_); (case hw => kernel_rfl); (case hx => rfl); (case hg => exact HAe.out); (case hd => rfl); (case hi => exact sizeEf)) | ((with_reducible refine list_load 30 (.tmp 17) (w5.heap.size + 1) 30 #[.bool f0, .int .i64 f1, .int .i64 f2, .int .i64 f3, .bool f4] (0, 0) _ ?hw ?hx ?hg Tryd.underlying30 ?hd ?hi ?_); (case hw => kernel_rfl); (case hx => rfl); (case hg => exact HBe.out); (case hd => rfl); (case hi => exact sizeEf)) | fail)
  refine (CKI.out _ g1 cap1 _ HC1.out.1 HR1.out HG.out).mono ?_; rintro e w8 ⟨rfl, n8, rfl⟩
  go_wp2_with (first | fail)
  refine (CKN.out _ g2 cap2 _ HC2.out.1 (HR2.out.draws n8) (grownBy_trans HG.out (grownBy_draws _ _ _))).mono ?_; rintro e w9 ⟨rfl, n9, rfl⟩
  go_wp2_with (first | fail)
  refine (awake_any _ (HT.out _ (grownBy_trans HG.out (grownBy_draws _ (n8 + n9) _)))).mono ?_; rintro e w10 ⟨rfl, hg⟩
  have HGF := hide (grownBy_trans (grownBy_trans HG.out (grownBy_draws _ (n8 + n9) _)) hg)
  clear hg
  go_wp2
  go_ret
  exact ⟨by first | rfl | simp, HGF.out⟩
#print axioms steps_any
end Go.Proofs.YthdpdnibgmjdaaaDoor

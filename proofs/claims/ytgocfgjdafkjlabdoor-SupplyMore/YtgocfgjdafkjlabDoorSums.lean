/- Contracts of package supply's sums and leastOf, proved over the translation. -/
import Derived.Test.YtgocfgjdafkjlabDoorWinf
namespace Go.Proofs.YtgocfgjdafkjlabDoor
open Go.RowKit
attribute [local go_sem] alloc_drewN setCell_drewN

theorem infoI64 : (Tryd.prog.info? 3).map (fun i => (i.zero, i.size, i.bytes)) = some (some (.int .i64 0), 1, 8) := by kernel_rfl
/-- make of a row of n numbers. -/
def made (n : Nat) : Array Value := madeCells #[.int .i64 0] n
theorem make_any (n : Nat) (hn : n ≤ 35184372088832) (w : World) : (Instr.makeSlice 45 (.int .i64 n) (.int .i64 n)).run Tryd.prog w = .ok (.slice (some ⟨w.heap.size, 0, none⟩) n n) (w.alloc (.cells (made n) 3)) := by
  obtain ⟨i0, hi, hz0, hz1, hz2⟩ := info_parts infoI64
  have := run_make (P := Tryd.prog) w 45 3 i0 (.int .i64 0) Tryd.underlying45 hi hz0 .i64 .i64 n n (by omega) (Int.le_refl _) (by rw [hz2]; omega) (by omega)
  rw [hz1] at this
  simpa [made, Value.cells] using this
theorem blk_free' {W : World} {b t : Nat} {cs : Array Value} (h : W.heap[b]? = some (.cells cs t (0, 0))) (j : Nat) : W.frozen? ⟨b, j, none⟩ = false := by simp [World.frozen?, h]
theorem made_arr (w W : World) (n : Nat) (hg : w.grownBy W none) : Arr w W.heap.size n (fun _ => 0) (W.alloc (.cells (made n) 3)) where
  grown := grownBy_trans hg (World.grownBy_alloc _ _ _)
  new := hg.size
  size := by simp
  cell := fun i hi => by
    have : (made n)[i]? = some (.int .i64 0) := by
      rw [← Array.getElem?_toList, made, toList_madeCells_one, List.getElem?_replicate, if_pos hi]
    simpa using this
  free := fun i _ => blk_free' (heap_alloc_new W (.cells (made n) 3)) i

set_option maxRecDepth 100000 in
set_option maxHeartbeats 2000000 in
theorem sums_any {lo : Nat} (c : Value) (C : ConfV) (p F : Nat) (hF : (F : Int) = C.frame) (hck : checkN C = 0) (w : World) (hc : ConfAt lo w c C) :
    Calls Tryd.prog 12 #[c, .int .i64 p] w fun e w' => ∃ B, e = .returned (.slice (some ⟨B, 0, none⟩) (2 * F + 1) (2 * F + 1)) ∧ Arr w B (2 * F + 1) (fun i => sumTo (own1 C p F) i) w' := by
  obtain ⟨vp, vw, vo, rfl, ⟨qs, -, ⟨-, pa, pc, rfl, -⟩, -⟩, hw, ⟨-, oa, oc, rfl, -⟩⟩ := hc
  have HV := hide (fun W => hw.grown (W := W))
  obtain ⟨hl, wa, wc, rfl, -⟩ := hw
  have HFI := hide (fine_of hck)
  have f0 := HFI.out.f0
  have f1 := HFI.out.f1
  have hw1 := HFI.out.w1
  have HBD := hide (fun i hi => And.intro (HFI.out.fr0 i hi) (HFI.out.win i hi))
  have HLD := hide (HFI.out.laid p F hF)
  have HL0 := hide (winF_none C.wins p F C.wins.length)
  have HWS : Hid (∀ j, winF C.wins p F (j + 1) = if (winAt C.wins j).part = p then markF (winF C.wins p F j) F (winAt C.wins j).fr.toNat (winAt C.wins j).til.toNat else winF C.wins p F j) := fun j => rfl
  have HW0 : Hid (winF C.wins p F 0 = fun _ => 0) := rfl
  have HOB := hide (own1_bd C p F)
  have HSB := hide (fun n => cf_bd (own1_bd C p F) 0 n)
  rw [← hF] at f0 f1 HBD ⊢
  clear hck HFI
  generalize own1 C p F = o at *
  have HSU : Hid (∀ n : Nat, 0 ≤ sumTo o n ∧ sumTo o n ≤ n) := fun n => by
    have := HSB.out n
    unfold cf at this
    rw [Nat.zero_add] at this
    have z : sumTo o 0 = 0 := rfl
    omega
  clear HSB
  generalize C.quiet = qt at *
  generalize qs.length = n0 at *
  generalize C.ports.length = n2 at *
  clear hF
  generalize C.wins = ws at *
  generalize hN : ws.length = N at *
  have HN := hide hN
  clear hN
  obtain ⟨K, hK⟩ : ∃ K, K = 2 * F + 1 := ⟨_, rfl⟩
  have hmk : ∀ W, (Instr.makeSlice 45 (.int .i64 (2 * (F : Int) + 1)) (.int .i64 (2 * (F : Int) + 1))).run Tryd.prog W = .ok (.slice (some ⟨W.heap.size, 0, none⟩) K K) (W.alloc (.cells (made K) 3)) := fun W => by
    have := make_any K (by omega) W
    rwa [show (K : Int) = 2 * (F : Int) + 1 by omega] at this
  have hK1 : K ≤ 2 * F + 1 := by omega
  have hK2 : 2 * F + 1 ≤ K := by omega
  rw [← hK]
  have HK := hide hK
  clear hK
  generalize hwb : w.alloc (.cells #[.int .i64 F, .int .i64 qt, .slice pa n0 pc, .slice wa N wc, .slice oa n2 oc] 30) = wb
  have HG0 := hide (show w.grownBy wb none by rw [← hwb]; exact World.grownBy_alloc _ _ none)
  have HSZ := hide (show wb.heap.size = w.heap.size + 1 by rw [← hwb]; simp)
  have KEEP : Hid (∀ V, wb.grownBy V none → V.cell? ⟨w.heap.size, 0, none⟩ = some (.int .i64 F) ∧ V.cell? ⟨w.heap.size, 3, none⟩ = some (.slice wa N wc)) := by
    intro V hV
    have b := fun k => World.cell?_of_block (a := ⟨w.heap.size, k, none⟩) (hV.block w.heap.size (by rw [HSZ.out]; omega) (by simp))
    exact ⟨(b 0).trans (by rw [← hwb]; simp), (b 3).trans (by rw [← hwb]; simp)⟩
  have HA1 : Hid (Arr wb (w.heap.size + 1) K (fun _ => 0) (wb.alloc (.cells (made K) 3))) := by
    have := made_arr wb wb K (grownBy_refl _ _)
    rwa [HSZ.out] at this
  have hszb := HSZ.out
  go_enter Tryd.func12, Tryd.ntmps12
  go_upto_region 1 with fail
  obtain ⟨q0, q3⟩ := KEEP.out wb (grownBy_refl _ _)
  have HK0 := hide hwb
  clear hwb
  go_upto_region 2 with (simp only [hmk])
  obtain ⟨r0, r3⟩ := KEEP.out _ HA1.out.grown
  go_wp2
  go_loopw [7, 17] (fun _ i V => ∃ (j : Nat), j ≤ N ∧ i = .int .i64 j ∧ Hid (Arr wb (w.heap.size + 1) K (winF ws p F j) V)) (fun _ i _ => N - (intOf i).toNat)
  case atStart => exact ⟨0, by omega, rfl, by rw [HW0.out]; exact HA1⟩
  case round =>
    obtain ⟨j, hj, rfl, HR⟩ := hrel
    clear q0 q3 r0 r3
    obtain ⟨k0, k3⟩ := KEEP.out wr HR.out.grown
    by_cases hlt : j < N
    · obtain ⟨-, a2, cap2, e2, hc⟩ := HV.out wr (grownBy_trans HG0.out HR.out.grown)
      simp only [Value.slice.injEq] at e2
      obtain ⟨rfl, -, rfl⟩ := e2
      obtain ⟨g, oo, rfl, -, hc2⟩ := hc (by rw [HN.out]; omega)
      have hc3 := hc2 j _ (winAt_mem (ws := ws) (i := j) (by rw [HN.out]; exact hlt))
      have c0 : wr.cell? ⟨g, oo + j * 3, none⟩ = some (.int .i64 (winAt ws j).fr) := hc3 0 _ rfl
      have c1 : wr.cell? ⟨g, oo + j * 3 + 1, none⟩ = some (.int .i64 (winAt ws j).til) := hc3 1 _ rfl
      have c2 : wr.cell? ⟨g, oo + j * 3 + 2, none⟩ = some (.int .i64 (winAt ws j).part) := hc3 2 _ rfl
      clear hc hc2 hc3
      have HS := hide (HWS.out j)
      have hb := HBD.out j hlt
      obtain ⟨b0, -, b1, b2, -, -⟩ := hb
      generalize (winAt ws j).fr = x0 at *
      generalize (winAt ws j).til = x1 at *
      generalize (winAt ws j).part = x2 at *
      obtain ⟨a, rfl⟩ : ∃ a : Nat, x0 = a := ⟨x0.toNat, by omega⟩
      obtain ⟨b, rfl⟩ : ∃ b : Nat, x1 = b := ⟨x1.toNat, by omega⟩
      rw [Int.toNat_natCast, Int.toNat_natCast] at HS
      by_cases hp : x2 = p
      · subst hp
        have HS2 := hide (HS.out.trans (if_pos rfl))
        clear HS
        have CM := hide (mark_any F a b (w.heap.size + 1) K p _ wb _ (HR.out.up (World.grownBy_alloc wr (.cells #[.int .i64 a, .int .i64 b, .int .i64 p] 36) none)) HK.out (by omega) (by omega) (by omega))
        have G1 := World.grownBy_alloc wr (.cells #[.int .i64 a, .int .i64 b, .int .i64 p] 36) none
        obtain ⟨m0, -⟩ := KEEP.out _ (grownBy_trans HR.out.grown G1)
        clear G1
        go_wp2_with (go_at_call 23; refine CM.out.mono ?_; rintro e w2 ⟨rfl, ha⟩; have HA2 := hide ha; clear ha)
        go_roundw
        case rel => exact ⟨j + 1, by omega, by go_num, by rw [HS2.out]; exact HA2⟩
        case measure => simp [intOf]; omega
      · have hp2 : (x2 == (p : Int)) = false := by simp [hp]
        have HS2 := hide (HS.out.trans (if_neg hp))
        clear HS
        go_wp2
        go_roundw
        case rel => exact ⟨j + 1, by omega, by go_num, by rw [HS2.out]; exact HR.out.up (World.grownBy_alloc _ _ _)⟩
        case measure => simp [intOf]; omega
    · have e : j = N := by omega
      subst e
      clear hlt
      have HH := hide (show Arr wb (w.heap.size + 1) K (halfF o (winF ws p F j) 0) wr from HR.out.congr fun i _ => by
        unfold halfF
        cases i with
        | zero => rw [if_pos (Nat.le_refl _)]; exact HL0.out
        | succ i => rw [if_neg (by omega)])
      clear HR
      go_wp2
      go_loopw [8, 34] (fun _ i V => ∃ (m : Nat), m ≤ 2 * F ∧ i = .int .i64 m ∧ Hid (Arr wb (w.heap.size + 1) K (halfF o (winF ws p F j) m) V)) (fun _ i _ => 2 * F - (intOf i).toNat)
      case atStart => exact ⟨0, by omega, rfl, HH⟩
      case round =>
        obtain ⟨m, hm, rfl, HR⟩ := hrel
        by_cases hlt : m < 2 * F
        · have d0 : wr.cell? ⟨w.heap.size + 1, m, none⟩ = some (.int .i64 (sumTo o m)) := by
            have := HR.out.cell m (by omega)
            rwa [halfF, if_pos (Nat.le_refl _)] at this
          have d1 : wr.cell? ⟨w.heap.size + 1, m + 1, none⟩ = some (.int .i64 (o m)) := by
            have := HR.out.cell (m + 1) (by omega)
            rwa [halfF, if_neg (by omega), HLD.out m hlt] at this
          have d2 := HR.out.free (m + 1) (by omega)
          have HN2 := hide (show Arr wb (w.heap.size + 1) K (halfF o (winF ws p F j) (m + 1)) (wr.setCell ⟨w.heap.size + 1, m + 1, none⟩ (.int .i64 (o m + sumTo o m))) from
            HR.out.set (m + 1) _ (by unfold halfF; rw [if_pos (Nat.le_refl _)]; simp only [sumTo]; omega) (fun i hi => by
              unfold halfF
              by_cases e : i ≤ m
              · rw [if_pos e, if_pos (by omega)]
              · rw [if_neg e, if_neg (by omega)]))
          have s0 := HSU.out m
          have s1 := HOB.out m
          generalize sumTo o m = S at *
          generalize o m = x at *
          go_wp2
          go_region
          all_goals
            go_wp2
            go_roundw
            case rel => exact ⟨m + 1, by omega, by go_num, hide (HN2.out.up (grownBy_draws _ _ _))⟩
            case measure => simp [intOf]; omega
        · have e : m = 2 * F := by omega
          go_wp2
          go_ret
          refine ⟨_, rfl, (HR.out.from HG0.out).congr fun i hi => ?_⟩
          unfold halfF
          rw [if_pos (by omega)]
#print axioms sums_any
end Go.Proofs.YtgocfgjdafkjlabDoor

/- Contract of package pvm's Step, proved over the translation: it answers one function of what is handed in, and writes to new memory alone. -/
import Derived.Test.YthdpdnibgmjdaaaDoorDo
import Derived.Test.YthdpdnibgmjdaaaDoorVmay
import Derived.Test.YthdpdnibgmjdaaaDoorRowlaw
namespace Go.Proofs.YthdpdnibgmjdaaaDoor
open Go.RowKit
attribute [local go_sem] alloc_drewN setCell_drewN

theorem World.size_alloc_new (w : World) (o : Obj) : (w.alloc o).heap.size = w.heap.size + 1 := by
  show (w.heap.push o).size = _
  simp
/-- One cell written, block by block. -/
def objSet (j : Nat) (u : Value) : Obj → Obj
  | .cells cs t fr => .cells (cs.setIfInBounds j u) t fr
  | o => o
theorem heap_same (W : World) (b j : Nat) (u : Value) : (W.setCell ⟨b, j, none⟩ u).heap[b]? = (W.heap[b]?).map (objSet j u) := by
  simp only [World.setCell, Array.getElem?_modify, if_true]
  cases W.heap[b]? with
  | none => rfl
  | some o => cases o <;> rfl
theorem heap_else (W : World) {b c : Nat} (j : Nat) (u : Value) (h : b ≠ c) : (W.setCell ⟨b, j, none⟩ u).heap[c]? = W.heap[c]? := by
  simp [World.setCell, Array.getElem?_modify, h]
theorem grown_set_new {w W : World} {R j : Nat} {r : Option Nat} {u : Value} (hR : w.heap.size ≤ R) (h : w.grownBy W r) : w.grownBy (W.setCell ⟨R, j, none⟩ u) r :=
  ⟨h.os, h.tape, h.output, by simpa [World.setCell] using h.size, fun k hk hn => (Below.heap_setCell _ _ _ _ (by simp; omega)).trans (h.block k hk hn)⟩
/-- What may be handed in. -/
def stepMay (zs : List Ins) (v : VmS) (inn outs : Int) (gs : List Int) : Bool := codeMay zs && (vmMay zs.length v && (isW inn && (decide (0 ≤ outs) && (decide (outs ≤ 255) && getsMay gs))))
/-- What an instruction is, as two numbers. -/
def insN (zs : List Ins) (k : Nat) : Nat × Nat := (((zs[k]?.getD (0, 0)).1).toNat, ((zs[k]?.getD (0, 0)).2).toNat)
/-- A step: the machine then, the effect, the error. -/
def stepAns (zs : List Ins) (v : VmS) (inn outs : Int) (gs : List Int) : VmS × EfS × Int :=
  if stepMay zs v inn outs gs = true then
    if zs.length = 0 then (v, quietE, 0)
    else
      let r := doS (insN zs v.pc.toNat).1 (insN zs v.pc.toNat).2 ⟨((v.pc.toNat + 1) % zs.length : Nat), v.acc, v.mem⟩ inn outs gs
      (r.1, r.2, 0)
  else (⟨0, 0, fun _ => 0⟩, ⟨false, 0, 0, 0, false⟩, 1000)

theorem sizeSt : (Tryd.prog.info? 53).map (·.size) = some 26 := by kernel_rfl
theorem isW_of {x : Int} (h : isW x = true) : 0 ≤ x ∧ x < 4294967296 := by
  unfold isW at h
  simpa using h
theorem able_of {zs : List Ins} {v : VmS} {inn outs : Int} {gs : List Int} (h : stepMay zs v inn outs gs = true) (h0 : zs.length ≠ 0) :
    ∃ k op n : Nat, v.pc = k ∧ k < zs.length ∧ zs.length ≤ 64 ∧ zs[k]? = some ((op : Int), (n : Int)) ∧ insN zs k = (op, n) ∧ Able op n ⟨((k + 1) % zs.length : Nat), v.acc, v.mem⟩ := by
  unfold stepMay codeMay vmMay at h
  simp only [Bool.and_eq_true, decide_eq_true_eq, List.all_eq_true] at h
  obtain ⟨⟨hl, hall⟩, ⟨hpc0, hpc1, hacc, hmem⟩, -⟩ := h
  obtain ⟨k, hk⟩ : ∃ k : Nat, v.pc = k := ⟨v.pc.toNat, by omega⟩
  have hkl : k < zs.length := by omega
  have hm := hall zs[k] (List.getElem_mem hkl)
  have hz : zs[k]? = some zs[k] := List.getElem?_eq_getElem hkl
  generalize zs[k] = x at *
  obtain ⟨a, b⟩ := x
  unfold insMay isOpB at hm
  simp only [Bool.and_eq_true, decide_eq_true_eq] at hm
  obtain ⟨⟨ha0, ha1⟩, hb0, hb1⟩ := hm
  obtain ⟨op, rfl⟩ : ∃ op : Nat, a = op := ⟨a.toNat, by omega⟩
  obtain ⟨n, rfl⟩ : ∃ n : Nat, b = n := ⟨b.toNat, by omega⟩
  refine ⟨k, op, n, hk, hkl, hl, hz, ?_, ?_⟩
  · unfold insN; rw [hz]; simp
  · refine ⟨by omega, fun ho => ?_, fun ho => ?_, isW_of hacc, fun i hi => isW_of (allB_of hmem i hi)⟩
    · unfold most at hb1
      rcases ho with rfl | rfl | rfl | rfl <;> simp [opBelow] at hb1 <;> omega
    · unfold most at hb1
      rcases ho with rfl | rfl <;> simp [opBelow] at hb1 <;> omega

set_option maxRecDepth 100000 in
set_option maxHeartbeats 40000000 in
theorem step_any {lo : Nat} (pv : Value) (zs : List Ins) (v : VmS) (inn outs : Int) (gv : Value) (gs : List Int) (w : World) (hz : zs.length ≤ 9223372036854775807) (hT : Tab w) (hp : PReads w pv zs) (hv : RowAt shN lo w gv gs) :
    Calls Tryd.prog 11 #[pv, vmV v, .int .i64 inn, .int .i64 outs, gv] w fun e w' => e = .returned (.tuple #[vmV (stepAns zs v inn outs gs).1, efV (stepAns zs v inn outs gs).2.1, .int .i64 (stepAns zs v inn outs gs).2.2]) ∧ w.grownBy w' none := by
  have CT := hide (fun W (hg : w.grownBy W none) => may_any pv zs hz W (hT.grown hg) (hp.grown hg))
  have CG := hide (fun W (hg : w.grownBy W none) => mayGets_any gv gs W (hv.grown hg))
  have HP := hide (fun W (hg : w.grownBy W none) => hp.grown hg)
  have HV := hide (fun W (hg : w.grownBy W none) => hv.grown hg)
  obtain ⟨pa, pcap, rfl, -⟩ := hp
  obtain ⟨-, ga, gcap, rfl, -⟩ := hv
  have CV := hide (fun W => mayVm_any pa zs.length pcap v W)
  have CW := hide (fun W => isWord_any inn W)
  have HAB := hide (able_of (zs := zs) (v := v) (inn := inn) (outs := outs) (gs := gs))
  obtain ⟨A, hA⟩ : ∃ A, stepAns zs v inn outs gs = A := ⟨_, rfl⟩
  rw [hA]
  have HAns := hide hA
  clear hA hT
  obtain ⟨pc, acc, m⟩ := v
  have hSM : Hid (stepMay zs ⟨pc, acc, m⟩ inn outs gs = (codeMay zs && (vmMay zs.length ⟨pc, acc, m⟩ && (isW inn && (decide (0 ≤ outs) && (decide (outs ≤ 255) && getsMay gs)))))) := rfl
  generalize hb : stepMay zs ⟨pc, acc, m⟩ inn outs gs = bb at *
  have HB := hide hb
  clear hb
  generalize hb1 : codeMay zs = b1 at CT hSM
  generalize hb2 : vmMay zs.length ⟨pc, acc, m⟩ = b2 at CV hSM
  generalize hb3 : isW inn = b3 at CW hSM
  generalize hb6 : getsMay gs = b6 at CG hSM
  clear hb1 hb2 hb3 hb6
  have HN := hide (rfl : zs.length = zs.length)
  generalize hN : zs.length = N at CT CV HP ⊢
  have HN := hide hN
  generalize hM : gs.length = M at CG HV ⊢
  have HM := hide hM
  clear hN hM
  dsimp only [vmV] at CV ⊢
  go_enter Tryd.func11, Tryd.ntmps11
  go_upto_region 1 with fail
  have hB0 : (((w.alloc (.cells #[.int .i64 pc, .int .i64 acc, .int .i64 (m 0), .int .i64 (m 1), .int .i64 (m 2), .int .i64 (m 3), .int .i64 (m 4), .int .i64 (m 5), .int .i64 (m 6), .int .i64 (m 7), .int .i64 (m 8), .int .i64 (m 9), .int .i64 (m 10), .int .i64 (m 11), .int .i64 (m 12), .int .i64 (m 13), .int .i64 (m 14), .int .i64 (m 15)] 25)).alloc (.cells #[.int .i64 0, .int .i64 0, .int .i64 0, .int .i64 0, .int .i64 0, .int .i64 0, .int .i64 0, .int .i64 0, .int .i64 0, .int .i64 0, .int .i64 0, .int .i64 0, .int .i64 0, .int .i64 0, .int .i64 0, .int .i64 0, .int .i64 0, .int .i64 0] 25)).alloc (.cells #[.bool false, .int .i64 0, .int .i64 0, .int .i64 0, .bool false] 30)).heap[w.heap.size]? = some (.cells #[.int .i64 pc, .int .i64 acc, .int .i64 (m 0), .int .i64 (m 1), .int .i64 (m 2), .int .i64 (m 3), .int .i64 (m 4), .int .i64 (m 5), .int .i64 (m 6), .int .i64 (m 7), .int .i64 (m 8), .int .i64 (m 9), .int .i64 (m 10), .int .i64 (m 11), .int .i64 (m 12), .int .i64 (m 13), .int .i64 (m 14), .int .i64 (m 15)] 25 (0, 0)) := box_grown (r := none) (box_grown (r := none) (World.heap_alloc_new _ _) (World.grownBy_alloc _ _ _) (by simp)) (World.grownBy_alloc _ _ _) (by simp)
  have hB1 : (((w.alloc (.cells #[.int .i64 pc, .int .i64 acc, .int .i64 (m 0), .int .i64 (m 1), .int .i64 (m 2), .int .i64 (m 3), .int .i64 (m 4), .int .i64 (m 5), .int .i64 (m 6), .int .i64 (m 7), .int .i64 (m 8), .int .i64 (m 9), .int .i64 (m 10), .int .i64 (m 11), .int .i64 (m 12), .int .i64 (m 13), .int .i64 (m 14), .int .i64 (m 15)] 25)).alloc (.cells #[.int .i64 0, .int .i64 0, .int .i64 0, .int .i64 0, .int .i64 0, .int .i64 0, .int .i64 0, .int .i64 0, .int .i64 0, .int .i64 0, .int .i64 0, .int .i64 0, .int .i64 0, .int .i64 0, .int .i64 0, .int .i64 0, .int .i64 0, .int .i64 0] 25)).alloc (.cells #[.bool false, .int .i64 0, .int .i64 0, .int .i64 0, .bool false] 30)).heap[w.heap.size + 1]? = some (.cells #[.int .i64 0, .int .i64 0, .int .i64 0, .int .i64 0, .int .i64 0, .int .i64 0, .int .i64 0, .int .i64 0, .int .i64 0, .int .i64 0, .int .i64 0, .int .i64 0, .int .i64 0, .int .i64 0, .int .i64 0, .int .i64 0, .int .i64 0, .int .i64 0] 25 (0, 0)) := by
    refine box_grown (r := none) ?_ (World.grownBy_alloc _ _ _) (by simp)
    rw [← World.size_alloc_new w (.cells #[.int .i64 pc, .int .i64 acc, .int .i64 (m 0), .int .i64 (m 1), .int .i64 (m 2), .int .i64 (m 3), .int .i64 (m 4), .int .i64 (m 5), .int .i64 (m 6), .int .i64 (m 7), .int .i64 (m 8), .int .i64 (m 9), .int .i64 (m 10), .int .i64 (m 11), .int .i64 (m 12), .int .i64 (m 13), .int .i64 (m 14), .int .i64 (m 15)] 25)]
    exact World.heap_alloc_new _ _
  have hB2 : (((w.alloc (.cells #[.int .i64 pc, .int .i64 acc, .int .i64 (m 0), .int .i64 (m 1), .int .i64 (m 2), .int .i64 (m 3), .int .i64 (m 4), .int .i64 (m 5), .int .i64 (m 6), .int .i64 (m 7), .int .i64 (m 8), .int .i64 (m 9), .int .i64 (m 10), .int .i64 (m 11), .int .i64 (m 12), .int .i64 (m 13), .int .i64 (m 14), .int .i64 (m 15)] 25)).alloc (.cells #[.int .i64 0, .int .i64 0, .int .i64 0, .int .i64 0, .int .i64 0, .int .i64 0, .int .i64 0, .int .i64 0, .int .i64 0, .int .i64 0, .int .i64 0, .int .i64 0, .int .i64 0, .int .i64 0, .int .i64 0, .int .i64 0, .int .i64 0, .int .i64 0] 25)).alloc (.cells #[.bool false, .int .i64 0, .int .i64 0, .int .i64 0, .bool false] 30)).heap[w.heap.size + 1 + 1]? = some (.cells #[.bool false, .int .i64 0, .int .i64 0, .int .i64 0, .bool false] 30 (0, 0)) := by
    rw [← World.size_alloc_new w (.cells #[.int .i64 pc, .int .i64 acc, .int .i64 (m 0), .int .i64 (m 1), .int .i64 (m 2), .int .i64 (m 3), .int .i64 (m 4), .int .i64 (m 5), .int .i64 (m 6), .int .i64 (m 7), .int .i64 (m 8), .int .i64 (m 9), .int .i64 (m 10), .int .i64 (m 11), .int .i64 (m 12), .int .i64 (m 13), .int .i64 (m 14), .int .i64 (m 15)] 25), ← World.size_alloc_new (w.alloc (.cells #[.int .i64 pc, .int .i64 acc, .int .i64 (m 0), .int .i64 (m 1), .int .i64 (m 2), .int .i64 (m 3), .int .i64 (m 4), .int .i64 (m 5), .int .i64 (m 6), .int .i64 (m 7), .int .i64 (m 8), .int .i64 (m 9), .int .i64 (m 10), .int .i64 (m 11), .int .i64 (m 12), .int .i64 (m 13), .int .i64 (m 14), .int .i64 (m 15)] 25)) (.cells #[.int .i64 0, .int .i64 0, .int .i64 0, .int .i64 0, .int .i64 0, .int .i64 0, .int .i64 0, .int .i64 0, .int .i64 0, .int .i64 0, .int .i64 0, .int .i64 0, .int .i64 0, .int .i64 0, .int .i64 0, .int .i64 0, .int .i64 0, .int .i64 0] 25)]
    exact World.heap_alloc_new _ _
  have HG0 := hide (grownBy_trans (grownBy_trans (World.grownBy_alloc w (.cells #[.int .i64 pc, .int .i64 acc, .int .i64 (m 0), .int .i64 (m 1), .int .i64 (m 2), .int .i64 (m 3), .int .i64 (m 4), .int .i64 (m 5), .int .i64 (m 6), .int .i64 (m 7), .int .i64 (m 8), .int .i64 (m 9), .int .i64 (m 10), .int .i64 (m 11), .int .i64 (m 12), .int .i64 (m 13), .int .i64 (m 14), .int .i64 (m 15)] 25) none) (World.grownBy_alloc _ (.cells #[.int .i64 0, .int .i64 0, .int .i64 0, .int .i64 0, .int .i64 0, .int .i64 0, .int .i64 0, .int .i64 0, .int .i64 0, .int .i64 0, .int .i64 0, .int .i64 0, .int .i64 0, .int .i64 0, .int .i64 0, .int .i64 0, .int .i64 0, .int .i64 0] 25) none)) (World.grownBy_alloc _ (.cells #[.bool false, .int .i64 0, .int .i64 0, .int .i64 0, .bool false] 30) none))
  generalize hwb : ((w.alloc (.cells #[.int .i64 pc, .int .i64 acc, .int .i64 (m 0), .int .i64 (m 1), .int .i64 (m 2), .int .i64 (m 3), .int .i64 (m 4), .int .i64 (m 5), .int .i64 (m 6), .int .i64 (m 7), .int .i64 (m 8), .int .i64 (m 9), .int .i64 (m 10), .int .i64 (m 11), .int .i64 (m 12), .int .i64 (m 13), .int .i64 (m 14), .int .i64 (m 15)] 25)).alloc (.cells #[.int .i64 0, .int .i64 0, .int .i64 0, .int .i64 0, .int .i64 0, .int .i64 0, .int .i64 0, .int .i64 0, .int .i64 0, .int .i64 0, .int .i64 0, .int .i64 0, .int .i64 0, .int .i64 0, .int .i64 0, .int .i64 0, .int .i64 0, .int .i64 0] 25)).alloc (.cells #[.bool false, .int .i64 0, .int .i64 0, .int .i64 0, .bool false] 30) = wb at *
  clear hwb
  have hr0 := box_lt hB0
  have hr2 := box_lt hB2
  obtain ⟨R0, hR0⟩ : ∃ R, R = w.heap.size := ⟨_, rfl⟩
  rw [← hR0] at hB0 hB1 hB2 hr0 hr2 ⊢
  generalize hR1 : R0 + 1 = R1 at *
  generalize hR2 : R1 + 1 = R2 at *
  have hne12 : R1 ≠ R2 := by omega
  have HL12 := hide (show R1 < R2 by omega)
  have hne21 : R2 ≠ R1 := by omega
  have hle1 : w.heap.size ≤ R1 := by omega
  have hle2 : w.heap.size ≤ R2 := by omega
  have HB0 := hide hB0
  have HB1 := hide hB1
  have HB2 := hide hB2
  clear hR0 hR1 hR2 hB0 hB1 hB2 hr0
  go_cut [40] from 14 to 40 (fun c wx => c = .bool (!bb) ∧ Hid (wb.grownBy wx none))
  case first =>
    cases b1 with
    | false =>
      go_wp2_with (first | fail)
      refine (CT.out _ HG0.out).mono ?_; rintro e w1 ⟨rfl, hg1⟩
      have HG1 := hide hg1
      clear hg1
      go_wp2_with fail
      go_meet
      exact ⟨by rw [hSM.out]; first | rfl | simp [*], HG1⟩
    | true =>
      cases b2 with
      | false =>
        go_wp2_with (first | fail)
        refine (CT.out _ HG0.out).mono ?_; rintro e w1 ⟨rfl, hg1⟩
        have HG1 := hide hg1
        clear hg1
        go_wp2_with (first | ((with_reducible refine list_load 25 (.tmp 6) R0 25 #[.int .i64 pc, .int .i64 acc, .int .i64 (m 0), .int .i64 (m 1), .int .i64 (m 2), .int .i64 (m 3), .int .i64 (m 4), .int .i64 (m 5), .int .i64 (m 6), .int .i64 (m 7), .int .i64 (m 8), .int .i64 (m 9), .int .i64 (m 10), .int .i64 (m 11), .int .i64 (m 12), .int .i64 (m 13), .int .i64 (m 14), .int .i64 (m 15)] (0, 0) _ ?hw ?hx ?hg Tryd.underlying25 ?hd ?hi ?_); (case hw => rfl); (case hx => rfl); (case hg => exact box_grown HB0.out HG1.out (by simp)); (case hd => rfl); (case hi => exact sizeVm)) | fail)
        refine (CV.out _).mono ?_; rintro e w2 ⟨rfl, hg2⟩
        have HG2 := hide (grownBy_trans HG1.out hg2)
        clear hg2
        go_wp2_with fail
        go_meet
        exact ⟨by rw [hSM.out]; first | rfl | simp [*], HG2⟩
      | true =>
        cases b3 with
        | false =>
          go_wp2_with (first | fail)
          refine (CT.out _ HG0.out).mono ?_; rintro e w1 ⟨rfl, hg1⟩
          have HG1 := hide hg1
          clear hg1
          go_wp2_with (first | ((with_reducible refine list_load 25 (.tmp 6) R0 25 #[.int .i64 pc, .int .i64 acc, .int .i64 (m 0), .int .i64 (m 1), .int .i64 (m 2), .int .i64 (m 3), .int .i64 (m 4), .int .i64 (m 5), .int .i64 (m 6), .int .i64 (m 7), .int .i64 (m 8), .int .i64 (m 9), .int .i64 (m 10), .int .i64 (m 11), .int .i64 (m 12), .int .i64 (m 13), .int .i64 (m 14), .int .i64 (m 15)] (0, 0) _ ?hw ?hx ?hg Tryd.underlying25 ?hd ?hi ?_); (case hw => rfl); (case hx => rfl); (case hg => exact box_grown HB0.out HG1.out (by simp)); (case hd => rfl); (case hi => exact sizeVm)) | fail)
          refine (CV.out _).mono ?_; rintro e w2 ⟨rfl, hg2⟩
          have HG2 := hide (grownBy_trans HG1.out hg2)
          clear hg2
          go_wp2_with (first | fail)
          refine (CW.out _).mono ?_; rintro e w3 ⟨rfl, rfl⟩
          go_wp2_with fail
          go_meet
          exact ⟨by rw [hSM.out]; first | rfl | simp [*], HG2⟩
        | true =>
          by_cases ho : 0 ≤ outs
          · by_cases ho2 : outs ≤ 255
            · cases b6 with
              | false =>
                go_wp2_with (first | fail)
                refine (CT.out _ HG0.out).mono ?_; rintro e w1 ⟨rfl, hg1⟩
                have HG1 := hide hg1
                clear hg1
                go_wp2_with (first | ((with_reducible refine list_load 25 (.tmp 6) R0 25 #[.int .i64 pc, .int .i64 acc, .int .i64 (m 0), .int .i64 (m 1), .int .i64 (m 2), .int .i64 (m 3), .int .i64 (m 4), .int .i64 (m 5), .int .i64 (m 6), .int .i64 (m 7), .int .i64 (m 8), .int .i64 (m 9), .int .i64 (m 10), .int .i64 (m 11), .int .i64 (m 12), .int .i64 (m 13), .int .i64 (m 14), .int .i64 (m 15)] (0, 0) _ ?hw ?hx ?hg Tryd.underlying25 ?hd ?hi ?_); (case hw => rfl); (case hx => rfl); (case hg => exact box_grown HB0.out HG1.out (by simp)); (case hd => rfl); (case hi => exact sizeVm)) | fail)
                refine (CV.out _).mono ?_; rintro e w2 ⟨rfl, hg2⟩
                have HG2 := hide (grownBy_trans HG1.out hg2)
                clear hg2
                go_wp2_with (first | fail)
                refine (CW.out _).mono ?_; rintro e w3 ⟨rfl, rfl⟩
                go_wp2_with (first | fail)
                refine (CG.out _ (grownBy_trans HG0.out HG2.out)).mono ?_; rintro e w4 ⟨rfl, rfl⟩
                go_wp2_with fail
                go_meet
                exact ⟨by rw [hSM.out]; first | rfl | simp [*], HG2⟩
              | true =>
                go_wp2_with (first | fail)
                refine (CT.out _ HG0.out).mono ?_; rintro e w1 ⟨rfl, hg1⟩
                have HG1 := hide hg1
                clear hg1
                go_wp2_with (first | ((with_reducible refine list_load 25 (.tmp 6) R0 25 #[.int .i64 pc, .int .i64 acc, .int .i64 (m 0), .int .i64 (m 1), .int .i64 (m 2), .int .i64 (m 3), .int .i64 (m 4), .int .i64 (m 5), .int .i64 (m 6), .int .i64 (m 7), .int .i64 (m 8), .int .i64 (m 9), .int .i64 (m 10), .int .i64 (m 11), .int .i64 (m 12), .int .i64 (m 13), .int .i64 (m 14), .int .i64 (m 15)] (0, 0) _ ?hw ?hx ?hg Tryd.underlying25 ?hd ?hi ?_); (case hw => rfl); (case hx => rfl); (case hg => exact box_grown HB0.out HG1.out (by simp)); (case hd => rfl); (case hi => exact sizeVm)) | fail)
                refine (CV.out _).mono ?_; rintro e w2 ⟨rfl, hg2⟩
                have HG2 := hide (grownBy_trans HG1.out hg2)
                clear hg2
                go_wp2_with (first | fail)
                refine (CW.out _).mono ?_; rintro e w3 ⟨rfl, rfl⟩
                go_wp2_with (first | fail)
                refine (CG.out _ (grownBy_trans HG0.out HG2.out)).mono ?_; rintro e w4 ⟨rfl, rfl⟩
                go_wp2_with fail
                go_meet
                exact ⟨by rw [hSM.out]; first | rfl | simp [*], HG2⟩
            · have ho3 : 255 < outs := by omega
              go_wp2_with (first | fail)
              refine (CT.out _ HG0.out).mono ?_; rintro e w1 ⟨rfl, hg1⟩
              have HG1 := hide hg1
              clear hg1
              go_wp2_with (first | ((with_reducible refine list_load 25 (.tmp 6) R0 25 #[.int .i64 pc, .int .i64 acc, .int .i64 (m 0), .int .i64 (m 1), .int .i64 (m 2), .int .i64 (m 3), .int .i64 (m 4), .int .i64 (m 5), .int .i64 (m 6), .int .i64 (m 7), .int .i64 (m 8), .int .i64 (m 9), .int .i64 (m 10), .int .i64 (m 11), .int .i64 (m 12), .int .i64 (m 13), .int .i64 (m 14), .int .i64 (m 15)] (0, 0) _ ?hw ?hx ?hg Tryd.underlying25 ?hd ?hi ?_); (case hw => rfl); (case hx => rfl); (case hg => exact box_grown HB0.out HG1.out (by simp)); (case hd => rfl); (case hi => exact sizeVm)) | fail)
              refine (CV.out _).mono ?_; rintro e w2 ⟨rfl, hg2⟩
              have HG2 := hide (grownBy_trans HG1.out hg2)
              clear hg2
              go_wp2_with (first | fail)
              refine (CW.out _).mono ?_; rintro e w3 ⟨rfl, rfl⟩
              go_wp2_with fail
              go_meet
              exact ⟨by rw [hSM.out]; first | rfl | simp [*], HG2⟩
          · have ho3 : outs < 0 := by omega
            go_wp2_with (first | fail)
            refine (CT.out _ HG0.out).mono ?_; rintro e w1 ⟨rfl, hg1⟩
            have HG1 := hide hg1
            clear hg1
            go_wp2_with (first | ((with_reducible refine list_load 25 (.tmp 6) R0 25 #[.int .i64 pc, .int .i64 acc, .int .i64 (m 0), .int .i64 (m 1), .int .i64 (m 2), .int .i64 (m 3), .int .i64 (m 4), .int .i64 (m 5), .int .i64 (m 6), .int .i64 (m 7), .int .i64 (m 8), .int .i64 (m 9), .int .i64 (m 10), .int .i64 (m 11), .int .i64 (m 12), .int .i64 (m 13), .int .i64 (m 14), .int .i64 (m 15)] (0, 0) _ ?hw ?hx ?hg Tryd.underlying25 ?hd ?hi ?_); (case hw => rfl); (case hx => rfl); (case hg => exact box_grown HB0.out HG1.out (by simp)); (case hd => rfl); (case hi => exact sizeVm)) | fail)
            refine (CV.out _).mono ?_; rintro e w2 ⟨rfl, hg2⟩
            have HG2 := hide (grownBy_trans HG1.out hg2)
            clear hg2
            go_wp2_with (first | fail)
            refine (CW.out _).mono ?_; rintro e w3 ⟨rfl, rfl⟩
            go_wp2_with fail
            go_meet
            exact ⟨by rw [hSM.out]; first | rfl | simp [*], HG2⟩
  case rest =>
    obtain ⟨rfl, HGx⟩ := hcut
    clear CT CV CW CG hSM
    have HGw := hide (grownBy_trans HG0.out HGx.out)
    have HC0 := hide (box_grown HB0.out HGx.out (by simp))
    have HC1 := hide (box_grown HB1.out HGx.out (by simp))
    have HC2 := hide (box_grown HB2.out HGx.out (by simp))
    have hr3 : R2 < wc.heap.size := box_lt HC2.out
    cases bb with
    | false =>
      have hA : A = (⟨0, 0, fun _ => 0⟩, ⟨false, 0, 0, 0, false⟩, 1000) := by rw [← HAns.out]; unfold stepAns; rw [HB.out]; rfl
      subst hA
      clear HAB HAns
      go_wp2_with (first | ((with_reducible refine list_store 25 (.tmp 10) (.tmp 41) R1 #[.int .i64 0, .int .i64 0, .int .i64 0, .int .i64 0, .int .i64 0, .int .i64 0, .int .i64 0, .int .i64 0, .int .i64 0, .int .i64 0, .int .i64 0, .int .i64 0, .int .i64 0, .int .i64 0, .int .i64 0, .int .i64 0, .int .i64 0, .int .i64 0] 25 #[.int .i64 0, .int .i64 0, .int .i64 0, .int .i64 0, .int .i64 0, .int .i64 0, .int .i64 0, .int .i64 0, .int .i64 0, .int .i64 0, .int .i64 0, .int .i64 0, .int .i64 0, .int .i64 0, .int .i64 0, .int .i64 0, .int .i64 0, .int .i64 0] ?hx ?hy ?hg ?hi ?ho ?h1 ?_); (case hx => rfl); (case hy => rfl); (case hg => exact HC1.out); (case hi => exact sizeVm); (case ho => rfl); (case h1 => simp [Value.oneCell']); intro w5 h5 e5 g5; have H5 := hide h5; have E5 := hide e5; have G5 := hide g5; clear h5 e5 g5) | ((with_reducible refine list_store 30 (.tmp 11) (.tmp 42) R2 #[.bool false, .int .i64 0, .int .i64 0, .int .i64 0, .bool false] 30 #[.bool false, .int .i64 0, .int .i64 0, .int .i64 0, .bool false] ?hx ?hy ?hg ?hi ?ho ?h1 ?_); (case hx => rfl); (case hy => rfl); (case hg => exact (E5.out R2 hne21).trans HC2.out); (case hi => exact sizeEf); (case ho => rfl); (case h1 => simp [Value.oneCell']); intro w6 h6 e6 g6; have H6 := hide h6; have E6 := hide e6; have G6 := hide g6; clear h6 e6 g6) | fail)
      refine bodyPost_ret (results_rrt rfl _ _ R1 R2 25 30 #[.int .i64 0, .int .i64 0, .int .i64 0, .int .i64 0, .int .i64 0, .int .i64 0, .int .i64 0, .int .i64 0, .int .i64 0, .int .i64 0, .int .i64 0, .int .i64 0, .int .i64 0, .int .i64 0, .int .i64 0, .int .i64 0, .int .i64 0, .int .i64 0] #[.bool false, .int .i64 0, .int .i64 0, .int .i64 0, .bool false] (0, 0) (0, 0) _ _ rfl ((E6.out R1 hne12).trans H5.out) Tryd.underlying25 rfl sizeVm rfl H6.out Tryd.underlying30 rfl sizeEf) rfl ?_
      exact ⟨rfl, grown_spoil (grown_spoil HGw.out hle1 G5.out) hle2 G6.out⟩
    | true =>
      have hle : w.heap.size ≤ wc.heap.size := HGw.out.size
      have HR3 := hide (And.intro hr3 (Nat.lt_trans HL12.out hr3))
      by_cases h0 : zs.length = 0
      · have hA : A = (⟨pc, acc, m⟩, quietE, 0) := by rw [← HAns.out]; unfold stepAns; rw [HB.out, if_pos rfl, if_pos h0]
        subst hA
        obtain rfl : N = 0 := HN.out.symm.trans h0
        clear HAB HAns
        go_upto_region 6 with (first | ((with_reducible refine list_load 25 (.tmp 6) R0 25 #[.int .i64 pc, .int .i64 acc, .int .i64 (m 0), .int .i64 (m 1), .int .i64 (m 2), .int .i64 (m 3), .int .i64 (m 4), .int .i64 (m 5), .int .i64 (m 6), .int .i64 (m 7), .int .i64 (m 8), .int .i64 (m 9), .int .i64 (m 10), .int .i64 (m 11), .int .i64 (m 12), .int .i64 (m 13), .int .i64 (m 14), .int .i64 (m 15)] (0, 0) _ ?hw ?hx ?hg Tryd.underlying25 ?hd ?hi ?_); (case hw => rfl); (case hx => rfl); (case hg => exact HC0.out); (case hd => rfl); (case hi => exact sizeVm)) | ((with_reducible refine list_store 53 (.tmp 13) (.tmp 48) wc.heap.size #[.int .i64 pc, .int .i64 acc, .int .i64 (m 0), .int .i64 (m 1), .int .i64 (m 2), .int .i64 (m 3), .int .i64 (m 4), .int .i64 (m 5), .int .i64 (m 6), .int .i64 (m 7), .int .i64 (m 8), .int .i64 (m 9), .int .i64 (m 10), .int .i64 (m 11), .int .i64 (m 12), .int .i64 (m 13), .int .i64 (m 14), .int .i64 (m 15), .bool false, .int .i64 (-1), .int .i64 (-1), .int .i64 0, .bool false, .int .i64 inn, .int .i64 outs, .slice ga M gcap] 53 #[.int .i64 0, .int .i64 0, .int .i64 0, .int .i64 0, .int .i64 0, .int .i64 0, .int .i64 0, .int .i64 0, .int .i64 0, .int .i64 0, .int .i64 0, .int .i64 0, .int .i64 0, .int .i64 0, .int .i64 0, .int .i64 0, .int .i64 0, .int .i64 0, .bool false, .int .i64 0, .int .i64 0, .int .i64 0, .bool false, .int .i64 0, .int .i64 0, .slice none 0 0] ?hx ?hy ?hg ?hi ?ho ?h1 ?_); (case hx => rfl); (case hy => rfl); (case hg => exact World.heap_alloc_new _ _); (case hi => exact sizeSt); (case ho => rfl); (case h1 => simp [Value.oneCell']); intro ws hs es gs0; have HS := hide hs; have GS := hide (grown_spoil (World.grownBy_alloc wc _ none) (Nat.le_refl _) gs0); clear hs es gs0) | fail)
        have HSB : Hid (SB ws wc.heap.size ⟨pc, acc, m⟩ quietE inn outs (.slice ga M gcap)) := HS
        have HE1 := hide (box_grown HC1.out GS.out (by simp))
        have HE2 := hide (box_grown HC2.out GS.out (by simp))
        have HGS := hide (grownBy_trans HGw.out GS.out)
        refine wp_region_held_drew (S := fun W => SB W wc.heap.size ⟨pc, acc, m⟩ quietE inn outs (.slice ga M gcap)) (by kernel_rfl) HSB.out (fun hHeld => ?_)
        refine take_put (i := 0) (v := .pointer (some ⟨wc.heap.size, 0, none⟩)) 54 rfl rfl (by kernel_rfl) (by kernel_rfl) (by kernel_rfl) (fun _ _ _ h => h) (Or.inl ⟨by rfl, by intro w hSw; go_simp⟩) (by assumption) ?_
        simp only [Act.put, List.setIfInBounds_toArray, List.set_cons_zero, List.set_cons_succ]
        refine take_put (i := 1) (v := .agg #[.int .i64 pc, .int .i64 acc, .int .i64 (m 0), .int .i64 (m 1), .int .i64 (m 2), .int .i64 (m 3), .int .i64 (m 4), .int .i64 (m 5), .int .i64 (m 6), .int .i64 (m 7), .int .i64 (m 8), .int .i64 (m 9), .int .i64 (m 10), .int .i64 (m 11), .int .i64 (m 12), .int .i64 (m 13), .int .i64 (m 14), .int .i64 (m 15)]) 55 rfl rfl (by kernel_rfl) (by kernel_rfl) (by kernel_rfl) (fun _ _ _ h => h) (yieldsIf_load_mid (by rfl) 25 (.tmp 54) rfl wc.heap.size 0 rfl _ _ (fun W h => SB.vm h) Tryd.underlying25 rfl sizeVm) (by assumption) ?_
        simp only [Act.put, List.setIfInBounds_toArray, List.set_cons_zero, List.set_cons_succ]
        refine take_put (i := 2) (v := .pointer (some ⟨wc.heap.size, 18, none⟩)) 56 rfl rfl (by kernel_rfl) (by kernel_rfl) (by kernel_rfl) (fun _ _ _ h => h) (Or.inl ⟨by rfl, by intro w hSw; go_simp⟩) (by assumption) ?_
        simp only [Act.put, List.setIfInBounds_toArray, List.set_cons_zero, List.set_cons_succ]
        refine take_put (i := 3) (v := .agg #[.bool false, .int .i64 (-1), .int .i64 (-1), .int .i64 0, .bool false]) 57 rfl rfl (by kernel_rfl) (by kernel_rfl) (by kernel_rfl) (fun _ _ _ h => h) (yieldsIf_load_mid (by rfl) 30 (.tmp 56) rfl wc.heap.size 18 rfl _ _ (fun W h => SB.ef h) Tryd.underlying30 rfl sizeEf) (by assumption) ?_
        simp only [Act.put, List.setIfInBounds_toArray, List.set_cons_zero, List.set_cons_succ]
        refine wpAnyH_ready (rs := [4]) (by kernel_rfl) (by simp) ?_
        refine AllReadyH.cons rfl (fun K hK => ?_) AllReadyH.nil
        refine step_store 25 (.tmp 10) (.tmp 55) R1 #[.int .i64 pc, .int .i64 acc, .int .i64 (m 0), .int .i64 (m 1), .int .i64 (m 2), .int .i64 (m 3), .int .i64 (m 4), .int .i64 (m 5), .int .i64 (m 6), .int .i64 (m 7), .int .i64 (m 8), .int .i64 (m 9), .int .i64 (m 10), .int .i64 (m 11), .int .i64 (m 12), .int .i64 (m 13), .int .i64 (m 14), .int .i64 (m 15)] 25 #[.int .i64 0, .int .i64 0, .int .i64 0, .int .i64 0, .int .i64 0, .int .i64 0, .int .i64 0, .int .i64 0, .int .i64 0, .int .i64 0, .int .i64 0, .int .i64 0, .int .i64 0, .int .i64 0, .int .i64 0, .int .i64 0, .int .i64 0, .int .i64 0] rfl rfl (HE1.out) sizeVm rfl (by simp [Value.oneCell']) ?_
        intro w5 h5 e5 g5
        refine hK.out _ _ ((e5 _ (by have := HR3.out; omega)).trans HSB.out) (fun hHeld => ?_)
        simp only [Act.put]
        refine wpAnyH_ready (rs := [5]) (by kernel_rfl) (by simp) ?_
        refine AllReadyH.cons rfl (fun K hK => ?_) AllReadyH.nil
        refine step_store 30 (.tmp 11) (.tmp 57) R2 #[.bool false, .int .i64 (-1), .int .i64 (-1), .int .i64 0, .bool false] 30 #[.bool false, .int .i64 0, .int .i64 0, .int .i64 0, .bool false] rfl rfl ((e5 R2 hne21).trans HE2.out) sizeEf rfl (by simp [Value.oneCell']) ?_
        intro w6 h6 e6 g6
        refine hK.out _ _ ((e6 _ (by have := HR3.out; omega)).trans hHeld) (fun hHeld2 => ?_)
        simp only [Act.put]
        refine take_put (i := 6) (v := .int .i64 0) 12 rfl rfl (by kernel_rfl) (by kernel_rfl) (by kernel_rfl) (fun _ _ _ h => h) (Or.inl ⟨by rfl, by intro w hSw; go_simp⟩) (by assumption) ?_
        simp only [Act.put, List.setIfInBounds_toArray, List.set_cons_zero, List.set_cons_succ]
        refine wpAnyH_done (by kernel_rfl) ?_ _
        have H5 := hide h5
        have H6 := hide h6
        have E6 := hide e6
        have HF := hide (grown_spoil (grown_spoil (grownBy_trans HGS.out (grownBy_draws _ 1 none)) hle1 g5) hle2 g6)
        clear h5 h6 e5 e6 g5 g6 hHeld hHeld2 hK
        go_wp2
        refine bodyPost_ret (results_rrt rfl _ _ R1 R2 25 30 #[.int .i64 pc, .int .i64 acc, .int .i64 (m 0), .int .i64 (m 1), .int .i64 (m 2), .int .i64 (m 3), .int .i64 (m 4), .int .i64 (m 5), .int .i64 (m 6), .int .i64 (m 7), .int .i64 (m 8), .int .i64 (m 9), .int .i64 (m 10), .int .i64 (m 11), .int .i64 (m 12), .int .i64 (m 13), .int .i64 (m 14), .int .i64 (m 15)] #[.bool false, .int .i64 (-1), .int .i64 (-1), .int .i64 0, .bool false] (0, 0) (0, 0) _ _ rfl ((E6.out R1 hne12).trans H5.out) Tryd.underlying25 rfl sizeVm rfl H6.out Tryd.underlying30 rfl sizeEf) rfl ?_
        exact ⟨rfl, HF.out⟩
      · obtain ⟨k, op, n, hpc, hk, h64, hz', hin, hab⟩ := HAB.out rfl h0
        dsimp only at hpc hab
        subst hpc
        obtain ⟨D, hD⟩ : ∃ D, doS op n ⟨((k + 1) % zs.length : Nat), acc, m⟩ inn outs gs = D := ⟨_, rfl⟩
        have hA : A = (D.1, D.2, 0) := by
          rw [← HAns.out]; unfold stepAns; rw [HB.out, if_pos rfl, if_neg h0]
          simp only [Int.toNat_natCast, hin, hD]
        subst hA
        have CD := hide (fun ws (hs : SB ws wc.heap.size ⟨k, acc, m⟩ quietE inn outs (.slice ga M gcap)) (hg : w.grownBy ws none) => do_any wc.heap.size k op n acc m inn outs (.slice ga M gcap) (.slice pa N pcap) gs zs ws hk hz' h64 hab hs (HP.out ws hg) (fun W hW => HV.out W (grown_spoil hg hle hW)))
        rw [hD] at CD
        have hN1 : 0 < N := by have := HN.out; omega
        have hN2 : N ≤ 64 := by have := HN.out; omega
        clear HAB HAns hD hk hz' hin hab h0 h64 HP HV
        obtain ⟨⟨d0, d1, dm⟩, ⟨f0, f1, f2, f3, f4⟩⟩ := D
        dsimp only [efV] at CD ⊢
        go_wp2_with (first | ((with_reducible refine list_load 25 (.tmp 6) R0 25 #[.int .i64 (k : Int), .int .i64 acc, .int .i64 (m 0), .int .i64 (m 1), .int .i64 (m 2), .int .i64 (m 3), .int .i64 (m 4), .int .i64 (m 5), .int .i64 (m 6), .int .i64 (m 7), .int .i64 (m 8), .int .i64 (m 9), .int .i64 (m 10), .int .i64 (m 11), .int .i64 (m 12), .int .i64 (m 13), .int .i64 (m 14), .int .i64 (m 15)] (0, 0) _ ?hw ?hx ?hg Tryd.underlying25 ?hd ?hi ?_); (case hw => rfl); (case hx => rfl); (case hg => exact HC0.out); (case hd => rfl); (case hi => exact sizeVm)) | ((with_reducible refine list_store 53 (.tmp 13) (.tmp 48) wc.heap.size #[.int .i64 (k : Int), .int .i64 acc, .int .i64 (m 0), .int .i64 (m 1), .int .i64 (m 2), .int .i64 (m 3), .int .i64 (m 4), .int .i64 (m 5), .int .i64 (m 6), .int .i64 (m 7), .int .i64 (m 8), .int .i64 (m 9), .int .i64 (m 10), .int .i64 (m 11), .int .i64 (m 12), .int .i64 (m 13), .int .i64 (m 14), .int .i64 (m 15), .bool false, .int .i64 (-1), .int .i64 (-1), .int .i64 0, .bool false, .int .i64 inn, .int .i64 outs, .slice ga M gcap] 53 #[.int .i64 0, .int .i64 0, .int .i64 0, .int .i64 0, .int .i64 0, .int .i64 0, .int .i64 0, .int .i64 0, .int .i64 0, .int .i64 0, .int .i64 0, .int .i64 0, .int .i64 0, .int .i64 0, .int .i64 0, .int .i64 0, .int .i64 0, .int .i64 0, .bool false, .int .i64 0, .int .i64 0, .int .i64 0, .bool false, .int .i64 0, .int .i64 0, .slice none 0 0] ?hx ?hy ?hg ?hi ?ho ?h1 ?_); (case hx => rfl); (case hy => rfl); (case hg => exact World.heap_alloc_new _ _); (case hi => exact sizeSt); (case ho => rfl); (case h1 => simp [Value.oneCell']); intro ws hs es gs0; have HS := hide hs; have GS := hide (grown_spoil (World.grownBy_alloc wc _ none) (Nat.le_refl _) gs0); clear hs es gs0) | fail)
        refine (CD.out ws HS.out (grownBy_trans HGw.out GS.out)).mono ?_; rintro e wd ⟨rfl, hsd, hgd⟩
        have HSB := hide hsd
        have HE1 := hide (box_grown (box_grown HC1.out GS.out (by simp)) hgd (by have := HR3.out; simp; omega))
        have HE2 := hide (box_grown (box_grown HC2.out GS.out (by simp)) hgd (by have := HR3.out; simp; omega))
        have HGS := hide (grown_spoil (grownBy_trans HGw.out GS.out) hle hgd)
        clear hsd hgd CD
        go_upto_region 6 with fail
        refine wp_region_held_drew (S := fun W => SB W wc.heap.size ⟨d0, d1, dm⟩ ⟨f0, f1, f2, f3, f4⟩ inn outs (.slice ga M gcap)) (by kernel_rfl) HSB.out (fun hHeld => ?_)
        refine take_put (i := 0) (v := .pointer (some ⟨wc.heap.size, 0, none⟩)) 54 rfl rfl (by kernel_rfl) (by kernel_rfl) (by kernel_rfl) (fun _ _ _ h => h) (Or.inl ⟨by rfl, by intro w hSw; go_simp⟩) (by assumption) ?_
        simp only [Act.put, List.setIfInBounds_toArray, List.set_cons_zero, List.set_cons_succ]
        refine take_put (i := 1) (v := .agg #[.int .i64 d0, .int .i64 d1, .int .i64 (dm 0), .int .i64 (dm 1), .int .i64 (dm 2), .int .i64 (dm 3), .int .i64 (dm 4), .int .i64 (dm 5), .int .i64 (dm 6), .int .i64 (dm 7), .int .i64 (dm 8), .int .i64 (dm 9), .int .i64 (dm 10), .int .i64 (dm 11), .int .i64 (dm 12), .int .i64 (dm 13), .int .i64 (dm 14), .int .i64 (dm 15)]) 55 rfl rfl (by kernel_rfl) (by kernel_rfl) (by kernel_rfl) (fun _ _ _ h => h) (yieldsIf_load_mid (by rfl) 25 (.tmp 54) rfl wc.heap.size 0 rfl _ _ (fun W h => SB.vm h) Tryd.underlying25 rfl sizeVm) (by assumption) ?_
        simp only [Act.put, List.setIfInBounds_toArray, List.set_cons_zero, List.set_cons_succ]
        refine take_put (i := 2) (v := .pointer (some ⟨wc.heap.size, 18, none⟩)) 56 rfl rfl (by kernel_rfl) (by kernel_rfl) (by kernel_rfl) (fun _ _ _ h => h) (Or.inl ⟨by rfl, by intro w hSw; go_simp⟩) (by assumption) ?_
        simp only [Act.put, List.setIfInBounds_toArray, List.set_cons_zero, List.set_cons_succ]
        refine take_put (i := 3) (v := .agg #[.bool f0, .int .i64 f1, .int .i64 f2, .int .i64 f3, .bool f4]) 57 rfl rfl (by kernel_rfl) (by kernel_rfl) (by kernel_rfl) (fun _ _ _ h => h) (yieldsIf_load_mid (by rfl) 30 (.tmp 56) rfl wc.heap.size 18 rfl _ _ (fun W h => SB.ef h) Tryd.underlying30 rfl sizeEf) (by assumption) ?_
        simp only [Act.put, List.setIfInBounds_toArray, List.set_cons_zero, List.set_cons_succ]
        refine wpAnyH_ready (rs := [4]) (by kernel_rfl) (by simp) ?_
        refine AllReadyH.cons rfl (fun K hK => ?_) AllReadyH.nil
        refine step_store 25 (.tmp 10) (.tmp 55) R1 #[.int .i64 d0, .int .i64 d1, .int .i64 (dm 0), .int .i64 (dm 1), .int .i64 (dm 2), .int .i64 (dm 3), .int .i64 (dm 4), .int .i64 (dm 5), .int .i64 (dm 6), .int .i64 (dm 7), .int .i64 (dm 8), .int .i64 (dm 9), .int .i64 (dm 10), .int .i64 (dm 11), .int .i64 (dm 12), .int .i64 (dm 13), .int .i64 (dm 14), .int .i64 (dm 15)] 25 #[.int .i64 0, .int .i64 0, .int .i64 0, .int .i64 0, .int .i64 0, .int .i64 0, .int .i64 0, .int .i64 0, .int .i64 0, .int .i64 0, .int .i64 0, .int .i64 0, .int .i64 0, .int .i64 0, .int .i64 0, .int .i64 0, .int .i64 0, .int .i64 0] rfl rfl (HE1.out) sizeVm rfl (by simp [Value.oneCell']) ?_
        intro w5 h5 e5 g5
        refine hK.out _ _ ((e5 _ (by have := HR3.out; omega)).trans HSB.out) (fun hHeld => ?_)
        simp only [Act.put]
        refine wpAnyH_ready (rs := [5]) (by kernel_rfl) (by simp) ?_
        refine AllReadyH.cons rfl (fun K hK => ?_) AllReadyH.nil
        refine step_store 30 (.tmp 11) (.tmp 57) R2 #[.bool f0, .int .i64 f1, .int .i64 f2, .int .i64 f3, .bool f4] 30 #[.bool false, .int .i64 0, .int .i64 0, .int .i64 0, .bool false] rfl rfl ((e5 R2 hne21).trans HE2.out) sizeEf rfl (by simp [Value.oneCell']) ?_
        intro w6 h6 e6 g6
        refine hK.out _ _ ((e6 _ (by have := HR3.out; omega)).trans hHeld) (fun hHeld2 => ?_)
        simp only [Act.put]
        refine take_put (i := 6) (v := .int .i64 0) 12 rfl rfl (by kernel_rfl) (by kernel_rfl) (by kernel_rfl) (fun _ _ _ h => h) (Or.inl ⟨by rfl, by intro w hSw; go_simp⟩) (by assumption) ?_
        simp only [Act.put, List.setIfInBounds_toArray, List.set_cons_zero, List.set_cons_succ]
        refine wpAnyH_done (by kernel_rfl) ?_ _
        have H5 := hide h5
        have H6 := hide h6
        have E6 := hide e6
        have HF := hide (grown_spoil (grown_spoil (grownBy_trans HGS.out (grownBy_draws _ 1 none)) hle1 g5) hle2 g6)
        clear h5 h6 e5 e6 g5 g6 hHeld hHeld2 hK
        go_wp2
        refine bodyPost_ret (results_rrt rfl _ _ R1 R2 25 30 #[.int .i64 d0, .int .i64 d1, .int .i64 (dm 0), .int .i64 (dm 1), .int .i64 (dm 2), .int .i64 (dm 3), .int .i64 (dm 4), .int .i64 (dm 5), .int .i64 (dm 6), .int .i64 (dm 7), .int .i64 (dm 8), .int .i64 (dm 9), .int .i64 (dm 10), .int .i64 (dm 11), .int .i64 (dm 12), .int .i64 (dm 13), .int .i64 (dm 14), .int .i64 (dm 15)] #[.bool f0, .int .i64 f1, .int .i64 f2, .int .i64 f3, .bool f4] (0, 0) (0, 0) _ _ rfl ((E6.out R1 hne12).trans H5.out) Tryd.underlying25 rfl sizeVm rfl H6.out Tryd.underlying30 rfl sizeEf) rfl ?_
        exact ⟨rfl, HF.out⟩
end Go.Proofs.YthdpdnibgmjdaaaDoor

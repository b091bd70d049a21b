/- Contracts of the document's own level, portsMay and CheckConfig, proved over the translation: they answer as the program's. -/
import Derived.Test.YtgaegggiehhcpaaDoorRefWin
namespace Go.Proofs.YtgaegggiehhcpaaDoor.R6
open Go.RowKit
attribute [local go_sem] alloc_drewN setCell_drewN

theorem hp_keep6 {W W2 : World} {b : Nat} {x : Obj} (h : W.heap[b]? = some x) (hg : W.grownBy W2 none) : W2.heap[b]? = some x := by
  have hlt : b < W.heap.size := by
    rcases Nat.lt_or_ge b W.heap.size with h' | h'
    · exact h'
    · rw [Array.getElem?_eq_none h'] at h; cases h
  exact (hg.block b hlt (by simp)).trans h
theorem blk_cell6 {W : World} {b t : Nat} {cs : Array Value} (h : W.heap[b]? = some (.cells cs t (0, 0))) (j : Nat) : W.cell? ⟨b, j, none⟩ = cs[j]? := by simp [World.cell?, h]
/-- A part's level; -1: there is none. -/
def levN (ls : List Int) (i : Int) : Int := if 0 ≤ i ∧ i < ls.length then ls[i.toNat]?.getD 0 else -1
theorem levN_is (ls : List Int) (i l : Int) (hl : 0 ≤ l) : isLevelB ls i l = decide (levN ls i = l) := by
  unfold isLevelB isPartB levN
  by_cases h : 0 ≤ i ∧ i < ls.length
  · rw [if_pos h]; simp [h.1, h.2]
  · rw [if_neg h]
    have : decide (-1 = l) = false := decide_eq_false (by omega)
    rw [this]
    by_cases h0 : 0 ≤ i
    · have : ¬ i < ls.length := fun e => h ⟨h0, e⟩
      simp [this]
    · simp [h0]

set_option maxRecDepth 100000 in
set_option maxHeartbeats 1000000 in
theorem rlevel_any {lo : Nat} (fr qt : Int) (pa : Option Addr) (n0 pc : Nat) (vw vo : Value) (qs : List PartM) (ls : List Int) (hls : qs.map PartM.level = ls) (i : Int) (sw : ∃ a n c, vw = .slice a n c) (so : ∃ a n c, vo = .slice a n c) (w : World) (hv : RowAt shP lo w (.slice pa n0 pc) qs) :
    Calls Tryd.prog 73 #[.agg #[.int .i64 fr, .int .i64 qt, .slice pa n0 pc, vw, vo], .int .i64 i] w fun e w' => e = .returned (.int .i64 (levN ls i)) ∧ w.grownBy w' none := by
  obtain ⟨wa, wn, wc, rfl⟩ := sw
  obtain ⟨oa, on, oc, rfl⟩ := so
  have HV := hide (fun W => hv.grown (W := W))
  have hn : qs.length = n0 := by obtain ⟨_, a, cap, e, _⟩ := hv; simp only [Value.slice.injEq] at e; exact e.2.1.symm
  have hl : n0 ≤ 9223372036854775807 := by rw [← hn]; exact hv.1
  have hll : ls.length = n0 := by rw [← hls, List.length_map, hn]
  have HIN : Hid (0 ≤ i → i < n0 → ∃ q, qs[i.toNat]? = some q ∧ levN ls i = q.level) := fun h0 h1 => by
    have hi : i.toNat < qs.length := by omega
    refine ⟨_, List.getElem?_eq_getElem hi, ?_⟩
    unfold levN
    rw [if_pos ⟨h0, by omega⟩, ← hls, List.getElem?_map, List.getElem?_eq_getElem hi]
    rfl
  have HOUT : Hid (¬ (0 ≤ i ∧ i < n0) → levN ls i = -1) := fun h => by unfold levN; rw [if_neg (by rw [hll]; exact h)]
  have HN := hide hn
  clear hv hn hll hls
  generalize levN ls i = lv at *
  have HG0 := hide (World.grownBy_alloc w (.cells #[.int .i64 fr, .int .i64 qt, .slice pa n0 pc, .slice wa wn wc, .slice oa on oc] 26) none)
  by_cases h0 : i < 0
  · have HO := hide (HOUT.out (by omega))
    clear HIN HOUT
    go_enter Tryd.func73, Tryd.ntmps73
    go_wp2
    go_ret
    exact ⟨by rw [HO.out]; rfl, HG0.out⟩
  by_cases h1 : (n0 : Int) ≤ i
  · have HO := hide (HOUT.out (by omega))
    clear HIN HOUT
    go_enter Tryd.func73, Tryd.ntmps73
    go_wp2
    go_ret
    exact ⟨by rw [HO.out]; rfl, HG0.out⟩
  obtain ⟨j, rfl⟩ : ∃ j : Nat, i = j := ⟨i.toNat, by omega⟩
  obtain ⟨q, hq, hql⟩ := HIN.out (by omega) (by omega)
  rw [Int.toNat_natCast] at hq
  have HQ := hide hql
  clear HIN HOUT hql
  obtain ⟨g, o, rfl⟩ := row_addr (HV.out _ HG0.out) (by omega)
  have c0 : (w.alloc (.cells #[.int .i64 fr, .int .i64 qt, .slice (some ⟨g, o, none⟩) n0 pc, .slice wa wn wc, .slice oa on oc] 26)).cell? ⟨g, o + j * 3, none⟩ = some (.int .i64 q.level) := row_cell (S := shP) (HV.out _ HG0.out) hq (k := 0) rfl
  generalize hwb : w.alloc (.cells #[.int .i64 fr, .int .i64 qt, .slice (some ⟨g, o, none⟩) n0 pc, .slice wa wn wc, .slice oa on oc] 26) = wb at *
  have k2 : wb.cell? ⟨w.heap.size, 2, none⟩ = some (.slice (some ⟨g, o, none⟩) n0 pc) := by rw [← hwb]; simp
  have hj : j < n0 := by omega
  clear hq
  generalize q.level = ql at *
  go_enter Tryd.func73, Tryd.ntmps73
  go_wp2
  go_ret
  exact ⟨by rw [HQ.out]; rfl, HG0.out⟩

theorem portB_eq (ls : List Int) (x : PortV) : portB ls x = (decide (levN ls x.fr = 1) && (decide (levN ls x.til = 0) && sizeB x.kind x.size)) := by
  unfold portB; rw [levN_is ls x.fr 1 (by omega), levN_is ls x.til 0 (by omega)]
theorem portAt_mem' {ws : List PortV} {i : Nat} (h : i < ws.length) : ws[i]? = some (portAt ws i) := by
  unfold portAt; rw [List.getElem?_eq_getElem h]; rfl

set_option maxRecDepth 100000 in
set_option maxHeartbeats 4000000 in
theorem rports_any {lo : Nat} (fr qt : Int) (pa : Option Addr) (n0 pc : Nat) (vw vo : Value) (qs : List PartM) (ls : List Int) (hls : qs.map PartM.level = ls) (os : List PortV) (sw : ∃ a n c, vw = .slice a n c) (w : World) (hv : RowAt shP lo w (.slice pa n0 pc) qs) (ho : RowAt shO lo w vo os) :
    Calls Tryd.prog 40 #[.agg #[.int .i64 fr, .int .i64 qt, .slice pa n0 pc, vw, vo]] w fun e w' => e = .returned (.bool (portsB ls os)) ∧ w.grownBy w' none := by
  have so : ∃ a n c, vo = .slice a n c := by obtain ⟨_, a, cap, rfl, _⟩ := ho; exact ⟨_, _, _, rfl⟩
  have CL := hide (fun i W (hg : w.grownBy W none) => rlevel_any fr qt pa n0 pc vw vo qs ls hls i sw so W (hv.grown hg))
  have HV := hide (fun W => ho.grown (W := W))
  clear hv so hls
  obtain ⟨wa, wn, wc, rfl⟩ := sw
  obtain ⟨hl, oa, oc, rfl, -⟩ := ho
  have HE : Hid (portsB ls os = (decide (os.length ≤ 8) && allB os.length (fun i => portB ls (portAt os i)))) := rfl
  generalize portsB ls os = tb at *
  generalize hN : os.length = N at *
  have HN := hide hN
  clear hN
  generalize hwb : w.alloc (.cells #[.int .i64 fr, .int .i64 qt, .slice pa n0 pc, .slice wa wn wc, .slice oa N oc] 26) = wb
  have HG0 := hide (show w.grownBy wb none by rw [← hwb]; exact World.grownBy_alloc _ _ none)
  have KEEP : Hid (∀ V, wb.grownBy V none → V.cell? ⟨w.heap.size, 0, none⟩ = some (.int .i64 fr) ∧ V.cell? ⟨w.heap.size, 1, none⟩ = some (.int .i64 qt) ∧ V.cell? ⟨w.heap.size, 2, none⟩ = some (.slice pa n0 pc) ∧ V.cell? ⟨w.heap.size, 3, none⟩ = some (.slice wa wn wc) ∧ V.cell? ⟨w.heap.size, 4, none⟩ = some (.slice oa N oc)) := by
    intro V hV
    have b := fun k => World.cell?_of_block (a := ⟨w.heap.size, k, none⟩) (hV.block w.heap.size (by rw [← hwb]; simp) (by simp))
    exact ⟨(b 0).trans (by rw [← hwb]; simp), (b 1).trans (by rw [← hwb]; simp), (b 2).trans (by rw [← hwb]; simp), (b 3).trans (by rw [← hwb]; simp), (b 4).trans (by rw [← hwb]; simp)⟩
  go_enter Tryd.func40, Tryd.ntmps40
  go_upto_region 1 with fail
  have HWB := hide hwb
  clear hwb
  go_wp2
  go_loopw [3, 4] (fun s _ V => ∃ (j : Nat), j ≤ N ∧ s = .int .i64 j ∧ Hid (wb.grownBy V none) ∧ Hid (∀ i, i < j → portB ls (portAt os i) = true)) (fun s _ _ => N - (intOf s).toNat)
  case atStart => exact ⟨0, by omega, rfl, grownBy_refl _ _, fun i hi => absurd hi (Nat.not_lt_zero _)⟩
  case round =>
    obtain ⟨j, hj, rfl, HG, HALL⟩ := hrel
    obtain ⟨k0, k1, k2, k3, k4⟩ := KEEP.out wr HG.out
    by_cases hlt : j < N
    · have HVW := hide (HV.out wr (grownBy_trans HG0.out HG.out))
      obtain ⟨g, o, rfl⟩ := row_addr HVW.out (by omega)
      have hq := portAt_mem' (ws := os) (i := j) (by rw [HN.out]; exact hlt)
      have c0 : wr.cell? ⟨g, o + j * 4, none⟩ = some (.int .i64 (portAt os j).kind) := row_cell (S := shO) HVW.out hq (k := 0) rfl
      have c1 : wr.cell? ⟨g, o + j * 4 + 1, none⟩ = some (.int .i64 (portAt os j).fr) := row_cell (S := shO) HVW.out hq (k := 1) rfl
      have c2 : wr.cell? ⟨g, o + j * 4 + 2, none⟩ = some (.int .i64 (portAt os j).til) := row_cell (S := shO) HVW.out hq (k := 2) rfl
      have c3 : wr.cell? ⟨g, o + j * 4 + 3, none⟩ = some (.int .i64 (portAt os j).size) := row_cell (S := shO) HVW.out hq (k := 3) rfl
      have HX := hide (portB_eq ls (portAt os j))
      have HNX : Hid (portB ls (portAt os j) = true → ∀ i, i < j + 1 → portB ls (portAt os i) = true) := fun h i hi => by
        rcases (by omega : i < j ∨ i = j) with h' | rfl
        · exact HALL.out i h'
        · exact h
      have HFA : Hid (portB ls (portAt os j) = false → tb = false) := fun h => by rw [HE.out, allB_false (f := fun i => portB ls (portAt os i)) hlt h, Bool.and_false]
      have HSZ : Hid (∀ k s, sizeB k s = if k = 0 then decide (s = 1) else if k = 1 then decide (1 ≤ s) && decide (s ≤ 8) else false) := fun k s => rfl
      clear hq HVW
      have CF := hide (CL.out (portAt os j).fr)
      have CT := hide (CL.out (portAt os j).til)
      generalize portB ls (portAt os j) = pb at *
      generalize (portAt os j).kind = xk at *
      generalize (portAt os j).fr = xf at *
      generalize (portAt os j).til = xt at *
      generalize (portAt os j).size = xs at *
      generalize levN ls xf = lf at *
      generalize levN ls xt = lt at *
      have hxo := World.grownBy_alloc wr (.cells #[.int .i64 xk, .int .i64 xf, .int .i64 xt, .int .i64 xs] 57) none
      have HBX := hide (heap_alloc_new wr (.cells #[.int .i64 xk, .int .i64 xf, .int .i64 xt, .int .i64 xs] 57))
      have HG1 := hide (grownBy_trans HG.out hxo)
      clear hxo
      go_upto_region 5 with fail
      generalize wr.alloc (.cells #[.int .i64 xk, .int .i64 xf, .int .i64 xt, .int .i64 xs] 57) = wx at *
      generalize wr.heap.size = X at *
      clear k0 k1 k2 k3 k4 c0 c1 c2 c3 HG
      obtain ⟨k0, k1, k2, k3, k4⟩ := KEEP.out wx HG1.out
      have d0 : wx.cell? ⟨X, 0, none⟩ = some (.int .i64 xk) := blk_cell6 HBX.out 0
      have d1 : wx.cell? ⟨X, 1, none⟩ = some (.int .i64 xf) := blk_cell6 HBX.out 1
      have d2 : wx.cell? ⟨X, 2, none⟩ = some (.int .i64 xt) := blk_cell6 HBX.out 2
      have d3 : wx.cell? ⟨X, 3, none⟩ = some (.int .i64 xs) := blk_cell6 HBX.out 3
      by_cases hk : xk ≠ 0 ∧ xk ≠ 1
      · have e1 : (xk != 0) = true := by simp [hk.1]
        have e2 : (xk != 1) = true := by simp [hk.2]
        have HF := hide (HFA.out (by rw [HX.out, HSZ.out, if_neg hk.1, if_neg hk.2]; simp))
        clear HFA HNX HX
        go_wp2
        go_ret
        exact ⟨by rw [HF.out]; rfl, grownBy_trans HG0.out HG1.out⟩
      by_cases hk0 : xk = 0
      · subst hk0
        go_wp2_with (first | fail)
        refine (CF.out _ (grownBy_trans HG0.out HG1.out)).mono ?_; rintro e w1 ⟨rfl, hg⟩
        have HG2 := hide (grownBy_trans HG1.out hg)
        have HB2 := hide (hp_keep6 HBX.out hg)
        clear hg k0 k1 k2 k3 k4 d0 d1 d2 d3
        obtain ⟨k0, k1, k2, k3, k4⟩ := KEEP.out w1 HG2.out
        have d0 : w1.cell? ⟨X, 0, none⟩ = some (.int .i64 0) := blk_cell6 HB2.out 0
        have d1 : w1.cell? ⟨X, 1, none⟩ = some (.int .i64 xf) := blk_cell6 HB2.out 1
        have d2 : w1.cell? ⟨X, 2, none⟩ = some (.int .i64 xt) := blk_cell6 HB2.out 2
        have d3 : w1.cell? ⟨X, 3, none⟩ = some (.int .i64 xs) := blk_cell6 HB2.out 3
        by_cases hf : lf = 1
        · subst hf
          go_wp2_with (first | fail)
          refine (CT.out _ (grownBy_trans HG0.out HG2.out)).mono ?_; rintro e w2 ⟨rfl, hg⟩
          have HG3 := hide (grownBy_trans HG2.out hg)
          have HB3 := hide (hp_keep6 HB2.out hg)
          clear hg k0 k1 k2 k3 k4 d0 d1 d2 d3
          have d0 : w2.cell? ⟨X, 0, none⟩ = some (.int .i64 0) := blk_cell6 HB3.out 0
          have d3 : w2.cell? ⟨X, 3, none⟩ = some (.int .i64 xs) := blk_cell6 HB3.out 3
          by_cases ht : lt = 0
          · subst ht
            by_cases h1 : xs < 1
            · skip
              have HF := hide (HFA.out (by rw [HX.out, HSZ.out]; simp; omega))
              clear HFA HNX HX
              go_wp2
              go_ret
              exact ⟨by rw [HF.out]; rfl, grownBy_trans HG0.out HG3.out⟩
            by_cases h8 : 8 < xs
            · skip
              have HF := hide (HFA.out (by rw [HX.out, HSZ.out]; simp; omega))
              clear HFA HNX HX
              go_wp2
              go_ret
              exact ⟨by rw [HF.out]; rfl, grownBy_trans HG0.out HG3.out⟩
            by_cases h2 : xs = 1
            · subst h2
              have HQ := hide (HNX.out (by rw [HX.out, HSZ.out]; simp))
              clear HFA HNX HX
              go_wp2
              go_roundw
              case rel => exact ⟨j + 1, by omega, by go_num, HG3, HQ⟩
              case measure => simp [intOf]; omega
            · have e3 : (xs != 1) = true := by simp [h2]
              have HF := hide (HFA.out (by rw [HX.out, HSZ.out]; simp [h2]))
              clear HFA HNX HX
              go_wp2
              go_ret
              exact ⟨by rw [HF.out]; rfl, grownBy_trans HG0.out HG3.out⟩
          · have e4 : (lt != 0) = true := by simp [ht]
            have HF := hide (HFA.out (by rw [HX.out, HSZ.out]; simp [ht]))
            clear HFA HNX HX
            go_wp2
            go_ret
            exact ⟨by rw [HF.out]; rfl, grownBy_trans HG0.out HG3.out⟩
        · have e5 : (lf != 1) = true := by simp [hf]
          have HF := hide (HFA.out (by rw [HX.out]; simp [hf]))
          clear HFA HNX HX
          go_wp2
          go_ret
          exact ⟨by rw [HF.out]; rfl, grownBy_trans HG0.out HG2.out⟩
      have hk1 : xk = 1 := by omega
      subst hk1
      go_wp2_with (first | fail)
      refine (CF.out _ (grownBy_trans HG0.out HG1.out)).mono ?_; rintro e w1 ⟨rfl, hg⟩
      have HG2 := hide (grownBy_trans HG1.out hg)
      have HB2 := hide (hp_keep6 HBX.out hg)
      clear hg k0 k1 k2 k3 k4 d0 d1 d2 d3
      obtain ⟨k0, k1, k2, k3, k4⟩ := KEEP.out w1 HG2.out
      have d0 : w1.cell? ⟨X, 0, none⟩ = some (.int .i64 1) := blk_cell6 HB2.out 0
      have d1 : w1.cell? ⟨X, 1, none⟩ = some (.int .i64 xf) := blk_cell6 HB2.out 1
      have d2 : w1.cell? ⟨X, 2, none⟩ = some (.int .i64 xt) := blk_cell6 HB2.out 2
      have d3 : w1.cell? ⟨X, 3, none⟩ = some (.int .i64 xs) := blk_cell6 HB2.out 3
      by_cases hf : lf = 1
      · subst hf
        go_wp2_with (first | fail)
        refine (CT.out _ (grownBy_trans HG0.out HG2.out)).mono ?_; rintro e w2 ⟨rfl, hg⟩
        have HG3 := hide (grownBy_trans HG2.out hg)
        have HB3 := hide (hp_keep6 HB2.out hg)
        clear hg k0 k1 k2 k3 k4 d0 d1 d2 d3
        have d0 : w2.cell? ⟨X, 0, none⟩ = some (.int .i64 1) := blk_cell6 HB3.out 0
        have d3 : w2.cell? ⟨X, 3, none⟩ = some (.int .i64 xs) := blk_cell6 HB3.out 3
        by_cases ht : lt = 0
        · subst ht
          by_cases h1 : xs < 1
          · skip
            have HF := hide (HFA.out (by rw [HX.out, HSZ.out]; simp; omega))
            clear HFA HNX HX
            go_wp2
            go_ret
            exact ⟨by rw [HF.out]; rfl, grownBy_trans HG0.out HG3.out⟩
          by_cases h8 : 8 < xs
          · skip
            have HF := hide (HFA.out (by rw [HX.out, HSZ.out]; simp; omega))
            clear HFA HNX HX
            go_wp2
            go_ret
            exact ⟨by rw [HF.out]; rfl, grownBy_trans HG0.out HG3.out⟩
          have HQ := hide (HNX.out (by rw [HX.out, HSZ.out]; simp; omega))
          clear HFA HNX HX
          go_wp2
          go_roundw
          case rel => exact ⟨j + 1, by omega, by go_num, HG3, HQ⟩
          case measure => simp [intOf]; omega
        · have e4 : (lt != 0) = true := by simp [ht]
          have HF := hide (HFA.out (by rw [HX.out, HSZ.out]; simp [ht]))
          clear HFA HNX HX
          go_wp2
          go_ret
          exact ⟨by rw [HF.out]; rfl, grownBy_trans HG0.out HG3.out⟩
      · have e5 : (lf != 1) = true := by simp [hf]
        have HF := hide (HFA.out (by rw [HX.out]; simp [hf]))
        clear HFA HNX HX
        go_wp2
        go_ret
        exact ⟨by rw [HF.out]; rfl, grownBy_trans HG0.out HG2.out⟩
    · have HE2 := hide (show tb = decide (N ≤ 8) by rw [HE.out, allB_true (f := fun i => portB ls (portAt os i)) (fun i hi => HALL.out i (by omega)), Bool.and_true])
      go_wp2
      go_ret
      exact ⟨by rw [HE2.out]; simp; omega, grownBy_trans HG0.out HG.out⟩
#print axioms rports_any
end Go.Proofs.YtgaegggiehhcpaaDoor.R6

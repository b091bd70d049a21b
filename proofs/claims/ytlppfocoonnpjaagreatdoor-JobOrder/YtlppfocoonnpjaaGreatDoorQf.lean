/- Contracts of package config's codeMay, windowsMay and portsMay, proved over the translation. The contract of package config's Check, proved over the translation. -/
import Derived.Test.YtlppfocoonnpjaaGreatDoorQe

namespace Go.Proofs.YtlppfocoonnpjaaGreatDoor
open Go.RowKit
attribute [local go_sem] alloc_drewN setCell_drewN

set_option maxRecDepth 100000 in
set_option maxHeartbeats 1000000 in
theorem code_any {lo : Nat} (q : PartM) (p : PartV) (w : World) (hT : Tab w) (hq : PartIs lo w q p) :
    Calls Tryz.prog 81 #[.agg #[.int .i64 q.level, .slice q.ta q.tn q.tc, .slice q.ca q.cn q.cc]] w fun e w' => e = .returned (.bool (codeMay p.code)) ∧ w.grownBy w' none := by
  obtain ⟨-, -, hc⟩ := hq
  obtain ⟨l, ta, tn, tc, ca, cn, cc⟩ := q
  have hg0 := World.grownBy_alloc w (.cells #[.int .i64 l, .slice ta tn tc, .slice ca cn cc] 25) none
  have C := hide (may_any _ p.code hc.1 _ (hT.grown hg0) (preads_row (hc.grown hg0)))
  clear hT hg0 hc
  simp only [PartM.code] at C
  generalize codeMay p.code = m at *
  go_enter Tryz.func81, Tryz.ntmps81
  go_wp2_with (first | fail)
  refine C.out.mono ?_; rintro e w2 ⟨rfl, hg⟩
  have HG := hide hg
  clear hg
  go_wp2
  go_ret
  exact ⟨rfl, grownBy_trans (World.grownBy_alloc _ _ _) HG.out⟩

/-! Windows. -/
def wz : WinV := ⟨0, 0, 0⟩
def winAt (ws : List WinV) (i : Nat) : WinV := ws[i]?.getD wz
theorem winAt_of {ws : List WinV} {i : Nat} {t : WinV} (h : ws[i]? = some t) : winAt ws i = t := by unfold winAt; rw [h]; rfl
/-- Where the one ahead of window i ends. -/
def endAt (ws : List WinV) : Nat → Int
  | 0 => 0
  | i + 1 => (winAt ws i).til
def winB (e frame : Int) (n : Nat) (x : WinV) : Bool := !decide (x.fr < e) && (!decide (x.til ≤ x.fr) && (!decide (frame < x.til) && isPartB n x.part))
def winsB (frame : Int) (n : Nat) (ws : List WinV) : Bool := decide (ws.length ≤ 32) && allB ws.length (fun i => winB (endAt ws i) frame n (winAt ws i))

set_option maxRecDepth 100000 in
set_option maxHeartbeats 2000000 in
theorem windows_any {lo : Nat} (f qt : Int) (pa : Option Addr) (pn pc : Nat) (hpn : pn ≤ 9223372036854775807) (vw vo : Value) (ws : List WinV) (h3 : ∃ a n c, vo = .slice a n c) (w : World) (hv : RowAt shW lo w vw ws) :
    Calls Tryz.prog 79 #[.agg #[.int .i64 f, .int .i64 qt, .slice pa pn pc, vw, vo]] w fun e w' => e = .returned (.bool (winsB f pn ws)) ∧ w.grownBy w' none := by
  obtain ⟨oa, on, oc, rfl⟩ := h3
  have HV0 := hide (fun W => hv.grown (W := W))
  obtain ⟨hl, wa, wc, rfl, -⟩ := hv
  have HP := hide (fun i W => isPart_any pa pn pc hpn i W)
  unfold winsB
  by_cases h6 : ws.length ≤ 32
  · rw [decide_eq_true h6]
    simp only [Bool.true_and]
    have HV := hide (fun W h => HV0.out W (grownBy_trans (World.grownBy_alloc w (.cells #[.int .i64 f, .int .i64 qt, .slice pa pn pc, .slice wa ws.length wc, .slice oa on oc] 90) none) h))
    clear HV0
    have HC0 := hide (show (w.alloc (.cells #[.int .i64 f, .int .i64 qt, .slice pa pn pc, .slice wa ws.length wc, .slice oa on oc] 90)).cell? ⟨w.heap.size, 0, none⟩ = some (.int .i64 f) by simp)
    have HC2 := hide (show (w.alloc (.cells #[.int .i64 f, .int .i64 qt, .slice pa pn pc, .slice wa ws.length wc, .slice oa on oc] 90)).cell? ⟨w.heap.size, 2, none⟩ = some (.slice pa pn pc) by simp)
    generalize hN : ws.length = N at *
    have HN := hide hN
    clear hN
    go_enter Tryz.func79, Tryz.ntmps79
    go_wp2
    go_loopw [3, 5, 13] (fun en _ i W => ∃ (j : Nat), j ≤ N ∧ i = .int .i64 j ∧ en = .int .i64 (endAt ws j) ∧ Hid ((w.alloc (.cells #[.int .i64 f, .int .i64 qt, .slice pa pn pc, .slice wa N wc, .slice oa on oc] 90)).grownBy W none) ∧ Hid (∀ i, i < j → winB (endAt ws i) f pn (winAt ws i) = true)) (fun _ _ i _ => N - (intOf i).toNat)
    case atStart => exact ⟨0, by omega, rfl, rfl, grownBy_refl _ _, fun i hi => absurd hi (Nat.not_lt_zero _)⟩
    case round =>
      obtain ⟨j, hj, rfl, rfl, HG, HALL⟩ := hrel
      by_cases hlt : j < N
      · obtain ⟨-, a2, cap2, e2, hc⟩ := HV.out wr HG.out
        simp only [Value.slice.injEq] at e2
        obtain ⟨rfl, -, rfl⟩ := e2
        obtain ⟨g, o, rfl, -, hc2⟩ := hc (by rw [HN.out]; omega)
        obtain ⟨q, hq⟩ : ∃ q, ws[j]? = some q := ⟨_, List.getElem?_eq_getElem (by rw [HN.out]; exact hlt)⟩
        have hc3 := hc2 j q hq
        have hB : w.heap.size < (w.alloc (.cells #[.int .i64 f, .int .i64 qt, .slice pa pn pc, .slice (some ⟨g, o, none⟩) N wc, .slice oa on oc] 90)).heap.size := by simp
        have d0 := (World.cell?_of_block (a := ⟨w.heap.size, 0, none⟩) (HG.out.block w.heap.size hB (by simp))).trans HC0.out
        have d2 := (World.cell?_of_block (a := ⟨w.heap.size, 2, none⟩) (HG.out.block w.heap.size hB (by simp))).trans HC2.out
        have hBr : w.heap.size < wr.heap.size := World.block_lt_of_cell? wr _ d0
        have hBn : w.heap.size ≠ wr.heap.size := by omega
        have HE := hide (show endAt ws (j + 1) = q.til by show (winAt ws j).til = q.til; rw [winAt_of hq])
        have HW0 := hide (show winB (endAt ws j) f pn (winAt ws j) = winB (endAt ws j) f pn q by rw [winAt_of hq])
        obtain ⟨x0, x1, x2⟩ := q
        have c0 : wr.cell? ⟨g, o + j * 3, none⟩ = some (.int .i64 x0) := hc3 0 _ rfl
        have c1 : wr.cell? ⟨g, o + j * 3 + 1, none⟩ = some (.int .i64 x1) := hc3 1 _ rfl
        have c2 : wr.cell? ⟨g, o + j * 3 + 2, none⟩ = some (.int .i64 x2) := hc3 2 _ rfl
        clear hc hc2 hc3 hq hB
        dsimp only at HE
        have HX := hide (show winB (endAt ws j) f pn ⟨x0, x1, x2⟩ = (!decide (x0 < endAt ws j) && (!decide (x1 ≤ x0) && (!decide (f < x1) && isPartB pn x2))) from rfl)
        generalize hen : endAt ws j = en at *
        have HEN := hide hen
        clear hen
        by_cases h1 : x0 < en
        · have e1 := decide_eq_true h1
          have HOK := hide (show winB (endAt ws j) f pn (winAt ws j) = false by rw [HEN.out, HW0.out, HX.out, e1]; simp)
          clear HX HW0
          go_wp2
          go_ret
          refine ⟨?_, grownBy_trans (World.grownBy_alloc _ _ _) (grownBy_trans HG.out (World.grownBy_alloc _ _ _))⟩
          rw [allB_false (f := fun i => winB (endAt ws i) f pn (winAt ws i)) hlt HOK.out]
          rfl
        · have e1 := decide_eq_false h1
          by_cases h2 : x1 ≤ x0
          · have e2 := decide_eq_true h2
            have HOK := hide (show winB (endAt ws j) f pn (winAt ws j) = false by rw [HEN.out, HW0.out, HX.out, e1, e2]; simp)
            clear HX HW0
            go_wp2
            go_ret
            refine ⟨?_, grownBy_trans (World.grownBy_alloc _ _ _) (grownBy_trans HG.out (World.grownBy_alloc _ _ _))⟩
            rw [allB_false (f := fun i => winB (endAt ws i) f pn (winAt ws i)) hlt HOK.out]
            rfl
          · have e2 := decide_eq_false h2
            by_cases h3 : f < x1
            · have e3 := decide_eq_true h3
              have HOK := hide (show winB (endAt ws j) f pn (winAt ws j) = false by rw [HEN.out, HW0.out, HX.out, e1, e2, e3]; simp)
              clear HX HW0
              go_wp2
              go_ret
              refine ⟨?_, grownBy_trans (World.grownBy_alloc _ _ _) (grownBy_trans HG.out (World.grownBy_alloc _ _ _))⟩
              rw [allB_false (f := fun i => winB (endAt ws i) f pn (winAt ws i)) hlt HOK.out]
              rfl
            · have e3 := decide_eq_false h3
              have CP := hide (HP.out x2)
              cases hp : isPartB pn x2 with
              | false =>
                rw [hp] at CP
                have HOK := hide (show winB (endAt ws j) f pn (winAt ws j) = false by rw [HEN.out, HW0.out, HX.out, e1, e2, e3, hp]; simp)
                clear HX HW0
                go_wp2_with (go_at_call 101; refine (CP.out _).mono ?_; rintro e w2 ⟨rfl, rfl⟩)
                go_ret
                refine ⟨?_, grownBy_trans (World.grownBy_alloc _ _ _) (grownBy_trans HG.out (World.grownBy_alloc _ _ _))⟩
                rw [allB_false (f := fun i => winB (endAt ws i) f pn (winAt ws i)) hlt HOK.out]
                rfl
              | true =>
                rw [hp] at CP
                have HOK := hide (show winB (endAt ws j) f pn (winAt ws j) = true by rw [HEN.out, HW0.out, HX.out, e1, e2, e3, hp]; simp)
                clear HX HW0
                go_wp2_with (go_at_call 101; refine (CP.out _).mono ?_; rintro e w2 ⟨rfl, rfl⟩)
                go_roundw
                case rel =>
                  refine ⟨j + 1, by omega, by go_num, by rw [HE.out], hide (grownBy_trans HG.out (World.grownBy_alloc _ _ _)), fun i hi => ?_⟩
                  rcases (by omega : i < j ∨ i = j) with h | rfl
                  · exact HALL.out i h
                  · exact HOK.out
                case measure => simp [intOf]; omega
      · go_wp2
        go_ret
        refine ⟨?_, grownBy_trans (World.grownBy_alloc _ _ _) HG.out⟩
        rw [allB_true (f := fun i => winB (endAt ws i) f pn (winAt ws i)) (fun i hi => HALL.out i (by omega))]
        rfl
  · rw [decide_eq_false h6]
    simp only [Bool.false_and]
    clear HV0
    generalize ws.length = N at *
    go_enter Tryz.func79, Tryz.ntmps79
    go_wp2
    go_ret
    exact ⟨rfl, World.grownBy_alloc _ _ _⟩

/-! Ports. -/
def oz : PortV := ⟨0, 0, 0, 0⟩
def portAt (ws : List PortV) (i : Nat) : PortV := ws[i]?.getD oz
theorem portAt_of {ws : List PortV} {i : Nat} {t : PortV} (h : ws[i]? = some t) : portAt ws i = t := by unfold portAt; rw [h]; rfl
def portB (ls : List Int) (x : PortV) : Bool := isLevelB ls x.fr 1 && (isLevelB ls x.til 0 && sizeB x.kind x.size)
def portsB (ls : List Int) (os : List PortV) : Bool := decide (os.length ≤ 8) && allB os.length (fun i => portB ls (portAt os i))

set_option maxRecDepth 100000 in
set_option maxHeartbeats 2000000 in
theorem portIs_any {lo : Nat} (q : PortV) (vp : Value) (qs : List PartM) (ls : List Int) (hls : qs.map PartM.level = ls) (B : Nat) (w : World) (hB : w.cell? ⟨B, 2, none⟩ = some vp) (hv : RowAt shP lo w vp qs) :
    Calls Tryz.prog 103 #[.agg #[.int .i64 q.kind, .int .i64 q.fr, .int .i64 q.til, .int .i64 q.size], .pointer (some ⟨B, 0, none⟩)] w fun e w' => e = .returned (.bool (portB ls q)) ∧ w.grownBy w' none := by
  have hBl : B < w.heap.size := World.block_lt_of_cell? w _ hB
  have hne : B ≠ w.heap.size := by omega
  have hg0 := fun o => World.grownBy_alloc w o none
  have CL := hide (fun i l o => isLevel_any vp qs ls hls i l (w.alloc o) (hv.grown (hg0 o)))
  have CS := hide (fun W => size_any q W)
  obtain ⟨hl, va, vc, rfl, -⟩ := hv
  unfold portB
  clear hg0 hls
  generalize qs.length = n at *
  obtain ⟨x0, x1, x2, x3⟩ := q
  dsimp only at CS ⊢
  have C1 := hide (CL.out x1 1)
  have C2 := hide (CL.out x2 0)
  clear CL
  generalize sizeB x0 x3 = m at *
  cases h1 : isLevelB ls x1 1 with
  | false =>
    rw [h1] at C1
    simp only [Bool.false_and]
    clear C2 CS h1
    go_enter Tryz.func103, Tryz.ntmps103
    go_wp2_with (go_at_call 104; refine (C1.out _).mono ?_; rintro e w2 ⟨rfl, rfl⟩)
    go_ret
    exact ⟨rfl, World.grownBy_alloc _ _ _⟩
  | true =>
    rw [h1] at C1
    clear h1
    cases h2 : isLevelB ls x2 0 with
    | false =>
      rw [h2] at C2
      simp only [Bool.false_and, Bool.and_false]
      clear CS h2
      go_enter Tryz.func103, Tryz.ntmps103
      go_wp2_with (first | fail)
      refine (C1.out _).mono ?_; rintro e w2 ⟨rfl, rfl⟩
      go_wp2_with (first | fail)
      refine (C2.out _).mono ?_; rintro e w2 ⟨rfl, rfl⟩
      go_wp2
      go_ret
      exact ⟨rfl, World.grownBy_alloc _ _ _⟩
    | true =>
      rw [h2] at C2
      simp only [Bool.true_and]
      clear h2
      go_enter Tryz.func103, Tryz.ntmps103
      go_wp2_with (first | fail)
      refine (C1.out _).mono ?_; rintro e w2 ⟨rfl, rfl⟩
      go_wp2_with (first | fail)
      refine (C2.out _).mono ?_; rintro e w2 ⟨rfl, rfl⟩
      go_wp2_with (first | fail)
      refine (CS.out _).mono ?_; rintro e w2 ⟨rfl, hg⟩
      have HG := hide hg
      clear hg
      go_wp2
      go_ret
      exact ⟨rfl, grownBy_trans (World.grownBy_alloc _ _ _) HG.out⟩

set_option maxRecDepth 100000 in
set_option maxHeartbeats 2000000 in
theorem ports_any {lo : Nat} (f qt : Int) (vp vw vo : Value) (qs : List PartM) (ls : List Int) (hls : qs.map PartM.level = ls) (os : List PortV) (h2 : ∃ a n c, vw = .slice a n c) (w : World) (hp : RowAt shP lo w vp qs) (hv : RowAt shO lo w vo os) :
    Calls Tryz.prog 80 #[.agg #[.int .i64 f, .int .i64 qt, vp, vw, vo]] w fun e w' => e = .returned (.bool (portsB ls os)) ∧ w.grownBy w' none := by
  have hmf : ∀ (fn : Fn) (first cap : Array Value) (w : World), (Instr.makeFunc fn first cap).run Tryz.prog w = .ok (.func fn first cap) w := fun _ _ _ _ => rfl
  have hg0 := World.grownBy_alloc w (.cells #[.int .i64 f, .int .i64 qt, vp, vw, vo] 90) none
  have C := hide (all_51 ⟨w.heap.size, 0, none⟩ vo os (fun i => portB ls (portAt os i)) _ (hv.grown hg0) (fun W hg i q hq => by
    rw [portAt_of hq]
    exact portIs_any q vp qs ls hls w.heap.size W ((World.cell?_of_block (a := ⟨w.heap.size, 2, none⟩) (hg.block w.heap.size (by simp) (by simp))).trans (by simp)) (hp.grown (grownBy_trans hg0 hg))))
  clear hg0 hls
  unfold portsB
  obtain ⟨wa, wn, wc, rfl⟩ := h2
  obtain ⟨hl, oa, oc, rfl, -⟩ := hv
  obtain ⟨hl2, pa, pc, rfl, -⟩ := hp
  generalize allB os.length (fun i => portB ls (portAt os i)) = m at *
  generalize os.length = n at *
  generalize qs.length = n2 at *
  by_cases h8 : n ≤ 8
  · rw [decide_eq_true h8]
    simp only [Bool.true_and]
    go_enter Tryz.func80, Tryz.ntmps80
    go_wp2_with (first | fail)
    refine C.out.mono ?_; rintro e w2 ⟨rfl, hg⟩
    have HG := hide hg
    clear hg
    go_wp2
    go_ret
    exact ⟨rfl, grownBy_trans (World.grownBy_alloc _ _ _) HG.out⟩
  · rw [decide_eq_false h8]
    simp only [Bool.false_and]
    go_enter Tryz.func80, Tryz.ntmps80
    go_wp2
    go_ret
    exact ⟨rfl, World.grownBy_alloc _ _ _⟩

end Go.Proofs.YtlppfocoonnpjaaGreatDoor

namespace Go.Proofs.YtlppfocoonnpjaaGreatDoor
open Go.RowKit
attribute [local go_sem] alloc_drewN setCell_drewN

def pz : PartV := ⟨0, [], []⟩
def partAt (ps : List PartV) (i : Nat) : PartV := ps[i]?.getD pz
theorem partAt_of {ps : List PartV} {i : Nat} {t : PartV} (h : ps[i]? = some t) : partAt ps i = t := by unfold partAt; rw [h]; rfl
def partsB (ps : List PartV) : Bool := decide (1 ≤ ps.length) && (decide (ps.length ≤ 8) && allB ps.length (fun i => levelB (partAt ps i).level))
/-- What is wrong with a configuration, the first of the chapter's row; 0: it may be. -/
def checkN (C : ConfV) : Int :=
  if frameB C.frame C.quiet = false then 501
  else if partsB C.parts = false then 502
  else if allB C.parts.length (fun i => tasksB (partAt C.parts i)) = false then 503
  else if winsB C.frame C.parts.length C.wins = false then 504
  else if portsB (C.parts.map PartV.level) C.ports = false then 505
  else if allB C.parts.length (fun i => codeMay (partAt C.parts i).code) = false then 506
  else 0

theorem part_of {qs : List PartM} {ps : List PartV} (hl : qs.length = ps.length) {i : Nat} {q : PartM} (hq : qs[i]? = some q) : ∃ p, ps[i]? = some p := by
  have hi : i < qs.length := by
    rcases Nat.lt_or_ge i qs.length with h | h
    · exact h
    · rw [List.getElem?_eq_none h] at hq; cases hq
  exact ⟨_, List.getElem?_eq_getElem (by omega)⟩
theorem levels_of {lo : Nat} {W : World} {qs : List PartM} {ps : List PartV} (hl : qs.length = ps.length) (h : ∀ (i : Nat) q p, qs[i]? = some q → ps[i]? = some p → PartIs lo W q p) : qs.map PartM.level = ps.map PartV.level := by
  apply List.ext_getElem?
  intro i
  rw [List.getElem?_map, List.getElem?_map]
  cases hq : qs[i]? with
  | none =>
    have : ps[i]? = none := by rw [List.getElem?_eq_none_iff] at hq ⊢; omega
    rw [this]; rfl
  | some q =>
    obtain ⟨p, hp⟩ := part_of hl hq
    rw [hp]
    exact congrArg some (h i q p hq hp).1

set_option maxRecDepth 100000 in
set_option maxHeartbeats 1000000 in
theorem parts_any {lo : Nat} (v : Value) (ps : List PartV) (w : World) (hv : PartsAt lo w v ps) :
    Calls Tryz.prog 76 #[v] w fun e w' => e = .returned (.bool (partsB ps)) ∧ w.grownBy w' none := by
  obtain ⟨qs, hlen, hrow, hel⟩ := hv
  have C := all_44 v qs (fun i => levelB (partAt ps i).level) w hrow (fun W hg i q hq => by
    obtain ⟨p, hp⟩ := part_of hlen hq
    rw [partAt_of hp, ← (hel i q p hq hp).1]
    exact level_any q W)
  rw [hlen] at C
  have HC := hide C
  unfold partsB
  obtain ⟨hl, a, cap, rfl, -⟩ := hrow
  rw [hlen] at hl ⊢
  clear C hel
  generalize allB ps.length (fun i => levelB (partAt ps i).level) = m at *
  rw [hlen] at HC
  clear hlen
  generalize ps.length = n at *
  by_cases h1 : 1 ≤ n
  · rw [decide_eq_true h1]
    simp only [Bool.true_and]
    by_cases h2 : n ≤ 8
    · rw [decide_eq_true h2]
      simp only [Bool.true_and]
      go_enter Tryz.func76, Tryz.ntmps76
      go_wp2_with (first | fail)
      refine HC.out.mono ?_; rintro e w2 ⟨rfl, hg⟩
      go_wp2
      go_ret
      exact ⟨rfl, hg⟩
    · rw [decide_eq_false h2]
      simp only [Bool.false_and]
      go_enter Tryz.func76, Tryz.ntmps76
      go_wp2
      go_ret
      exact ⟨rfl, grownBy_refl _ _⟩
  · rw [decide_eq_false h1]
    simp only [Bool.false_and]
    go_enter Tryz.func76, Tryz.ntmps76
    go_wp2
    go_ret
    exact ⟨rfl, grownBy_refl _ _⟩

set_option maxRecDepth 100000 in
set_option maxHeartbeats 4000000 in
theorem check_any {lo : Nat} (c : Value) (C : ConfV) (w : World) (hT : Tab w) (hc : ConfAt lo w c C) :
    Calls Tryz.prog 55 #[c] w fun e w' => e = .returned (.int .i64 (checkN C)) ∧ w.grownBy w' none := by
  obtain ⟨vp, vw, vo, rfl, hp, hw, ho⟩ := hc
  have hp0 := hp
  obtain ⟨qs, hlen, hrow, hel⟩ := hp
  have sp : ∃ a n c, vp = .slice a n c := by obtain ⟨_, a, cap, rfl, _⟩ := hrow; exact ⟨_, _, _, rfl⟩
  have sw : ∃ a n c, vw = .slice a n c := by obtain ⟨_, a, cap, rfl, _⟩ := hw; exact ⟨_, _, _, rfl⟩
  have so : ∃ a n c, vo = .slice a n c := by obtain ⟨_, a, cap, rfl, _⟩ := ho; exact ⟨_, _, _, rfl⟩
  have C1 := hide (fun W => frame_any C.frame C.quiet vp vw vo sp sw so W)
  have C2 := hide (fun W (hg : w.grownBy W none) => parts_any vp C.parts W (hp0.grown hg))
  have C3 := hide (fun W (hg : w.grownBy W none) => all_26 vp qs (fun i => tasksB (partAt C.parts i)) W (hrow.grown hg) (fun W2 hg2 i q hq => by
    obtain ⟨p, hpp⟩ := part_of hlen hq
    rw [partAt_of hpp]
    exact tasks_any q p W2 ((hel i q p hq hpp).kept (keep_grown (grownBy_trans hg hg2)))))
  have C5 := hide (fun W (hg : w.grownBy W none) => ports_any C.frame C.quiet vp vw vo qs (C.parts.map PartV.level) (levels_of hlen hel) C.ports sw W (hrow.grown hg) (ho.grown hg))
  have C6 := hide (fun W (hg : w.grownBy W none) => all_29 vp qs (fun i => codeMay (partAt C.parts i).code) W (hrow.grown hg) (fun W2 hg2 i q hq => by
    obtain ⟨p, hpp⟩ := part_of hlen hq
    rw [partAt_of hpp]
    exact code_any q p W2 (hT.grown (grownBy_trans hg hg2)) ((hel i q p hq hpp).kept (keep_grown (grownBy_trans hg hg2)))))
  have C4 : Hid (∀ W, w.grownBy W none → Calls Tryz.prog 79 #[.agg #[.int .i64 C.frame, .int .i64 C.quiet, vp, vw, vo]] W fun e w' => e = .returned (.bool (winsB C.frame C.parts.length C.wins)) ∧ W.grownBy w' none) := by
    intro W hg
    obtain ⟨hl, a, cap, rfl, -⟩ := hrow
    have := windows_any C.frame C.quiet a qs.length cap hl vw vo C.wins so W (hw.grown hg)
    rw [hlen] at this ⊢
    exact this
  rw [hlen] at C3 C6
  have KEEP : Hid (∀ W, (w.alloc (.cells #[.int .i64 C.frame, .int .i64 C.quiet, vp, vw, vo] 90)).grownBy W none → W.cell? ⟨w.heap.size, 0, none⟩ = some (.int .i64 C.frame) ∧ W.cell? ⟨w.heap.size, 1, none⟩ = some (.int .i64 C.quiet) ∧ W.cell? ⟨w.heap.size, 2, none⟩ = some vp ∧ W.cell? ⟨w.heap.size, 3, none⟩ = some vw ∧ W.cell? ⟨w.heap.size, 4, none⟩ = some vo) := by
    intro W hW
    have b := fun k => World.cell?_of_block (a := ⟨w.heap.size, k, none⟩) (hW.block w.heap.size (by simp) (by simp))
    exact ⟨(b 0).trans (by simp), (b 1).trans (by simp), (b 2).trans (by simp), (b 3).trans (by simp), (b 4).trans (by simp)⟩
  have HG0 := hide (World.grownBy_alloc w (.cells #[.int .i64 C.frame, .int .i64 C.quiet, vp, vw, vo] 90) none)
  obtain ⟨pa, pn, pc, rfl⟩ := sp
  obtain ⟨wa, wn, wc, rfl⟩ := sw
  obtain ⟨oa, on, oc, rfl⟩ := so
  clear hp0 hlen hrow hel hw ho hT
  have HE1 := hide (fun h1 : frameB C.frame C.quiet = false => show checkN C = 501 by simp [checkN, h1])
  have HE2 := hide (fun (h1 : frameB C.frame C.quiet = true) (h2 : partsB C.parts = false) => show checkN C = 502 by simp [checkN, h1, h2])
  have HE3 := hide (fun (h1 : frameB C.frame C.quiet = true) (h2 : partsB C.parts = true) (h3 : allB C.parts.length (fun i => tasksB (partAt C.parts i)) = false) => show checkN C = 503 by simp [checkN, h1, h2, h3])
  have HE4 := hide (fun (h1 : frameB C.frame C.quiet = true) (h2 : partsB C.parts = true) (h3 : allB C.parts.length (fun i => tasksB (partAt C.parts i)) = true) (h4 : winsB C.frame C.parts.length C.wins = false) => show checkN C = 504 by simp [checkN, h1, h2, h3, h4])
  have HE5 := hide (fun (h1 : frameB C.frame C.quiet = true) (h2 : partsB C.parts = true) (h3 : allB C.parts.length (fun i => tasksB (partAt C.parts i)) = true) (h4 : winsB C.frame C.parts.length C.wins = true) (h5 : portsB (C.parts.map PartV.level) C.ports = false) => show checkN C = 505 by simp [checkN, h1, h2, h3, h4, h5])
  have HE6 := hide (fun (h1 : frameB C.frame C.quiet = true) (h2 : partsB C.parts = true) (h3 : allB C.parts.length (fun i => tasksB (partAt C.parts i)) = true) (h4 : winsB C.frame C.parts.length C.wins = true) (h5 : portsB (C.parts.map PartV.level) C.ports = true) (h6 : allB C.parts.length (fun i => codeMay (partAt C.parts i).code) = false) => show checkN C = 506 by simp [checkN, h1, h2, h3, h4, h5, h6])
  have HE7 := hide (fun (h1 : frameB C.frame C.quiet = true) (h2 : partsB C.parts = true) (h3 : allB C.parts.length (fun i => tasksB (partAt C.parts i)) = true) (h4 : winsB C.frame C.parts.length C.wins = true) (h5 : portsB (C.parts.map PartV.level) C.ports = true) (h6 : allB C.parts.length (fun i => codeMay (partAt C.parts i).code) = true) => show checkN C = 0 by simp [checkN, h1, h2, h3, h4, h5, h6])
  generalize frameB C.frame C.quiet = b1 at *
  generalize partsB C.parts = b2 at *
  generalize allB C.parts.length (fun i => tasksB (partAt C.parts i)) = b3 at *
  generalize winsB C.frame C.parts.length C.wins = b4 at *
  generalize portsB (C.parts.map PartV.level) C.ports = b5 at *
  generalize allB C.parts.length (fun i => codeMay (partAt C.parts i).code) = b6 at *
  generalize C.frame = fr at *
  generalize C.quiet = qt at *
  go_enter Tryz.func55, Tryz.ntmps55
  go_wp2_with (first | fail)
  refine (C1.out _).mono ?_; rintro e w1 ⟨rfl, hg⟩
  have G1 := hide hg
  clear hg C1
  obtain ⟨f10, f11, f12, f13, f14⟩ := KEEP.out w1 G1.out
  cases b1 with
  | false =>
    go_wp2
    go_ret
    exact ⟨by rw [HE1.out (by simp)]; rfl, grownBy_trans HG0.out G1.out⟩
  | true =>
    go_wp2_with (first | fail)
    refine (C2.out _ (grownBy_trans HG0.out G1.out)).mono ?_; rintro e w2 ⟨rfl, hg⟩
    have G2 := hide (grownBy_trans G1.out hg)
    clear hg C2
    obtain ⟨f20, f21, f22, f23, f24⟩ := KEEP.out w2 G2.out
    cases b2 with
    | false =>
      go_wp2
      go_ret
      exact ⟨by rw [HE2.out (by simp) (by simp)]; rfl, grownBy_trans HG0.out G2.out⟩
    | true =>
      go_wp2_with (first | fail)
      refine (C3.out _ (grownBy_trans HG0.out G2.out)).mono ?_; rintro e w3 ⟨rfl, hg⟩
      have G3 := hide (grownBy_trans G2.out hg)
      clear hg C3
      obtain ⟨f30, f31, f32, f33, f34⟩ := KEEP.out w3 G3.out
      cases b3 with
      | false =>
        go_wp2
        go_ret
        exact ⟨by rw [HE3.out (by simp) (by simp) (by simp)]; rfl, grownBy_trans HG0.out G3.out⟩
      | true =>
        go_wp2_with (first | fail)
        refine (C4.out _ (grownBy_trans HG0.out G3.out)).mono ?_; rintro e w4 ⟨rfl, hg⟩
        have G4 := hide (grownBy_trans G3.out hg)
        clear hg C4
        obtain ⟨f40, f41, f42, f43, f44⟩ := KEEP.out w4 G4.out
        cases b4 with
        | false =>
          go_wp2
          go_ret
          exact ⟨by rw [HE4.out (by simp) (by simp) (by simp) (by simp)]; rfl, grownBy_trans HG0.out G4.out⟩
        | true =>
          go_wp2_with (first | fail)
          refine (C5.out _ (grownBy_trans HG0.out G4.out)).mono ?_; rintro e w5 ⟨rfl, hg⟩
          have G5 := hide (grownBy_trans G4.out hg)
          clear hg C5
          obtain ⟨f50, f51, f52, f53, f54⟩ := KEEP.out w5 G5.out
          cases b5 with
          | false =>
            go_wp2
            go_ret
            exact ⟨by rw [HE5.out (by simp) (by simp) (by simp) (by simp) (by simp)]; rfl, grownBy_trans HG0.out G5.out⟩
          | true =>
            go_wp2_with (first | fail)
            refine (C6.out _ (grownBy_trans HG0.out G5.out)).mono ?_; rintro e w6 ⟨rfl, hg⟩
            have G6 := hide (grownBy_trans G5.out hg)
            clear hg C6
            obtain ⟨f60, f61, f62, f63, f64⟩ := KEEP.out w6 G6.out
            cases b6 with
            | false =>
              go_wp2
              go_ret
              exact ⟨by rw [HE6.out (by simp) (by simp) (by simp) (by simp) (by simp) (by simp)]; rfl, grownBy_trans HG0.out G6.out⟩
            | true =>
              go_wp2
              go_ret
              exact ⟨by rw [HE7.out (by simp) (by simp) (by simp) (by simp) (by simp) (by simp)]; rfl, grownBy_trans HG0.out G6.out⟩

#print axioms check_any
end Go.Proofs.YtlppfocoonnpjaaGreatDoor

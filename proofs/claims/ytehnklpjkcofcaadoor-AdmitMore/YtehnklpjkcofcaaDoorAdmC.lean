/- Contracts of package admit's anyLate, anyWithout and Check, proved over the translation. -/
import Derived.Test.YtehnklpjkcofcaaDoorAdmB
namespace Go.Proofs.YtehnklpjkcofcaaDoor
open Go.RowKit R6
attribute [local go_sem] alloc_drewN setCell_drewN

def inTime (C : ConfV) (p : Nat) : Bool := allB (tasksOf C p).length (fun i => !decide (reE C p i = 901))
def fedB (C : ConfV) (p : Nat) : Bool := !(decide ((partAt C.parts p).level = 0) && decide (shV C p = 0))
theorem lateB_eq (C : ConfV) : lateB C = !allB C.parts.length (inTime C) := rfl
theorem bareB_eq (C : ConfV) : bareB C = !allB C.parts.length (fedB C) := rfl

set_option maxRecDepth 100000 in
set_option maxHeartbeats 4000000 in
theorem late_any {lo : Nat} (c : Value) (C : ConfV) (w : World) (hT : Tab w) (hc : ConfAt lo w c C) :
    Calls Tryd.prog 28 #[c] w fun e w' => e = .returned (.bool (lateB C)) ∧ w.grownBy w' none := by
  have CR := hide (fun (p i : Nat) W (hg : w.grownBy W none) => resp_any c C p i W (hT.grown hg) (hc.grown hg))
  obtain ⟨vp, vw, vo, rfl, hp, ⟨-, wa, wc, rfl, -⟩, ⟨-, oa, oc, rfl, -⟩⟩ := hc
  have HPP := hide hp
  obtain ⟨qs, hlen, ⟨hl, pa, pc, rfl, -⟩, -⟩ := hp
  have HPA := hide (fun (j : Nat) (hj : j < C.parts.length) => HPP.out.part hj)
  rw [hlen] at hl CR ⊢
  have HPB : Hid (∀ (j : Nat), j < C.parts.length → ∃ g o ta tc ca cc, pa = some ⟨g, o, none⟩ ∧ Hid (∀ V, w.grownBy V none → V.cell? ⟨g, o + j * 3, none⟩ = some (.int .i64 (partAt C.parts j).level) ∧ V.cell? ⟨g, o + j * 3 + 1, none⟩ = some (.slice ta (tasksOf C j).length tc) ∧ V.cell? ⟨g, o + j * 3 + 2, none⟩ = some (.slice ca (partAt C.parts j).code.length cc)) ∧ (tasksOf C j).length ≤ 9223372036854775807) := fun j hj => by
    obtain ⟨g, o, ta, tc, ca, cc, h1, -, h2, -, h3⟩ := HPA.out j hj
    exact ⟨g, o, ta, tc, ca, cc, h1, h2, h3⟩
  have HL0 : Hid (∀ j, j < C.parts.length → ∀ i, i < (tasksOf C j).length → reE C j i = 901 → lateB C = true) := fun j hj i hi h => by
    rw [lateB_eq, allB_false hj (allB_false hi (by rw [h]; rfl))]; rfl
  have HL1 : Hid (∀ j, (∀ i, i < (tasksOf C j).length → reE C j i ≠ 901) → inTime C j = true) := fun j h => allB_true fun i hi => by rw [decide_eq_false (h i hi)]; rfl
  have HL2 : Hid ((∀ j, j < C.parts.length → inTime C j = true) → lateB C = false) := fun h => by rw [lateB_eq, allB_true h]; rfl
  clear hT hlen HPA HPP
  generalize lateB C = lb at *
  generalize inTime C = tm at *
  generalize hT : (fun j => (tasksOf C j).length) = tl at *
  have HTL : Hid (∀ j, (tasksOf C j).length = tl j) := fun j => by rw [← hT]
  clear hT
  simp only [HTL.out] at HPB HL0 HL1
  clear HTL
  generalize hL : (fun j => (partAt C.parts j).level) = lv at *
  have HLV : Hid (∀ j, (partAt C.parts j).level = lv j) := fun j => by rw [← hL]
  generalize hK : (fun j => (partAt C.parts j).code.length) = cl at *
  have HKL : Hid (∀ j, (partAt C.parts j).code.length = cl j) := fun j => by rw [← hK]
  clear hL hK
  simp only [HLV.out, HKL.out] at HPB
  clear HLV HKL
  generalize reV C = rv at *
  generalize reE C = re at *
  generalize C.frame = fr at *
  generalize C.quiet = qt at *
  generalize C.parts.length = N at *
  generalize C.wins.length = n1 at *
  generalize C.ports.length = n2 at *
  generalize hwb : w.alloc (.cells #[.int .i64 fr, .int .i64 qt, .slice pa N pc, .slice wa n1 wc, .slice oa n2 oc] 26) = wb
  have HG0 := hide (show w.grownBy wb none by rw [← hwb]; exact World.grownBy_alloc _ _ none)
  have KEEP : Hid (∀ V, wb.grownBy V none → V.cell? ⟨w.heap.size, 0, none⟩ = some (.int .i64 fr) ∧ V.cell? ⟨w.heap.size, 1, none⟩ = some (.int .i64 qt) ∧ V.cell? ⟨w.heap.size, 2, none⟩ = some (.slice pa N pc) ∧ V.cell? ⟨w.heap.size, 3, none⟩ = some (.slice wa n1 wc) ∧ V.cell? ⟨w.heap.size, 4, none⟩ = some (.slice oa n2 oc)) := by
    intro V hV
    have b := fun k => World.cell?_of_block (a := ⟨w.heap.size, k, none⟩) (hV.block w.heap.size (by rw [← hwb]; simp) (by simp))
    exact ⟨(b 0).trans (by rw [← hwb]; simp), (b 1).trans (by rw [← hwb]; simp), (b 2).trans (by rw [← hwb]; simp), (b 3).trans (by rw [← hwb]; simp), (b 4).trans (by rw [← hwb]; simp)⟩
  obtain ⟨k0, k1, k2, k3, k4⟩ := KEEP.out wb (grownBy_refl _ _)
  go_enter Tryd.func28, Tryd.ntmps28
  go_wp2
  have HWB := hide hwb
  clear hwb k0 k1 k2 k3 k4
  go_loopw [3, 4, 5, 6, 7, 11] (fun _ _ _ _ _ s W => ∃ (j : Nat), j ≤ N ∧ s = .int .i64 j ∧ Hid (wb.grownBy W none) ∧ Hid (∀ i, i < j → tm i = true)) (fun _ _ _ _ _ s _ => N - (intOf s).toNat)
  case atStart => exact ⟨0, by omega, rfl, grownBy_refl _ _, fun i hi => by omega⟩
  case round =>
    obtain ⟨j, hj, rfl, HG, HB⟩ := hrel
    by_cases hlt : j < N
    · obtain ⟨g, o, ta, tc, ca, cc, rfl, HC, ht1⟩ := HPB.out j hlt
      obtain ⟨c0, c1, c2⟩ := HC.out wr (grownBy_trans HG0.out HG.out)
      have HLj := hide (fun i hi h => HL0.out j hlt i hi h)
      have HTj := hide (HL1.out j)
      have CRj := hide (CR.out j)
      generalize tl j = tn at *
      generalize lv j = l at *
      generalize cl j = cn at *
      clear HC
      go_wp2
      generalize hw1 : wr.alloc (Obj.cells #[Value.int IntKind.i64 l, .slice ta tn tc, .slice ca cn cc] 42) = w1
      have G1 := hide (show wb.grownBy w1 none by rw [← hw1]; exact grownBy_trans HG.out (World.grownBy_alloc _ _ _))
      clear hw1 c0 c1 c2
      go_loopw [5, 6, 7, 19] (fun _ _ _ s W => ∃ (i : Nat), i ≤ tn ∧ s = .int .i64 i ∧ Hid (wb.grownBy W none) ∧ Hid (∀ x : Nat, x < i → re j x ≠ 901)) (fun _ _ _ s _ => tn - (intOf s).toNat)
      case atStart => exact ⟨0, by omega, rfl, G1, fun x hx => by omega⟩
      case round =>
        obtain ⟨i, hi, rfl, HI, HN⟩ := hrel
        by_cases hlt2 : i < tn
        · obtain ⟨k0, k1, k2, k3, k4⟩ := KEEP.out wr HI.out
          have CX := hide (CRj.out i wr (grownBy_trans HG0.out HI.out))
          have HLi := hide (HLj.out i hlt2)
          have HNX : Hid (re j i ≠ 901 → ∀ x : Nat, x < i + 1 → re j x ≠ 901) := fun h x hx => by
            rcases (by omega : x < i ∨ x = i) with h' | rfl
            · exact HN.out x h'
            · exact h
          generalize hre : re j i = e1 at *
          clear hre
          generalize rv j i = v1 at *
          by_cases he : e1 = 901
          · subst he
            have HLL := hide (HLi.out rfl)
            clear HLi HNX
            go_wp2_with (go_at_call 10; refine CX.out.mono ?_; rintro e w3 ⟨rfl, hg⟩; have G3 := hide (grownBy_trans HI.out hg); clear hg)
            go_ret
            exact ⟨by rw [HLL.out]; rfl, grownBy_trans HG0.out G3.out⟩
          · have hb : (e1 == 901) = false := by simp [he]
            have HN2 := hide (HNX.out he)
            go_wp2_with (go_at_call 10; refine CX.out.mono ?_; rintro e w3 ⟨rfl, hg⟩; have G3 := hide (grownBy_trans HI.out hg); clear hg)
            go_roundw
            case rel => exact ⟨i + 1, by omega, by go_num, G3, HN2⟩
            case measure => simp [intOf]; omega
        · have HB2 : Hid (∀ x, x < j + 1 → tm x = true) := fun x hx => by
            rcases (by omega : x < j ∨ x = j) with h' | rfl
            · exact HB.out x h'
            · exact HTj.out fun y hy => HN.out y (by omega)
          go_wp2
          go_roundw
          case rel => exact ⟨j + 1, by omega, by go_num, HI, HB2⟩
          case measure => simp [intOf]; omega
    · have HF := hide (HL2.out fun x hx => HB.out x (by omega))
      go_wp2
      go_ret
      exact ⟨by rw [HF.out]; rfl, grownBy_trans HG0.out HG.out⟩

set_option maxRecDepth 100000 in
set_option maxHeartbeats 4000000 in
theorem bare_any {lo : Nat} (c : Value) (C : ConfV) (w : World) (hT : Tab w) (hc : ConfAt lo w c C) :
    Calls Tryd.prog 29 #[c] w fun e w' => e = .returned (.bool (bareB C)) ∧ w.grownBy w' none := by
  have CR := hide (fun (p : Nat) W (hg : w.grownBy W none) => share_any c C p W (hT.grown hg) (hc.grown hg))
  obtain ⟨vp, vw, vo, rfl, hp, ⟨-, wa, wc, rfl, -⟩, ⟨-, oa, oc, rfl, -⟩⟩ := hc
  have HPP := hide hp
  obtain ⟨qs, hlen, ⟨hl, pa, pc, rfl, -⟩, -⟩ := hp
  have HPA := hide (fun (j : Nat) (hj : j < C.parts.length) => HPP.out.part hj)
  rw [hlen] at hl CR ⊢
  have HPB : Hid (∀ (j : Nat), j < C.parts.length → ∃ g o ta tc ca cc, pa = some ⟨g, o, none⟩ ∧ Hid (∀ V, w.grownBy V none → V.cell? ⟨g, o + j * 3, none⟩ = some (.int .i64 (partAt C.parts j).level) ∧ V.cell? ⟨g, o + j * 3 + 1, none⟩ = some (.slice ta (tasksOf C j).length tc) ∧ V.cell? ⟨g, o + j * 3 + 2, none⟩ = some (.slice ca (partAt C.parts j).code.length cc))) := fun j hj => by
    obtain ⟨g, o, ta, tc, ca, cc, h1, -, h2, -, h3⟩ := HPA.out j hj
    exact ⟨g, o, ta, tc, ca, cc, h1, h2⟩
  have HL0 : Hid (∀ j, j < C.parts.length → (partAt C.parts j).level = 0 → shV C j = 0 → bareB C = true) := fun j hj h1 h2 => by
    rw [bareB_eq, allB_false hj (by unfold fedB; rw [h1, h2]; rfl)]; rfl
  have HL1 : Hid (∀ j, (partAt C.parts j).level ≠ 0 ∨ shV C j ≠ 0 → fedB C j = true) := fun j h => by
    unfold fedB
    rcases h with h | h
    · rw [decide_eq_false h]; rfl
    · rw [decide_eq_false h, Bool.and_false]; rfl
  have HL2 : Hid ((∀ j, j < C.parts.length → fedB C j = true) → bareB C = false) := fun h => by rw [bareB_eq, allB_true h]; rfl
  clear hT hlen HPA HPP
  generalize bareB C = lb at *
  generalize fedB C = tm at *
  generalize hL : (fun j => (partAt C.parts j).level) = lv at *
  have HLV : Hid (∀ j, (partAt C.parts j).level = lv j) := fun j => by rw [← hL]
  generalize hK : (fun j => (partAt C.parts j).code.length) = cl at *
  have HKL : Hid (∀ j, (partAt C.parts j).code.length = cl j) := fun j => by rw [← hK]
  generalize hT : (fun j => (tasksOf C j).length) = tl at *
  have HTL : Hid (∀ j, (tasksOf C j).length = tl j) := fun j => by rw [← hT]
  clear hL hK hT
  simp only [HLV.out, HKL.out, HTL.out] at HPB
  simp only [HLV.out] at HL0 HL1
  clear HLV HKL HTL
  generalize shV C = rv at *
  generalize shE C = re at *
  generalize C.frame = fr at *
  generalize C.quiet = qt at *
  generalize C.parts.length = N at *
  generalize C.wins.length = n1 at *
  generalize C.ports.length = n2 at *
  generalize hwb : w.alloc (.cells #[.int .i64 fr, .int .i64 qt, .slice pa N pc, .slice wa n1 wc, .slice oa n2 oc] 26) = wb
  have HG0 := hide (show w.grownBy wb none by rw [← hwb]; exact World.grownBy_alloc _ _ none)
  have KEEP : Hid (∀ V, wb.grownBy V none → V.cell? ⟨w.heap.size, 0, none⟩ = some (.int .i64 fr) ∧ V.cell? ⟨w.heap.size, 1, none⟩ = some (.int .i64 qt) ∧ V.cell? ⟨w.heap.size, 2, none⟩ = some (.slice pa N pc) ∧ V.cell? ⟨w.heap.size, 3, none⟩ = some (.slice wa n1 wc) ∧ V.cell? ⟨w.heap.size, 4, none⟩ = some (.slice oa n2 oc)) := by
    intro V hV
    have b := fun k => World.cell?_of_block (a := ⟨w.heap.size, k, none⟩) (hV.block w.heap.size (by rw [← hwb]; simp) (by simp))
    exact ⟨(b 0).trans (by rw [← hwb]; simp), (b 1).trans (by rw [← hwb]; simp), (b 2).trans (by rw [← hwb]; simp), (b 3).trans (by rw [← hwb]; simp), (b 4).trans (by rw [← hwb]; simp)⟩
  have HBLT := hide (show w.heap.size < wb.heap.size by rw [← hwb]; simp)
  obtain ⟨k0, k1, k2, k3, k4⟩ := KEEP.out wb (grownBy_refl _ _)
  go_enter Tryd.func29, Tryd.ntmps29
  go_wp2
  have HWB := hide hwb
  clear hwb k0 k1 k2 k3 k4
  go_loopw [3, 4, 5, 6, 10] (fun _ _ _ _ s W => ∃ (j : Nat), j ≤ N ∧ s = .int .i64 j ∧ Hid (wb.grownBy W none) ∧ Hid (∀ i, i < j → tm i = true)) (fun _ _ _ _ s _ => N - (intOf s).toNat)
  case atStart => exact ⟨0, by omega, rfl, grownBy_refl _ _, fun i hi => by omega⟩
  case round =>
    obtain ⟨j, hj, rfl, HG, HB⟩ := hrel
    by_cases hlt : j < N
    · obtain ⟨g, o, ta, tc, ca, cc, rfl, HC⟩ := HPB.out j hlt
      obtain ⟨c0, c1, c2⟩ := HC.out wr (grownBy_trans HG0.out HG.out)
      have HLj := hide (HL0.out j hlt)
      have HTj := hide (HL1.out j)
      have CRj := hide (CR.out j)
      generalize tl j = tn at *
      generalize lv j = l at *
      generalize cl j = cn at *
      generalize rv j = sv at *
      generalize re j = se at *
      clear HC
      have HB2 : Hid (tm j = true → ∀ x, x < j + 1 → tm x = true) := fun h x hx => by
        rcases (by omega : x < j ∨ x = j) with h' | rfl
        · exact HB.out x h'
        · exact h
      generalize hw1 : wr.alloc (Obj.cells #[Value.int IntKind.i64 l, .slice ta tn tc, .slice ca cn cc] 42) = w1
      have G1 := hide (show wb.grownBy w1 none by rw [← hw1]; exact grownBy_trans HG.out (World.grownBy_alloc _ _ _))
      have K2 : Hid (∀ V, w1.grownBy V none → V.cell? ⟨wr.heap.size, 0, none⟩ = some (.int .i64 l)) := fun V hV => (World.cell?_of_block (a := ⟨wr.heap.size, 0, none⟩) (hV.block wr.heap.size (by rw [← hw1]; simp) (by simp))).trans (by rw [← hw1]; simp)
      have CX := hide (CRj.out w1 (grownBy_trans HG0.out G1.out))
      obtain ⟨k0, k1, k2, k3, k4⟩ := KEEP.out w1 G1.out
      clear HWB
      by_cases hl0 : l = 0
      · subst hl0
        by_cases hs0 : sv = 0
        · subst hs0
          have HLL := hide (HLj.out rfl rfl)
          clear HLj HTj
          go_wp2_with (go_at_call 48; clear hw1 k0 k1 k2 k3 k4; refine CX.out.mono ?_; rintro e w3 ⟨rfl, hg⟩; have G3 := hide (grownBy_trans G1.out hg); have d0 := K2.out w3 hg; clear hg)
          go_ret
          exact ⟨by rw [HLL.out]; rfl, grownBy_trans HG0.out G3.out⟩
        · have HX := hide (HB2.out (HTj.out (.inr hs0)))
          have hb : (sv == 0) = false := by simp [hs0]
          clear HLj HTj
          go_wp2_with (go_at_call 48; clear hw1 k0 k1 k2 k3 k4; refine CX.out.mono ?_; rintro e w3 ⟨rfl, hg⟩; have G3 := hide (grownBy_trans G1.out hg); have d0 := K2.out w3 hg; clear hg)
          go_roundw
          case rel => exact ⟨j + 1, by omega, by go_num, G3, HX⟩
          case measure => simp [intOf]; omega
      · have HX := hide (HB2.out (HTj.out (.inl hl0)))
        have hb : (l == 0) = false := by simp [hl0]
        clear HLj HTj
        go_wp2_with (go_at_call 48; clear hw1 k0 k1 k2 k3 k4; refine CX.out.mono ?_; rintro e w3 ⟨rfl, hg⟩; have G3 := hide (grownBy_trans G1.out hg); have d0 := K2.out w3 hg; clear hg)
        go_roundw
        case rel => exact ⟨j + 1, by omega, by go_num, G3, HX⟩
        case measure => simp [intOf]; omega
    · have HF := hide (HL2.out fun x hx => HB.out x (by omega))
      go_wp2
      go_ret
      exact ⟨by rw [HF.out]; rfl, grownBy_trans HG0.out HG.out⟩
#print axioms late_any
#print axioms bare_any
end Go.Proofs.YtehnklpjkcofcaaDoor

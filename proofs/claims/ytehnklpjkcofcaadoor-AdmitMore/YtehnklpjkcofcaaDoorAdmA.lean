/- Contracts of package admit's isHigh, missing and Response, proved over the translation. -/
import Derived.Test.YtehnklpjkcofcaaDoorAmath
import Derived.Test.YtehnklpjkcofcaaDoorLeast
import Derived.Test.YtehnklpjkcofcaaDoorFrm2
namespace Go.Proofs.YtehnklpjkcofcaaDoor
open Go.RowKit R6
attribute [local go_sem] alloc_drewN setCell_drewN

/-- Where a part of a list lies, in every world that has grown from this one. -/
theorem PartsAt.part {lo n c : Nat} {W : World} {a : Option Addr} {ps : List PartV} (h : PartsAt lo W (.slice a n c) ps) {P : Nat} (hP : P < ps.length) : ∃ g o ta tc ca cc, a = some ⟨g, o, none⟩ ∧ n = ps.length ∧
    Hid (∀ V, W.grownBy V none → V.cell? ⟨g, o + P * 3, none⟩ = some (.int .i64 (partAt ps P).level) ∧ V.cell? ⟨g, o + P * 3 + 1, none⟩ = some (.slice ta (partAt ps P).tasks.length tc) ∧ V.cell? ⟨g, o + P * 3 + 2, none⟩ = some (.slice ca (partAt ps P).code.length cc)) ∧
    Hid (∀ V, W.grownBy V none → RowAt shT lo V (.slice ta (partAt ps P).tasks.length tc) (partAt ps P).tasks) ∧ (partAt ps P).tasks.length ≤ 9223372036854775807 := by
  obtain ⟨qs, hlen, hrow, hel⟩ := h
  have hq : qs[P]? = some qs[P] := List.getElem?_eq_getElem (by omega)
  have hp := partAt_mem (ws := ps) (i := P) hP
  obtain ⟨h1, h2, h3⟩ := hel P _ _ hq hp
  obtain ⟨g, o, rfl⟩ := row_addr hrow (by obtain ⟨-, a2, c2, e, -⟩ := hrow; simp only [Value.slice.injEq] at e; omega)
  have hn : n = ps.length := by obtain ⟨-, a2, c2, e, -⟩ := hrow; simp only [Value.slice.injEq] at e; omega
  have et : ∃ ta tc, qs[P].tasks = .slice ta (partAt ps P).tasks.length tc := by obtain ⟨-, a2, c2, e, -⟩ := h2; exact ⟨a2, c2, e⟩
  have ec : ∃ ta tc, qs[P].code = .slice ta (partAt ps P).code.length tc := by obtain ⟨-, a2, c2, e, -⟩ := h3; exact ⟨a2, c2, e⟩
  obtain ⟨ta, tc, et⟩ := et
  obtain ⟨ca, cc, ec⟩ := ec
  refine ⟨g, o, ta, tc, ca, cc, rfl, hn, fun V hV => ⟨?_, ?_, ?_⟩, fun V hV => ?_, h2.1⟩
  · rw [← h1]; exact row_cell (S := shP) (hrow.grown hV) hq (k := 0) rfl
  · rw [← et]; exact row_cell (S := shP) (hrow.grown hV) hq (k := 1) rfl
  · rw [← ec]; exact row_cell (S := shP) (hrow.grown hV) hq (k := 2) rfl
  · rw [← et]; exact h2.grown hV
theorem PartsAt.len {lo n c : Nat} {W : World} {a : Option Addr} {ps : List PartV} (h : PartsAt lo W (.slice a n c) ps) : n = ps.length ∧ n ≤ 9223372036854775807 := by
  obtain ⟨qs, hlen, ⟨hl, a2, c2, e, -⟩, -⟩ := h
  simp only [Value.slice.injEq] at e
  omega

def highB (ps : List PartV) (p : Int) : Bool := decide (0 ≤ p) && (decide (p < ps.length) && decide ((partAt ps p.toNat).level = 1))
set_option maxRecDepth 100000 in
set_option maxHeartbeats 1000000 in
theorem high_any {lo : Nat} (v : Value) (ps : List PartV) (p : Int) (w : World) (hv : PartsAt lo w v ps) :
    Calls Tryd.prog 23 #[v, .int .i64 p] w fun e w' => e = .returned (.bool (highB ps p)) ∧ w.grownBy w' none := by
  have HV := hide hv
  obtain ⟨qs, hlen, ⟨hl, a, c, rfl, -⟩, -⟩ := hv
  unfold highB
  rw [hlen] at hl HV ⊢
  clear hlen
  by_cases h0 : p < 0
  · rw [decide_eq_false (by omega : ¬ (0 : Int) ≤ p)]
    simp only [Bool.false_and]
    generalize ps.length = n at *
    go_enter Tryd.func23, Tryd.ntmps23
    go_wp2
    go_ret
    exact ⟨rfl, grownBy_refl _ _⟩
  · rw [decide_eq_true (by omega : (0 : Int) ≤ p)]
    simp only [Bool.true_and]
    by_cases h1 : (ps.length : Int) ≤ p
    · rw [decide_eq_false (by omega : ¬ p < (ps.length : Int))]
      simp only [Bool.false_and]
      generalize ps.length = n at *
      go_enter Tryd.func23, Tryd.ntmps23
      go_wp2
      go_ret
      exact ⟨rfl, grownBy_refl _ _⟩
    · rw [decide_eq_true (by omega : p < (ps.length : Int))]
      simp only [Bool.true_and]
      obtain ⟨P, rfl⟩ : ∃ P : Nat, p = P := ⟨p.toNat, by omega⟩
      rw [Int.toNat_natCast]
      obtain ⟨g, o, ta, tc, ca, cc, rfl, -, HC, -, -⟩ := HV.out.part (P := P) (by omega)
      have c0 := (HC.out w (grownBy_refl _ _)).1
      clear HC
      generalize (partAt ps P).level = x at *
      generalize ps.length = n at *
      by_cases hx : x = 1
      · subst hx
        rw [decide_eq_true rfl]
        go_enter Tryd.func23, Tryd.ntmps23
        go_wp2
        go_ret
        exact ⟨rfl, grownBy_refl _ _⟩
      · rw [decide_eq_false hx]
        go_enter Tryd.func23, Tryd.ntmps23
        go_wp2
        go_ret
        exact ⟨by simp [hx], grownBy_refl _ _⟩

set_option maxRecDepth 100000 in
set_option maxHeartbeats 2000000 in
theorem missing_any {lo : Nat} (c : Value) (C : ConfV) (P I k : Nat) (hck : checkN C = 0) (hP : P < C.parts.length) (hI : I < (tasksOf C P).length) (hk : k ≤ 4096) (w : World) (hT : Tab w) (hc : ConfAt lo w c C) :
    Calls Tryd.prog 24 #[c, .int .i64 P, .int .i64 I, .int .i64 k] w fun e w' => e = .returned (.int .i64 (boundV (tasksOf C P) I k - leV C P k)) ∧ w.grownBy w' none := by
  have CL := hide (fun W (hg : w.grownBy W none) => least_any c C P k W (hT.grown hg) (hc.grown hg))
  obtain ⟨vp, vw, vo, rfl, hp, ⟨-, wa, wc, rfl, -⟩, ⟨-, oa, oc, rfl, -⟩⟩ := hc
  have HPP := hide hp
  obtain ⟨qs, hlen, ⟨hl, pa, pc, rfl, -⟩, -⟩ := hp
  obtain ⟨g, o, ta, tc, ca, cc, rfl, -, HC, HR, hl2⟩ := HPP.out.part (P := P) hP
  obtain ⟨ht6, hm⟩ := tasks_may hck hP
  have CB := hide (fun W (hg : w.grownBy W none) => bound_any _ (tasksOf C P) I k W (HR.out W hg) (fits_of hm) (by omega))
  obtain ⟨b1, b2⟩ := bound_bd hm ht6 hI hk
  obtain ⟨l1, l2⟩ := least_bd hck hP hk
  have HLE := hide (least_in hck hP hk).2
  have HBE := hide (bound_in hm hI hk).2
  rw [hlen] at hl CL ⊢
  have hPl : P < C.parts.length := hP
  clear hT HPP hm ht6 hlen hP HR hck hI
  rw [HLE.out] at CL
  rw [HBE.out] at CB
  clear HLE HBE
  change Hid (∀ W, w.grownBy W none → Calls Tryd.prog 43 #[.slice ta (partAt C.parts P).tasks.length tc, .int .i64 I, .int .i64 k] W fun e w' => e = .returned (.tuple #[.int .i64 (boundV (tasksOf C P) I k), .int .i64 0]) ∧ W.grownBy w' none) at CB
  generalize boundV (tasksOf C P) I k = bv at *
  generalize leV C P k = lv at *
  generalize (partAt C.parts P).level = lvl at *
  generalize (partAt C.parts P).tasks.length = tn at *
  generalize (partAt C.parts P).code.length = cn at *
  generalize C.frame = fr at *
  generalize C.quiet = qt at *
  generalize C.parts.length = n0 at *
  generalize C.wins.length = n1 at *
  generalize C.ports.length = n2 at *
  have HG0 := hide (World.grownBy_alloc w (.cells #[.int .i64 fr, .int .i64 qt, .slice (some ⟨g, o, none⟩) n0 pc, .slice wa n1 wc, .slice oa n2 oc] 26) none)
  have KEEP : Hid (∀ W, (w.alloc (.cells #[.int .i64 fr, .int .i64 qt, .slice (some ⟨g, o, none⟩) n0 pc, .slice wa n1 wc, .slice oa n2 oc] 26)).grownBy W none → W.cell? ⟨w.heap.size, 2, none⟩ = some (.slice (some ⟨g, o, none⟩) n0 pc)) := by
    intro W hW
    have b := fun k => World.cell?_of_block (a := ⟨w.heap.size, k, none⟩) (hW.block w.heap.size (by simp) (by simp))
    exact (b 2).trans (by simp)
  go_enter Tryd.func24, Tryd.ntmps24
  go_wp2_with (first | fail)
  refine (CL.out _ HG0.out).mono ?_; rintro e w1 ⟨rfl, hg⟩
  have G1 := hide (grownBy_trans HG0.out hg)
  have f2 := KEEP.out w1 hg
  have c1 := (HC.out w1 G1.out).2.1
  clear hg CL HG0 KEEP HC
  go_wp2_with (first | fail)
  refine (CB.out _ G1.out).mono ?_; rintro e w2 ⟨rfl, hg⟩
  have G2 := hide (grownBy_trans G1.out hg)
  clear hg CB
  go_wp2
  go_ret
  exact ⟨by go_num, G2.out⟩
#print axioms missing_any
end Go.Proofs.YtehnklpjkcofcaaDoor

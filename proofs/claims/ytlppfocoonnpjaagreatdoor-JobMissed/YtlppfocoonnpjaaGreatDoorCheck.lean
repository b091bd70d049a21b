/- The contract of package config's Check, proved over the translation. -/
import Derived.Test.YtlppfocoonnpjaaGreatDoorChkC
namespace Go.Proofs.YtlppfocoonnpjaaGreatDoor
open Go.RowKit
attribute [local go_sem] alloc_drewN setCell_drewN

def pz : PartV := ⟨0, [], []⟩
def partAt (ps : List PartV) (i : Nat) : PartV := ps[i]?.getD pz
theorem partAt_of {ps : List PartV} {i : Nat} {t : PartV} (h : ps[i]? = some t) : partAt ps i = t := by unfold partAt; rw [h]; rfl
def partsB (ps : List PartV) : Bool := decide (1 ≤ ps.length) && (decide (ps.length ≤ 8) && allB ps.length (fun i => levelB (partAt ps i).level))
/-- What is wrong with a configuration, the first of the chapter's row; 0: it may be. -/
def checkN (C : ConfV) : Int :=
  if frameB C.frame C.quiet = false then 501
  else if partsB C.parts = false then 502
  else if allB C.parts.length (fun i => tasksB (partAt C.parts i)) = false then 503
  else if winsB C.frame C.parts.length C.wins = false then 504
  else if portsB (C.parts.map PartV.level) C.ports = false then 505
  else if allB C.parts.length (fun i => codeMay (partAt C.parts i).code) = false then 506
  else 0

theorem part_of {qs : List PartM} {ps : List PartV} (hl : qs.length = ps.length) {i : Nat} {q : PartM} (hq : qs[i]? = some q) : ∃ p, ps[i]? = some p := by
  have hi : i < qs.length := by
    rcases Nat.lt_or_ge i qs.length with h | h
    · exact h
    · rw [List.getElem?_eq_none h] at hq; cases hq
  exact ⟨_, List.getElem?_eq_getElem (by omega)⟩
theorem levels_of {lo : Nat} {W : World} {qs : List PartM} {ps : List PartV} (hl : qs.length = ps.length) (h : ∀ (i : Nat) q p, qs[i]? = some q → ps[i]? = some p → PartIs lo W q p) : qs.map PartM.level = ps.map PartV.level := by
  apply List.ext_getElem?
  intro i
  rw [List.getElem?_map, List.getElem?_map]
  cases hq : qs[i]? with
  | none =>
    have : ps[i]? = none := by rw [List.getElem?_eq_none_iff] at hq ⊢; omega
    rw [this]; rfl
  | some q =>
    obtain ⟨p, hp⟩ := part_of hl hq
    rw [hp]
    exact congrArg some (h i q p hq hp).1

set_option maxRecDepth 100000 in
set_option maxHeartbeats 1000000 in
theorem parts_any {lo : Nat} (v : Value) (ps : List PartV) (w : World) (hv : PartsAt lo w v ps) :
    Calls Tryz.prog 76 #[v] w fun e w' => e = .returned (.bool (partsB ps)) ∧ w.grownBy w' none := by
  obtain ⟨qs, hlen, hrow, hel⟩ := hv
  have C := all_44 v qs (fun i => levelB (partAt ps i).level) w hrow (fun W hg i q hq => by
    obtain ⟨p, hp⟩ := part_of hlen hq
    rw [partAt_of hp, ← (hel i q p hq hp).1]
    exact level_any q W)
  rw [hlen] at C
  have HC := hide C
  unfold partsB
  obtain ⟨hl, a, cap, rfl, -⟩ := hrow
  rw [hlen] at hl ⊢
  clear C hel
  generalize allB ps.length (fun i => levelB (partAt ps i).level) = m at *
  rw [hlen] at HC
  clear hlen
  generalize ps.length = n at *
  by_cases h1 : 1 ≤ n
  · rw [decide_eq_true h1]
    simp only [Bool.true_and]
    by_cases h2 : n ≤ 8
    · rw [decide_eq_true h2]
      simp only [Bool.true_and]
      go_enter Tryz.func76, Tryz.ntmps76
      go_wp2_with (first | fail)
      refine HC.out.mono ?_; rintro e w2 ⟨rfl, hg⟩
      go_wp2
      go_ret
      exact ⟨rfl, hg⟩
    · rw [decide_eq_false h2]
      simp only [Bool.false_and]
      go_enter Tryz.func76, Tryz.ntmps76
      go_wp2
      go_ret
      exact ⟨rfl, grownBy_refl _ _⟩
  · rw [decide_eq_false h1]
    simp only [Bool.false_and]
    go_enter Tryz.func76, Tryz.ntmps76
    go_wp2
    go_ret
    exact ⟨rfl, grownBy_refl _ _⟩

set_option maxRecDepth 100000 in
set_option maxHeartbeats 4000000 in
theorem check_any {lo : Nat} (c : Value) (C : ConfV) (w : World) (hT : Tab w) (hc : ConfAt lo w c C) :
    Calls Tryz.prog 55 #[c] w fun e w' => e = .returned (.int .i64 (checkN C)) ∧ w.grownBy w' none := by
  obtain ⟨vp, vw, vo, rfl, hp, hw, ho⟩ := hc
  have hp0 := hp
  obtain ⟨qs, hlen, hrow, hel⟩ := hp
  have sp : ∃ a n c, vp = .slice a n c := by obtain ⟨_, a, cap, rfl, _⟩ := hrow; exact ⟨_, _, _, rfl⟩
  have sw : ∃ a n c, vw = .slice a n c := by obtain ⟨_, a, cap, rfl, _⟩ := hw; exact ⟨_, _, _, rfl⟩
  have so : ∃ a n c, vo = .slice a n c := by obtain ⟨_, a, cap, rfl, _⟩ := ho; exact ⟨_, _, _, rfl⟩
  have C1 := hide (fun W => frame_any C.frame C.quiet vp vw vo sp sw so W)
  have C2 := hide (fun W (hg : w.grownBy W none) => parts_any vp C.parts W (hp0.grown hg))
  have C3 := hide (fun W (hg : w.grownBy W none) => all_26 vp qs (fun i => tasksB (partAt C.parts i)) W (hrow.grown hg) (fun W2 hg2 i q hq => by
    obtain ⟨p, hpp⟩ := part_of hlen hq
    rw [partAt_of hpp]
    exact tasks_any q p W2 ((hel i q p hq hpp).kept (keep_grown (grownBy_trans hg hg2)))))
  have C5 := hide (fun W (hg : w.grownBy W none) => ports_any C.frame C.quiet vp vw vo qs (C.parts.map PartV.level) (levels_of hlen hel) C.ports sw W (hrow.grown hg) (ho.grown hg))
  have C6 := hide (fun W (hg : w.grownBy W none) => all_29 vp qs (fun i => codeMay (partAt C.parts i).code) W (hrow.grown hg) (fun W2 hg2 i q hq => by
    obtain ⟨p, hpp⟩ := part_of hlen hq
    rw [partAt_of hpp]
    exact code_any q p W2 (hT.grown (grownBy_trans hg hg2)) ((hel i q p hq hpp).kept (keep_grown (grownBy_trans hg hg2)))))
  have C4 : Hid (∀ W, w.grownBy W none → Calls Tryz.prog 79 #[.agg #[.int .i64 C.frame, .int .i64 C.quiet, vp, vw, vo]] W fun e w' => e = .returned (.bool (winsB C.frame C.parts.length C.wins)) ∧ W.grownBy w' none) := by
    intro W hg
    obtain ⟨hl, a, cap, rfl, -⟩ := hrow
    have := windows_any C.frame C.quiet a qs.length cap hl vw vo C.wins so W (hw.grown hg)
    rw [hlen] at this ⊢
    exact this
  rw [hlen] at C3 C6
  have KEEP : Hid (∀ W, (w.alloc (.cells #[.int .i64 C.frame, .int .i64 C.quiet, vp, vw, vo] 90)).grownBy W none → W.cell? ⟨w.heap.size, 0, none⟩ = some (.int .i64 C.frame) ∧ W.cell? ⟨w.heap.size, 1, none⟩ = some (.int .i64 C.quiet) ∧ W.cell? ⟨w.heap.size, 2, none⟩ = some vp ∧ W.cell? ⟨w.heap.size, 3, none⟩ = some vw ∧ W.cell? ⟨w.heap.size, 4, none⟩ = some vo) := by
    intro W hW
    have b := fun k => World.cell?_of_block (a := ⟨w.heap.size, k, none⟩) (hW.block w.heap.size (by simp) (by simp))
    exact ⟨(b 0).trans (by simp), (b 1).trans (by simp), (b 2).trans (by simp), (b 3).trans (by simp), (b 4).trans (by simp)⟩
  have HG0 := hide (World.grownBy_alloc w (.cells #[.int .i64 C.frame, .int .i64 C.quiet, vp, vw, vo] 90) none)
  obtain ⟨pa, pn, pc, rfl⟩ := sp
  obtain ⟨wa, wn, wc, rfl⟩ := sw
  obtain ⟨oa, on, oc, rfl⟩ := so
  clear hp0 hlen hrow hel hw ho hT
  have HE1 := hide (fun h1 : frameB C.frame C.quiet = false => show checkN C = 501 by simp [checkN, h1])
  have HE2 := hide (fun (h1 : frameB C.frame C.quiet = true) (h2 : partsB C.parts = false) => show checkN C = 502 by simp [checkN, h1, h2])
  have HE3 := hide (fun (h1 : frameB C.frame C.quiet = true) (h2 : partsB C.parts = true) (h3 : allB C.parts.length (fun i => tasksB (partAt C.parts i)) = false) => show checkN C = 503 by simp [checkN, h1, h2, h3])
  have HE4 := hide (fun (h1 : frameB C.frame C.quiet = true) (h2 : partsB C.parts = true) (h3 : allB C.parts.length (fun i => tasksB (partAt C.parts i)) = true) (h4 : winsB C.frame C.parts.length C.wins = false) => show checkN C = 504 by simp [checkN, h1, h2, h3, h4])
  have HE5 := hide (fun (h1 : frameB C.frame C.quiet = true) (h2 : partsB C.parts = true) (h3 : allB C.parts.length (fun i => tasksB (partAt C.parts i)) = true) (h4 : winsB C.frame C.parts.length C.wins = true) (h5 : portsB (C.parts.map PartV.level) C.ports = false) => show checkN C = 505 by simp [checkN, h1, h2, h3, h4, h5])
  have HE6 := hide (fun (h1 : frameB C.frame C.quiet = true) (h2 : partsB C.parts = true) (h3 : allB C.parts.length (fun i => tasksB (partAt C.parts i)) = true) (h4 : winsB C.frame C.parts.length C.wins = true) (h5 : portsB (C.parts.map PartV.level) C.ports = true) (h6 : allB C.parts.length (fun i => codeMay (partAt C.parts i).code) = false) => show checkN C = 506 by simp [checkN, h1, h2, h3, h4, h5, h6])
  have HE7 := hide (fun (h1 : frameB C.frame C.quiet = true) (h2 : partsB C.parts = true) (h3 : allB C.parts.length (fun i => tasksB (partAt C.parts i)) = true) (h4 : winsB C.frame C.parts.length C.wins = true) (h5 : portsB (C.parts.map PartV.level) C.ports = true) (h6 : allB C.parts.length (fun i => codeMay (partAt C.parts i).code) = true) => show checkN C = 0 by simp [checkN, h1, h2, h3, h4, h5, h6])
  generalize frameB C.frame C.quiet = b1 at *
  generalize partsB C.parts = b2 at *
  generalize allB C.parts.length (fun i => tasksB (partAt C.parts i)) = b3 at *
  generalize winsB C.frame C.parts.length C.wins = b4 at *
  generalize portsB (C.parts.map PartV.level) C.ports = b5 at *
  generalize allB C.parts.length (fun i => codeMay (partAt C.parts i).code) = b6 at *
  generalize C.frame = fr at *
  generalize C.quiet = qt at *
  go_enter Tryz.func55, Tryz.ntmps55
  go_wp2_with (first | fail)
  refine (C1.out _).mono ?_; rintro e w1 ⟨rfl, hg⟩
  have G1 := hide hg
  clear hg C1
  obtain ⟨f10, f11, f12, f13, f14⟩ := KEEP.out w1 G1.out
  cases b1 with
  | false =>
    go_wp2
    go_ret
    exact ⟨by rw [HE1.out (by simp)]; rfl, grownBy_trans HG0.out G1.out⟩
  | true =>
    go_wp2_with (first | fail)
    refine (C2.out _ (grownBy_trans HG0.out G1.out)).mono ?_; rintro e w2 ⟨rfl, hg⟩
    have G2 := hide (grownBy_trans G1.out hg)
    clear hg C2
    obtain ⟨f20, f21, f22, f23, f24⟩ := KEEP.out w2 G2.out
    cases b2 with
    | false =>
      go_wp2
      go_ret
      exact ⟨by rw [HE2.out (by simp) (by simp)]; rfl, grownBy_trans HG0.out G2.out⟩
    | true =>
      go_wp2_with (first | fail)
      refine (C3.out _ (grownBy_trans HG0.out G2.out)).mono ?_; rintro e w3 ⟨rfl, hg⟩
      have G3 := hide (grownBy_trans G2.out hg)
      clear hg C3
      obtain ⟨f30, f31, f32, f33, f34⟩ := KEEP.out w3 G3.out
      cases b3 with
      | false =>
        go_wp2
        go_ret
        exact ⟨by rw [HE3.out (by simp) (by simp) (by simp)]; rfl, grownBy_trans HG0.out G3.out⟩
      | true =>
        go_wp2_with (first | fail)
        refine (C4.out _ (grownBy_trans HG0.out G3.out)).mono ?_; rintro e w4 ⟨rfl, hg⟩
        have G4 := hide (grownBy_trans G3.out hg)
        clear hg C4
        obtain ⟨f40, f41, f42, f43, f44⟩ := KEEP.out w4 G4.out
        cases b4 with
        | false =>
          go_wp2
          go_ret
          exact ⟨by rw [HE4.out (by simp) (by simp) (by simp) (by simp)]; rfl, grownBy_trans HG0.out G4.out⟩
        | true =>
          go_wp2_with (first | fail)
          refine (C5.out _ (grownBy_trans HG0.out G4.out)).mono ?_; rintro e w5 ⟨rfl, hg⟩
          have G5 := hide (grownBy_trans G4.out hg)
          clear hg C5
          obtain ⟨f50, f51, f52, f53, f54⟩ := KEEP.out w5 G5.out
          cases b5 with
          | false =>
            go_wp2
            go_ret
            exact ⟨by rw [HE5.out (by simp) (by simp) (by simp) (by simp) (by simp)]; rfl, grownBy_trans HG0.out G5.out⟩
          | true =>
            go_wp2_with (first | fail)
            refine (C6.out _ (grownBy_trans HG0.out G5.out)).mono ?_; rintro e w6 ⟨rfl, hg⟩
            have G6 := hide (grownBy_trans G5.out hg)
            clear hg C6
            obtain ⟨f60, f61, f62, f63, f64⟩ := KEEP.out w6 G6.out
            cases b6 with
            | false =>
              go_wp2
              go_ret
              exact ⟨by rw [HE6.out (by simp) (by simp) (by simp) (by simp) (by simp) (by simp)]; rfl, grownBy_trans HG0.out G6.out⟩
            | true =>
              go_wp2
              go_ret
              exact ⟨by rw [HE7.out (by simp) (by simp) (by simp) (by simp) (by simp) (by simp)]; rfl, grownBy_trans HG0.out G6.out⟩

#print axioms check_any
end Go.Proofs.YtlppfocoonnpjaaGreatDoor

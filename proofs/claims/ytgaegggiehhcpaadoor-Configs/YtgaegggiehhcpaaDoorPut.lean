/- The contract of package config's Put, proved over the translation. -/
import Derived.Test.YtgaegggiehhcpaaDoorConf
namespace Go.Proofs.YtgaegggiehhcpaaDoor
open Go.RowKit
attribute [local go_sem] alloc_drewN setCell_drewN

/-! How long the bytes are of what may be. -/
theorem flat_le {α : Type} (f : α → List Int) (m : Nat) : ∀ xs : List α, (∀ x ∈ xs, (f x).length ≤ m) → (xs.flatMap f).length ≤ xs.length * m
  | [], _ => by simp
  | x :: xs, h => by
    have h1 := h x (by simp)
    have h2 := flat_le f m xs (fun y hy => h y (by simp [hy]))
    simp only [List.flatMap_cons, List.length_append, List.length_cons, Nat.add_mul]
    omega
theorem layAll_le {α : Type} (f : α → List Int) (m : Nat) (xs : List α) (h : ∀ x ∈ xs, (f x).length ≤ m) : (layAll f xs).length ≤ 1 + xs.length * m := by
  have := flat_le f m xs h
  rw [layAll, List.length_append, be_length 1 (.inl rfl)]; omega
theorem all_mem {ps : List PartV} {P : PartV → Bool} (h : allB ps.length (fun i => P (partAt ps i)) = true) : ∀ p ∈ ps, P p = true := by
  intro p hp
  obtain ⟨i, hi, rfl⟩ := List.getElem_of_mem hp
  have := allB_of h i hi
  rwa [partAt_of (List.getElem?_eq_getElem hi)] at this
/-- What a configuration that may be is. -/
theorem check_ok {C : ConfV} (h : checkN C = 0) : frameB C.frame C.quiet = true ∧ partsB C.parts = true ∧ allB C.parts.length (fun i => tasksB (partAt C.parts i)) = true ∧ winsB C.frame C.parts.length C.wins = true ∧ portsB (C.parts.map PartV.level) C.ports = true ∧ allB C.parts.length (fun i => codeMay (partAt C.parts i).code) = true := by
  unfold checkN at h
  cases h1 : frameB C.frame C.quiet <;> cases h2 : partsB C.parts <;> cases h3 : allB C.parts.length (fun i => tasksB (partAt C.parts i)) <;> cases h4 : winsB C.frame C.parts.length C.wins <;> cases h5 : portsB (C.parts.map PartV.level) C.ports <;> cases h6 : allB C.parts.length (fun i => codeMay (partAt C.parts i).code) <;> simp [h1, h2, h3, h4, h5, h6] at h ⊢
theorem layConf_le {C : ConfV} (h : checkN C = 0) : (layConf C).length ≤ 1728 := by
  obtain ⟨-, h2, h3, h4, h5, h6⟩ := check_ok h
  have hp : (layAll layPart C.parts).length ≤ 1 + C.parts.length * 191 := layAll_le _ _ _ (fun p hp => by
    have ht := all_mem (P := tasksB) h3 p hp
    have hc := all_mem (P := fun p => codeMay p.code) h6 p hp
    unfold tasksB at ht
    unfold codeMay at hc
    simp only [Bool.and_eq_true, decide_eq_true_eq] at ht hc
    have a1 := layAll_le layTask 10 p.tasks (fun t _ => by simp [layTask, be])
    have a2 := layAll_le layIns 2 p.code (fun t _ => by simp [layIns, be])
    simp only [layPart, List.length_append, be_length 1 (.inl rfl)]
    omega)
  have hw := layAll_le layWin 5 C.wins (fun t _ => by simp [layWin, be])
  have ho := layAll_le layPort 4 C.ports (fun t _ => by simp [layPort, be])
  unfold partsB at h2
  unfold winsB at h4
  unfold portsB at h5
  simp only [Bool.and_eq_true, decide_eq_true_eq] at h2 h4 h5
  simp only [layConf, List.length_append, be_length 1 (.inl rfl), be_length 2 (.inr rfl), List.length_cons, List.length_nil]
  omega

/-- What Put answers. -/
def putS (C : ConfV) : ByteArray := if checkN C = 0 then strOfNums (layConf C) else ⟨#[]⟩

theorem grown_below_new {w w2 w3 : World} {B : Nat} (h : w.grownBy w2 none) (hB : w.heap.size ≤ B) (h' : Below B w2 w3) : w.grownBy w3 none :=
  ⟨h'.os.trans h.os, h'.tape.trans h.tape, h'.output.trans h.output, Nat.le_trans h.size h'.size, fun k hk _ => (h'.block k (by omega)).trans (h.block k hk (by simp))⟩

set_option maxRecDepth 100000 in
set_option maxHeartbeats 2000000 in
theorem put_any {lo : Nat} (c : Value) (C : ConfV) (w : World) (hT : Tab w) (hc : ConfAt lo w c C) :
    Calls Tryd.prog 11 #[c] w fun e w' => e = .returned (.tuple #[.string (putS C), .int .i64 (checkN C)]) ∧ w.grownBy w' none := by
  obtain ⟨vp, vw, vo, rfl, hpp, hww, hoo⟩ := hc
  have sp : ∃ a n c, vp = .slice a n c := by obtain ⟨_, _, ⟨_, a, cap, rfl, _⟩, _⟩ := hpp; exact ⟨_, _, _, rfl⟩
  have sw : ∃ a n c, vw = .slice a n c := by obtain ⟨_, a, cap, rfl, _⟩ := hww; exact ⟨_, _, _, rfl⟩
  have so : ∃ a n c, vo = .slice a n c := by obtain ⟨_, a, cap, rfl, _⟩ := hoo; exact ⟨_, _, _, rfl⟩
  have HC := hide (show ConfAt lo w (.agg #[.int .i64 C.frame, .int .i64 C.quiet, vp, vw, vo]) C from ⟨vp, vw, vo, rfl, hpp, hww, hoo⟩)
  clear hpp hww hoo
  have HG0 := hide (World.grownBy_alloc w (.cells #[.int .i64 C.frame, .int .i64 C.quiet, vp, vw, vo] 26) none)
  have CK := hide (check_any _ C _ (hT.grown HG0.out) (HC.out.grown HG0.out))
  clear hT
  obtain ⟨pa, pn, pc, rfl⟩ := sp
  obtain ⟨wa, wn, wc, rfl⟩ := sw
  obtain ⟨oa, on, oc, rfl⟩ := so
  have KEEP : Hid (∀ W, (w.alloc (.cells #[.int .i64 C.frame, .int .i64 C.quiet, .slice pa pn pc, .slice wa wn wc, .slice oa on oc] 26)).grownBy W none → W.cell? ⟨w.heap.size, 0, none⟩ = some (.int .i64 C.frame) ∧ W.cell? ⟨w.heap.size, 1, none⟩ = some (.int .i64 C.quiet) ∧ W.cell? ⟨w.heap.size, 2, none⟩ = some (.slice pa pn pc) ∧ W.cell? ⟨w.heap.size, 3, none⟩ = some (.slice wa wn wc) ∧ W.cell? ⟨w.heap.size, 4, none⟩ = some (.slice oa on oc)) := by
    intro W hW
    have b := fun k => World.cell?_of_block (a := ⟨w.heap.size, k, none⟩) (hW.block w.heap.size (by simp) (by simp))
    exact ⟨(b 0).trans (by simp), (b 1).trans (by simp), (b 2).trans (by simp), (b 3).trans (by simp), (b 4).trans (by simp)⟩
  have HLEN := hide (fun h : checkN C = 0 => layConf_le h)
  have HP1 := hide (fun h : checkN C = 0 => show putS C = strOfNums (layConf C) from if_pos h)
  have HP2 := hide (fun h : checkN C ≠ 0 => show putS C = ⟨#[]⟩ from if_neg h)
  generalize checkN C = k at *
  have HCF := hide (show ∀ b w2 w3, WAt w2 b (.slice none 0 0) [] → w.grownBy w3 none → w3.heap.size ≤ b → Below b w3 w2 → (layConf C).length ≤ 1000000 → Calls Tryd.prog 30 #[.pointer (some ⟨b, 0, none⟩), .agg #[.int .i64 C.frame, .int .i64 C.quiet, .slice pa pn pc, .slice wa wn wc, .slice oa on oc]] w2 fun e w' => e = .returned (.tuple #[]) ∧ ∃ v', WAt w' b v' (layConf C) ∧ Wrote b (.slice none 0 0) w2 v' w' from fun b w2 w3 h1 h2 h3 h4 h5 => layConf_any b _ C w3 w2 h1 (HC.out.grown h2) h3 h4 h5)
  clear HC
  generalize C.frame = fr at *
  generalize C.quiet = qt at *
  by_cases hk : k = 0
  · have hl := HLEN.out hk
    have HS := hide (HP1.out hk)
    subst hk
    clear HP1 HP2 HLEN
    go_enter Tryd.func11, Tryd.ntmps11
    go_wp2_with (first | fail)
    refine CK.out.mono ?_; rintro e w2 ⟨rfl, hg⟩
    have G2 := hide hg
    obtain ⟨f0, f1, f2, f3, f4⟩ := KEEP.out w2 hg
    have hb2 : w.heap.size < w2.heap.size := World.block_lt_of_cell? w2 _ f0
    have hbn : w.heap.size ≠ w2.heap.size := by omega
    clear hg CK
    have HW2 := hide (show WAt (w2.alloc (.cells #[.slice none 0 0] 70)) w2.heap.size (.slice none 0 0) [] from ⟨heap_alloc_new w2 _, rfl, .inl ⟨rfl, rfl⟩⟩)
    go_wp2_with (first | fail)
    refine (HCF.out w2.heap.size _ w2 HW2.out (grownBy_trans HG0.out G2.out) (Nat.le_refl _) (below_grown (World.grownBy_alloc _ _ _) (Nat.le_refl _)) (by omega)).mono ?_; rintro e w3 ⟨rfl, v3, hw3, hr3⟩
    have HB3 := hide (below_trans (below_grown (World.grownBy_alloc w2 (.cells #[.slice none 0 0] 70) none) (Nat.le_refl _)) (hr3.below HW2.out))
    have g1 := box_cell hw3.1
    obtain ⟨a3, c3, rfl⟩ := own_form hw3.2
    have hcv := conv_own hw3.2
    clear hw3 hr3 HW2 HCF
    generalize hn : (layConf C).length = n at *
    clear hn
    go_wp2
    go_ret2
    exact ⟨by rw [HS.out]; rfl, grown_below_new (grownBy_trans HG0.out G2.out) (by omega) HB3.out⟩
  · have HS := hide (HP2.out hk)
    clear HP1 HP2 HLEN HCF
    go_enter Tryd.func11, Tryd.ntmps11
    go_wp2_with (first | fail)
    refine CK.out.mono ?_; rintro e w2 ⟨rfl, hg⟩
    have G2 := hide hg
    clear hg CK
    go_wp2
    go_ret2
    exact ⟨by rw [HS.out]; rfl, grownBy_trans HG0.out G2.out⟩
#print axioms put_any
end Go.Proofs.YtgaegggiehhcpaaDoor

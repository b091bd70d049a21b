/- The walk of the statement ConfigBack: there and back; proved over the translation. -/
import Derived.Test.YtgaegggiehhcpaaDoorThere3
import Derived.Test.YtgaegggiehhcpaaDoorAwake
namespace Go.Proofs.YtgaegggiehhcpaaDoor
open Go.RowKit
attribute [local go_sem] alloc_drewN setCell_drewN

theorem conf_form2 {lo : Nat} {W : World} {c : Value} {C : ConfV} (h : ConfAt lo W c C) : ∃ pa pc wa wc oa oc, c = .agg #[.int .i64 C.frame, .int .i64 C.quiet, .slice pa C.parts.length pc, .slice wa C.wins.length wc, .slice oa C.ports.length oc] := by
  obtain ⟨vp, vw, vo, rfl, ⟨qs, hq, ⟨_, a1, c1, rfl, _⟩, _⟩, ⟨_, a2, c2, rfl, _⟩, ⟨_, a3, c3, rfl, _⟩⟩ := h
  rw [hq]
  exact ⟨_, _, _, _, _, _, rfl⟩
theorem nums_cut (s : ByteArray) (k : Nat) : nums (s.extract 0 k) = (nums s).take k := by
  rw [nums_extract, List.drop_zero, Nat.sub_zero]
theorem nums_x (s : ByteArray) : nums (s ++ ⟨#[120]⟩) = nums s ++ [120] := by
  unfold nums
  rw [ByteArray.data_append]
  simp
theorem put_size {C : ConfV} (h : checkN C = 0) : (putS C).size = (layConf C).length ∧ 1 ≤ (layConf C).length ∧ (layConf C).length ≤ 65536 ∧ nums (putS C) = layConf C := by
  have e : putS C = strOfNums (layConf C) := if_pos h
  refine ⟨by rw [e, strOfNums_size], by simp [layConf], by have := layConf_le h; omega, by rw [e]; exact nums_str _ (layConf_bytes C)⟩

set_option maxRecDepth 100000 in
set_option maxHeartbeats 2000000 in
theorem configBack_any {lo : Nat} (c : Value) (C : ConfV) (s : ByteArray) (hs : s.size ≤ 9223372036854775807) (cut : Int) (w : World) (hT : Tab w) (hc : ConfAt lo w c C) :
    Calls Tryd.prog 4 #[c, .string s, .int .i64 cut] w fun e w' => e = .returned (.bool true) ∧ w.grownBy w' none := by
  have NUM : Hid (∀ (e : Int) (W : World), Calls Tryd.prog 15 #[.int .i64 e] W fun r w' => r = .returned (.int .i64 e) ∧ W = w') := fun e W => (num_any e W).mono fun _ _ h => ⟨h.1, h.2.symm⟩
  have CA := hide (fun W (hg : w.grownBy W none) => awake_any W (hT.grown hg))
  have CP := hide (fun W (hg : w.grownBy W none) => put_any c C W (hT.grown hg) (hc.grown hg))
  have CK := hide (fun W (hg : w.grownBy W none) => check_any c C W (hT.grown hg) (hc.grown hg))
  have CG := hide (fun x hx W (hg : w.grownBy W none) => get_any x hx W (hT.grown hg))
  have CS := hide (fun c' lo' W (hg : w.grownBy W none) (h : ConfAt lo' W c' C) => same_conf c' c C W h (hc.grown hg))
  have HT := hide (fun W (hg : w.grownBy W none) => hT.grown hg)
  obtain ⟨pa, pc, wa, wc, oa, oc, rfl⟩ := conf_form2 hc
  clear hT hc
  have A0 := hide (World.grownBy_alloc w (.cells #[.int .i64 C.frame, .int .i64 C.quiet, .slice pa C.parts.length pc, .slice wa C.wins.length wc, .slice oa C.ports.length oc] 26) none)
  have X0 := hide (heap_alloc_new w (.cells #[.int .i64 C.frame, .int .i64 C.quiet, .slice pa C.parts.length pc, .slice wa C.wins.length wc, .slice oa C.ports.length oc] 26))
  -- the last part, from whatever world it begins in
  go_enter Tryd.func4, Tryd.ntmps4
  go_wp2_with (first | fail)
  refine (CA.out _ A0.out).mono ?_; rintro e w1 ⟨rfl, hg⟩
  have G1 := hide (grownBy_trans A0.out hg)
  have X1 := hide (box_grown X0.out hg (by simp))
  clear hg CA
  have k0 : w1.cell? ⟨w.heap.size, 0, none⟩ = some (.int .i64 C.frame) := blk_cell X1.out 0
  have k1 : w1.cell? ⟨w.heap.size, 1, none⟩ = some (.int .i64 C.quiet) := blk_cell X1.out 1
  have k2 : w1.cell? ⟨w.heap.size, 2, none⟩ = some (.slice pa C.parts.length pc) := blk_cell X1.out 2
  have k3 : w1.cell? ⟨w.heap.size, 3, none⟩ = some (.slice wa C.wins.length wc) := blk_cell X1.out 3
  have k4 : w1.cell? ⟨w.heap.size, 4, none⟩ = some (.slice oa C.ports.length oc) := blk_cell X1.out 4
  go_wp2_with (first | fail)
  refine (CP.out _ G1.out).mono ?_; rintro e w2 ⟨rfl, hg⟩
  have G2 := hide (grownBy_trans G1.out hg)
  have X2 := hide (box_grown X1.out hg (by simp))
  clear hg CP k0 k1 k2 k3 k4
  have k0 : w2.cell? ⟨w.heap.size, 0, none⟩ = some (.int .i64 C.frame) := blk_cell X2.out 0
  have k1 : w2.cell? ⟨w.heap.size, 1, none⟩ = some (.int .i64 C.quiet) := blk_cell X2.out 1
  have k2 : w2.cell? ⟨w.heap.size, 2, none⟩ = some (.slice pa C.parts.length pc) := blk_cell X2.out 2
  have k3 : w2.cell? ⟨w.heap.size, 3, none⟩ = some (.slice wa C.wins.length wc) := blk_cell X2.out 3
  have k4 : w2.cell? ⟨w.heap.size, 4, none⟩ = some (.slice oa C.ports.length oc) := blk_cell X2.out 4
  go_wp2_with (first | fail)
  refine (CK.out _ G2.out).mono ?_; rintro e w3 ⟨rfl, hg⟩
  have G3 := hide (grownBy_trans G2.out hg)
  have X3 := hide (box_grown X2.out hg (by simp))
  clear hg CK k0 k1 k2 k3 k4
  by_cases hck : checkN C = 0
  · have HPG := hide (get_put hck)
    have HPS := hide (put_size hck)
    have HCUT := hide (fun x k hk hx => get_cut hck x k hk hx)
    have HMORE := hide (fun x hx => get_more hck x 120 hx)
    rw [hck]
    generalize putS C = A at *
    have z1 : 1 ≤ A.size := by have := HPS.out; omega
    have z2 : A.size ≤ 65536 := by have := HPS.out; omega
    obtain ⟨k, hk, hkw⟩ : ∃ k : Nat, k < A.size ∧ (IntKind.u64.wrap cut).tmod (A.size : Int) = k := by
      have h0 : 0 ≤ IntKind.u64.wrap cut := by rw [IntKind.wrap_u64]; omega
      rw [Int.tmod_eq_emod_of_nonneg h0]
      generalize IntKind.u64.wrap cut = x at *
      have h1 := Int.emod_lt_of_pos x (show 0 < (A.size : Int) by omega)
      have h2 := Int.emod_nonneg x (show (A.size : Int) ≠ 0 by omega)
      exact ⟨(x % (A.size : Int)).toNat, by omega, by omega⟩
    have E4 := hide (HCUT.out (A.extract 0 k) k (by have := HPS.out.1; omega) (by rw [nums_cut A k, HPS.out.2.2.2]))
    have E5 := hide (HMORE.out (A ++ ⟨#[120]⟩) (by rw [nums_x, HPS.out.2.2.2]))
    obtain ⟨e1, e2⟩ := HPG.out
    have E1 := hide e1
    have E2 := hide e2
    have hA0 : ((A.size : Int) == 0) = false := by rw [beq_eq_false_iff_ne]; omega
    clear HPG HPS HCUT HMORE hck e1 e2
    go_wp2_with (go_at_call 15; refine (NUM.out _ _).mono ?_; rintro e w' ⟨rfl, rfl⟩)
    refine (CG.out A (by omega) _ G3.out).mono ?_; rintro e w4 ⟨c4, rfl, ho, hg⟩
    rw [E1.out]
    rw [E2.out] at ho
    have O4 := hide ho.at
    obtain ⟨pa4, pc4, wa4, wc4, oa4, oc4, hc4⟩ := conf_form2 O4.out
    subst hc4
    have G4 := hide (grownBy_trans G3.out hg)
    have X4 := hide (box_grown X3.out hg (by simp))
    clear hg ho
    have A4 := hide (World.grownBy_alloc w4 (.cells #[.int .i64 C.frame, .int .i64 C.quiet, .slice pa4 C.parts.length pc4, .slice wa4 C.wins.length wc4, .slice oa4 C.ports.length oc4] 26) none)
    have Y4 := hide (heap_alloc_new w4 (.cells #[.int .i64 C.frame, .int .i64 C.quiet, .slice pa4 C.parts.length pc4, .slice wa4 C.wins.length wc4, .slice oa4 C.ports.length oc4] 26))
    go_wp2_with (first | fail)
    refine (CG.out (A.extract 0 k) (by rw [ByteArray.size_extract]; omega) _ (grownBy_trans G4.out A4.out)).mono ?_; rintro e w5 ⟨c5, rfl, ho, hg⟩
    rw [E4.out]
    generalize getC (A.extract 0 k) = D5 at *
    obtain ⟨pa5, pc5, wa5, wc5, oa5, oc5, hc5⟩ := conf_form2 ho.at
    subst hc5
    have G5 := hide (grownBy_trans (grownBy_trans G4.out A4.out) hg)
    have X5 := hide (box_grown (box_grown X4.out A4.out (by simp)) hg (by simp))
    have Y5 := hide (box_grown Y4.out hg (by simp))
    have O5 := hide (O4.out.grown (grownBy_trans A4.out hg))
    clear hg ho
    have hsz5 := hide (show (A ++ (⟨#[120]⟩ : ByteArray)).size ≤ 9223372036854775807 by rw [ByteArray.size_append]; have e1 : (⟨#[120]⟩ : ByteArray).size = 1 := rfl; rw [e1]; omega)
    have A5 := hide (World.grownBy_alloc w5 (.cells #[.int .i64 D5.frame, .int .i64 D5.quiet, .slice pa5 D5.parts.length pc5, .slice wa5 D5.wins.length wc5, .slice oa5 D5.ports.length oc5] 26) none)
    go_wp2_with (first | fail)
    generalize hX : (A ++ (_ : ByteArray)) = X
    have hszX : X.size ≤ 9223372036854775807 := by rw [← hX]; exact hsz5.out
    have hEX : getE X = 500 := by rw [← hX]; exact E5.out
    clear hX hsz5 E5
    refine (CG.out X hszX _ (grownBy_trans G5.out A5.out)).mono ?_; rintro e w6 ⟨c6, rfl, ho, hg⟩
    rw [hEX]
    clear hEX hszX
    generalize getC X = D6 at *
    obtain ⟨pa6, pc6, wa6, wc6, oa6, oc6, hc6⟩ := conf_form2 ho.at
    subst hc6
    have G6 := hide (grownBy_trans (grownBy_trans G5.out A5.out) hg)
    have X6 := hide (box_grown (box_grown X5.out A5.out (by simp)) hg (by simp))
    have Y6 := hide (box_grown (box_grown Y5.out A5.out (by simp)) hg (by simp))
    have O6 := hide (O5.out.grown (grownBy_trans A5.out hg))
    clear hg ho
    have A6 := hide (World.grownBy_alloc w6 (.cells #[.int .i64 D6.frame, .int .i64 D6.quiet, .slice pa6 D6.parts.length pc6, .slice wa6 D6.wins.length wc6, .slice oa6 D6.ports.length oc6] 26) none)
    have X6b := hide (box_grown X6.out A6.out (by simp))
    have Y6b := hide (box_grown Y6.out A6.out (by simp))
    have k0 : (w6.alloc (.cells #[.int .i64 D6.frame, .int .i64 D6.quiet, .slice pa6 D6.parts.length pc6, .slice wa6 D6.wins.length wc6, .slice oa6 D6.ports.length oc6] 26)).cell? ⟨w.heap.size, 0, none⟩ = some (.int .i64 C.frame) := blk_cell X6b.out 0
    have k1 : (w6.alloc (.cells #[.int .i64 D6.frame, .int .i64 D6.quiet, .slice pa6 D6.parts.length pc6, .slice wa6 D6.wins.length wc6, .slice oa6 D6.ports.length oc6] 26)).cell? ⟨w.heap.size, 1, none⟩ = some (.int .i64 C.quiet) := blk_cell X6b.out 1
    have k2 : (w6.alloc (.cells #[.int .i64 D6.frame, .int .i64 D6.quiet, .slice pa6 D6.parts.length pc6, .slice wa6 D6.wins.length wc6, .slice oa6 D6.ports.length oc6] 26)).cell? ⟨w.heap.size, 2, none⟩ = some (.slice pa C.parts.length pc) := blk_cell X6b.out 2
    have k3 : (w6.alloc (.cells #[.int .i64 D6.frame, .int .i64 D6.quiet, .slice pa6 D6.parts.length pc6, .slice wa6 D6.wins.length wc6, .slice oa6 D6.ports.length oc6] 26)).cell? ⟨w.heap.size, 3, none⟩ = some (.slice wa C.wins.length wc) := blk_cell X6b.out 3
    have k4 : (w6.alloc (.cells #[.int .i64 D6.frame, .int .i64 D6.quiet, .slice pa6 D6.parts.length pc6, .slice wa6 D6.wins.length wc6, .slice oa6 D6.ports.length oc6] 26)).cell? ⟨w.heap.size, 4, none⟩ = some (.slice oa C.ports.length oc) := blk_cell X6b.out 4
    have y0 : (w6.alloc (.cells #[.int .i64 D6.frame, .int .i64 D6.quiet, .slice pa6 D6.parts.length pc6, .slice wa6 D6.wins.length wc6, .slice oa6 D6.ports.length oc6] 26)).cell? ⟨w4.heap.size, 0, none⟩ = some (.int .i64 C.frame) := blk_cell Y6b.out 0
    have y1 : (w6.alloc (.cells #[.int .i64 D6.frame, .int .i64 D6.quiet, .slice pa6 D6.parts.length pc6, .slice wa6 D6.wins.length wc6, .slice oa6 D6.ports.length oc6] 26)).cell? ⟨w4.heap.size, 1, none⟩ = some (.int .i64 C.quiet) := blk_cell Y6b.out 1
    have y2 : (w6.alloc (.cells #[.int .i64 D6.frame, .int .i64 D6.quiet, .slice pa6 D6.parts.length pc6, .slice wa6 D6.wins.length wc6, .slice oa6 D6.ports.length oc6] 26)).cell? ⟨w4.heap.size, 2, none⟩ = some (.slice pa4 C.parts.length pc4) := blk_cell Y6b.out 2
    have y3 : (w6.alloc (.cells #[.int .i64 D6.frame, .int .i64 D6.quiet, .slice pa6 D6.parts.length pc6, .slice wa6 D6.wins.length wc6, .slice oa6 D6.ports.length oc6] 26)).cell? ⟨w4.heap.size, 3, none⟩ = some (.slice wa4 C.wins.length wc4) := blk_cell Y6b.out 3
    have y4 : (w6.alloc (.cells #[.int .i64 D6.frame, .int .i64 D6.quiet, .slice pa6 D6.parts.length pc6, .slice wa6 D6.wins.length wc6, .slice oa6 D6.ports.length oc6] 26)).cell? ⟨w4.heap.size, 4, none⟩ = some (.slice oa4 C.ports.length oc4) := blk_cell Y6b.out 4
    have n1 : w.heap.size ≠ w6.heap.size := by have := box_lt X6.out; omega
    have n2 : w4.heap.size ≠ w6.heap.size := by have := box_lt Y6.out; omega
    have CSX := hide (CS.out _ _ _ (grownBy_trans G6.out A6.out) (O6.out.grown A6.out))
    go_wp2_with (first | (go_at_call 15; refine (NUM.out _ _).mono ?_; rintro e w' ⟨rfl, rfl⟩) | (go_at_call 17; refine CSX.out.mono ?_; rintro e w7 ⟨rfl, hg⟩; have G7 := hide (grownBy_trans (grownBy_trans G6.out A6.out) hg); clear hg))
    refine (CG.out s hs _ G7.out).mono ?_; rintro e w8 ⟨c8, rfl, ho, hg⟩
    have G8 := hide (grownBy_trans G7.out hg)
    clear hg
    by_cases hE : getE s = 0
    · have HPG := hide (put_get hE)
      rw [hE]
      have O8 := hide ho.at
      clear ho
      generalize getC s = D at *
      obtain ⟨pa8, pc8, wa8, wc8, oa8, oc8, hc8⟩ := conf_form2 O8.out
      subst hc8
      have A8 := hide (World.grownBy_alloc w8 (.cells #[.int .i64 D.frame, .int .i64 D.quiet, .slice pa8 D.parts.length pc8, .slice wa8 D.wins.length wc8, .slice oa8 D.ports.length oc8] 26) none)
      have CP2 := hide (put_any _ D _ (HT.out _ (grownBy_trans G8.out A8.out)) (O8.out.grown A8.out))
      rw [HPG.out.1, HPG.out.2] at CP2
      go_wp2_with (first | (go_at_call 15; refine (NUM.out _ _).mono ?_; rintro e w' ⟨rfl, rfl⟩) | (go_at_call 11; refine CP2.out.mono ?_; rintro e w9 ⟨rfl, hg⟩; have G9 := hide (grownBy_trans (grownBy_trans G8.out A8.out) hg); clear hg))
      go_ret
      exact ⟨by simp, G9.out⟩
    · have hE2 : (getE s != 0) = true := by simp [hE]
      have hcz : getC s = cz := if_neg hE
      rw [hcz] at ho
      obtain ⟨pa8, pc8, wa8, wc8, oa8, oc8, hc8⟩ := conf_form2 ho.at
      subst hc8
      have z0 : cz.frame = 0 := rfl
      have z3 : cz.parts.length = 0 := rfl
      clear ho hcz hE
      generalize getE s = E at *
      rw [z0, z3]
      generalize cz.quiet = qz at *
      generalize cz.wins.length = nz1 at *
      generalize cz.ports.length = nz2 at *
      have A8 := hide (World.grownBy_alloc w8 (.cells #[.int .i64 0, .int .i64 qz, .slice pa8 0 pc8, .slice wa8 nz1 wc8, .slice oa8 nz2 oc8] 26) none)
      go_wp2_with (go_at_call 15; refine (NUM.out _ _).mono ?_; rintro e w' ⟨rfl, rfl⟩)
      go_ret
      exact ⟨rfl, grownBy_trans G8.out A8.out⟩
  · have HP0 := hide (show putS C = ⟨#[]⟩ from if_neg hck)
    rw [HP0.out]
    generalize checkN C = K at *
    have hck2 : (K != 0) = true := by simp [hck]
    have hck3 : (K == 0) = false := by simp [hck]
    go_wp2_with (go_at_call 15; refine (NUM.out _ _).mono ?_; rintro e w' ⟨rfl, rfl⟩)
    refine (CG.out s hs _ G3.out).mono ?_; rintro e w8 ⟨c8, rfl, ho, hg⟩
    have G8 := hide (grownBy_trans G3.out hg)
    clear hg
    by_cases hE : getE s = 0
    · have HPG := hide (put_get hE)
      rw [hE]
      have O8 := hide ho.at
      clear ho
      generalize getC s = D at *
      obtain ⟨pa8, pc8, wa8, wc8, oa8, oc8, hc8⟩ := conf_form2 O8.out
      subst hc8
      have A8 := hide (World.grownBy_alloc w8 (.cells #[.int .i64 D.frame, .int .i64 D.quiet, .slice pa8 D.parts.length pc8, .slice wa8 D.wins.length wc8, .slice oa8 D.ports.length oc8] 26) none)
      have CP2 := hide (put_any _ D _ (HT.out _ (grownBy_trans G8.out A8.out)) (O8.out.grown A8.out))
      rw [HPG.out.1, HPG.out.2] at CP2
      go_wp2_with (first | (go_at_call 15; refine (NUM.out _ _).mono ?_; rintro e w' ⟨rfl, rfl⟩) | (go_at_call 11; refine CP2.out.mono ?_; rintro e w9 ⟨rfl, hg⟩; have G9 := hide (grownBy_trans (grownBy_trans G8.out A8.out) hg); clear hg))
      go_ret
      exact ⟨by simp, G9.out⟩
    · have hE2 : (getE s != 0) = true := by simp [hE]
      have hcz : getC s = cz := if_neg hE
      rw [hcz] at ho
      obtain ⟨pa8, pc8, wa8, wc8, oa8, oc8, hc8⟩ := conf_form2 ho.at
      subst hc8
      have z0 : cz.frame = 0 := rfl
      have z3 : cz.parts.length = 0 := rfl
      clear ho hcz hE
      generalize getE s = E at *
      rw [z0, z3]
      generalize cz.quiet = qz at *
      generalize cz.wins.length = nz1 at *
      generalize cz.ports.length = nz2 at *
      have A8 := hide (World.grownBy_alloc w8 (.cells #[.int .i64 0, .int .i64 qz, .slice pa8 0 pc8, .slice wa8 nz1 wc8, .slice oa8 nz2 oc8] 26) none)
      go_wp2_with (go_at_call 15; refine (NUM.out _ _).mono ?_; rintro e w' ⟨rfl, rfl⟩)
      go_ret
      exact ⟨rfl, grownBy_trans G8.out A8.out⟩
#print axioms configBack_any
end Go.Proofs.YtgaegggiehhcpaaDoor

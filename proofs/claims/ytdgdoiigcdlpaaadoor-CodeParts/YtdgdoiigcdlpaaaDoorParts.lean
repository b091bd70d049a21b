/- The walk of the statement CodeParts: bytes of a program are those of its instructions; one more is laid with two bytes more; proved over the translation. -/
import Derived.Test.YtdgdoiigcdlpaaaDoorBack
namespace Go.Proofs.YtdgdoiigcdlpaaaDoor
open Go.RowKit
attribute [local go_sem] alloc_drewN setCell_drewN

theorem and255 (z : Int) : ∃ c : Int, 0 ≤ c ∧ c < 256 ∧ bits .and .i64 z 255 = c ∧ IntKind.u8.wrap z = c := by
  refine ⟨z % 256, by omega, by omega, ?_, by rw [IntKind.wrap_u8]⟩
  have h255 : (BitVec.ofInt 64 255).toNat = 2 ^ 8 - 1 := by decide
  have key : (BitVec.ofInt 64 z &&& BitVec.ofInt 64 255).toNat = (z % ((2 ^ 64 : Nat) : Int)).toNat % 2 ^ 8 := by
    rw [BitVec.toNat_and, BitVec.toNat_ofInt, h255, Nat.and_two_pow_sub_one_eq_mod]
  show IntKind.i64.wrap ((BitVec.ofInt 64 z &&& BitVec.ofInt 64 255).toNat : Nat) = z % 256
  rw [key, IntKind.wrap_i64]
  omega
/-- Where there is one instruction more, what may be still may. -/
theorem insMay_more {N : Nat} {x : Ins} (h : insMay N x = true) : insMay (N + 1 : Nat) x = true := by
  unfold insMay at h ⊢
  simp only [Bool.and_eq_true, decide_eq_true_eq] at h ⊢
  refine ⟨h.1, h.2.1, Int.lt_of_lt_of_le h.2.2 ?_⟩
  unfold most
  split <;> omega
theorem codeMay_more {zs : List Ins} {c : Int} (h : codeMay zs = true) (hl : zs.length < 64) (h0 : 0 ≤ c) (h1 : c < 256) : codeMay (zs ++ [(1, c)]) = true := by
  obtain ⟨_, hall⟩ := codeMay_true h
  unfold codeMay
  rw [List.length_append, List.length_singleton, decide_eq_true (by omega), Bool.true_and, List.all_append, Bool.and_eq_true]
  constructor
  · rw [List.all_eq_true]
    intro x hx
    obtain ⟨j, hj, rfl⟩ := List.getElem_of_mem hx
    have := hall j hj
    rw [List.getElem?_eq_getElem hj] at this
    exact insMay_more this
  · have hm : most 1 ((zs.length + 1 : Nat) : Int) = 256 := rfl
    simp only [List.all_cons, List.all_nil, Bool.and_true]
    unfold insMay
    dsimp only
    rw [hm, decide_eq_true h0, decide_eq_true h1]
    rfl
theorem strOfNums_append (a b : List Int) : strOfNums (a ++ b) = strOfNums a ++ strOfNums b := by
  have : (strOfNums (a ++ b)).data = (strOfNums a ++ strOfNums b).data := by
    rw [ByteArray.data_append]
    simp [strOfNums]
  exact ByteArray.ext this
theorem codeMay_long' {zs : List Ins} (h : 64 < zs.length) : codeMay zs = false := by unfold codeMay; rw [decide_eq_false (by omega)]; rfl
theorem flat_at0 (zs : List Ins) (j : Nat) (h : j < zs.length) : (flat zs)[2 * j]?.getD 0 = (zs[j]?.getD (0, 0)).1 ∧ (flat zs)[2 * j + 1]?.getD 0 = (zs[j]?.getD (0, 0)).2 := by
  have := pairs_get (flat zs) j (by rw [flat_length]; omega)
  rw [pairs_flat] at this
  rw [this]
  exact ⟨rfl, rfl⟩

set_option maxRecDepth 100000 in
set_option maxHeartbeats 4000000 in
theorem parts_not (ad : Addr) (vcap : Nat) (zs : List Ins) (hz : zs.length ≤ 8796093021952) (y : Int) (hm : codeMay zs = false) (w : World) (hT : Tab w) (hv : PReads w (.slice (some ad) zs.length vcap) zs) :
    Calls Tryd.prog 6 #[.slice (some ad) zs.length vcap, .int .i64 y] w fun e w' => e = .returned (.bool true) ∧ w.grownBy w' none := by
  have AW := hide (awake_any w hT)
  have HT := hide (fun W => hT.grown (W' := W))
  have HV := hide (fun W => hv.grown (W := W))
  have HZ := hide hz
  have HM := hide hm
  obtain ⟨c, hc0, hc1, hc2, hc3⟩ := and255 y
  clear hT hm
  obtain ⟨t2, HT2⟩ : ∃ t2, Hid (putS (zs ++ [(1, c)]) = t2) := ⟨_, hide rfl⟩
  obtain ⟨e2, HE2⟩ : ∃ e2, Hid (errOf (codeMay (zs ++ [(1, c)])) = e2) := ⟨_, hide rfl⟩
  obtain ⟨va, vcap, e0, ha⟩ := hv
  simp only [Value.slice.injEq] at e0
  obtain ⟨rfl, -, rfl⟩ := e0
  have hcell : ∀ i, i < zs.length → w.cell? (ad.add (i * 2)) = some (.int .i64 (zs[i]?.getD (0, 0)).1) ∧ w.cell? (ad.add (i * 2 + 1)) = some (.int .i64 (zs[i]?.getD (0, 0)).2) := fun i hi => by
    obtain ⟨g, o, h, hc⟩ := ha (by omega)
    cases h
    rw [Go.WideShapes.add_plain, Go.WideShapes.add_plain]
    exact hc i hi
  have HC := hide hcell
  clear ha hcell
  generalize hN : zs.length = N at *
  have HN := hide hN
  clear hN
  go_enter Tryd.func6, Tryd.ntmps6
  go_wp2_with (first | fail)
  refine AW.out.mono ?_; rintro e w1 ⟨rfl, g1⟩
  have G1 := hide g1
  clear g1 AW
  go_wp2_with (first | fail)
  refine (putNot HM.out (by have := HN.out; have := HZ.out; omega) _ _ (HT.out _ G1.out) (HV.out _ G1.out)).mono ?_; rintro e w2 ⟨rfl, g2⟩
  have G2 := hide (grownBy_trans G1.out g2)
  clear g2 G1
  go_wp2_with (at_builtin; refine app_ins _ rfl _ _ rfl w2.heap.size _ 0 [] rfl ?c0 ad N vcap zs rfl HN.out ?c1 ?c2 ?c3 ?_)
  case c0 => exact World.ownsRow_lit w2 #[] 0 (Nat.le_refl _) (by unfold maxLen; omega) rfl
  case c1 =>
    intro i hi
    have hc := HC.out i hi
    have hlt : (ad.add (i * 2)).block < w.heap.size := World.block_lt_of_cell? w (ad.add (i * 2)) hc.1
    have hlt' : (ad.add (i * 2 + 1)).block < w.heap.size := World.block_lt_of_cell? w (ad.add (i * 2 + 1)) hc.2
    have gg := grownBy_trans G2.out (World.grownBy_alloc w2 (.cells #[] 39) none)
    exact ⟨(World.cell?_of_block (a := ad.add (i * 2)) (gg.block _ hlt (by simp))).trans hc.1, (World.cell?_of_block (a := ad.add (i * 2 + 1)) (gg.block _ hlt' (by simp))).trans hc.2⟩
  case c2 => have := HZ.out; omega
  case c3 => simp
  intro a3 cap3 w3 own3 grow3
  have O3 := hide (show w3.ownsRow w2.heap.size 39 2 (.slice a3 N cap3) N (cells2 zs) by simpa using own3)
  have G23 := hide (grown_append (m := 0) (grownBy_refl w2 none) (v := .slice (some ⟨w2.heap.size, 0, none⟩) 0 0) (fun g hg => by simp [Value.ownBlock] at hg; omega) grow3)
  have G3 := hide (grownBy_trans G2.out G23.out)
  clear own3 grow3
  go_wp2_with (at_builtin; refine app_ins _ rfl _ _ rfl w2.heap.size (.slice a3 N cap3) N zs rfl ?c0 ⟨w3.heap.size, 0, none⟩ 1 1 [(1, c)] rfl rfl ?c1 ?c2 ?c3 ?_)
  case c0 => exact O3.out.alloc _
  case c1 =>
    intro i hi
    match i, hi with
    | 0, _ => simp [Addr.add]
  case c2 => have := HZ.out; omega
  case c3 => have := G23.out.size; simp; omega
  intro a4 cap4 w4 own4 grow4
  have G4 := hide (grownBy_trans G2.out (grown_append (m := 0) G23.out (fun g hg => (O3.out.lt g hg).1) grow4))
  have P4 := hide (show PReads w4 (.slice a4 (N + 1) cap4) (zs ++ [(1, c)]) from preads_own (base := w2.heap.size) (by rw [List.length_append, HN.out, List.length_singleton]; exact own4))
  clear own4 grow4 O3 G23 G3 G2
  go_wp2_with (first | fail)
  have C5 := put_any _ (zs ++ [(1, c)]) (by rw [List.length_append, HN.out, List.length_singleton]; have := HZ.out; omega) _ (HT.out _ G4.out) P4.out
  rw [HT2.out, HE2.out] at C5
  refine C5.mono ?_; rintro e w5 ⟨rfl, g5⟩
  clear C5
  have G5 := hide (grownBy_trans G4.out g5)
  clear g5 G4 P4
  go_wp2_with (go_at_call 12; refine (num_any _ _).mono ?_; rintro e w' ⟨rfl, rfl⟩)
  go_ret
  exact ⟨rfl, G5.out⟩

set_option maxRecDepth 100000 in
set_option maxHeartbeats 4000000 in
theorem parts_full (ad : Addr) (vcap : Nat) (zs : List Ins) (hz : zs.length ≤ 8796093021952) (y : Int) (hm : codeMay zs = true) (hN64 : zs.length = 64) (w : World) (hT : Tab w) (hv : PReads w (.slice (some ad) zs.length vcap) zs) :
    Calls Tryd.prog 6 #[.slice (some ad) zs.length vcap, .int .i64 y] w fun e w' => e = .returned (.bool true) ∧ w.grownBy w' none := by
  have AW := hide (awake_any w hT)
  have HT := hide (fun W => hT.grown (W' := W))
  have HV := hide (fun W => hv.grown (W := W))
  have HZ := hide hz
  have HM := hide hm
  obtain ⟨c, hc0, hc1, hc2, hc3⟩ := and255 y
  clear hT hm
  have HMQ := hide (codeMay_long' (zs := zs ++ [(1, c)]) (by rw [List.length_append, hN64]; simp))
  have HN64 := hide hN64
  clear hN64
  obtain ⟨t1, HT1⟩ : ∃ t1, Hid (strOfNums (flat zs) = t1) := ⟨_, hide rfl⟩
  obtain ⟨va, vcap, e0, ha⟩ := hv
  simp only [Value.slice.injEq] at e0
  obtain ⟨rfl, -, rfl⟩ := e0
  have hcell : ∀ i, i < zs.length → w.cell? (ad.add (i * 2)) = some (.int .i64 (zs[i]?.getD (0, 0)).1) ∧ w.cell? (ad.add (i * 2 + 1)) = some (.int .i64 (zs[i]?.getD (0, 0)).2) := fun i hi => by
    obtain ⟨g, o, h, hc⟩ := ha (by omega)
    cases h
    rw [Go.WideShapes.add_plain, Go.WideShapes.add_plain]
    exact hc i hi
  have HC := hide hcell
  clear ha hcell
  generalize hN : zs.length = N at *
  have HN := hide hN
  clear hN
  go_enter Tryd.func6, Tryd.ntmps6
  go_wp2_with (first | fail)
  refine AW.out.mono ?_; rintro e w1 ⟨rfl, g1⟩
  have G1 := hide g1
  clear g1 AW
  go_wp2_with (first | fail)
  refine (putYes HM.out HT1.out (by have := HN.out; have := HZ.out; omega) _ _ (HT.out _ G1.out) (HV.out _ G1.out)).mono ?_; rintro e w2 ⟨rfl, g2⟩
  have G2 := hide (grownBy_trans G1.out g2)
  clear g2 G1
  go_wp2_with (at_builtin; refine app_ins _ rfl _ _ rfl w2.heap.size _ 0 [] rfl ?c0 ad N vcap zs rfl HN.out ?c1 ?c2 ?c3 ?_)
  case c0 => exact World.ownsRow_lit w2 #[] 0 (Nat.le_refl _) (by unfold maxLen; omega) rfl
  case c1 =>
    intro i hi
    have hc := HC.out i hi
    have hlt : (ad.add (i * 2)).block < w.heap.size := World.block_lt_of_cell? w (ad.add (i * 2)) hc.1
    have hlt' : (ad.add (i * 2 + 1)).block < w.heap.size := World.block_lt_of_cell? w (ad.add (i * 2 + 1)) hc.2
    have gg := grownBy_trans G2.out (World.grownBy_alloc w2 (.cells #[] 39) none)
    exact ⟨(World.cell?_of_block (a := ad.add (i * 2)) (gg.block _ hlt (by simp))).trans hc.1, (World.cell?_of_block (a := ad.add (i * 2 + 1)) (gg.block _ hlt' (by simp))).trans hc.2⟩
  case c2 => have := HZ.out; omega
  case c3 => simp
  intro a3 cap3 w3 own3 grow3
  have O3 := hide (show w3.ownsRow w2.heap.size 39 2 (.slice a3 N cap3) N (cells2 zs) by simpa using own3)
  have G23 := hide (grown_append (m := 0) (grownBy_refl w2 none) (v := .slice (some ⟨w2.heap.size, 0, none⟩) 0 0) (fun g hg => by simp [Value.ownBlock] at hg; omega) grow3)
  have G3 := hide (grownBy_trans G2.out G23.out)
  clear own3 grow3
  go_wp2_with (at_builtin; refine app_ins _ rfl _ _ rfl w2.heap.size (.slice a3 N cap3) N zs rfl ?c0 ⟨w3.heap.size, 0, none⟩ 1 1 [(1, c)] rfl rfl ?c1 ?c2 ?c3 ?_)
  case c0 => exact O3.out.alloc _
  case c1 =>
    intro i hi
    match i, hi with
    | 0, _ => simp [Addr.add]
  case c2 => have := HZ.out; omega
  case c3 => have := G23.out.size; simp; omega
  intro a4 cap4 w4 own4 grow4
  have G4 := hide (grownBy_trans G2.out (grown_append (m := 0) G23.out (fun g hg => (O3.out.lt g hg).1) grow4))
  have P4 := hide (show PReads w4 (.slice a4 (N + 1) cap4) (zs ++ [(1, c)]) from preads_own (base := w2.heap.size) (by rw [List.length_append, HN.out, List.length_singleton]; exact own4))
  clear own4 grow4 O3 G23 G3 G2
  go_wp2_with (first | fail)
  refine (putNot HMQ.out (by rw [List.length_append, HN.out, List.length_singleton]; have := HZ.out; omega) _ _ (HT.out _ G4.out) P4.out).mono ?_; rintro e w5 ⟨rfl, g5⟩
  have G5 := hide (grownBy_trans G4.out g5)
  clear g5 G4 P4
  have hn64 : ((N : Int) == 64) = true := by have := HN64.out; simp; omega
  go_wp2_with (go_at_call 12; refine (num_any _ _).mono ?_; rintro e w' ⟨rfl, rfl⟩)
  go_ret
  exact ⟨rfl, G5.out⟩

#print axioms parts_full
end Go.Proofs.YtdgdoiigcdlpaaaDoor

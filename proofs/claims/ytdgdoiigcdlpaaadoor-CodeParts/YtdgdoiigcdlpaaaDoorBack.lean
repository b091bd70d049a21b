/- The walk of the statement CodeBack: there and back, of bytes too, proved over the translation. -/
import Derived.Test.YtdgdoiigcdlpaaaDoorAwake
namespace Go.Proofs.YtdgdoiigcdlpaaaDoor
open Go.RowKit
attribute [local go_sem] alloc_drewN setCell_drewN

theorem strOfNums_nums (s : ByteArray) : strOfNums (nums s) = s := by
  unfold strOfNums nums
  rw [List.map_map]
  have e : ((fun n : Int => UInt8.ofNat n.toNat) ∘ fun b : UInt8 => (b.toNat : Int)) = id := by
    funext b
    simp
  rw [e, List.map_id]
theorem nums_strOfNums (l : List Int) (h : ∀ x ∈ l, 0 ≤ x ∧ x < 256) : nums (strOfNums l) = l := by
  unfold strOfNums nums
  rw [List.map_map]
  refine (List.map_congr_left (g := id) fun x hx => ?_).trans (List.map_id _)
  obtain ⟨h0, h1⟩ := h x hx
  obtain ⟨k, rfl⟩ : ∃ k : Nat, x = k := ⟨x.toNat, by omega⟩
  have hk : k < 256 := by omega
  simp [UInt8.toNat_ofNat', Nat.mod_eq_of_lt hk]
theorem flat_bytes {zs : List Ins} (h : codeMay zs = true) : ∀ x ∈ flat zs, 0 ≤ x ∧ x < 256 := by
  obtain ⟨hN, hall⟩ := codeMay_true h
  intro x hx
  unfold flat at hx
  rw [List.mem_flatMap] at hx
  obtain ⟨z, hz, hxz⟩ := hx
  obtain ⟨j, hj, rfl⟩ := List.getElem_of_mem hz
  have h2 := hall j hj
  rw [List.getElem?_eq_getElem hj] at h2
  obtain ⟨a, b, c, d⟩ := may_bytes hN (x := zs[j].1) (y := zs[j].2) h2
  simp only [List.mem_cons, List.not_mem_nil, or_false] at hxz
  rcases hxz with rfl | rfl <;> omega
/-- What was put is got back. -/
theorem back_may {zs : List Ins} (h : codeMay zs = true) : getMay (strOfNums (flat zs)) = true ∧ pairs (nums (strOfNums (flat zs))) = zs ∧ (strOfNums (flat zs)).size = 2 * zs.length := by
  have e : (strOfNums (flat zs)).size = 2 * zs.length := by rw [strOfNums_size, flat_length]
  have p : pairs (nums (strOfNums (flat zs))) = zs := by rw [nums_strOfNums _ (flat_bytes h), pairs_flat]
  refine ⟨?_, p, e⟩
  unfold getMay
  rw [p, h, e, decide_eq_true (by omega)]
  rfl
/-- What was got is put again. -/
theorem forth_may {s : ByteArray} (h : getMay s = true) : codeMay (pairs (nums s)) = true ∧ strOfNums (flat (pairs (nums s))) = s := by
  unfold getMay at h
  simp only [Bool.and_eq_true, decide_eq_true_eq] at h
  refine ⟨h.2, ?_⟩
  rw [flat_pairs _ (by rw [nums_length]; exact h.1), strOfNums_nums]

theorem putYes {zs : List Ins} {s : ByteArray} (h : codeMay zs = true) (e : strOfNums (flat zs) = s) (hz : zs.length ≤ 9223372036854775807) (v : Value) (w : World) (hT : Tab w) (hv : PReads w v zs) :
    Calls Tryd.prog 8 #[v] w fun e w' => e = .returned (.tuple #[.string s, .int .i64 0]) ∧ w.grownBy w' none := by
  have := put_any v zs hz w hT hv
  rw [h, show putS zs = strOfNums (flat zs) from if_pos h, e] at this
  exact this
theorem mayIs {zs : List Ins} {b : Bool} (h : codeMay zs = b) (v : Value) (hz : zs.length ≤ 9223372036854775807) (w : World) (hT : Tab w) (hv : PReads w v zs) :
    Calls Tryd.prog 14 #[v] w fun e w' => e = .returned (.bool b) ∧ w.grownBy w' none := by
  have := may_any v zs hz w hT hv
  rwa [h] at this

set_option maxRecDepth 100000 in
set_option maxHeartbeats 2000000 in
theorem back_any (v : Value) (zs : List Ins) (hz : zs.length ≤ 4611686018427387903) (s : ByteArray) (hs : s.size ≤ 9223372036854775807) (w : World) (hT : Tab w) (hv : PReads w v zs) :
    Calls Tryd.prog 4 #[v, .string s] w fun e w' => e = .returned (.bool true) ∧ w.grownBy w' none := by
  have AW := hide (awake_any w hT)
  have HT := hide (fun W => hT.grown (W' := W))
  have HV := hide (fun W => hv.grown (W := W))
  have HZ := hide hz
  have HS := hide hs
  clear hT hs
  cases hm : codeMay zs with
  | false =>
    have HM := hide hm
    clear hm
    obtain ⟨va, vcap, rfl, -⟩ := hv
    generalize hN : zs.length = N at *
    have HN := hide hN
    clear hN
    go_enter Tryd.func4, Tryd.ntmps4
    go_wp2_with (first | fail)
    refine AW.out.mono ?_; rintro e w1 ⟨rfl, g1⟩
    have G1 := hide g1
    clear g1 AW
    go_wp2_with (first | fail)
    refine (putNot HM.out (by have := HN.out; have := HZ.out; omega) _ _ (HT.out _ G1.out) (HV.out _ G1.out)).mono ?_; rintro e w2 ⟨rfl, g2⟩
    have G2 := hide (grownBy_trans G1.out g2)
    clear g2 G1
    go_wp2_with (go_at_call 12; refine (num_any _ _).mono ?_; rintro e w' ⟨rfl, rfl⟩)
    refine (mayIs HM.out _ (by have := HN.out; have := HZ.out; omega) _ (HT.out _ G2.out) (HV.out _ G2.out)).mono ?_; rintro e w3 ⟨rfl, g3⟩
    have G3 := hide (grownBy_trans G2.out g3)
    clear g3 G2
    go_wp2_with (go_at_call 12; refine (num_any _ _).mono ?_; rintro e w' ⟨rfl, rfl⟩)
    clear HV
    cases hg : getMay s with
    | false =>
      refine (getNot hg HS.out _ (HT.out _ G3.out)).mono ?_; rintro e w4 ⟨q, rfl, P4, g4⟩
      obtain ⟨qa, qcap, rfl, -⟩ := P4
      have G4 := hide (grownBy_trans G3.out g4)
      clear g4 G3 hg
      go_wp2_with (go_at_call 12; refine (num_any _ _).mono ?_; rintro e w' ⟨rfl, rfl⟩)
      go_ret
      exact ⟨rfl, G4.out⟩
    | true =>
      obtain ⟨m1, m2⟩ := forth_may hg
      refine (getOk hg rfl HS.out _ (HT.out _ G3.out)).mono ?_; rintro e w4 ⟨q, rfl, p4, g4⟩
      have P4 := hide p4
      have G4 := hide (grownBy_trans G3.out g4)
      have M1 := hide m1
      have M2 := hide m2
      clear g4 G3 hg p4 m1 m2
      go_wp2_with (go_at_call 12; refine (num_any _ _).mono ?_; rintro e w' ⟨rfl, rfl⟩)
      refine (putYes M1.out M2.out (by have := (codeMay_true M1.out).1; omega) _ _ (HT.out _ G4.out) P4.out).mono ?_; rintro e w5 ⟨rfl, g5⟩
      have G5 := hide (grownBy_trans G4.out g5)
      clear g5 G4
      go_wp2_with (go_at_call 12; refine (num_any _ _).mono ?_; rintro e w' ⟨rfl, rfl⟩)
      go_ret
      exact ⟨rfl, G5.out⟩
  | true =>
    obtain ⟨b1, b2, b3⟩ := back_may hm
    have HM := hide hm
    have B0 := hide (show strOfNums (flat zs) = strOfNums (flat zs) from rfl)
    generalize strOfNums (flat zs) = t at *
    have B1 := hide b1
    have B2 := hide b2
    have B3 := hide b3
    have B0' := hide (show codeMay zs = true → strOfNums (flat zs) = t from fun _ => by have := forth_may b1; rw [b2] at this; exact this.2)
    clear hm b1 b2 B0
    obtain ⟨va, vcap, rfl, -⟩ := hv
    generalize hN : zs.length = N at *
    have HN := hide hN
    clear hN
    go_enter Tryd.func4, Tryd.ntmps4
    go_wp2_with (first | fail)
    refine AW.out.mono ?_; rintro e w1 ⟨rfl, g1⟩
    have G1 := hide g1
    clear g1 AW
    go_wp2_with (first | fail)
    refine (putYes HM.out (B0'.out HM.out) (by have := HN.out; have := HZ.out; omega) _ _ (HT.out _ G1.out) (HV.out _ G1.out)).mono ?_; rintro e w2 ⟨rfl, g2⟩
    have G2 := hide (grownBy_trans G1.out g2)
    clear g2 G1
    go_wp2_with (go_at_call 12; refine (num_any _ _).mono ?_; rintro e w' ⟨rfl, rfl⟩)
    refine (mayIs HM.out _ (by have := HN.out; have := HZ.out; omega) _ (HT.out _ G2.out) (HV.out _ G2.out)).mono ?_; rintro e w3 ⟨rfl, g3⟩
    have G3 := hide (grownBy_trans G2.out g3)
    clear g3 G2
    go_wp2_with (go_at_call 12; refine (num_any _ _).mono ?_; rintro e w' ⟨rfl, rfl⟩)
    refine (getOk B1.out B2.out (by have := B3.out; have := HZ.out; omega) _ (HT.out _ G3.out)).mono ?_; rintro e w4 ⟨q, rfl, p4, g4⟩
    have P4 := hide p4
    have G4 := hide (grownBy_trans G3.out g4)
    clear g4 G3 p4
    go_wp2_with (first
      | (go_at_call 12; refine (num_any _ _).mono ?_; rintro e w' ⟨rfl, rfl⟩)
      | (go_at_call 13; refine (same_any _ _ zs (by have := HN.out; have := HZ.out; omega) _ P4.out (HV.out _ G4.out)).mono ?_; rintro e w' ⟨rfl, n5, rfl⟩))
    have G3 := hide (grownBy_trans G4.out (grownBy_draws _ n5 none))
    clear G4 P4
    clear HV
    cases hg : getMay s with
    | false =>
      refine (getNot hg HS.out _ (HT.out _ G3.out)).mono ?_; rintro e w4 ⟨q, rfl, P4, g4⟩
      obtain ⟨qa, qcap, rfl, -⟩ := P4
      have G4 := hide (grownBy_trans G3.out g4)
      clear g4 G3 hg
      go_wp2_with (go_at_call 12; refine (num_any _ _).mono ?_; rintro e w' ⟨rfl, rfl⟩)
      go_ret
      exact ⟨rfl, G4.out⟩
    | true =>
      obtain ⟨m1, m2⟩ := forth_may hg
      refine (getOk hg rfl HS.out _ (HT.out _ G3.out)).mono ?_; rintro e w4 ⟨q, rfl, p4, g4⟩
      have P4 := hide p4
      have G4 := hide (grownBy_trans G3.out g4)
      have M1 := hide m1
      have M2 := hide m2
      clear g4 G3 hg p4 m1 m2
      go_wp2_with (go_at_call 12; refine (num_any _ _).mono ?_; rintro e w' ⟨rfl, rfl⟩)
      refine (putYes M1.out M2.out (by have := (codeMay_true M1.out).1; omega) _ _ (HT.out _ G4.out) P4.out).mono ?_; rintro e w5 ⟨rfl, g5⟩
      have G5 := hide (grownBy_trans G4.out g5)
      clear g5 G4
      go_wp2_with (go_at_call 12; refine (num_any _ _).mono ?_; rintro e w' ⟨rfl, rfl⟩)
      go_ret
      exact ⟨rfl, G5.out⟩
#print axioms back_any
end Go.Proofs.YtdgdoiigcdlpaaaDoor

/- The walk of the law Queues: for every size and every row of calls it answers true and makes new memory alone. -/
import Derived.Test.YtiffpmleeaenjaaQueue
namespace Go.Proofs.Ytiffpmleeaenjaa
open Go.RowKit
attribute [local go_sem] alloc_drewN setCell_drewN

/-- The two of the law in the world W: package queuing's queue at block N + 1, its ring at N, the document's row behind it, both of size k and of one row; below N all is as it was in w. -/
structure Two (w W : World) (N k : Nat) (row : List Int) : Prop where
  q : QAt W N k row
  ref : RefIs W (N + 2) k row
  below : Below N w W
theorem RefIs.tail {W W' : World} {b k : Nat} {row : List Int} (h : RefIs W b k row) (hg : W.grownBy W' none) : RefIs W' b k row := by
  obtain ⟨h1, h2, v, hv⟩ := h
  exact ⟨h1, h2, v, hv.below hg⟩
theorem Two.written {w W W1 W2 : World} {N k : Nat} {row row' : List Int} (h : Two w W N k row) (hF : RefIs W1 (N + 2) k row') (hB : Below (N + 2) W W1) (hR : QAt W2 N k row') (hg : W1.grownBy W2 (some N)) : Two w W2 N k row' :=
  ⟨hR, hF.grown hg (by omega), grown_below (h.below.trans (hB.mono (by omega))) hg (Nat.le_trans (Nat.le_of_lt h.q.ring.lt) hB.size) (Nat.le_refl _)⟩
theorem Two.read {w W W1 W2 : World} {N k : Nat} {row row' : List Int} (h : Two w W N k row) (hR : QAt W1 N k row') (hg : W.grownBy W1 (some N)) (hF : RefIs W2 (N + 2) k row') (hB : Below (N + 2) W1 W2) : Two w W2 N k row' :=
  ⟨hR.below hB (by omega), hF, (grown_below h.below hg (Nat.le_of_lt h.q.ring.lt) (Nat.le_refl _)).trans (hB.mono (by omega))⟩
theorem Two.tail {w W W1 : World} {N k : Nat} {row : List Int} (h : Two w W N k row) (hg : W.grownBy W1 none) : Two w W1 N k row :=
  ⟨h.q.grown hg (by simp) (by simp), h.ref.tail hg, grown_below0 h.below hg (Nat.le_of_lt h.q.ring.lt)⟩

set_option maxRecDepth 100000 in
set_option maxHeartbeats 4000000 in
theorem queues_any (l : Int) (a : Option Addr) (len cap : Nat) (zs : List Int) (w : World) (h : RowAt shN 0 w (.slice a len cap) zs) :
    Calls Try.prog 3 #[.int .i64 l, .slice a len cap] w fun e w' => e = .returned (.bool true) ∧ w.grownBy w' none := by
  have hlen : len = zs.length := by
    obtain ⟨_, a', cap', e, _⟩ := h
    simp only [Value.slice.injEq] at e
    exact e.2.1
  have hmax := h.1
  have HR := hide (fun W hg => h.below (W := W) (B := w.heap.size) hg (Nat.le_refl _))
  have HW := hide h
  clear h
  have CN := hide num_to
  have CA := hide awake_any
  by_cases hs : l < 1 ∨ 8 < l
  · have C1 := hide (qnew_no l hs w)
    have C2 := hide (rqnew_no l hs w)
    clear hs
    go_enter Try.func3, Try.ntmps3
    go_wp2_with (first | (go_at_call 5; refine C1.out.mono ?_; rintro e w' ⟨rfl, rfl⟩) | (go_at_call 6; refine C2.out.mono ?_; rintro e w' ⟨rfl, rfl⟩) | (go_at_call 7; refine (CN.out _ _).mono ?_; rintro e w' ⟨rfl, rfl⟩) | (go_at_call 8; refine (CA.out _).mono ?_; rintro e w1 ⟨rfl, hg⟩))
    go_ret
    exact ⟨rfl, hg⟩
  · obtain ⟨k, rfl⟩ := Int.eq_ofNat_of_zero_le (show 0 ≤ l by omega)
    have hk : 1 ≤ k := by omega
    have hk' : k ≤ 8 := by omega
    clear hs
    go_enter Try.func3, Try.ntmps3
    go_wp2_with (first | fail)
    refine (qnew_ok k hk hk' w).mono ?_; rintro e w1 ⟨rfl, r1, g1, s1⟩
    go_wp2_with (first | fail)
    refine (rqnew_ok k hk hk' w1).mono ?_; rintro e w2 ⟨rfl, r2, g2, -⟩
    rw [s1] at r2 ⊢
    have hT : Two w w2 w.heap.size k [] := ⟨r1.grown g2 (by simp) (by simp), ⟨by simp, by omega, _, r2⟩, (below_of_grown g1).trans ((below_of_grown g2).mono (by omega))⟩
    clear r1 g1 s1 r2 g2
    generalize hN : w.heap.size = N at *
    have HN := hide hN
    clear hN
    have HT := hide hT
    clear hT
    go_wp2_with (first | (go_at_call 7; refine (CN.out _ _).mono ?_; rintro e w' ⟨rfl, rfl⟩))
    go_loopw [9] (fun i W => ∃ (j : Nat) (row : List Int), j ≤ len ∧ j ≤ 80 ∧ i = .int .i64 j ∧ Two w W N k row) (fun i _ => 80 - (intOf i).toNat)
    case atStart => exact ⟨0, [], by omega, by omega, rfl, HT.out⟩
    case round =>
      clear HT
      obtain ⟨j, row, hj, hj', rfl, hT⟩ := hrel
      have HT := hide hT
      clear hT
      by_cases h4 : j < len
      · by_cases h5 : j < 80
        · obtain ⟨z, hz⟩ : ∃ z, zs[j]? = some z := ⟨zs[j]'(by omega), List.getElem?_eq_getElem _⟩
          obtain ⟨_, a2, cap2, e2, hc⟩ := HW.out
          simp only [Value.slice.injEq] at e2
          obtain ⟨rfl, -, rfl⟩ := e2
          obtain ⟨g, o, rfl, -, -⟩ := hc (by omega)
          clear hc
          have hcell : ∀ W, Below N w W → W.cell? ⟨g, o + j, none⟩ = some (.int .i64 z) := fun W hg => by
            obtain ⟨_, a3, cap3, e3, hc3⟩ := HR.out W hg
            simp only [Value.slice.injEq] at e3
            obtain ⟨rfl, -, rfl⟩ := e3
            obtain ⟨g', o', e4, -, hc4⟩ := hc3 (by omega)
            simp only [Option.some.injEq, Addr.mk.injEq] at e4
            obtain ⟨rfl, rfl, -⟩ := e4
            have := hc4 j z hz 0 _ rfl
            simpa [shN] using this
          have HC := hide hcell
          clear hcell
          have c1 := HC.out _ HT.out.below
          have rest : ∀ (row' : List Int) (W2 : World), Two w W2 N k row' → ∃ a' cap', (∀ W3, W2.grownBy W3 none → W3.cell? ⟨N + 2, 1, none⟩ = some (.slice a' row'.length cap')) := fun row' W2 h2 => by
            obtain ⟨q1, q2, v, hv⟩ := h2.ref
            obtain ⟨a', cap', rfl⟩ := own_form hv.own
            exact ⟨a', cap', fun W3 hg => (hv.below hg).all⟩
          have RST := hide rest
          clear rest
          go_wp2_with (first | fail)
          · refine (rpush_any _ k row z hk _ HT.out.ref).mono ?_; rintro e W1 ⟨rfl, hF, hB⟩
            have hq := HT.out.q.below hB (by omega)
            have c1 := HC.out W1 (HT.out.below.trans (hB.mono (by omega)))
            go_wp2_with (first | fail)
            refine (write_any N k row z hk W1 hq).mono ?_; rintro e W2 ⟨rfl, hR, hg, -⟩
            have HT2 := hide (HT.out.written hF hB hR hg)
            clear hR hg hF hB hq c1 HT
            generalize pushed k row z = row' at HT2
            obtain ⟨a', cap', hall⟩ := RST.out row' W2 HT2.out
            have HL := hide hall
            have CL := hide (fun W hg => len_any N k row' row'.length rfl W (HT2.out.q.grown (W' := W) (r := none) hg (by simp) (by simp)))
            have c2 := HL.out W2 (grownBy_refl _ _)
            have HD := hide (show W2.grownBy W2.drew none from ⟨rfl, rfl, rfl, Nat.le_refl _, fun _ _ _ => rfl⟩)
            clear hall
            generalize row'.length = n at *
            go_wp2_with (first | fail)
            go_region_with (first | (go_at_call 13; refine (CL.out _ HD.out).mono ?_; rintro e W3 ⟨rfl, hg3⟩; have c3 := HL.out W3 (grownBy_trans HD.out hg3)))
            all_goals go_wp2
            all_goals
              go_roundw
              case rel => exact ⟨j + 1, _, by omega, by omega, by go_num, HT2.out.tail (grownBy_trans HD.out hg3)⟩
              case measure => simp [intOf]; omega
          · refine (read_any N k row _ HT.out.q).mono ?_; rintro e W1 ⟨rfl, hR, hg, -⟩
            have hf := HT.out.ref.grown hg (by omega)
            go_wp2_with (first | fail)
            refine (rpop_any (N + 2) k row W1 hf).mono ?_; rintro e W2 ⟨rfl, hF, hB⟩
            have HT2 := hide (HT.out.read hR hg hF hB)
            clear hR hg hF hB hf c1 HT
            generalize popped row = row' at HT2
            obtain ⟨a', cap', hall⟩ := RST.out row' W2 HT2.out
            have HL := hide hall
            have CL := hide (fun W hg => len_any N k row' row'.length rfl W (HT2.out.q.grown (W' := W) (r := none) hg (by simp) (by simp)))
            have c2 := HL.out W2 (grownBy_refl _ _)
            have HD := hide (show W2.grownBy W2.drew none from ⟨rfl, rfl, rfl, Nat.le_refl _, fun _ _ _ => rfl⟩)
            clear hall
            generalize row'.length = n at *
            go_wp2_with (first | fail)
            go_region_with (first | (go_at_call 13; refine (CL.out _ HD.out).mono ?_; rintro e W3 ⟨rfl, hg3⟩; have c3 := HL.out W3 (grownBy_trans HD.out hg3)))
            all_goals go_wp2
            all_goals
              go_roundw
              case rel => exact ⟨j + 1, _, by omega, by omega, by go_num, HT2.out.tail (grownBy_trans HD.out hg3)⟩
              case measure => simp [intOf]; omega
        · go_wp2_with (go_at_call 8; refine (CA.out _).mono ?_; rintro e w' ⟨rfl, hg⟩)
          go_ret
          exact ⟨rfl, grown_of_below (HN.out ▸ (HT.out.tail hg).below)⟩
      · go_wp2_with (go_at_call 8; refine (CA.out _).mono ?_; rintro e w' ⟨rfl, hg⟩)
        go_ret
        exact ⟨rfl, grown_of_below (HN.out ▸ (HT.out.tail hg).below)⟩
#print axioms queues_any
end Go.Proofs.Ytiffpmleeaenjaa

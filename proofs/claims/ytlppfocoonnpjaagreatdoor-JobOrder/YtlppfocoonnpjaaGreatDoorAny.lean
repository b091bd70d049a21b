/- Contracts of the library's IndexFunc and ContainsFunc as package config calls them, and of config's own all, proved over the translation. -/
import Derived.Test.YtlppfocoonnpjaaGreatDoorQa
namespace Go.Proofs.YtlppfocoonnpjaaGreatDoor
open Go.RowKit
attribute [local go_sem] alloc_drewN setCell_drewN

set_option maxRecDepth 100000 in
set_option maxHeartbeats 1000000 in
/-- The library's IndexFunc over a list of parts, with a closure that answers f. -/
theorem index_P {lo : Nat} (v : Value) (qs : List PartM) (f : Nat → Bool) (B : Nat) (w : World) (hv : RowAt shP lo w v qs)
    (hF : ∀ W, w.grownBy W none → ∀ (i : Nat) q, qs[i]? = some q → Calls Tryz.prog 99 #[.agg #[.int .i64 q.level, .slice q.ta q.tn q.tc, .slice q.ca q.cn q.cc], .pointer (some ⟨B, 0, none⟩)] W fun e w' => e = .returned (.bool (f i)) ∧ W.grownBy w' none) :
    Calls Tryz.prog 118 #[v, .func (.func 99) #[] #[.pointer (some ⟨B, 0, none⟩)]] w fun e w' => ∃ r : Int, e = .returned (.int .i64 r) ∧ decide (0 ≤ r) = (!allB qs.length (fun i => !f i)) ∧ w.grownBy w' none := by
  have HV := hide (fun W => hv.grown (W := W))
  obtain ⟨hl, va, vcap, rfl, -⟩ := hv
  have HF := hide hF
  clear hF
  generalize hN : qs.length = N at *
  have HN := hide hN
  clear hN
  go_enter Tryz.func118, Tryz.ntmps118
  go_wp2
  go_loopw [5, 8] (fun _ i W => ∃ (j : Nat), j ≤ N ∧ i = .int .i64 j ∧ Hid (w.grownBy W none) ∧ Hid (∀ i, i < j → (!f i) = true)) (fun _ i _ => N - (intOf i).toNat)
  case atStart => exact ⟨0, by omega, rfl, grownBy_refl _ _, fun i hi => absurd hi (Nat.not_lt_zero _)⟩
  case round =>
    obtain ⟨j, hj, rfl, HG, HP⟩ := hrel
    by_cases hlt : j < N
    · obtain ⟨-, a2, cap2, e2, hc⟩ := HV.out wr HG.out
      simp only [Value.slice.injEq] at e2
      obtain ⟨rfl, -, rfl⟩ := e2
      obtain ⟨g, o, rfl, -, hc2⟩ := hc (by rw [HN.out]; omega)
      obtain ⟨q, hq⟩ : ∃ q, qs[j]? = some q := ⟨_, List.getElem?_eq_getElem (by rw [HN.out]; exact hlt)⟩
      have HC := hide (HF.out wr HG.out j q hq)
      have hc3 := hc2 j q hq
      obtain ⟨lv, ta, tn, tc, ca, cn, cc⟩ := q
      have c0 : wr.cell? ⟨g, o + j * 3, none⟩ = some (.int .i64 lv) := hc3 0 _ rfl
      have c1 : wr.cell? ⟨g, o + j * 3 + 1, none⟩ = some (.slice ta tn tc) := hc3 1 _ rfl
      have c2 : wr.cell? ⟨g, o + j * 3 + 2, none⟩ = some (.slice ca cn cc) := hc3 2 _ rfl
      clear hc hc2 hc3 hq
      cases hm : f j with
      | false =>
        rw [hm] at HC
        have HM := hide hm
        clear hm
        go_wp2_with (first | fail)
        refine HC.out.mono ?_; rintro e w2 ⟨rfl, hg⟩
        have HG2 := hide (grownBy_trans HG.out hg)
        clear hg HG
        go_wp2
        go_roundw
        case rel =>
          refine ⟨j + 1, by omega, by go_num, HG2, fun i hi => ?_⟩
          rcases (by omega : i < j ∨ i = j) with h | rfl
          · exact HP.out i h
          · rw [HM.out]; rfl
        case measure => simp [intOf]; omega
      | true =>
        rw [hm] at HC
        have HM := hide hm
        clear hm
        go_wp2_with (first | fail)
        refine HC.out.mono ?_; rintro e w2 ⟨rfl, hg⟩
        have HG2 := hide (grownBy_trans HG.out hg)
        clear hg HG
        go_wp2
        go_ret
        refine ⟨_, rfl, ?_, HG2.out⟩
        rw [allB_false (f := fun i => !f i) hlt (by rw [HM.out]; rfl)]
        simp
    · go_wp2
      go_ret
      refine ⟨_, rfl, ?_, HG.out⟩
      rw [allB_true (f := fun i => !f i) (fun i hi => HP.out i (by omega))]
      rfl

set_option maxRecDepth 100000 in
set_option maxHeartbeats 1000000 in
theorem contains_P {lo : Nat} (v : Value) (qs : List PartM) (f : Nat → Bool) (B : Nat) (w : World) (hv : RowAt shP lo w v qs)
    (hF : ∀ W, w.grownBy W none → ∀ (i : Nat) q, qs[i]? = some q → Calls Tryz.prog 99 #[.agg #[.int .i64 q.level, .slice q.ta q.tn q.tc, .slice q.ca q.cn q.cc], .pointer (some ⟨B, 0, none⟩)] W fun e w' => e = .returned (.bool (f i)) ∧ W.grownBy w' none) :
    Calls Tryz.prog 98 #[v, .func (.func 99) #[] #[.pointer (some ⟨B, 0, none⟩)]] w fun e w' => e = .returned (.bool (!allB qs.length (fun i => !f i))) ∧ w.grownBy w' none := by
  have C := hide (index_P v qs f B w hv hF)
  clear hF
  obtain ⟨hl, va, vcap, rfl, -⟩ := hv
  generalize (!allB qs.length (fun i => !f i)) = m at *
  generalize qs.length = N at *
  go_enter Tryz.func98, Tryz.ntmps98
  go_wp2_with (first | fail)
  refine C.out.mono ?_; rintro e w' ⟨r, rfl, hr, hg⟩
  have HG := hide hg
  have HR := hide hr
  clear hg hr C
  go_wp2
  go_ret
  refine ⟨?_, HG.out⟩
  rw [← HR.out]
  rfl

set_option maxRecDepth 100000 in
set_option maxHeartbeats 1000000 in
/-- The library's IndexFunc over a list of tasks, with a closure that answers f. -/
theorem index_T {lo : Nat} (v : Value) (qs : List TaskV) (f : Nat → Bool) (B : Nat) (w : World) (hv : RowAt shT lo w v qs)
    (hF : ∀ W, w.grownBy W none → ∀ (i : Nat) q, qs[i]? = some q → Calls Tryz.prog 120 #[.agg #[.int .i64 q.kind, .int .i64 q.period, .int .i64 q.deadline, .int .i64 q.clow, .int .i64 q.chigh, .int .i64 q.prio], .pointer (some ⟨B, 0, none⟩)] W fun e w' => e = .returned (.bool (f i)) ∧ W.grownBy w' none) :
    Calls Tryz.prog 132 #[v, .func (.func 120) #[] #[.pointer (some ⟨B, 0, none⟩)]] w fun e w' => ∃ r : Int, e = .returned (.int .i64 r) ∧ decide (0 ≤ r) = (!allB qs.length (fun i => !f i)) ∧ w.grownBy w' none := by
  have HV := hide (fun W => hv.grown (W := W))
  obtain ⟨hl, va, vcap, rfl, -⟩ := hv
  have HF := hide hF
  clear hF
  generalize hN : qs.length = N at *
  have HN := hide hN
  clear hN
  go_enter Tryz.func132, Tryz.ntmps132
  go_wp2
  go_loopw [5, 8] (fun _ i W => ∃ (j : Nat), j ≤ N ∧ i = .int .i64 j ∧ Hid (w.grownBy W none) ∧ Hid (∀ i, i < j → (!f i) = true)) (fun _ i _ => N - (intOf i).toNat)
  case atStart => exact ⟨0, by omega, rfl, grownBy_refl _ _, fun i hi => absurd hi (Nat.not_lt_zero _)⟩
  case round =>
    obtain ⟨j, hj, rfl, HG, HP⟩ := hrel
    by_cases hlt : j < N
    · obtain ⟨-, a2, cap2, e2, hc⟩ := HV.out wr HG.out
      simp only [Value.slice.injEq] at e2
      obtain ⟨rfl, -, rfl⟩ := e2
      obtain ⟨g, o, rfl, -, hc2⟩ := hc (by rw [HN.out]; omega)
      obtain ⟨q, hq⟩ : ∃ q, qs[j]? = some q := ⟨_, List.getElem?_eq_getElem (by rw [HN.out]; exact hlt)⟩
      have HC := hide (HF.out wr HG.out j q hq)
      have hc3 := hc2 j q hq
      obtain ⟨x0, x1, x2, x3, x4, x5⟩ := q
      have c0 : wr.cell? ⟨g, o + j * 6, none⟩ = some (.int .i64 x0) := hc3 0 _ rfl
      have c1 : wr.cell? ⟨g, o + j * 6 + 1, none⟩ = some (.int .i64 x1) := hc3 1 _ rfl
      have c2 : wr.cell? ⟨g, o + j * 6 + 2, none⟩ = some (.int .i64 x2) := hc3 2 _ rfl
      have c3 : wr.cell? ⟨g, o + j * 6 + 3, none⟩ = some (.int .i64 x3) := hc3 3 _ rfl
      have c4 : wr.cell? ⟨g, o + j * 6 + 4, none⟩ = some (.int .i64 x4) := hc3 4 _ rfl
      have c5 : wr.cell? ⟨g, o + j * 6 + 5, none⟩ = some (.int .i64 x5) := hc3 5 _ rfl
      clear hc hc2 hc3 hq
      cases hm : f j with
      | false =>
        rw [hm] at HC
        have HM := hide hm
        clear hm
        go_wp2_with (first | fail)
        refine HC.out.mono ?_; rintro e w2 ⟨rfl, hg⟩
        have HG2 := hide (grownBy_trans HG.out hg)
        clear hg HG
        go_wp2
        go_roundw
        case rel =>
          refine ⟨j + 1, by omega, by go_num, HG2, fun i hi => ?_⟩
          rcases (by omega : i < j ∨ i = j) with h | rfl
          · exact HP.out i h
          · rw [HM.out]; rfl
        case measure => simp [intOf]; omega
      | true =>
        rw [hm] at HC
        have HM := hide hm
        clear hm
        go_wp2_with (first | fail)
        refine HC.out.mono ?_; rintro e w2 ⟨rfl, hg⟩
        have HG2 := hide (grownBy_trans HG.out hg)
        clear hg HG
        go_wp2
        go_ret
        refine ⟨_, rfl, ?_, HG2.out⟩
        rw [allB_false (f := fun i => !f i) hlt (by rw [HM.out]; rfl)]
        simp
    · go_wp2
      go_ret
      refine ⟨_, rfl, ?_, HG.out⟩
      rw [allB_true (f := fun i => !f i) (fun i hi => HP.out i (by omega))]
      rfl

set_option maxRecDepth 100000 in
set_option maxHeartbeats 1000000 in
theorem contains_T {lo : Nat} (v : Value) (qs : List TaskV) (f : Nat → Bool) (B : Nat) (w : World) (hv : RowAt shT lo w v qs)
    (hF : ∀ W, w.grownBy W none → ∀ (i : Nat) q, qs[i]? = some q → Calls Tryz.prog 120 #[.agg #[.int .i64 q.kind, .int .i64 q.period, .int .i64 q.deadline, .int .i64 q.clow, .int .i64 q.chigh, .int .i64 q.prio], .pointer (some ⟨B, 0, none⟩)] W fun e w' => e = .returned (.bool (f i)) ∧ W.grownBy w' none) :
    Calls Tryz.prog 119 #[v, .func (.func 120) #[] #[.pointer (some ⟨B, 0, none⟩)]] w fun e w' => e = .returned (.bool (!allB qs.length (fun i => !f i))) ∧ w.grownBy w' none := by
  have C := hide (index_T v qs f B w hv hF)
  clear hF
  obtain ⟨hl, va, vcap, rfl, -⟩ := hv
  generalize (!allB qs.length (fun i => !f i)) = m at *
  generalize qs.length = N at *
  go_enter Tryz.func119, Tryz.ntmps119
  go_wp2_with (first | fail)
  refine C.out.mono ?_; rintro e w' ⟨r, rfl, hr, hg⟩
  have HG := hide hg
  have HR := hide hr
  clear hg hr C
  go_wp2
  go_ret
  refine ⟨?_, HG.out⟩
  rw [← HR.out]
  rfl

set_option maxRecDepth 100000 in
set_option maxHeartbeats 1000000 in
/-- The library's IndexFunc over a list of ports, with a closure that answers f. -/
theorem index_O {lo : Nat} (v : Value) (qs : List PortV) (f : Nat → Bool) (B : Nat) (w : World) (hv : RowAt shO lo w v qs)
    (hF : ∀ W, w.grownBy W none → ∀ (i : Nat) q, qs[i]? = some q → Calls Tryz.prog 122 #[.agg #[.int .i64 q.kind, .int .i64 q.fr, .int .i64 q.til, .int .i64 q.size], .pointer (some ⟨B, 0, none⟩)] W fun e w' => e = .returned (.bool (f i)) ∧ W.grownBy w' none) :
    Calls Tryz.prog 133 #[v, .func (.func 122) #[] #[.pointer (some ⟨B, 0, none⟩)]] w fun e w' => ∃ r : Int, e = .returned (.int .i64 r) ∧ decide (0 ≤ r) = (!allB qs.length (fun i => !f i)) ∧ w.grownBy w' none := by
  have HV := hide (fun W => hv.grown (W := W))
  obtain ⟨hl, va, vcap, rfl, -⟩ := hv
  have HF := hide hF
  clear hF
  generalize hN : qs.length = N at *
  have HN := hide hN
  clear hN
  go_enter Tryz.func133, Tryz.ntmps133
  go_wp2
  go_loopw [5, 8] (fun _ i W => ∃ (j : Nat), j ≤ N ∧ i = .int .i64 j ∧ Hid (w.grownBy W none) ∧ Hid (∀ i, i < j → (!f i) = true)) (fun _ i _ => N - (intOf i).toNat)
  case atStart => exact ⟨0, by omega, rfl, grownBy_refl _ _, fun i hi => absurd hi (Nat.not_lt_zero _)⟩
  case round =>
    obtain ⟨j, hj, rfl, HG, HP⟩ := hrel
    by_cases hlt : j < N
    · obtain ⟨-, a2, cap2, e2, hc⟩ := HV.out wr HG.out
      simp only [Value.slice.injEq] at e2
      obtain ⟨rfl, -, rfl⟩ := e2
      obtain ⟨g, o, rfl, -, hc2⟩ := hc (by rw [HN.out]; omega)
      obtain ⟨q, hq⟩ : ∃ q, qs[j]? = some q := ⟨_, List.getElem?_eq_getElem (by rw [HN.out]; exact hlt)⟩
      have HC := hide (HF.out wr HG.out j q hq)
      have hc3 := hc2 j q hq
      obtain ⟨x0, x1, x2, x3⟩ := q
      have c0 : wr.cell? ⟨g, o + j * 4, none⟩ = some (.int .i64 x0) := hc3 0 _ rfl
      have c1 : wr.cell? ⟨g, o + j * 4 + 1, none⟩ = some (.int .i64 x1) := hc3 1 _ rfl
      have c2 : wr.cell? ⟨g, o + j * 4 + 2, none⟩ = some (.int .i64 x2) := hc3 2 _ rfl
      have c3 : wr.cell? ⟨g, o + j * 4 + 3, none⟩ = some (.int .i64 x3) := hc3 3 _ rfl
      clear hc hc2 hc3 hq
      cases hm : f j with
      | false =>
        rw [hm] at HC
        have HM := hide hm
        clear hm
        go_wp2_with (first | fail)
        refine HC.out.mono ?_; rintro e w2 ⟨rfl, hg⟩
        have HG2 := hide (grownBy_trans HG.out hg)
        clear hg HG
        go_wp2
        go_roundw
        case rel =>
          refine ⟨j + 1, by omega, by go_num, HG2, fun i hi => ?_⟩
          rcases (by omega : i < j ∨ i = j) with h | rfl
          · exact HP.out i h
          · rw [HM.out]; rfl
        case measure => simp [intOf]; omega
      | true =>
        rw [hm] at HC
        have HM := hide hm
        clear hm
        go_wp2_with (first | fail)
        refine HC.out.mono ?_; rintro e w2 ⟨rfl, hg⟩
        have HG2 := hide (grownBy_trans HG.out hg)
        clear hg HG
        go_wp2
        go_ret
        refine ⟨_, rfl, ?_, HG2.out⟩
        rw [allB_false (f := fun i => !f i) hlt (by rw [HM.out]; rfl)]
        simp
    · go_wp2
      go_ret
      refine ⟨_, rfl, ?_, HG.out⟩
      rw [allB_true (f := fun i => !f i) (fun i hi => HP.out i (by omega))]
      rfl

set_option maxRecDepth 100000 in
set_option maxHeartbeats 1000000 in
theorem contains_O {lo : Nat} (v : Value) (qs : List PortV) (f : Nat → Bool) (B : Nat) (w : World) (hv : RowAt shO lo w v qs)
    (hF : ∀ W, w.grownBy W none → ∀ (i : Nat) q, qs[i]? = some q → Calls Tryz.prog 122 #[.agg #[.int .i64 q.kind, .int .i64 q.fr, .int .i64 q.til, .int .i64 q.size], .pointer (some ⟨B, 0, none⟩)] W fun e w' => e = .returned (.bool (f i)) ∧ W.grownBy w' none) :
    Calls Tryz.prog 121 #[v, .func (.func 122) #[] #[.pointer (some ⟨B, 0, none⟩)]] w fun e w' => e = .returned (.bool (!allB qs.length (fun i => !f i))) ∧ w.grownBy w' none := by
  have C := hide (index_O v qs f B w hv hF)
  clear hF
  obtain ⟨hl, va, vcap, rfl, -⟩ := hv
  generalize (!allB qs.length (fun i => !f i)) = m at *
  generalize qs.length = N at *
  go_enter Tryz.func121, Tryz.ntmps121
  go_wp2_with (first | fail)
  refine C.out.mono ?_; rintro e w' ⟨r, rfl, hr, hg⟩
  have HG := hide hg
  have HR := hide hr
  clear hg hr C
  go_wp2
  go_ret
  refine ⟨?_, HG.out⟩
  rw [← HR.out]
  rfl


#print axioms contains_O
end Go.Proofs.YtlppfocoonnpjaaGreatDoor

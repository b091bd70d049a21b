/- The walk of the law Ticks: for every a, b and every row of numbers within the form's reach it answers true and turns nothing that was there. -/
import Derived.Test.YtnepbdbalniodaaRefs
import Derived.Deep.AppendLies
import Derived.Laws.AppendOwnNone
namespace Go.Proofs.Ytnepbdbalniodaa
open Go.RowKit Go.Lib
attribute [local go_sem] alloc_drewN setCell_drewN

theorem infoU64' : (Try.prog.info? 22).map (fun i => (i.zero, i.size, i.bytes)) = some (some (.int .u64 0), 1, 8) := by kernel_rfl

/-- The numbers of a row as values: a name, so that the walk does not lay them open. -/
def vals (zs : List Int) (len : Nat) : List Value := (zs.take len).map (Value.int .u64)
theorem vals_length (zs : List Int) (len : Nat) (h : len ≤ zs.length) : (vals zs len).length = len := by simp [vals]; omega
theorem vals_one (zs : List Int) (len : Nat) (u : Value) (hu : u ∈ vals zs len) : u.oneCell' = true := by
  obtain ⟨z, _, rfl⟩ := List.mem_map.1 hu
  rfl
theorem news_at {w : World} {bl off len : Nat} {zs : List Int} (hlen : len ≤ zs.length) (hbw : bl < w.heap.size) (hc : NumsAt w bl off len zs) {j : Nat} {u : Value} {o : Obj} (hj : (vals zs len)[j]? = some u) : (w.alloc o).cell? ((⟨bl, off, none⟩ : Addr).add j) = some u := by
  rw [vals, List.getElem?_map] at hj
  obtain ⟨z, hz, rfl⟩ := Option.map_eq_some_iff.1 hj
  have hlt : j < len := by
    have := (List.getElem?_eq_some_iff.1 hz).1
    simp at this; omega
  rw [List.getElem?_take, if_pos hlt] at hz
  have h1 := hc j hlt
  rw [hz] at h1
  rw [Go.WideShapes.add_plain, World.cell?_alloc_lt _ _ _ hbw]
  exact h1

theorem NumsAt.draws {w : World} {b off len : Nat} {zs : List Int} (h : NumsAt w b off len zs) (n : Nat) : NumsAt (w.drewN n) b off len zs := h

/-- What the row that the law lays gives: the numbers, 77 behind them, and room. -/
theorem laid_row {w : World} {base g len cap : Nat} {zs : List Int} (hlen : len ≤ zs.length) (h : w.ownsRow base 22 1 (.slice (some ⟨g, 0, none⟩) (len + 1) cap) (len + 1) (vals zs len ++ [.int .u64 77])) :
    NumsAt w g 0 len zs ∧ w.cell? ⟨g, len, none⟩ = some (.int .u64 77) ∧ len + 1 ≤ cap := by
  have hv := vals_length zs len hlen
  refine ⟨fun k hk => ?_, ?_, ?_⟩
  · have h1 := h.cellAt k (by omega)
    rw [Nat.zero_add, h1, List.getElem?_append_left (by omega), vals, List.getElem?_map, List.getElem?_take, if_pos hk, List.getElem?_eq_getElem (by omega)]
    simp
  · have h1 := h.cellAt len (by omega)
    rw [h1, List.getElem?_append_right (by omega), hv, Nat.sub_self]
    rfl
  · rcases h.2 with ⟨h', _⟩ | ⟨g', cap', cur, h', _, _, hle, _⟩
    · simp at h'
    · simp only [Value.slice.injEq, Option.some.injEq, Addr.mk.injEq, and_true, true_and] at h'
      omega

set_option maxRecDepth 100000 in
set_option maxHeartbeats 1000000 in
theorem ticks_row (a b : Int) (ha : 0 ≤ a) (ha' : a ≤ 18446744073709551615) (hb : 0 ≤ b) (hb' : b ≤ 18446744073709551615) (bl off len cap : Nat) (zs : List Int) (hn : 0 < len) (hlen : len ≤ zs.length) (hreach : len * 8 ≤ 140737488351232) (hl : ∀ j : Nat, 0 ≤ zs[j]?.getD 0 ∧ zs[j]?.getD 0 ≤ 18446744073709551615) (w : World) (hbw : bl < w.heap.size) (hc : NumsAt w bl off len zs) :
    Calls Try.prog 3 #[.int .u64 a, .int .u64 b, .slice (some ⟨bl, off, none⟩) len cap] w fun e w' => e = .returned (.bool true) ∧ Below w.heap.size w w' := by
  obtain ⟨i0, hi, hz0, hz1, hz2⟩ := info_parts infoU64'
  have HC := hide hc
  have HL := hide hl
  clear hc hl
  go_enter Try.func3, Try.ntmps3
  have HM : Hid ((w.alloc (.cells #[] 22)).ownsRow w.heap.size 22 1 (.slice (some ⟨w.heap.size, 0, none⟩) 0 0) 0 []) := hide (World.ownsRow_made w #[] 0 (Nat.le_refl _) (by unfold maxLen; omega) rfl)
  go_wp2_with (at_builtin; refine wpList_append_own _ rfl _ _ 23 rfl w.heap.size 22 i0 (.int .u64 0) 1 8 Try.underlying23 hi hz0 hz1 hz2 rfl (by decide) _ 0 [] rfl HM.out ⟨bl, off, none⟩ len cap (vals zs len) rfl ?c0 ?c1 ?c2 ?c3 ?c4 ?c5 ?_)
  case c0 => rw [vals_length zs len hlen]; omega
  case c1 =>
    intro j u hj
    exact news_at hlen hbw HC.out hj
  case c2 => exact vals_one zs len
  case c3 => unfold maxLen; omega
  case c4 => omega
  case c5 => simp
  intro v1 w1 hown1 hgrow1 _
  have hown1 : w1.ownsRow w.heap.size 22 1 v1 len (vals zs len) := by simpa using hown1
  have hb1 : Below w.heap.size w w1 := ((Below.refl _ _).alloc (Nat.le_refl _) _).grown hgrow1 (by simp) (by intro k hk; simp [Value.ownBlock] at hk; omega)
  have HO1 := hide hown1
  have HB1 := hide hb1
  have hs1 := hb1.size
  clear hown1 hgrow1 hb1 HM
  go_wp2_with (at_builtin; refine wpList_append_own _ rfl _ _ 23 rfl w.heap.size 22 i0 (.int .u64 0) 1 8 Try.underlying23 hi hz0 hz1 hz2 rfl (by decide) _ _ _ rfl (HO1.out.alloc _) ⟨w1.heap.size, 0, none⟩ 1 1 [.int .u64 77] rfl rfl ?d1 ?d2 ?d3 ?d4 ?d5 ?_)
  case d1 =>
    intro j u hj
    match j, hj with
    | 0, hj => simp at hj; subst hj; simp [Addr.add]
  case d2 => intro u hu; simp at hu; subst hu; rfl
  case d3 => unfold maxLen; omega
  case d4 => omega
  case d5 => simp; omega
  intro v2 w2 hown2 hgrow2 _
  have hb2 : Below w.heap.size w w2 := (HB1.out.alloc (by omega) _).grown hgrow2 (by simp; omega) (by
    intro k hk
    rcases HO1.out.2 with ⟨rfl, _⟩ | ⟨g', cap', cur, rfl, hg', _⟩
    · simp [Value.ownBlock] at hk
    · simp [Value.ownBlock] at hk
      omega)
  have HB2 := hide hb2
  obtain ⟨g, cap2, hv2, hg2, hg2'⟩ := hown2.form (by omega)
  clear hgrow2 hb2 HO1 HB1
  subst hv2
  obtain ⟨hN, h77, hcap⟩ := laid_row hlen hown2
  have HN := hide hN
  have HX : Hid (NumsAt w2 bl off len zs) := hide (fun k hk => (HB2.out.cell (p := ⟨bl, off + k, none⟩) hbw).trans (HC.out k hk))
  clear hown2 hN
  go_wp2_with (first | (go_at_call 8; refine (add_def a b ha hb _).mono ?_; rintro e w' ⟨rfl, rfl⟩) | (go_at_call 9; refine (radd_def a b ha ha' hb hb' _).mono ?_; rintro e w' ⟨rfl, rfl⟩) | (go_at_call 10; refine (mul_def a b ha ha' hb hb' _).mono ?_; rintro e w' ⟨rfl, rfl⟩) | (go_at_call 11; refine (rmul_def a b ha hb _).mono ?_; rintro e w' ⟨rfl, rfl⟩) | (go_at_call 12; refine (lcm_def a b ha ha' hb hb' _).mono ?_; rintro e w' ⟨rfl, n1, rfl⟩) | (go_at_call 13; refine (rlcm_def a b ha ha' hb hb' _).mono ?_; rintro e w' ⟨rfl, rfl⟩) | (go_at_call 14; refine (sum_def g 0 len cap2 zs hlen (by omega) (fun j => (HL.out j).1) _ (HN.out.draws _)).mono ?_; rintro e w' ⟨rfl, rfl⟩) | (go_at_call 15; refine (rsum_def bl off len cap zs hlen (by omega) HL.out _ (HX.out.draws _)).mono ?_; rintro e w' ⟨rfl, rfl⟩) | (go_at_call 16; refine (num_any _ _).mono ?_; rintro e w' ⟨rfl, rfl⟩) | (go_at_call 17; refine (gcd_any a b ha (by omega) hb (by omega) _).mono ?_; rintro e w' ⟨rfl, n2, rfl⟩) | (go_at_call 18; refine (rgcd_any a b ha (by omega) hb (by omega) _).mono ?_; rintro e w' ⟨rfl, rfl⟩))
  clear h77
  go_loopw [24] (fun i wr => ∃ k : Nat, k ≤ len ∧ i = .int .i64 k ∧ Hid (NumsAt wr g 0 len zs) ∧ Hid (NumsAt wr bl off len zs) ∧ Hid (Below w.heap.size w wr)) (fun i _ => len - (intOf i).toNat)
  case atStart => exact ⟨0, Nat.zero_le _, rfl, HN.out.draws _, HX.out.draws _, below_drewN HB2.out _⟩
  case round =>
    obtain ⟨k, hk, rfl, r1, r2, r3⟩ := hrel
    have hsz := r3.out.size
    clear HN HX HB2 HC HL
    by_cases hlt : k < len
    · have c1 := r1.out k hlt
      rw [Nat.zero_add] at c1
      have c2 := r2.out k hlt
      go_wp2
      go_quiet (fail)
      go_wp2
      go_roundw
      case rel => exact ⟨k + 1, by omega, by go_num, r1.out.draws _, r2.out.draws _, below_drewN r3.out _⟩
      case measure => simp [intOf]; omega
    · go_wp2_with (go_at_call 19; refine (awake_any _).mono ?_; rintro e w9 ⟨rfl, _, hb9⟩)
      go_ret
      exact ⟨rfl, r3.out.trans (hb9.mono hsz)⟩
#print axioms ticks_row

set_option maxRecDepth 100000 in
set_option maxHeartbeats 1000000 in
theorem ticks_nil (a b : Int) (ha : 0 ≤ a) (ha' : a ≤ 18446744073709551615) (hb : 0 ≤ b) (hb' : b ≤ 18446744073709551615) (w : World) :
    Calls Try.prog 3 #[.int .u64 a, .int .u64 b, .slice none 0 0] w fun e w' => e = .returned (.bool true) ∧ Below w.heap.size w w' := by
  obtain ⟨i0, hi, hz0, hz1, hz2⟩ := info_parts infoU64'
  go_enter Try.func3, Try.ntmps3
  have HM : Hid ((w.alloc (.cells #[] 22)).ownsRow w.heap.size 22 1 (.slice (some ⟨w.heap.size, 0, none⟩) 0 0) 0 []) := hide (World.ownsRow_made w #[] 0 (Nat.le_refl _) (by unfold maxLen; omega) rfl)
  go_wp2_with (first | (at_builtin; refine wpList_append_own_none rfl (Operand.tmp 25) (Operand.tmp 26) 23 rfl w.heap.size 22 i0 1 Try.underlying23 hi _ 0 [] rfl HM.out rfl ?_) | (at_builtin; refine wpList_append_own _ rfl _ _ 23 rfl w.heap.size 22 i0 (.int .u64 0) 1 8 Try.underlying23 hi hz0 hz1 hz2 rfl (by decide) _ 0 [] rfl (HM.out.alloc _) ⟨w.heap.size + 1, 0, none⟩ 1 1 [.int .u64 77] rfl rfl ?d1 ?d2 ?d3 ?d4 ?d5 ?_))
  case d1 =>
    intro j u hj
    match j, hj with
    | 0, hj => simp at hj; subst hj; simp [Addr.add]
  case d2 => intro u hu; simp at hu; subst hu; rfl
  case d3 => unfold maxLen; omega
  case d4 => omega
  case d5 => simp; omega
  intro v2 w2 hown2 hgrow2 _
  have hb2 : Below w.heap.size w w2 := (((Below.refl _ _).alloc (Nat.le_refl _) _).alloc (by simp) _).grown hgrow2 (by simp; omega) (by
    intro k hk
    simp [Value.ownBlock] at hk
    omega)
  have HB2 := hide hb2
  have hown2 : w2.ownsRow w.heap.size 22 1 v2 (0 + 1) (vals [] 0 ++ [.int .u64 77]) := by simpa [vals] using hown2
  obtain ⟨g, cap2, hv2, hg2, hg2'⟩ := hown2.form (by omega)
  clear hgrow2 hb2 HM
  subst hv2
  obtain ⟨_, h77, hcap⟩ := laid_row (by simp) hown2
  clear hown2
  go_wp2_with (first | (go_at_call 8; refine (add_def a b ha hb _).mono ?_; rintro e w' ⟨rfl, rfl⟩) | (go_at_call 9; refine (radd_def a b ha ha' hb hb' _).mono ?_; rintro e w' ⟨rfl, rfl⟩) | (go_at_call 10; refine (mul_def a b ha ha' hb hb' _).mono ?_; rintro e w' ⟨rfl, rfl⟩) | (go_at_call 11; refine (rmul_def a b ha hb _).mono ?_; rintro e w' ⟨rfl, rfl⟩) | (go_at_call 12; refine (lcm_def a b ha ha' hb hb' _).mono ?_; rintro e w' ⟨rfl, n1, rfl⟩) | (go_at_call 13; refine (rlcm_def a b ha ha' hb hb' _).mono ?_; rintro e w' ⟨rfl, rfl⟩) | (go_at_call 14; refine (sum_none _ _ _).mono ?_; rintro e w' ⟨rfl, rfl⟩) | (go_at_call 15; refine (rsum_none _ _ _).mono ?_; rintro e w' ⟨rfl, rfl⟩) | (go_at_call 16; refine (num_any _ _).mono ?_; rintro e w' ⟨rfl, rfl⟩) | (go_at_call 17; refine (gcd_any a b ha (by omega) hb (by omega) _).mono ?_; rintro e w' ⟨rfl, n2, rfl⟩) | (go_at_call 18; refine (rgcd_any a b ha (by omega) hb (by omega) _).mono ?_; rintro e w' ⟨rfl, rfl⟩))
  clear h77
  go_loopw [24] (fun i wr => i = .int .i64 0 ∧ Hid (Below w.heap.size w wr)) (fun _ _ => 0)
  case atStart => exact ⟨rfl, below_drewN HB2.out _⟩
  case round =>
    obtain ⟨rfl, r3⟩ := hrel
    have hsz := r3.out.size
    clear HB2
    go_wp2_with (go_at_call 19; refine (awake_any _).mono ?_; rintro e w9 ⟨rfl, _, hb9⟩)
    go_ret
    exact ⟨rfl, r3.out.trans (hb9.mono hsz)⟩

set_option maxRecDepth 100000 in
set_option maxHeartbeats 1000000 in
theorem ticks_empty (a b : Int) (ha : 0 ≤ a) (ha' : a ≤ 18446744073709551615) (hb : 0 ≤ b) (hb' : b ≤ 18446744073709551615) (ad : Addr) (cap : Nat) (w : World) :
    Calls Try.prog 3 #[.int .u64 a, .int .u64 b, .slice (some ad) 0 cap] w fun e w' => e = .returned (.bool true) ∧ Below w.heap.size w w' := by
  obtain ⟨i0, hi, hz0, hz1, hz2⟩ := info_parts infoU64'
  go_enter Try.func3, Try.ntmps3
  have HM : Hid ((w.alloc (.cells #[] 22)).ownsRow w.heap.size 22 1 (.slice (some ⟨w.heap.size, 0, none⟩) 0 0) 0 []) := hide (World.ownsRow_made w #[] 0 (Nat.le_refl _) (by unfold maxLen; omega) rfl)
  go_wp2_with (at_builtin; refine wpList_append_own _ rfl _ _ 23 rfl w.heap.size 22 i0 (.int .u64 0) 1 8 Try.underlying23 hi hz0 hz1 hz2 rfl (by decide) _ 0 [] rfl HM.out ad 0 cap [] rfl ?c0 ?c1 ?c2 ?c3 ?c4 ?c5 ?_)
  case c0 => rfl
  case c1 =>
    intro j u hj
    simp at hj
  case c2 => intro u hu; simp at hu
  case c3 => unfold maxLen; omega
  case c4 => omega
  case c5 => simp
  intro v1 w1 hown1 hgrow1 _
  have hown1 : w1.ownsRow w.heap.size 22 1 v1 0 [] := by simpa using hown1
  have HB1 := hide (((Below.refl _ _).alloc (Nat.le_refl _) _).grown hgrow1 (by simp) (by intro k hk; simp [Value.ownBlock] at hk; omega) : Below w.heap.size w w1)
  have HO1 := hide hown1
  clear hown1 hgrow1 HM
  have hs1 := HB1.out.size
  go_wp2_with (at_builtin; refine wpList_append_own _ rfl _ _ 23 rfl w.heap.size 22 i0 (.int .u64 0) 1 8 Try.underlying23 hi hz0 hz1 hz2 rfl (by decide) _ _ _ rfl (HO1.out.alloc _) ⟨w1.heap.size, 0, none⟩ 1 1 [.int .u64 77] rfl rfl ?d1 ?d2 ?d3 ?d4 ?d5 ?_)
  case d1 =>
    intro j u hj
    match j, hj with
    | 0, hj => simp at hj; subst hj; simp [Addr.add]
  case d2 => intro u hu; simp at hu; subst hu; rfl
  case d3 => unfold maxLen; omega
  case d4 => omega
  case d5 => simp; omega
  intro v2 w2 hown2 hgrow2 _
  have hb2 : Below w.heap.size w w2 := (HB1.out.alloc (by omega) _).grown hgrow2 (by simp; omega) (by
    intro k hk
    rcases HO1.out.2 with ⟨rfl, _⟩ | ⟨g', cap', cur, rfl, hg', _⟩
    · simp [Value.ownBlock] at hk
    · simp [Value.ownBlock] at hk
      omega)
  have HB2 := hide hb2
  have hown2 : w2.ownsRow w.heap.size 22 1 v2 (0 + 1) (vals [] 0 ++ [.int .u64 77]) := by simpa [vals] using hown2
  obtain ⟨g, cap2, hv2, hg2, hg2'⟩ := hown2.form (by omega)
  clear hgrow2 hb2 HO1 HB1
  subst hv2
  obtain ⟨_, h77, hcap⟩ := laid_row (by simp) hown2
  clear hown2
  go_wp2_with (first | (go_at_call 8; refine (add_def a b ha hb _).mono ?_; rintro e w' ⟨rfl, rfl⟩) | (go_at_call 9; refine (radd_def a b ha ha' hb hb' _).mono ?_; rintro e w' ⟨rfl, rfl⟩) | (go_at_call 10; refine (mul_def a b ha ha' hb hb' _).mono ?_; rintro e w' ⟨rfl, rfl⟩) | (go_at_call 11; refine (rmul_def a b ha hb _).mono ?_; rintro e w' ⟨rfl, rfl⟩) | (go_at_call 12; refine (lcm_def a b ha ha' hb hb' _).mono ?_; rintro e w' ⟨rfl, n1, rfl⟩) | (go_at_call 13; refine (rlcm_def a b ha ha' hb hb' _).mono ?_; rintro e w' ⟨rfl, rfl⟩) | (go_at_call 14; refine (sum_none _ _ _).mono ?_; rintro e w' ⟨rfl, rfl⟩) | (go_at_call 15; refine (rsum_none _ _ _).mono ?_; rintro e w' ⟨rfl, rfl⟩) | (go_at_call 16; refine (num_any _ _).mono ?_; rintro e w' ⟨rfl, rfl⟩) | (go_at_call 17; refine (gcd_any a b ha (by omega) hb (by omega) _).mono ?_; rintro e w' ⟨rfl, n2, rfl⟩) | (go_at_call 18; refine (rgcd_any a b ha (by omega) hb (by omega) _).mono ?_; rintro e w' ⟨rfl, rfl⟩))
  clear h77
  go_loopw [24] (fun i wr => i = .int .i64 0 ∧ Hid (Below w.heap.size w wr)) (fun _ _ => 0)
  case atStart => exact ⟨rfl, below_drewN HB2.out _⟩
  case round =>
    obtain ⟨rfl, r3⟩ := hrel
    have hsz := r3.out.size
    clear HB2
    go_wp2_with (go_at_call 19; refine (awake_any _).mono ?_; rintro e w9 ⟨rfl, _, hb9⟩)
    go_ret
    exact ⟨rfl, r3.out.trans (hb9.mono hsz)⟩
#print axioms ticks_empty
end Go.Proofs.Ytnepbdbalniodaa

/- Contracts of the document's own Bits: set, Put, Drop, Has, All, Next and NewBits answer and leave what package bits' do, and write to their own block alone. -/
import Derived.Test.YthphkcblifkmeaaDoorMany
namespace Go.Proofs.YthphkcblifkmeaaDoor
open Go.RowKit
attribute [local go_sem] alloc_drewN setCell_drewN

/-- The document's Bits at block b is of size k and holds the bits of x. -/
structure RefAt (W : World) (b k x : Nat) : Prop where
  one : 1 ≤ k
  most : k ≤ 64
  small : x < 2 ^ k
  size : W.cell? ⟨b, 0, none⟩ = some (.int .i64 k)
  bit : ∀ i, i < 64 → W.cell? ⟨b, 1 + i, none⟩ = some (.bool (x.testBit i))
  thaw : ∀ i, W.frozen? ⟨b, i, none⟩ = false

theorem RefAt.lt {W : World} {b k x : Nat} (h : RefAt W b k x) : b < W.heap.size := World.block_lt_of_cell? W ⟨b, 0, none⟩ h.size
theorem RefAt.draws {W : World} {b k x : Nat} (h : RefAt W b k x) (n : Nat) : RefAt (W.drewN n) b k x := ⟨h.one, h.most, h.small, h.size, h.bit, h.thaw⟩
theorem RefAt.kept {W W' : World} {b k x : Nat} (h : RefAt W b k x) (e : W'.heap[b]? = W.heap[b]?) : RefAt W' b k x :=
  ⟨h.one, h.most, h.small, (World.cell?_of_block (a := ⟨b, 0, none⟩) e).trans h.size, fun i hi => (World.cell?_of_block (a := ⟨b, 1 + i, none⟩) e).trans (h.bit i hi), fun i => (World.frozen?_of_block (a := ⟨b, i, none⟩) e).trans (h.thaw i)⟩
theorem RefAt.put {W : World} {b k x y n : Nat} {t : Bool} (h : RefAt W b k x) (hn : n < 64) (hy : y < 2 ^ k) (hb : ∀ j, y.testBit j = if n = j then t else x.testBit j) : RefAt (W.setCell ⟨b, 1 + n, none⟩ (.bool t)) b k y where
  one := h.one
  most := h.most
  small := hy
  size := by rw [other _ _ _ _ _ (by omega)]; exact h.size
  bit i hi := by
    rw [hb i]
    by_cases e : n = i
    · subst e; rw [if_pos rfl]; exact World.cell?_setCell_same _ _ _ (h.bit n hn)
    · rw [if_neg e, other _ _ _ _ _ (by omega)]; exact h.bit i hi
  thaw i := by rw [World.frozen?_setCell]; exact h.thaw i

set_option maxRecDepth 100000 in
set_option maxHeartbeats 1000000 in
theorem rset_no (b k x : Nat) (i : Int) (t : Bool) (hf : ¬ Fits k i) (w : World) (h : RefAt w b k x) :
    Calls Tryd.prog 26 #[.pointer (some ⟨b, 0, none⟩), .int .i64 i, .bool t] w fun e w' => e = .returned (.int .i64 300) ∧ w' = w := by
  have h1 := h.size
  unfold Fits at hf
  by_cases h0 : i < 0
  · go_enter Tryd.func26, Tryd.ntmps26
    go_wp2
    go_ret
    exact ⟨rfl, rfl⟩
  · have h2 : (k : Int) ≤ i := by omega
    clear hf
    go_enter Tryd.func26, Tryd.ntmps26
    go_wp2
    go_ret
    exact ⟨rfl, rfl⟩
set_option maxRecDepth 100000 in
set_option maxHeartbeats 1000000 in
theorem rset_yes (b k x n : Nat) (t : Bool) (hn : n < k) (w : World) (h : RefAt w b k x) :
    Calls Tryd.prog 26 #[.pointer (some ⟨b, 0, none⟩), .int .i64 n, .bool t] w fun e w' => e = .returned (.int .i64 0) ∧ w' = w.setCell ⟨b, 1 + n, none⟩ (.bool t) := by
  have h1 := h.size
  have hk := h.most
  have h2 := h.bit n (by omega)
  generalize x.testBit n = u at h2
  have h3 := h.thaw (1 + n)
  clear h
  go_enter Tryd.func26, Tryd.ntmps26
  go_wp2
  go_ret
  exact ⟨rfl, rfl⟩

theorem rput_any (b k x : Nat) (i : Int) (w : World) (h : RefAt w b k x) :
    Calls Tryd.prog 13 #[.pointer (some ⟨b, 0, none⟩), .int .i64 i] w fun e w' => e = .returned (.int .i64 (ans k i)) ∧ RefAt w' b k (putW k x i) ∧ w.grownBy w' (some b) := by
  have hlt : putW k x i < 2 ^ k := put_lt h.small
  by_cases hf : Fits k i
  · have ha : ans k i = 0 := by unfold ans; rw [if_pos hf]
    have hbit : ∀ j : Nat, (putW k x i).testBit j = if i = j then true else x.testBit j := fun j => by
      rw [put_bit]
      by_cases e : i = j
      · rw [if_pos e, decide_eq_true ⟨hf, e⟩, Bool.or_true]
      · rw [if_neg e, decide_eq_false (fun h => e h.2), Bool.or_false]
    have hf' := hf
    unfold Fits at hf
    obtain ⟨n, rfl⟩ : ∃ n : Nat, i = n := ⟨i.toNat, by omega⟩
    have hk := h.most
    rw [ha]
    have HP := hide (h.put (n := n) (t := true) (y := putW k x n) (by omega) hlt (fun j => by
      by_cases e : n = j
      · subst e; rw [hbit n, if_pos rfl, if_pos rfl]
      · rw [hbit j, if_neg (by omega), if_neg e]))
    have C := hide (rset_yes b k x n true (by omega) w h)
    generalize putW k x n = y at *
    clear hbit hlt ha h hf'
    go_enter Tryd.func13, Tryd.ntmps13
    go_wp2_with (go_at_call 26; refine C.out.mono ?_; rintro e w' ⟨rfl, rfl⟩)
    go_ret
    exact ⟨rfl, HP.out, grownBy_set _ _ _ _⟩
  · have ha : ans k i = 300 := by unfold ans; rw [if_neg hf]
    have hp : putW k x i = x := by unfold putW; rw [if_neg hf]
    rw [ha, hp]
    have C := hide (rset_no b k x i true hf w h)
    have HS := hide h
    clear ha hp hf h hlt
    go_enter Tryd.func13, Tryd.ntmps13
    go_wp2_with (go_at_call 26; refine C.out.mono ?_; rintro e w' ⟨rfl, rfl⟩)
    go_ret
    exact ⟨rfl, HS.out, grownBy_refl _ _⟩

theorem rdrop_any (b k x : Nat) (i : Int) (w : World) (h : RefAt w b k x) :
    Calls Tryd.prog 15 #[.pointer (some ⟨b, 0, none⟩), .int .i64 i] w fun e w' => e = .returned (.int .i64 (ans k i)) ∧ RefAt w' b k (dropW k x i) ∧ w.grownBy w' (some b) := by
  have hlt : dropW k x i < 2 ^ k := drop_lt h.small
  by_cases hf : Fits k i
  · have ha : ans k i = 0 := by unfold ans; rw [if_pos hf]
    have hbit : ∀ j : Nat, (dropW k x i).testBit j = if i = j then false else x.testBit j := fun j => by
      rw [dropW_bit k x h.most h.small]
      by_cases e : i = j
      · rw [if_pos e, decide_eq_true ⟨hf, e⟩]; simp
      · rw [if_neg e, decide_eq_false (fun h => e h.2)]; simp
    have hf' := hf
    unfold Fits at hf
    obtain ⟨n, rfl⟩ : ∃ n : Nat, i = n := ⟨i.toNat, by omega⟩
    have hk := h.most
    rw [ha]
    have HP := hide (h.put (n := n) (t := false) (y := dropW k x n) (by omega) hlt (fun j => by
      by_cases e : n = j
      · subst e; rw [hbit n, if_pos rfl, if_pos rfl]
      · rw [hbit j, if_neg (by omega), if_neg e]))
    have C := hide (rset_yes b k x n false (by omega) w h)
    generalize dropW k x n = y at *
    clear hbit hlt ha h hf'
    go_enter Tryd.func15, Tryd.ntmps15
    go_wp2_with (go_at_call 26; refine C.out.mono ?_; rintro e w' ⟨rfl, rfl⟩)
    go_ret
    exact ⟨rfl, HP.out, grownBy_set _ _ _ _⟩
  · have ha : ans k i = 300 := by unfold ans; rw [if_neg hf]
    have hp : dropW k x i = x := by unfold dropW; rw [if_neg hf]
    rw [ha, hp]
    have C := hide (rset_no b k x i false hf w h)
    have HS := hide h
    clear ha hp hf h hlt
    go_enter Tryd.func15, Tryd.ntmps15
    go_wp2_with (go_at_call 26; refine C.out.mono ?_; rintro e w' ⟨rfl, rfl⟩)
    go_ret
    exact ⟨rfl, HS.out, grownBy_refl _ _⟩

set_option maxRecDepth 100000 in
set_option maxHeartbeats 1000000 in
theorem rhas_any (b k x : Nat) (i : Int) (w : World) (h : RefAt w b k x) :
    Calls Tryd.prog 19 #[.pointer (some ⟨b, 0, none⟩), .int .i64 i] w fun e w' => e = .returned (.bool (hasW x i)) ∧ w' = w := by
  have h1 := h.size
  have hk := h.most
  by_cases h0 : 0 ≤ i
  · obtain ⟨n, rfl⟩ : ∃ n : Nat, i = n := ⟨i.toNat, by omega⟩
    have hh : hasW x (n : Int) = x.testBit n := by simp [hasW]
    rw [hh]
    clear hh
    by_cases hn : n < k
    · have h2 := h.bit n (by omega)
      generalize x.testBit n = u at *
      clear h
      go_enter Tryd.func19, Tryd.ntmps19
      go_wp2
      go_ret
      exact ⟨rfl, rfl⟩
    · rw [no_bit h.small (by omega)]
      clear h
      go_enter Tryd.func19, Tryd.ntmps19
      go_wp2
      go_ret
      exact ⟨rfl, rfl⟩
  · have hh : hasW x i = false := by simp [hasW, h0]
    rw [hh]
    clear hh h
    go_enter Tryd.func19, Tryd.ntmps19
    go_wp2
    go_ret
    exact ⟨rfl, rfl⟩
#print axioms rhas_any

set_option maxRecDepth 100000 in
set_option maxHeartbeats 2000000 in
theorem rall_any (b k x : Nat) (w : World) (h : RefAt w b k x) :
    Calls Tryd.prog 22 #[.pointer (some ⟨b, 0, none⟩)] w fun e w' => ∃ v, e = .returned v ∧ w'.ownsRow w.heap.size 3 1 v (mem x k).length (vals (mem x k)) ∧ w.grownBy w' none := by
  have hb := h.lt
  have hk := h.most
  have HS := hide h
  clear h
  go_enter Tryd.func22, Tryd.ntmps22
  go_wp2
  go_loopw [3, 4] (fun v c W => ∃ j : Nat, j ≤ k ∧ c = .int .i64 j ∧ W.ownsRow w.heap.size 3 1 v (mem x j).length (vals (mem x j)) ∧ w.grownBy W none) (fun _ c _ => k - (intOf c).toNat)
  case atStart => exact ⟨0, by omega, rfl, World.ownsRow_nil _ _ _ _, grownBy_refl _ _⟩
  case round =>
    obtain ⟨j, hj, rfl, hown, hg⟩ := hrel
    obtain ⟨a', cap', rfl⟩ := own_form hown
    have hlen := mem_length x j
    have hS := HS.out.kept (hg.block b hb (by simp))
    have c1 := hS.size
    have HO := hide hown
    have HG := hide hg
    have HZ := hide hg.size
    clear hown hg
    by_cases hlt : j < k
    · have c2 := hS.bit j (by omega)
      cases hbit : x.testBit j
      · have HM := hide (mem_no hbit)
        rw [hbit] at c2
        clear hbit hS
        generalize hn : (mem x j).length = n at *
        have HN := hide hn
        clear hn
        go_wp2
        go_roundw
        case rel =>
          refine ⟨j + 1, by omega, by go_num, ?_, HG.out⟩
          rw [HM.out, HN.out]; exact HO.out
        case measure => simp [intOf]; omega
      · have HM := hide (mem_yes hbit)
        rw [hbit] at c2
        clear hbit hS
        generalize hn : (mem x j).length = n at *
        have HN := hide hn
        clear hn
        go_wp2_with (at_builtin; refine app_ints _ rfl _ _ rfl w.heap.size (.slice a' n cap') n (mem x j) rfl ?c0 ⟨wr.heap.size, 0, none⟩ 1 1 [(j : Int)] rfl rfl ?c1 ?c2 ?c3 ?_)
        case c0 => exact HO.out.alloc _
        case c1 =>
          intro i hi
          match i, hi with
          | 0, _ => simp [Addr.add]
        case c2 => omega
        case c3 => have := HZ.out; simp; omega
        intro a2 cap2 w2 hown2 hgrow2
        have HO2 := hide hown2
        have HG2 := hide (grown_append (m := 0) HG.out (fun g hg => (HO.out.lt g hg).1) hgrow2)
        clear hown2 hgrow2
        go_wp2
        go_roundw
        case rel =>
          refine ⟨j + 1, by omega, by go_num, ?_, HG2.out⟩
          rw [HM.out, show (mem x j ++ [(j : Int)]).length = n + 1 by simp [HN.out]]; exact HO2.out
        case measure => simp [intOf]; omega
    · have e : j = k := by omega
      subst e
      clear hS
      generalize hn : (mem x j).length = n at *
      have HN := hide hn
      clear hn
      go_wp2
      go_ret
      refine ⟨_, rfl, ?_, HG.out⟩
      rw [HN.out]
      exact HO.out
#print axioms rall_any

set_option maxRecDepth 100000 in
set_option maxHeartbeats 1000000 in
theorem rnext_none (b k : Nat) (i : Int) (w : World) (h : RefAt w b k 0) :
    Calls Tryd.prog 17 #[.pointer (some ⟨b, 0, none⟩), .int .i64 i] w fun e w' => e = .returned (.tuple #[.int .i64 0, .bool false]) ∧ w.grownBy w' none := by
  have e0 : mem 0 k = [] := (mem_none h.small).2 rfl
  have C := hide (rall_any b k 0 w h)
  rw [e0] at C
  clear h e0
  go_enter Tryd.func17, Tryd.ntmps17
  go_wp2_with (first | fail)
  refine C.out.mono ?_
  rintro e w' ⟨v, rfl, hown, hg⟩
  obtain ⟨a', cap', rfl⟩ := own_form hown
  simp only [List.length_nil] at *
  have HG := hide hg
  clear hown hg
  go_wp2
  go_loop [7] (fun c => c = .int .i64 0) (fun _ => 0)
  case atStart => rfl
  case round =>
    obtain rfl := hrel
    go_wp2
    go_ret2
    exact ⟨rfl, HG.out⟩

theorem mem_nat {x k p : Nat} (hp : p < (mem x k).length) : ∃ r : Nat, (mem x k)[p]?.getD 0 = (r : Int) ∧ (mem x k)[p]? = some (r : Int) ∧ x.testBit r = true ∧ r < k := by
  obtain ⟨r, h1, h2, h3⟩ := mem_at x k p hp
  exact ⟨r, by rw [h1]; rfl, h1, h3, h2⟩
/-- Where a member stands, if it lies between two that stand beside one another. -/
theorem mem_before {x k p r j : Nat} (hx : x < 2 ^ k) (hr : (mem x k)[p]? = some (r : Int)) (hb : x.testBit j = true) (hj : j < r) : ∃ q, q < p ∧ (mem x k)[q]? = some (j : Int) := by
  have hjk : j < k := by
    rcases Nat.lt_or_ge j k with h | h
    · exact h
    · rw [no_bit hx h] at hb; cases hb
  obtain ⟨q, hq⟩ := mem_has x k j hjk hb
  refine ⟨q, ?_, hq⟩
  rcases Nat.lt_trichotomy q p with h | h | h
  · exact h
  · subst h; rw [hr] at hq; simp at hq; omega
  · have := mem_rise x k p q r j h hr hq; omega

set_option maxRecDepth 100000 in
set_option maxHeartbeats 2000000 in
theorem rnext_some (b k x : Nat) (i : Int) (h0 : 0 < x) (w : World) (h : RefAt w b k x) :
    Calls Tryd.prog 17 #[.pointer (some ⟨b, 0, none⟩), .int .i64 i] w fun e w' => ∃ r : Nat, e = .returned (.tuple #[.int .i64 r, .bool true]) ∧ IsNext x i r ∧ w.grownBy w' none := by
  have hx := h.small
  have hk := h.most
  have hlen := mem_length x k
  have hne : 0 < (mem x k).length := by
    rcases Nat.eq_zero_or_pos (mem x k).length with e | e
    · have := (mem_none hx).1 (List.length_eq_zero_iff.1 e); omega
    · exact e
  have C := hide (rall_any b k x w h)
  have HX := hide hx
  clear h hx
  generalize hN : (mem x k).length = N at *
  have HN := hide hN
  clear hN
  go_enter Tryd.func17, Tryd.ntmps17
  go_wp2_with (first | fail)
  refine C.out.mono ?_
  rintro e w' ⟨v, rfl, hown, hg⟩
  obtain ⟨a', cap', rfl⟩ := own_form hown
  obtain ⟨g, rfl, -, hcap, -⟩ := own_cap hown hne
  have HC := hide (fun p (hp : p < N) => (hown.cellAt p (by omega)).trans (vals_get _ _ (by rw [HN.out]; exact hp)))
  have HG := hide hg
  clear hown hg
  obtain ⟨r0, e0, hr0, hb0, -⟩ := mem_nat (x := x) (k := k) (p := 0) (by rw [HN.out]; exact hne)
  have c0 := HC.out 0 hne
  rw [e0] at c0
  have HR0 := hide hr0
  have HB0 := hide hb0
  clear e0 hr0 hb0
  go_wp2_with (first | fail)
  go_loop [7] (fun c => ∃ p : Nat, p ≤ N ∧ c = .int .i64 p ∧ ∀ q r : Nat, q < p → (mem x k)[q]? = some (r : Int) → (r : Int) ≤ i) (fun c => N - (intOf c).toNat)
  case atStart => exact ⟨0, by omega, rfl, fun q r hq => by omega⟩
  case round =>
    obtain ⟨p, hp, rfl, hbelow⟩ := hrel
    have HL := hide hbelow
    clear hbelow
    by_cases hlt : p < N
    · obtain ⟨r, e1, hr, hb, -⟩ := mem_nat (x := x) (k := k) (p := p) (by rw [HN.out]; exact hlt)
      have c1 := HC.out p hlt
      rw [e1] at c1
      have HR := hide hr
      have HB := hide hb
      clear e1 hr hb
      by_cases hir : i < r
      · go_wp2
        go_ret2
        refine ⟨r, rfl, ⟨HB.out, .inl ⟨hir, fun j hij hj => ?_⟩⟩, HG.out⟩
        cases hbj : x.testBit j
        · rfl
        · obtain ⟨q, hq, hqj⟩ := mem_before HX.out HR.out hbj hj
          have := HL.out q j hq hqj
          omega
      · have hri : (r : Int) ≤ i := by omega
        go_wp2
        go_round
        case rel =>
          refine ⟨p + 1, by omega, by go_num, fun q s hq hs => ?_⟩
          by_cases e : q = p
          · subst e; rw [HR.out] at hs; cases hs; exact hri
          · exact HL.out q s (by omega) hs
        case measure => simp [intOf]; omega
    · have e : p = N := by omega
      subst e
      go_wp2
      go_ret2
      refine ⟨r0, rfl, ⟨HB0.out, .inr ⟨fun j hij => ?_, fun j hj => ?_⟩⟩, HG.out⟩
      · cases hbj : x.testBit j
        · rfl
        · have hjk : j < k := by
            rcases Nat.lt_or_ge j k with h | h
            · exact h
            · rw [no_bit HX.out h] at hbj; cases hbj
          obtain ⟨q, hq⟩ := mem_has x k j hjk hbj
          have hql : q < p := by
            rcases Nat.lt_or_ge q p with h | h
            · exact h
            · rw [List.getElem?_eq_none (by rw [HN.out]; exact h)] at hq; cases hq
          have := HL.out q j hql hq
          omega
      · cases hbj : x.testBit j
        · rfl
        · obtain ⟨q, hq, _⟩ := mem_before HX.out HR0.out hbj hj
          omega
#print axioms rnext_some

/-! NewBits. -/
def zs65 : Array Value := #[.int .i64 0] ++ Array.replicate 64 (.bool false)
theorem zs65_size : zs65.size = 65 := by simp [zs65]
theorem zero49 (w : World) : (zeroValue 49).run Tryd.prog w = .ok (.agg zs65) w := by kernel_rfl

set_option maxHeartbeats 400000 in
theorem rnew_size (l : Int) (v : Value) (h : l < 1 ∨ 64 < l) (w : World) :
    Calls Tryd.prog 8 #[.int .i64 l, v] w fun e w' => e = .returned (.tuple #[.pointer none, .int .i64 300]) ∧ w' = w := by
  rcases h with h | h
  · go_enter Tryd.func8, Tryd.ntmps8
    go_wp2
    go_ret2
    exact ⟨rfl, rfl⟩
  · have h' : 1 ≤ l := by omega
    go_enter Tryd.func8, Tryd.ntmps8
    go_wp2
    go_ret2
    exact ⟨rfl, rfl⟩

theorem zs65_bit (k : Int) : ∀ i, i < 64 → (zs65.setIfInBounds 0 (.int .i64 k))[1 + i]? = some (.bool false) := by
  intro i hi
  rw [Array.getElem?_setIfInBounds, if_neg (by omega)]
  rw [zs65, Array.getElem?_append_right (by simp), show 1 + i - (#[Value.int .i64 0] : Array Value).size = i by simp, Array.getElem?_replicate, if_pos hi]

set_option maxRecDepth 100000 in
set_option maxHeartbeats 2000000 in
theorem rnew_any (k : Nat) (h1 : 1 ≤ k) (h2 : k ≤ 64) (v : Value) (zs : List Int) (hz : zs.length ≤ 9223372036854775807) (w : World) (hv : Reads w v zs) :
    Calls Tryd.prog 8 #[.int .i64 k, v] w fun e w' => w.grownBy w' none ∧ ((∃ x, newW k 0 zs = some x ∧ e = .returned (.tuple #[.pointer (some ⟨w.heap.size, 0, none⟩), .int .i64 0]) ∧ RefAt w' w.heap.size k x) ∨ (newW k 0 zs = none ∧ e = .returned (.tuple #[.pointer none, .int .i64 300]))) := by
  have HR := hide (fun W => hv.grown (W := W))
  obtain ⟨a, cap, rfl, -⟩ := hv
  generalize hN : zs.length = N at *
  have HN := hide hN
  clear hN
  have HK := hide (pow_le h2)
  have hsz := zs65_size
  have HZB := hide (zs65_bit (k : Int))
  go_enter Tryd.func8, Tryd.ntmps8
  go_wp2_with (simp only [zero49, Result.andThen])
  go_loopw [7] (fun c W => ∃ (j x : Nat), j ≤ N ∧ c = .int .i64 j ∧ newW k x (zs.drop j) = newW k 0 zs ∧ RefAt W w.heap.size k x ∧ w.grownBy W none) (fun c _ => N - (intOf c).toNat)
  case atStart =>
    refine ⟨0, 0, by omega, rfl, rfl, ⟨h1, h2, Nat.pow_pos (by decide), ?_, ?_, ?_⟩, World.grownBy_alloc _ _ _⟩
    · simp [hsz]
    · intro i hi
      have := HZB.out i hi
      rw [Nat.zero_testBit]
      simpa using this
    · intro i; simp
  case round =>
    obtain ⟨j, x, hj, rfl, hw, hS, hg⟩ := hrel
    clear hsz
    by_cases hlt : j < N
    · obtain ⟨a2, cap2, e2, hc⟩ := HR.out wr hg
      simp only [Value.slice.injEq] at e2
      obtain ⟨rfl, -, rfl⟩ := e2
      obtain ⟨g, o, rfl, hc2⟩ := hc (by rw [HN.out]; omega)
      have hcell := hc2 j (by rw [HN.out]; exact hlt)
      rw [drop_at (by rw [HN.out]; exact hlt)] at hw
      clear hc hc2
      generalize zs[j]?.getD 0 = z at hw hcell
      have C := hide (rput_any _ k x z wr hS)
      simp only [newW] at hw
      by_cases hf : Fits k z
      · rw [if_pos hf] at hw
        have ha : ans k z = 0 := by unfold ans; rw [if_pos hf]
        rw [ha] at C
        have HW := hide hw
        have HG := hide hg
        clear hw hg ha hf hS
        go_wp2_with (go_at_call 13; refine C.out.mono ?_; rintro e w' ⟨rfl, hS', hg'⟩)
        have HS := hide hS'
        have HG' := hide hg'
        clear hS' hg'
        go_wp2
        go_roundw
        case rel => exact ⟨j + 1, _, by omega, by go_num, HW.out, HS.out, grown_spoil HG.out (Nat.le_refl _) HG'.out⟩
        case measure => simp [intOf]; omega
      · rw [if_neg hf] at hw
        have ha : ans k z = 300 := by unfold ans; rw [if_neg hf]
        rw [ha] at C
        have HW := hide hw
        have HG := hide hg
        clear hw hg ha hf hS
        go_wp2_with (go_at_call 13; refine C.out.mono ?_; rintro e w' ⟨rfl, -, hg'⟩)
        go_ret2
        exact ⟨grown_spoil HG.out (Nat.le_refl _) hg', .inr ⟨HW.out.symm, rfl⟩⟩
    · rw [List.drop_eq_nil_of_le (by rw [HN.out]; omega)] at hw
      simp only [newW] at hw
      have HW := hide hw
      have HG := hide hg
      have HS := hide hS
      clear hw hg hS
      go_wp2
      go_ret2
      exact ⟨HG.out, .inl ⟨x, HW.out.symm, rfl, HS.out⟩⟩
theorem rnew_yes (k : Nat) (h1 : 1 ≤ k) (h2 : k ≤ 64) (v : Value) (zs : List Int) (x : Nat) (hx : newW k 0 zs = some x) (hz : zs.length ≤ 9223372036854775807) (w : World) (hv : Reads w v zs) :
    Calls Tryd.prog 8 #[.int .i64 k, v] w fun e w' => ∃ b, w.heap.size ≤ b ∧ e = .returned (.tuple #[.pointer (some ⟨b, 0, none⟩), .int .i64 0]) ∧ RefAt w' b k x ∧ w.grownBy w' none := by
  refine (rnew_any k h1 h2 v zs hz w hv).mono ?_
  rintro e w' ⟨hg, ⟨y, hy, rfl, hS⟩ | ⟨hn, _⟩⟩
  · rw [hx] at hy; cases hy; exact ⟨_, Nat.le_refl _, rfl, hS, hg⟩
  · rw [hx] at hn; cases hn
theorem rnew_not (k : Nat) (h1 : 1 ≤ k) (h2 : k ≤ 64) (v : Value) (zs : List Int) (hx : newW k 0 zs = none) (hz : zs.length ≤ 9223372036854775807) (w : World) (hv : Reads w v zs) :
    Calls Tryd.prog 8 #[.int .i64 k, v] w fun e w' => e = .returned (.tuple #[.pointer none, .int .i64 300]) ∧ w.grownBy w' none := by
  refine (rnew_any k h1 h2 v zs hz w hv).mono ?_
  rintro e w' ⟨hg, ⟨y, hy, rfl, hS⟩ | ⟨hn, rfl⟩⟩
  · rw [hx] at hy; cases hy
  · exact ⟨rfl, hg⟩
#print axioms rnew_not
end Go.Proofs.YthphkcblifkmeaaDoor

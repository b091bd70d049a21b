/- The walk of the law TickSums: for every row of numbers within the form's reach it answers true and turns nothing that was there. -/
import Derived.Test.YtnepbdbalniodaaAwake
import Derived.Deep.DeepFit
import Derived.Deep.AppendLies
namespace Go.Proofs.Ytnepbdbalniodaa
open Go.RowKit Go.Lib
attribute [local go_sem] alloc_drewN setCell_drewN

theorem infoU64 : (Try.prog.info? 22).map (fun i => (i.zero, i.size, i.bytes)) = some (some (.int .u64 0), 1, 8) := by kernel_rfl

/-- The first k of the row read from its end. -/
def rv (zs : List Int) (len k : Nat) : List Int := ((zs.take len).reverse).take k
theorem rv_zero (zs : List Int) (len : Nat) : rv zs len 0 = [] := by simp [rv]
theorem rv_length (zs : List Int) (len k : Nat) (h : len ≤ zs.length) (hk : k ≤ len) : (rv zs len k).length = k := by
  simp [rv]; omega
theorem rv_succ (zs : List Int) (len k : Nat) (h : len ≤ zs.length) (hk : k < len) : rv zs len (k + 1) = rv zs len k ++ [zs[len - 1 - k]?.getD 0] := by
  have h1 : k < ((zs.take len).reverse).length := by simp; omega
  unfold rv
  rw [List.take_succ_eq_append_getElem h1]
  congr 2
  rw [List.getElem_reverse, List.getElem_take, List.getElem?_eq_getElem (by omega)]
  simp
  congr 1
  omega
theorem sum_reverse_int (l : List Int) : l.reverse.sum = l.sum := by
  induction l with
  | nil => rfl
  | cons x l ih => rw [List.reverse_cons, List.sum_append, ih]; simp; omega
theorem rv_sum (zs : List Int) (len : Nat) (h : len ≤ zs.length) : psum (rv zs len len) len = psum zs len := by
  have e : rv zs len len = (zs.take len).reverse := by unfold rv; rw [List.take_of_length_le (by simp; omega)]
  unfold psum
  rw [e, List.take_of_length_le (by simp; omega), sum_reverse_int]
theorem rv_nonneg (zs : List Int) (len k : Nat) (hl : ∀ j : Nat, 0 ≤ zs[j]?.getD 0) (j : Nat) : 0 ≤ (rv zs len k)[j]?.getD 0 := by
  cases hj : (rv zs len k)[j]? with
  | none => simp
  | some u =>
    have hm : u ∈ rv zs len k := List.mem_of_getElem? hj
    have hz : u ∈ zs := by
      have h1 := List.mem_of_mem_take hm
      rw [List.mem_reverse] at h1
      exact List.mem_of_mem_take h1
    obtain ⟨i, hi, rfl⟩ := List.getElem_of_mem hz
    have := hl i
    rw [List.getElem?_eq_getElem hi] at this
    simpa using this

/-- What an owned row of numbers gives to Sum. -/
theorem nums_of_own {w : World} {base g n cap : Nat} {zs : List Int} (hn : zs.length = n) (h : w.ownsRow base 22 1 (.slice (some ⟨g, 0, none⟩) n cap) n (zs.map (Value.int .u64))) : NumsAt w g 0 n zs := by
  intro k hk
  have := h.cellAt k (by omega)
  rw [Nat.zero_add, this, List.getElem?_map, List.getElem?_eq_getElem (by omega)]
  simp

theorem own_step {w0 w w1 : World} {x : Value} {zs : List Int} {len k : Nat} {v v' : Value} {o : Obj} (h : len ≤ zs.length) (hk : k < len) (hx : x = .int .u64 (zs[len - 1 - k]?.getD 0))
    (hb : Below w0.heap.size w0 w) (hown : w.ownsRow w0.heap.size 22 1 v k ((rv zs len k).map (Value.int .u64)))
    (hown' : w1.ownsRow w0.heap.size 22 1 v' (k + 1) ((rv zs len k).map (Value.int .u64) ++ [x])) (hgrow : (w.alloc o).grownBy w1 v.ownBlock) :
    w1.ownsRow w0.heap.size 22 1 v' (k + 1) ((rv zs len (k + 1)).map (Value.int .u64)) ∧ Below w0.heap.size w0 w1 := by
  have hs := hb.size
  refine ⟨?_, (hb.alloc hs o).grown hgrow (by simp; omega) ?_⟩
  · rw [rv_succ zs len k h hk, List.map_append]
    subst hx
    exact hown'
  · intro g hg
    rcases hown.2 with ⟨rfl, _⟩ | ⟨g', cap, cur, rfl, hg', _⟩
    · simp [Value.ownBlock] at hg
    · simp [Value.ownBlock] at hg
      omega

set_option maxRecDepth 100000 in
set_option maxHeartbeats 400000 in
theorem sums_none (a : Option Addr) (cap : Nat) (w : World) :
    Calls Try.prog 7 #[.slice a 0 cap] w fun e w' => e = .returned (.bool true) ∧ Below w.heap.size w w' := by
  go_enter Try.func7, Try.ntmps7
  go_wp2_with (first | (go_at_call 19; refine (awake_any _).mono ?_; rintro e w1 ⟨rfl, _, hb⟩) | (go_at_call 14; refine (sum_none _ _ _).mono ?_; rintro e w' ⟨rfl, rfl⟩))
  go_loop [5, 6, 7] (fun t o i => t = .int .u64 0 ∧ o = .bool false ∧ i = .int .i64 0) (fun _ _ _ => 0)
  case atStart => exact ⟨rfl, rfl, rfl⟩
  case round =>
    obtain ⟨rfl, rfl, rfl⟩ := hrel
    go_wp2
    go_loop [10, 11] (fun s i => s = .slice none 0 0 ∧ i = .int .i64 (-1)) (fun _ _ => 0)
    case atStart => exact ⟨rfl, rfl⟩
    case round =>
      obtain ⟨rfl, rfl⟩ := hrel
      go_wp2_with (first | (go_at_call 14; refine (sum_none _ _ _).mono ?_; rintro e w' ⟨rfl, rfl⟩) | (go_at_call 16; refine (num_any _ _).mono ?_; rintro e w' ⟨rfl, rfl⟩))
      go_ret
      exact ⟨rfl, hb⟩

set_option maxRecDepth 100000 in
set_option maxHeartbeats 1000000 in
theorem sums_ok (b off len cap : Nat) (zs : List Int) (hn : 0 < len) (hlen : len ≤ zs.length) (hreach : len * 8 ≤ 140737488351232) (hl : ∀ j : Nat, 0 ≤ zs[j]?.getD 0) (w : World) (hbw : b < w.heap.size) (hc : NumsAt w b off len zs) (h : psum zs len < 18446744073709551616) :
    Calls Try.prog 7 #[.slice (some ⟨b, off, none⟩) len cap] w fun e w' => e = .returned (.bool true) ∧ Below w.heap.size w w' := by
  obtain ⟨i0, hi, hz0, hz1, hz2⟩ := info_parts infoU64
  have HC := hide hc
  have HL := hide hl
  have HH := hide h
  clear hc hl h
  go_enter Try.func7, Try.ntmps7
  go_wp2_with fail
  refine (awake_any _).mono ?_; rintro e w1 ⟨rfl, _, hb⟩
  have HC1 : Hid (NumsAt w1 b off len zs) := hide (fun k hk => (hb.cell (p := ⟨b, off + k, none⟩) hbw).trans (HC.out k hk))
  go_wp2_with fail
  refine (sum_ok b off len cap zs hlen (by omega) HL.out _ HC1.out HH.out).mono ?_; rintro e w' ⟨rfl, rfl⟩
  go_wp2_with fail
  go_loop [5, 6, 7] (fun t o i => ∃ k : Nat, k ≤ len ∧ i = .int .i64 k ∧ t = .int .u64 (psum zs k) ∧ o = .bool false) (fun _ _ i => len - (intOf i).toNat)
  case atStart => exact ⟨0, Nat.zero_le _, rfl, by rw [psum_zero], rfl⟩
  case round =>
    obtain ⟨k, hk, rfl, rfl, rfl⟩ := hrel
    by_cases hlt : k < len
    · have hcell := HC1.out k hlt
      have h0 := psum_nonneg zs HL.out k
      have h1 := HL.out k
      have h3 := hide (psum_succ zs k (by omega))
      have h4 : psum zs k + zs[k]?.getD 0 < 18446744073709551616 := by
        have h2 := psum_mono zs HL.out (k + 1) len (by omega)
        have := HH.out
        rw [← h3.out]; omega
      go_wp2_with (first | (go_at_call 8; refine (add_ok _ _ h0 h1 h4 _).mono ?_; rintro e w' ⟨rfl, rfl⟩) | (go_at_call 16; refine (num_any _ _).mono ?_; rintro e w' ⟨rfl, rfl⟩))
      go_round
      case rel => exact ⟨k + 1, by omega, by go_num, by rw [h3.out], rfl⟩
      case measure => simp [intOf]; omega
    · have e : len = k := by omega
      subst e
      go_wp2
      go_loopw [10, 11] (fun v i wr => ∃ (m : Nat) (x : Int), m ≤ len ∧ i = .int .i64 x ∧ Hid (x = (m : Int) - 1) ∧ wr.ownsRow w.heap.size 22 1 v (len - m) ((rv zs len (len - m)).map (Value.int .u64)) ∧ Below w.heap.size w wr) (fun _ i _ => (intOf i + 1).toNat)
      case atStart => exact ⟨len, (len : Int) - 1, Nat.le_refl _, rfl, rfl, by rw [Nat.sub_self, rv_zero]; exact World.ownsRow_nil _ _ _ _, hb⟩
      case round =>
        obtain ⟨m, x, hm, rfl, hx, hown, hB⟩ := hrel
        cases m with
        | zero =>
          have e1 : x = -1 := by have := hx.out; omega
          subst e1
          clear hx
          rw [Nat.sub_zero] at hown
          obtain ⟨g, cap', hv, _, _⟩ := hown.form hn
          subst hv
          have c := hide (sum_ok g 0 len cap' (rv zs len len) (by rw [rv_length zs len len hlen (Nat.le_refl _)]; exact Nat.le_refl _) (by omega) (rv_nonneg zs len len HL.out) _ (nums_of_own (rv_length zs len len hlen (Nat.le_refl _)) hown) (by rw [rv_sum zs len hlen]; exact HH.out))
          rw [rv_sum zs len hlen] at c
          have HB := hide hB
          clear hB hown
          go_wp2_with (first | (go_at_call 14; refine c.out.mono ?_; rintro e w' ⟨rfl, rfl⟩) | (go_at_call 16; refine (num_any _ _).mono ?_; rintro e w' ⟨rfl, rfl⟩))
          go_ret
          exact ⟨rfl, HB.out⟩
        | succ q =>
          have e1 : x = (q : Int) := by have := hx.out; omega
          subst e1
          clear hx
          have hcell : _ = _ := (hB.cell (p := ⟨b, off + q, none⟩) hbw).trans (HC.out q (by omega))
          have HB := hide hB
          have HO := hide hown
          have hsz := hB.size
          clear hB hown
          go_wp2_with (at_builtin; refine wpList_append_own _ rfl _ _ 23 rfl w.heap.size 22 i0 (.int .u64 0) 1 8 Try.underlying23 hi hz0 hz1 hz2 rfl (by decide) _ _ _ rfl (HO.out.alloc _) ⟨wr.heap.size, 0, none⟩ 1 1 [.int .u64 (zs[q]?.getD 0)] rfl rfl ?c1 ?c2 ?c3 ?c4 ?c5 ?_)
          case c1 =>
            intro j u hj
            match j, hj with
            | 0, hj => simp at hj; subst hj; simp [Addr.add]
          case c2 => intro u hu; simp at hu; subst hu; rfl
          case c3 => unfold maxLen; omega
          case c4 => omega
          case c5 => simp; omega
          intro v' w2 hown' hgrow _
          have e2 : len - (q + 1) + 1 = len - q := by omega
          have R := own_step hlen (show len - (q + 1) < len by omega) (show Value.int .u64 (zs[q]?.getD 0) = _ by rw [show len - 1 - (len - (q + 1)) = q by omega]) HB.out HO.out hown' hgrow
          rw [e2] at R
          obtain ⟨R1, R2⟩ := R
          have R1 := hide R1
          have R2 := hide R2
          clear hown' hgrow HB HO hcell
          go_wp2
          go_roundw
          case rel => exact ⟨q, _, by omega, rfl, rfl, R1.out, R2.out⟩
          case measure => simp [intOf]
set_option maxRecDepth 100000 in
set_option maxHeartbeats 1000000 in
theorem sums_over (b off len cap : Nat) (zs : List Int) (hn : 0 < len) (hlen : len ≤ zs.length) (hreach : len * 8 ≤ 140737488351232) (hl : ∀ j : Nat, 0 ≤ zs[j]?.getD 0) (w : World) (hbw : b < w.heap.size) (hc : NumsAt w b off len zs) (h : 18446744073709551616 ≤ psum zs len) :
    Calls Try.prog 7 #[.slice (some ⟨b, off, none⟩) len cap] w fun e w' => e = .returned (.bool true) ∧ Below w.heap.size w w' := by
  obtain ⟨i0, hi, hz0, hz1, hz2⟩ := info_parts infoU64
  have HC := hide hc
  have HL := hide hl
  have HH := hide h
  clear hc hl h
  go_enter Try.func7, Try.ntmps7
  go_wp2_with fail
  refine (awake_any _).mono ?_; rintro e w1 ⟨rfl, _, hb⟩
  have HC1 : Hid (NumsAt w1 b off len zs) := hide (fun k hk => (hb.cell (p := ⟨b, off + k, none⟩) hbw).trans (HC.out k hk))
  go_wp2_with fail
  refine (sum_over b off len cap zs hlen (by omega) HL.out _ HC1.out HH.out).mono ?_; rintro e w' ⟨rfl, rfl⟩
  go_wp2_with fail
  go_loop [5, 6, 7] (fun t o i => ∃ k : Nat, k ≤ len ∧ i = .int .i64 k ∧ ((t = .int .u64 (psum zs k) ∧ o = .bool false ∧ psum zs k < 18446744073709551616) ∨ (t = .int .u64 0 ∧ o = .bool true))) (fun _ _ i => len - (intOf i).toNat)
  case atStart => exact ⟨0, Nat.zero_le _, rfl, .inl ⟨by rw [psum_zero], rfl, by rw [psum_zero]; omega⟩⟩
  case round =>
    obtain ⟨k, hk, rfl, ⟨rfl, rfl, hs⟩ | ⟨rfl, rfl⟩⟩ := hrel
    · have hlt : k < len := by
        have := HH.out
        by_cases e : k = len
        · subst e; omega
        · omega
      have hcell := HC1.out k hlt
      have h0 := psum_nonneg zs HL.out k
      have h1 := HL.out k
      have h3 := hide (psum_succ zs k (by omega))
      by_cases h4 : psum zs k + zs[k]?.getD 0 < 18446744073709551616
      · have h5 := hide (h3.out ▸ h4 : psum zs (k + 1) < 18446744073709551616)
        go_wp2_with (first | (go_at_call 8; refine (add_ok _ _ h0 h1 h4 _).mono ?_; rintro e w' ⟨rfl, rfl⟩) | (go_at_call 16; refine (num_any _ _).mono ?_; rintro e w' ⟨rfl, rfl⟩))
        go_round
        case rel => exact ⟨k + 1, by omega, by go_num, .inl ⟨by rw [h3.out], rfl, h5.out⟩⟩
        case measure => simp [intOf]; omega
      · have h6 : 18446744073709551616 ≤ psum zs k + zs[k]?.getD 0 := by omega
        clear h4
        go_wp2_with (first | (go_at_call 8; refine (add_over _ _ h0 h1 h6 _).mono ?_; rintro e w' ⟨rfl, rfl⟩) | (go_at_call 16; refine (num_any _ _).mono ?_; rintro e w' ⟨rfl, rfl⟩))
        go_round
        case rel => exact ⟨k + 1, by omega, by go_num, .inr ⟨rfl, rfl⟩⟩
        case measure => simp [intOf]; omega
    · by_cases hlt : k < len
      all_goals
        go_wp2
        go_loopw [10, 11] (fun v i wr => ∃ (m : Nat) (x : Int), m ≤ len ∧ i = .int .i64 x ∧ Hid (x = (m : Int) - 1) ∧ wr.ownsRow w.heap.size 22 1 v (len - m) ((rv zs len (len - m)).map (Value.int .u64)) ∧ Below w.heap.size w wr) (fun _ i _ => (intOf i + 1).toNat)
        case atStart => exact ⟨len, (len : Int) - 1, Nat.le_refl _, rfl, rfl, by rw [Nat.sub_self, rv_zero]; exact World.ownsRow_nil _ _ _ _, hb⟩
        case round =>
          obtain ⟨m, x, hm, rfl, hx, hown, hB⟩ := hrel
          cases m with
          | zero =>
            have e1 : x = -1 := by have := hx.out; omega
            subst e1
            clear hx
            rw [Nat.sub_zero] at hown
            obtain ⟨g, cap', hv, _, _⟩ := hown.form hn
            subst hv
            have c := hide (sum_over g 0 len cap' (rv zs len len) (by rw [rv_length zs len len hlen (Nat.le_refl _)]; exact Nat.le_refl _) (by omega) (rv_nonneg zs len len HL.out) _ (nums_of_own (rv_length zs len len hlen (Nat.le_refl _)) hown) (by rw [rv_sum zs len hlen]; exact HH.out))
            have HB := hide hB
            clear hB hown
            go_wp2_with (first | (go_at_call 14; refine c.out.mono ?_; rintro e w' ⟨rfl, rfl⟩) | (go_at_call 16; refine (num_any _ _).mono ?_; rintro e w' ⟨rfl, rfl⟩))
            go_ret
            exact ⟨rfl, HB.out⟩
          | succ q =>
            have e1 : x = (q : Int) := by have := hx.out; omega
            subst e1
            clear hx
            have hcell : _ = _ := (hB.cell (p := ⟨b, off + q, none⟩) hbw).trans (HC.out q (by omega))
            have HB := hide hB
            have HO := hide hown
            have hsz := hB.size
            clear hB hown
            go_wp2_with (at_builtin; refine wpList_append_own _ rfl _ _ 23 rfl w.heap.size 22 i0 (.int .u64 0) 1 8 Try.underlying23 hi hz0 hz1 hz2 rfl (by decide) _ _ _ rfl (HO.out.alloc _) ⟨wr.heap.size, 0, none⟩ 1 1 [.int .u64 (zs[q]?.getD 0)] rfl rfl ?c1 ?c2 ?c3 ?c4 ?c5 ?_)
            case c1 =>
              intro j u hj
              match j, hj with
              | 0, hj => simp at hj; subst hj; simp [Addr.add]
            case c2 => intro u hu; simp at hu; subst hu; rfl
            case c3 => unfold maxLen; omega
            case c4 => omega
            case c5 => simp; omega
            intro v' w2 hown' hgrow _
            have e2 : len - (q + 1) + 1 = len - q := by omega
            have R := own_step hlen (show len - (q + 1) < len by omega) (show Value.int .u64 (zs[q]?.getD 0) = _ by rw [show len - 1 - (len - (q + 1)) = q by omega]) HB.out HO.out hown' hgrow
            rw [e2] at R
            obtain ⟨R1, R2⟩ := R
            have R1 := hide R1
            have R2 := hide R2
            clear hown' hgrow HB HO hcell
            go_wp2
            go_roundw
            case rel => exact ⟨q, _, by omega, rfl, rfl, R1.out, R2.out⟩
            case measure => simp [intOf]
#print axioms sums_over
end Go.Proofs.Ytnepbdbalniodaa

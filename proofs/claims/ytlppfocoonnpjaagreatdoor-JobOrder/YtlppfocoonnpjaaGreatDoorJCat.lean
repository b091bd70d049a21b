/- Contracts of the library's Grow and Concat at rows of jobs, proved over the translation. -/
import Derived.Test.YtlppfocoonnpjaaGreatDoorQb
import Derived.Lib.AppendZeros
namespace Go.Proofs.YtlppfocoonnpjaaGreatDoor.J
open Go.RowKit
attribute [local go_sem] alloc_drewN setCell_drewN

/-- A part of a row that is owned, from its begin on. -/
theorem own_take {w : World} {base e size n m : Nat} {a : Option Addr} {cap : Nat} {xs : List Value} (h : w.ownsRow base e size (.slice a n cap) n xs) (hm : m ≤ n) (h0 : 0 < n) : w.ownsRow base e size (.slice a m cap) m (xs.take (m * size)) := by
  refine ⟨by rw [List.length_take, h.1]; exact Nat.min_eq_left (Nat.mul_le_mul_right _ hm), ?_⟩
  rcases h.2 with ⟨h1, h2⟩ | ⟨g, cap', cur, h1, h2, h3, h4, h5, h6, h7⟩
  · omega
  · simp only [Value.slice.injEq, true_and] at h1
    obtain ⟨rfl, rfl⟩ := h1
    refine .inr ⟨g, cap, cur, rfl, h2, h3, by omega, h5, h6, ?_⟩
    rw [← h7, List.take_take, Nat.min_eq_left (Nat.mul_le_mul_right _ hm)]
/-- append of any row of jobs onto a row that is owned. -/
theorem run_append_nil2 (w : World) (t ty e : TypeId) (z : Value) (size bytes : Nat) (ht : Tryz.prog.underlying t = some (.slice e)) (hinfo : (Tryz.prog.info? e).map (fun i => (i.zero, i.size, i.bytes)) = some (some z, size, bytes)) (b : Option Addr) (n cap cap' : Nat) (hc : n ≤ cap) :
    (Builtin.append_ #[t, t] ty #[.slice b n cap, .slice none 0 cap']).run Tryz.prog w = .ok (.slice b n cap) w := by
  obtain ⟨i0, hi, hz0, hz1, hz2⟩ := info_parts hinfo
  cases b <;> simp [Builtin.append_, run_underlying ht, sizeOf, typeInfo, hi, Builtin.lenOf, Builtin.firstCells, loadCells, storeCells, hc]
theorem run_app_any {lo : Nat} (w : World) (ty : TypeId) (base : Nat) (v : Value) (n : Nat) (xs ys : List JobV) (u : Value) (hown : w.ownsRow base 70 7 v n (shJ.cells xs)) (hu : RowAt shJ lo w u ys)
    (hlim : (n + ys.length) * 56 ≤ 140737488355328) (hbase : base ≤ w.heap.size) :
    ∃ a' cap' w', (Builtin.append_ #[57, 57] ty #[v, u]).run Tryz.prog w = .ok (.slice a' (n + ys.length) cap') w' ∧ w'.ownsRow base 70 7 (.slice a' (n + ys.length) cap') (n + ys.length) (shJ.cells (xs ++ ys)) ∧ w.grownBy w' v.ownBlock ∧ ((Value.slice a' (n + ys.length) cap').ownBlock = v.ownBlock ∨ (Value.slice a' (n + ys.length) cap').ownBlock = some w.heap.size) := by
  obtain ⟨hl, a, cap, rfl, ha⟩ := hu
  cases a with
  | none =>
    have h0 : ys = [] := by
      rcases Nat.eq_zero_or_pos ys.length with e | e
      · exact List.length_eq_zero_iff.1 e
      · obtain ⟨g, o, h, _⟩ := ha e; cases h
    subst h0
    obtain ⟨b, c, rfl⟩ := own_form hown
    have hc : n ≤ c := by
      rcases hown.2 with ⟨h1, h2⟩ | ⟨g, cap', cur, h1, _, _, h4, _⟩
      · omega
      · simp only [Value.slice.injEq, true_and] at h1; omega
    exact ⟨b, c, w, run_append_nil2 w 57 ty 70 _ 7 56 Tryz.underlying57 infoJ b n c cap hc, by simpa using hown, grownBy_refl _ _, .inl rfl⟩
  | some ad =>
    exact run_append_row (S := shJ) w 57 ty 70 _ 56 Tryz.underlying57 infoJ rfl base v n xs hown ad ys.length cap ys rfl (fun i y hy j u hu => by
      obtain ⟨g', o, h, _, hc⟩ := ha (by have := (List.getElem?_eq_some_iff.1 hy).1; omega)
      cases h
      rw [Go.WideShapes.add_plain, ← Nat.add_assoc]
      exact hc i y hy j u hu) hlim (by omega) hbase

set_option maxRecDepth 100000 in
set_option maxHeartbeats 1000000 in
theorem grow_any (n : Nat) (h0 : 0 < n) (h1 : n ≤ 1000000) (w : World) :
    Calls Tryz.prog 136 #[.slice none 0 0, .int .i64 n] w fun e w' => ∃ a' cap', e = .returned (.slice a' 0 cap') ∧ w'.ownsRow w.heap.size 70 7 (.slice a' 0 cap') 0 (shJ.cells []) ∧ w.grownBy w' none := by
  obtain ⟨i0, hi, hz0, hz1, hz2⟩ := info_parts infoJ
  have happ := Lib.run_append_nil_zeros (P := Tryz.prog) w 57 3 57 70 i0 (.agg #[.int .i64 0, .int .i64 0, .int .i64 0, .int .i64 0, .int .i64 0, .int .i64 0, .int .i64 0]) .i64 .i64 Tryz.underlying57 Tryz.underlying3 hi hz0 n h0 (by omega) (by omega) (by rw [hz2]; omega)
  generalize hcap : grownCap w n 0 70 = cap2 at happ
  have hcapge : n ≤ cap2 := by rw [← hcap]; exact grownCap_ge w _ 0 70
  have hcaple : cap2 ≤ maxLen := by rw [← hcap]; exact grownCap_le_maxLen w _ 0 70 (by unfold maxLen; omega)
  generalize hZ : (Builtin.zeroCells (Value.agg #[.int .i64 0, .int .i64 0, .int .i64 0, .int .i64 0, .int .i64 0, .int .i64 0, .int .i64 0]).cells n ++ Builtin.zeroCells (Value.agg #[.int .i64 0, .int .i64 0, .int .i64 0, .int .i64 0, .int .i64 0, .int .i64 0, .int .i64 0]).cells (cap2 - n)) = Z at happ
  have hZs : Z.size = cap2 * 7 := by rw [← hZ]; simp [size_zeroCells, Value.cells]; omega
  clear hcap hZ hz0 hz1 hz2 hi
  have HZs := hide hZs
  have HCL := hide hcaple
  clear hZs hcaple
  go_enter Tryz.func136, Tryz.ntmps136
  go_wp2_with (at_builtin; refine Lib.wpList_append_run _ rfl _ _ _ _ rfl _ _ rfl rfl _ _ happ ?_)
  go_ret
  refine ⟨_, cap2, rfl, ⟨by simp [Shape.cells], .inr ⟨w.heap.size, cap2, Z, rfl, Nat.le_refl _, heap_alloc_new w _, Nat.zero_le _, HCL.out, HZs.out, by simp [Shape.cells]⟩⟩, ?_⟩
  exact grownBy_trans (grownBy_draws w 1 none) (World.grownBy_alloc _ _ none)

theorem grown_own {w w1 w2 : World} {v : Value} (h : w.grownBy w1 none) (hlt : ∀ g, v.ownBlock = some g → w.heap.size ≤ g) (hgrow : w1.grownBy w2 v.ownBlock) : w.grownBy w2 none := by
  cases hv : v.ownBlock with
  | none => rw [hv] at hgrow; exact grownBy_trans h hgrow
  | some g => rw [hv] at hgrow; exact grown_spoil h (hlt g hv) hgrow
/-- The first so many rows, one behind the other. -/
def catL (xs : Nat → List JobV) : Nat → List JobV
  | 0 => []
  | j + 1 => catL xs j ++ xs j
theorem cat_le (xs : Nat → List JobV) : ∀ j k, j ≤ k → (catL xs j).length ≤ (catL xs k).length := by
  intro j k
  induction k with
  | zero => intro h; obtain rfl : j = 0 := by omega
            exact Nat.le_refl _
  | succ k ih =>
    intro h
    rcases (by omega : j = k + 1 ∨ j ≤ k) with rfl | h2
    · exact Nat.le_refl _
    · have := ih h2
      simp only [catL, List.length_append]
      omega
set_option maxRecDepth 100000 in
set_option maxHeartbeats 4000000 in
theorem concat_any {lo : Nat} (vs : Nat → Value) (xs : Nat → List JobV) (b n : Nat) (w : World) (hc : ∀ k, k < n → w.cell? ⟨b, k, none⟩ = some (vs k)) (hx : ∀ k, k < n → RowAt shJ lo w (vs k) (xs k)) (h0 : 0 < (catL xs n).length) (h1 : (catL xs n).length ≤ 1000000) (hn : n ≤ 1000) :
    Calls Tryz.prog 129 #[.slice (some ⟨b, 0, none⟩) n n] w fun e w' => ∃ v', e = .returned v' ∧ Own w.heap.size w' v' (catL xs n) ∧ w.grownBy w' none := by
  have HC := hide hc
  have HX := hide hx
  have HLE := hide (fun j (hj : j ≤ n) => Nat.le_trans (cat_le xs j n hj) h1)
  have HSUC := hide (fun j => (show (catL xs (j + 1)).length = (catL xs j).length + (xs j).length by simp [catL]))
  have HCAT := hide (fun j => (show catL xs (j + 1) = catL xs j ++ xs j from rfl))
  have HBL := hide (fun k (hk : k < n) => World.block_lt_of_cell? w _ (hc k hk))
  clear hc hx
  have CG := hide (fun W => grow_any (catL xs n).length h0 h1 W)
  have HEND := hide (fun W v (h : Own w.heap.size W v (catL xs n)) => h)
  go_enter Tryz.func129, Tryz.ntmps129
  go_wp2
  go_loopw [3, 5, 11] (fun s _ i W => ∃ (j : Nat), j ≤ n ∧ i = .int .i64 j ∧ s = .int .i64 (catL xs j).length ∧ W = w) (fun _ _ i _ => n - (intOf i).toNat)
  case atStart => exact ⟨0, by omega, rfl, rfl, rfl⟩
  case round =>
    obtain ⟨j, hj, rfl, rfl, rfl⟩ := hrel
    by_cases hlt : j < n
    · have c0 := HC.out j hlt
      have hl1 := HLE.out (j + 1) (by omega)
      have hl0 := HLE.out j (by omega)
      have hs := HSUC.out j
      rw [hs] at hl1
      have HS := hide hs
      clear hs
      obtain ⟨-, a, cap, e, -⟩ := HX.out j hlt
      rw [e] at c0
      clear e
      generalize (catL xs j).length = s at *
      generalize (xs j).length = m at *
      go_wp2
      go_roundw
      case rel => exact ⟨j + 1, by omega, by go_num, by rw [HS.out]; go_num, by first | rfl | trivial⟩
      case measure => simp [intOf]; omega
    · obtain rfl : j = n := by omega
      clear HLE
      go_wp2_with (go_at_call 136; refine (CG.out _).mono ?_; rintro e w1 ⟨a1, cap1, rfl, ho, hg⟩)
      obtain ⟨w0, hw0⟩ : ∃ y, y = wr := ⟨_, rfl⟩
      subst hw0
      have HO := hide ho
      have HG := hide hg
      clear ho hg CG
      have HLE : Hid (∀ k, k ≤ j → (catL xs k).length ≤ 1000000) := hide (fun k hk => Nat.le_trans (cat_le xs k j hk) h1)
      go_loopw [6, 8, 27] (fun s _ i W => ∃ (k : Nat) (a2 : Option Addr) (c2 : Nat), k ≤ j ∧ i = .int .i64 k ∧ s = .slice a2 (catL xs k).length c2 ∧ Hid (W.ownsRow w0.heap.size 70 7 (.slice a2 (catL xs k).length c2) (catL xs k).length (shJ.cells (catL xs k))) ∧ Hid (w0.grownBy W none)) (fun _ _ i _ => j - (intOf i).toNat)
      case atStart => exact ⟨0, a1, cap1, by omega, rfl, rfl, HO, HG⟩
      case round =>
        obtain ⟨k, a2, c2, hk, rfl, rfl, HO2, HG2⟩ := hrel
        by_cases hlt2 : k < j
        · have HBK := HBL.out k hlt2
          have c0 : wr.cell? ⟨b, k, none⟩ = some (vs k) := (World.cell?_of_block (a := ⟨b, k, none⟩) (HG2.out.block b HBK (by simp))).trans (HC.out k hlt2)
          obtain ⟨a3, c3, w3, hr, ho3, hg3, -⟩ := run_app_any wr 57 w0.heap.size _ _ _ (xs k) (vs k) HO2.out ((HX.out k hlt2).grown HG2.out) (by have := HLE.out (k + 1) (by omega); rw [HSUC.out k] at this; omega) HG2.out.size
          have HG3 := hide (grown_own HG2.out (fun g hg => (HO2.out.lt g hg).1) hg3)
          have HO3 := hide ho3
          have HOL := hide (HSUC.out k)
          clear ho3 hg3 HO2 HG2 HBK
          obtain ⟨-, a, cap, e, -⟩ := HX.out k hlt2
          rw [e] at c0 hr
          clear e
          rw [← HCAT.out k] at HO3
          rw [← HSUC.out k] at HO3 hr
          generalize (catL xs k).length = s at *
          generalize hs1 : (catL xs (k + 1)).length = s1 at *
          have HS1 := hide hs1
          clear hs1
          generalize hm : (xs k).length = m at *
          have HM := hide hm
          clear hm
          go_wp2_with (at_builtin; refine Lib.wpList_append_run _ rfl _ _ _ _ rfl _ _ rfl rfl _ _ hr ?_)
          go_roundw
          case rel => exact ⟨k + 1, a3, c3, by omega, by go_num, by rw [HS1.out], by rw [HS1.out]; exact HO3, HG3⟩
          case measure => simp [intOf]; omega
        · obtain rfl : k = j := by omega
          clear HLE
          go_wp2
          go_ret
          exact ⟨_, rfl, HO2.out, HG2.out⟩
#print axioms concat_any
end Go.Proofs.YtlppfocoonnpjaaGreatDoor.J

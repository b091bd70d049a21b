/- The walk of the law QueueKeeps: for every size and every row of calls it answers true and makes new memory alone. -/
import Derived.Test.YtiffpmleeaenjaaQueue
namespace Go.Proofs.Ytiffpmleeaenjaa
open Go.RowKit
attribute [local go_sem] alloc_drewN setCell_drewN

/-- append of numbers onto a row of numbers that is owned. -/
theorem app_ints {ops : Array Oper} {rest : List Oper} {o : Oper} {a : Act} {Q : Exit → Act → World → Prop} (w : World) (hgd : o.guard = none) (s x : Operand)
    (ho : o.op = .call { callee := .builtin .append, args := #[s, x], argTypes := #[22, 22] })
    (base : Nat) (v : Value) (n : Nat) (xs : List Int) (hs : a.eval s = v) (hown : w.ownsRow base 3 1 v n (vals xs))
    (ad : Addr) (m c : Nat) (ys : List Int) (hx : a.eval x = .slice (some ad) m c) (hl : ys.length = m) (hcells : ∀ j, j < m → w.cell? (ad.add j) = some (.int .i64 (ys[j]?.getD 0)))
    (hlim : n + m ≤ 17592186044416) (hbase : base ≤ w.heap.size)
    (h : ∀ a' cap' w', w'.ownsRow base 3 1 (.slice a' (n + m) cap') (n + m) (vals (xs ++ ys)) → w.grownBy w' v.ownBlock → wpList Try.prog ops Q rest (a.put o.dst (.slice a' (n + m) cap')) w') :
    wpList Try.prog ops Q (o :: rest) a w := by
  obtain ⟨i0, hi, hz0, hz1, hz2⟩ := info_parts infoI64
  refine wpList_append_own w hgd s x 22 ho base 3 i0 (.int .i64 0) 1 8 Try.underlying22 hi hz0 hz1 hz2 rfl (by decide) v n (vals xs) hs hown ad m c (vals ys) hx (by rw [vals_length, hl]; omega) ?_ ?_ (by unfold maxLen; omega) (by omega) hbase ?_
  · intro j u hu
    have hj : j < (vals ys).length := by
      rcases Nat.lt_or_ge j (vals ys).length with h | h
      · exact h
      · rw [List.getElem?_eq_none h] at hu; cases hu
    rw [vals_length] at hj
    rw [vals_get _ _ hj] at hu
    cases hu
    exact hcells j (by omega)
  · intro u hu
    simp [vals] at hu
    obtain ⟨z, _, rfl⟩ := hu
    rfl
  · intro v' w' hown' hgrow _
    obtain ⟨a', cap', rfl⟩ := own_form hown'
    refine h a' cap' w' ?_ hgrow
    rw [show vals (xs ++ ys) = vals xs ++ vals ys by simp [vals]]
    exact hown'

theorem size_of (l : Int) : ∃ k : Nat, 1 ≤ k ∧ k ≤ 8 ∧ wrap64 (1 + wrap64 ((IntKind.u64.wrap l).tmod 8)) = (k : Int) := by
  rw [IntKind.wrap_u64, Int.tmod_eq_emod_of_nonneg (by omega)]
  refine ⟨(1 + l % 18446744073709551616 % 8).toNat, by omega, by omega, ?_⟩
  unfold wrap64
  omega

/-- The queue (its ring at block N, itself at N + 1) and the law's own row in memory behind them; below B all is as it was in w. -/
structure RowSt (w W : World) (B N k : Nat) (row : List Int) (v : Value) : Prop where
  q : QAt W N k row
  own : W.ownsRow (N + 2) 3 1 v row.length (vals row)
  below : Below B w W
  le : B ≤ N
theorem RowSt.tail {w W W' : World} {B N k : Nat} {row : List Int} {v : Value} (h : RowSt w W B N k row v) (hg : W.grownBy W' none) : RowSt w W' B N k row v :=
  ⟨h.q.grown hg (by simp) (by simp), own_kept h.own hg, grown_below0 h.below hg (by have := h.q.lt; have := h.le; omega), h.le⟩
theorem off_below {w W W1 : World} {B N k : Nat} {row : List Int} (hb : Below B w W) (hq : QAt W N k row) (hle : B ≤ N) (hg : W.grownBy W1 (some N)) : Below B w W1 :=
  grown_below hb hg (by have := hq.lt; omega) hle
/-- Behind an append onto what lies behind the queue. -/
theorem next_below {W1 W2 : World} {N k m : Nat} {row : List Int} {u : Value} {o : Obj} (hR : QAt W1 N k row) (hu : ∀ g, u.ownBlock = some g → N + 2 ≤ g) (hgrow : ((W1.alloc o).drewN m).grownBy W2 u.ownBlock) : Below (N + 2) W1 W2 :=
  below_of_own (b := N + 1) hR.lt hu hgrow
theorem next_st {w W1 W2 : World} {B N k m n : Nat} {row' : List Int} {u v' : Value} {o : Obj} (hb : Below B w W1) (hle : B ≤ N) (hR : QAt W1 N k row')
    (hu : ∀ g, u.ownBlock = some g → N + 2 ≤ g) (hgrow : ((W1.alloc o).drewN m).grownBy W2 u.ownBlock) (hn : row'.length = n) (hown : W2.ownsRow (N + 2) 3 1 v' n (vals row')) : RowSt w W2 B N k row' v' := by
  have hB := next_below hR hu hgrow
  exact ⟨hR.below hB (by omega), hn ▸ hown, hb.trans (hB.mono (by omega)), hle⟩
theorem wr_room {N k : Nat} {row : List Int} (x : Int) (hk : 0 < k) (w : World) (h : QAt w N k row) (hl : row.length < k) :
    Calls Try.prog 10 #[.pointer (some ⟨N + 1, 0, none⟩), .int .i64 x] w fun e w' => e = .returned (.bool false) ∧ QAt w' N k (row ++ [x]) ∧ w.grownBy w' (some N) ∧ w'.heap.size = w.heap.size := by
  have c := write_any N k row x hk w h
  rw [show pushIs k row = false by simp [pushIs, offerIs, hl], pushed, if_pos hl] at c
  exact c
theorem wr_full {N k : Nat} {y : Int} {t : List Int} (x : Int) (hk : 0 < k) (w : World) (h : QAt w N k (y :: t)) (hl : (y :: t).length = k) :
    Calls Try.prog 10 #[.pointer (some ⟨N + 1, 0, none⟩), .int .i64 x] w fun e w' => e = .returned (.bool true) ∧ QAt w' N k (t ++ [x]) ∧ w.grownBy w' (some N) ∧ w'.heap.size = w.heap.size := by
  have c := write_any N k (y :: t) x hk w h
  rw [show pushIs k (y :: t) = true by simp [pushIs, offerIs, hl], pushed, if_neg (by omega)] at c
  exact c

set_option maxRecDepth 100000 in
set_option maxHeartbeats 4000000 in
theorem keeps_any (l : Int) (a : Option Addr) (len cap : Nat) (zs : List Int) (w : World) (h : RowAt shN 0 w (.slice a len cap) zs) :
    Calls Try.prog 4 #[.int .i64 l, .slice a len cap] w fun e w' => e = .returned (.bool true) ∧ w.grownBy w' none := by
  have hlen : len = zs.length := by
    obtain ⟨_, a', cap', e, _⟩ := h
    simp only [Value.slice.injEq] at e
    exact e.2.1
  have hmax := h.1
  have HR := hide (fun W hg => h.below (W := W) (B := w.heap.size) hg (Nat.le_refl _))
  have HW := hide h
  clear h
  have CN := hide num_to
  go_enter Try.func4, Try.ntmps4
  go_wp2_with (first | fail)
  refine (awake_any _).mono ?_; rintro e w1 ⟨rfl, hb⟩
  go_wp2_with (first | fail)
  obtain ⟨k, hk, hk', ek⟩ := size_of l
  rw [ek]
  clear ek
  generalize (IntKind.u64.wrap l).tmod 8 = m
  refine (qnew_ok k hk hk' w1).mono ?_; rintro e w2 ⟨rfl, r2, g2, -⟩
  have hS : RowSt w w2 w.heap.size w1.heap.size k [] (.slice none 0 0) := ⟨r2, World.ownsRow_nil _ _ _ _, (below_of_grown hb).trans ((below_of_grown g2).mono hb.size), hb.size⟩
  clear hb g2 r2
  generalize hN : w1.heap.size = N at *
  generalize hB : w.heap.size = B at *
  have HB := hide hB
  clear hN hB
  have C1 := hide (fun w => qnew_no (1 - (k : Int)) (by omega) w)
  have C2 := hide (fun w => qnew_no (8 + (k : Int)) (by omega) w)
  go_wp2_with (first | fail)
  refine (C1.out _).mono ?_; rintro e w' ⟨rfl, rfl⟩
  go_wp2_with (first | fail)
  refine (C2.out _).mono ?_; rintro e w' ⟨rfl, rfl⟩
  go_wp2_with (first | (go_at_call 7; refine (CN.out _ _).mono ?_; rintro e w' ⟨rfl, rfl⟩))
  clear C1 C2
  have HS := hide hS
  clear hS
  go_loopw [12, 13] (fun v i W => ∃ (j : Nat) (row : List Int), j ≤ len ∧ j ≤ 80 ∧ i = .int .i64 j ∧ RowSt w W B N k row v) (fun _ i _ => 80 - (intOf i).toNat)
  case atStart => exact ⟨0, [], by omega, by omega, rfl, HS.out⟩
  case round =>
    clear HS
    obtain ⟨j, row, hj, hj', rfl, hS⟩ := hrel
    obtain ⟨a', cap', rfl⟩ := own_form hS.own
    have HS := hide hS
    have hlk : row.length ≤ k := hS.q.ring.2.1
    clear hS
    by_cases h4 : j < len
    · by_cases h5 : j < 80
      · obtain ⟨z, hz⟩ : ∃ z, zs[j]? = some z := ⟨zs[j]'(by omega), List.getElem?_eq_getElem _⟩
        obtain ⟨_, a2, cap2, e2, hc⟩ := HW.out
        simp only [Value.slice.injEq] at e2
        obtain ⟨rfl, -, rfl⟩ := e2
        obtain ⟨g, o, rfl, -, -⟩ := hc (by omega)
        clear hc
        have hcell : ∀ W, Below B w W → W.cell? ⟨g, o + j, none⟩ = some (.int .i64 z) := fun W hg => by
          obtain ⟨_, a3, cap3, e3, hc3⟩ := HR.out W (HB.out ▸ hg)
          simp only [Value.slice.injEq] at e3
          obtain ⟨rfl, -, rfl⟩ := e3
          obtain ⟨g', o', e4, -, hc4⟩ := hc3 (by omega)
          simp only [Option.some.injEq, Addr.mk.injEq] at e4
          obtain ⟨rfl, rfl, -⟩ := e4
          have := hc4 j z hz 0 _ rfl
          simpa [shN] using this
        have HC := hide hcell
        clear hcell
        have c1 := HC.out _ HS.out.below
        cases hbit : (bits .and .i64 z 3 == 3)
        · by_cases hfull : row.length < k
          · have C := hide (wr_room z hk _ HS.out.q hfull)
            generalize hn : row.length = n at *
            have HN := hide hn
            clear hn
            go_wp2_with (first | fail)
            refine C.out.mono ?_; rintro e W1 ⟨rfl, hR1, hg1, -⟩
            have hb1 := off_below HS.out.below HS.out.q HS.out.le hg1
            have c2 := HC.out W1 hb1
            have HO := hide (own_off HS.out.own hg1 (by omega))
            rw [HN.out] at HO
            go_wp2_with (first | (at_builtin; refine app_ints _ rfl _ _ rfl (N + 2) (.slice a' n cap') n row rfl ?c0 ⟨W1.heap.size, 0, none⟩ 1 1 [z] rfl rfl ?c1 ?c2 ?c3 ?_))
            case c0 => exact HO.out.alloc _
            case c1 =>
              intro i hi
              match i, hi with
              | 0, _ => simp [Addr.add]
            case c2 => omega
            case c3 => have := hR1.lt; simp; omega
            intro a2 cap2 w2 hown2 hgrow2
            have hS2 := next_st hb1 HS.out.le hR1 (fun g hg => (HO.out.lt g hg).1) (m := 0) hgrow2 (by simp [HN.out]) hown2
            clear hown2 hgrow2 c1 c2 hg1 hR1 hb1 HO C HS
            have HT := hide hS2
            clear hS2
            have hnx : (row ++ [z]).length = n + 1 := by have := HN.out; first | omega | (simp; omega) | simp
            have CL := hide (fun W hg => len_any N k _ _ hnx W (HT.out.tail (W' := W) hg).q)
            clear hnx
            go_wp2_with (first | fail)
            refine (CL.out _ (grownBy_refl _ _)).mono ?_; rintro e W9 ⟨rfl, hg9⟩
            go_wp2
            go_roundw
            case rel => exact ⟨j + 1, _, by omega, by omega, by go_num, HT.out.tail hg9⟩
            case measure => simp [intOf]; omega
          · cases row with
            | nil => simp at hfull; omega
            | cons y t =>
              have hk1 : (y :: t).length = k := by omega
              have C := hide (wr_full z hk _ HS.out.q hk1)
              rw [hk1] at HS ⊢
              have HN := hide (show t.length + 1 = k by simpa using hk1)
              have HK := hide hk1
              clear hk1 hlk hfull
              go_wp2_with (first | fail)
              refine C.out.mono ?_; rintro e W1 ⟨rfl, hR1, hg1, -⟩
              have hb1 := off_below HS.out.below HS.out.q HS.out.le hg1
              have c2 := HC.out W1 hb1
              have HO := hide (own_off HS.out.own hg1 (by omega))
              rw [HK.out] at HO
              go_wp2_with (first | (at_builtin; refine app_ints _ rfl _ _ rfl (N + 2) (.slice a' k cap') k (y :: t) rfl ?c0 ⟨W1.heap.size, 0, none⟩ 1 1 [z] rfl rfl ?c1 ?c2 ?c3 ?_))
              case c0 => exact HO.out.alloc _
              case c1 =>
                intro i hi
                match i, hi with
                | 0, _ => simp [Addr.add]
              case c2 => omega
              case c3 => have := hR1.lt; simp; omega
              intro a2 cap2 w2 hown2 hgrow2
              have hB2 := next_below hR1 (fun g hg => (HO.out.lt g hg).1) (m := 0) hgrow2
              have hR2 := hR1.below hB2 (by omega)
              have hb2 := hb1.trans (hB2.mono (Nat.le_trans HS.out.le (by omega)))
              have hle := HS.out.le
              obtain ⟨g2, rfl, hg2, hc2, hc3⟩ := own_cap hown2 (by omega)
              have HE : Hid (∀ i, i < k → w2.cell? ⟨g2, 1 + i, none⟩ = some (.int .i64 ((t ++ [z])[i]?.getD 0))) := fun i hi => by
                have ht := HN.out
                have := hown2.cellAt (1 + i) (by simp; omega)
                rwa [vals_get _ _ (by simp; omega), Nat.add_comm 1 i, List.getElem?_cons_succ, Nat.add_comm i 1] at this
              clear hown2 hgrow2 c1 c2 hg1 hR1 hb1 HO C HS hB2
              have HR2 := hide hR2
              have HB2 := hide hb2
              have hgt : decide ((k : Int) < (k : Int) + 1) = true := by rw [decide_eq_true_eq]; omega
              clear hR2 hb2
              go_wp2_with (first | (at_builtin; refine app_ints _ rfl _ _ rfl (N + 2) _ 0 [] rfl ?c0 ⟨g2, 1, none⟩ k (cap2 - 1) (t ++ [z]) rfl (by have := HN.out; simp; omega) ?c1 ?c2 ?c3 ?_))
              case c0 => exact World.ownsRow_lit w2 #[] 0 (by have := HR2.out.lt; omega) (by unfold maxLen; omega) rfl
              case c1 =>
                intro i hi
                have := HE.out i hi
                have hlt := block_lt_of_cell this
                rw [show (⟨g2, 1, none⟩ : Addr).add i = ⟨g2, 1 + i, none⟩ by simp [Addr.add]]
                exact (World.cell?_of_block (a := ⟨g2, 1 + i, none⟩) (Below.heap_alloc w2 _ g2 hlt)).trans this
              case c2 => omega
              case c3 => have := HR2.out.lt; simp; omega
              intro a3 cap3 w3 hown3 hgrow3
              have hl3 := HR2.out.lt
              have hS3 := next_st HB2.out hle HR2.out (fun g hg => by simp [Value.ownBlock] at hg; omega) (m := 0) hgrow3 (by have := HN.out; simp; omega) hown3
              clear hown3 hgrow3 HR2 HB2 HE hl3 hgt
              have HT := hide hS3
              clear hS3
              have hnx : (t ++ [z]).length = 0 + k := by have := HN.out; first | omega | (simp; omega) | simp
              have CL := hide (fun W hg => len_any N k _ _ hnx W (HT.out.tail (W' := W) hg).q)
              clear hnx
              go_wp2_with (first | fail)
              refine (CL.out _ (grownBy_refl _ _)).mono ?_; rintro e W9 ⟨rfl, hg9⟩
              go_wp2
              go_roundw
              case rel => exact ⟨j + 1, _, by omega, by omega, by go_num, HT.out.tail hg9⟩
              case measure => simp [intOf]; omega
        · cases row with
          | nil =>
            have C := hide (read_any N k [] _ HS.out.q)
            simp only [List.length_nil, popOut, popIs, popped] at C HS ⊢
            go_wp2_with (first | fail)
            refine C.out.mono ?_; rintro e W1 ⟨rfl, hR1, hg1, -⟩
            have hS1 : RowSt w W1 B N k [] (.slice a' 0 cap') := ⟨hR1, own_off HS.out.own hg1 (by omega), off_below HS.out.below HS.out.q HS.out.le hg1, HS.out.le⟩
            have HN : Hid (([] : List Int).length = 0) := rfl
            clear C c1 hR1 hg1 HS
            have HT := hide hS1
            clear hS1
            have hnx : ([] : List Int).length = 0 := by have := HN.out; first | omega | (simp; omega) | simp
            have CL := hide (fun W hg => len_any N k _ _ hnx W (HT.out.tail (W' := W) hg).q)
            clear hnx
            go_wp2_with (first | fail)
            refine (CL.out _ (grownBy_refl _ _)).mono ?_; rintro e W9 ⟨rfl, hg9⟩
            go_wp2
            go_roundw
            case rel => exact ⟨j + 1, _, by omega, by omega, by go_num, HT.out.tail hg9⟩
            case measure => simp [intOf]; omega
          | cons y t =>
            have C := hide (read_any N k (y :: t) _ HS.out.q)
            obtain ⟨g2, rfl, hg2, hc2, hc3⟩ := own_cap HS.out.own (by simp)
            have hE : ∀ W1, wr.grownBy W1 (some N) → ∀ i, i < (y :: t).length → W1.cell? ⟨g2, i, none⟩ = some (.int .i64 ((y :: t)[i]?.getD 0)) := fun W1 hg i hi => by
              have := (own_off HS.out.own hg (by omega)).cellAt i (by simpa using hi)
              rwa [vals_get _ _ hi] at this
            have HE := hide hE
            clear hE
            simp only [List.length_cons] at hlk hc2 HE C ⊢
            generalize hn : t.length = n at *
            have HN := hide hn
            clear hn
            go_wp2_with (first | fail)
            refine C.out.mono ?_; rintro e W1 ⟨rfl, hR1, hg1, -⟩
            simp only [popOut, popIs, popped, List.tail_cons, List.getElem?_cons_zero, Option.getD_some, List.length_cons] at hR1 ⊢
            have hb1 := off_below HS.out.below HS.out.q HS.out.le hg1
            have hle := HS.out.le
            have c2 := HE.out W1 hg1 0 (by omega)
            simp only [List.getElem?_cons_zero, Option.getD_some] at c2
            have HE1 := hide (HE.out W1 hg1)
            clear HE hg1 c1 HS C
            by_cases hone : cap' = 1
            · have hn0 : n = 0 := by omega
              subst hone hn0
              have hR2 := hide hR1
              have hb2 := hide hb1
              clear hR1 hb1
              go_wp2_with (first | (at_builtin; refine app_ints _ rfl _ _ rfl (N + 2) _ 0 [] rfl ?c0 ⟨g2, 0, none⟩ 0 0 t rfl HN.out ?c1 ?c2 ?c3 ?_))
              case c0 => exact World.ownsRow_lit W1 #[] 0 (by have := hR2.out.lt; omega) (by unfold maxLen; omega) rfl
              case c1 => intro i hi; omega
              case c2 => omega
              case c3 => have := hR2.out.lt; simp; omega
              intro a3 cap3 w3 hown3 hgrow3
              have hl3 := hR2.out.lt
              have hS3 := next_st hb2.out hle hR2.out (fun g hg => by simp [Value.ownBlock] at hg; omega) (m := 0) hgrow3 HN.out hown3
              clear hown3 hgrow3 hR2 hb2 HE1 hl3 c2
              have HT := hide hS3
              clear hS3
              have hnx : (t).length = 0 + 0 := by have := HN.out; first | omega | (simp; omega) | simp
              have CL := hide (fun W hg => len_any N k _ _ hnx W (HT.out.tail (W' := W) hg).q)
              clear hnx
              go_wp2_with (first | fail)
              refine (CL.out _ (grownBy_refl _ _)).mono ?_; rintro e W9 ⟨rfl, hg9⟩
              go_wp2
              go_roundw
              case rel => exact ⟨j + 1, _, by omega, by omega, by go_num, HT.out.tail hg9⟩
              case measure => simp [intOf]; omega
            · have hR2 := hide hR1
              have hb2 := hide hb1
              clear hR1 hb1
              go_wp2_with (first | (at_builtin; refine app_ints _ rfl _ _ rfl (N + 2) _ 0 [] rfl ?c0 ⟨g2, 1, none⟩ n (cap' - 1) t rfl HN.out ?c1 ?c2 ?c3 ?_))
              case c0 => exact World.ownsRow_lit W1 #[] 0 (by have := hR2.out.lt; omega) (by unfold maxLen; omega) rfl
              case c1 =>
                intro i hi
                have := HE1.out (1 + i) (by omega)
                have hlt := block_lt_of_cell this
                rw [Nat.add_comm 1 i, List.getElem?_cons_succ, Nat.add_comm i 1] at this
                rw [show (⟨g2, 1, none⟩ : Addr).add i = ⟨g2, 1 + i, none⟩ by simp [Addr.add]]
                exact (World.cell?_of_block (a := ⟨g2, 1 + i, none⟩) (Below.heap_alloc W1 _ g2 hlt)).trans this
              case c2 => omega
              case c3 => have := hR2.out.lt; simp; omega
              intro a3 cap3 w3 hown3 hgrow3
              have hl3 := hR2.out.lt
              have hS3 := next_st hb2.out hle hR2.out (fun g hg => by simp [Value.ownBlock] at hg; omega) (m := 0) hgrow3 HN.out hown3
              clear hown3 hgrow3 hR2 hb2 HE1 hl3 c2
              have HT := hide hS3
              clear hS3
              have hnx : (t).length = 0 + n := by have := HN.out; first | omega | (simp; omega) | simp
              have CL := hide (fun W hg => len_any N k _ _ hnx W (HT.out.tail (W' := W) hg).q)
              clear hnx
              go_wp2_with (first | fail)
              refine (CL.out _ (grownBy_refl _ _)).mono ?_; rintro e W9 ⟨rfl, hg9⟩
              go_wp2
              go_roundw
              case rel => exact ⟨j + 1, _, by omega, by omega, by go_num, HT.out.tail hg9⟩
              case measure => simp [intOf]; omega
      · go_wp2
        go_ret
        exact ⟨rfl, grown_of_below (HB.out ▸ HS.out.below)⟩
    · go_wp2
      go_ret
      exact ⟨rfl, grown_of_below (HB.out ▸ HS.out.below)⟩
#print axioms keeps_any
end Go.Proofs.Ytiffpmleeaenjaa

/- The contract of the document's own PutCode, proved over the translation: it answers the same function as the program's Put. -/
import Derived.Test.YtdgdoiigcdlpaaaDoorRefMay
import Derived.Test.YtdgdoiigcdlpaaaDoorPairs
namespace Go.Proofs.YtdgdoiigcdlpaaaDoor
open Go.RowKit
attribute [local go_sem] alloc_drewN setCell_drewN
attribute [local go_sem ↓] Go.wp_at_zero Go.wp_at_succ

/-- append of bytes, at a step of a region that draws. -/
theorem step_bytes {ops : Array Oper} {o : Oper} {a : Act} {K : Act → World → Prop} {Q : Exit → Act → World → Prop} {E : Prop} (w : World) (hgd : o.guard = none) (s x : Operand)
    (ho : o.op = .call { callee := .builtin .append, args := #[s, x], argTypes := #[42, 42] })
    (base : Nat) (v : Value) (n : Nat) (xs : List Int) (hs : a.eval s = v) (hown : w.ownsRow base 5 1 v n (bytes1 xs))
    (ad : Addr) (m c : Nat) (ys : List Int) (hx : a.eval x = .slice (some ad) m c) (hl : ys.length = m) (hcells : ∀ j, j < m → w.cell? (ad.add j) = some (.int .u8 (ys[j]?.getD 0)))
    (hm : 0 < m) (hlim : n + m ≤ 140737488355328) (hbase : base ≤ w.heap.size)
    (h : ∀ g cap' w', w'.ownsRow base 5 1 (.slice (some ⟨g, 0, none⟩) (n + m) cap') (n + m) (bytes1 (xs ++ ys)) → w.grownBy w' v.ownBlock → K (a.put o.dst (.slice (some ⟨g, 0, none⟩) (n + m) cap')) w') :
    if Region.wanted o (yielded ops a.tmps) = true then Oper.wp Tryd.prog o a w K Q else E := by
  obtain ⟨i0, hi, hz0, hz1, hz2⟩ := info_parts infoU8
  refine step_append_lies w hgd s x 42 ho base 5 i0 (.int .u8 0) 1 1 Tryd.underlying42 hi hz0 hz1 hz2 rfl (by decide) v n (bytes1 xs) hs hown ad m c (bytes1 ys) hx (by rw [bytes1_length, hl]; omega) ?_ ?_ hm (by unfold maxLen; omega) (by omega) hbase _ rfl ?_
  · intro j u hu
    have hj : j < (bytes1 ys).length := by
      rcases Nat.lt_or_ge j (bytes1 ys).length with h | h
      · exact h
      · rw [List.getElem?_eq_none h] at hu; cases hu
    rw [bytes1_length] at hj
    rw [bytes1_get _ _ hj] at hu
    cases hu
    exact hcells j (by omega)
  · intro u hu
    simp [bytes1] at hu
    obtain ⟨z, _, rfl⟩ := hu
    rfl
  · intro g cap' w' hown' hgrow _ _
    refine h g cap' w' ?_ hgrow
    rw [bytes1_append]
    exact hown'

set_option maxRecDepth 100000 in
set_option maxHeartbeats 2000000 in
theorem put_ref (v : Value) (zs : List Ins) (hz : zs.length ≤ 9223372036854775807) (w : World) (hv : PReads w v zs) :
    Calls Tryd.prog 9 #[v] w fun e w' => e = .returned (.tuple #[.string (putS zs), .int .i64 (errOf (codeMay zs))]) ∧ w.grownBy w' none := by
  have C := hide (codeMay_ref v zs hz w hv)
  cases hm : codeMay zs with
  | false =>
    rw [show putS zs = ⟨#[]⟩ from if_neg (by rw [hm]; decide), show errOf false = 400 from rfl]
    rw [hm] at C
    obtain ⟨va, vcap, rfl, -⟩ := hv
    clear hm
    generalize zs.length = N at *
    go_enter Tryd.func9, Tryd.ntmps9
    go_wp2_with (go_at_call 15; refine C.out.mono ?_; rintro e w2 ⟨rfl, hg⟩)
    go_ret2
    exact ⟨rfl, hg⟩
  | true =>
    rw [show putS zs = strOfNums (flat zs) from if_pos hm, show errOf true = 0 from rfl]
    rw [hm] at C
    obtain ⟨hN, hall⟩ := codeMay_true hm
    have HV := hide (fun W => hv.grown (W := W))
    have HALL := hide hall
    clear hm hall
    obtain ⟨va, vcap, rfl, -⟩ := hv
    generalize hl : zs.length = N at *
    have HN := hide hl
    clear hl
    go_enter Tryd.func9, Tryd.ntmps9
    go_wp2_with (first | fail)
    refine C.out.mono ?_; rintro e w2 ⟨rfl, hg⟩
    have HG := hide hg
    clear hg C
    go_wp2
    go_loopw [4, 5] (fun u i W => ∃ (j cap' : Nat) (a' : Option Addr), j ≤ N ∧ i = .int .i64 j ∧ u = .slice a' (2 * j) cap' ∧ Hid (w2.grownBy W none) ∧ Hid (W.ownsRow w2.heap.size 5 1 u (2 * j) (bytes1 (flat (zs.take j))))) (fun _ i _ => N - (intOf i).toNat)
    case atStart => exact ⟨0, 0, none, by omega, rfl, rfl, grownBy_refl _ _, rfl, .inl ⟨rfl, rfl⟩⟩
    case round =>
      obtain ⟨j, cap', a', hj, rfl, rfl, HG2, HO⟩ := hrel
      by_cases hlt : j < N
      · obtain ⟨va', vcap', e, hc⟩ := HV.out wr (grownBy_trans HG.out HG2.out)
        simp only [Value.slice.injEq] at e
        obtain ⟨rfl, -, rfl⟩ := e
        obtain ⟨g, o, rfl, hc2⟩ := hc (by rw [HN.out]; omega)
        obtain ⟨c1, c2⟩ := hc2 j (by rw [HN.out]; omega)
        have hi := HALL.out j hlt
        have HS := hide (flat_step zs j (by rw [HN.out]; omega))
        have KEEP : ∀ W ob m, ((wr.alloc ob).drewN m).grownBy W (Value.slice a' (2 * j) cap').ownBlock → W.cell? ⟨g, o + j * 2, none⟩ = some (.int .i64 (zs[j]?.getD (0, 0)).1) ∧ W.cell? ⟨g, o + j * 2 + 1, none⟩ = some (.int .i64 (zs[j]?.getD (0, 0)).2) := by
          intro W ob m hgW
          have hgl : g < wr.heap.size := World.block_lt_of_cell? wr ⟨g, o + j * 2, none⟩ c1
          have h3 := HV.out W (grownBy_trans HG.out (grown_append HG2.out (fun g hg => (HO.out.lt g hg).1) hgW))
          obtain ⟨va2, vcap2, e2, hc3⟩ := h3
          simp only [Value.slice.injEq] at e2
          obtain ⟨rfl, -, rfl⟩ := e2
          obtain ⟨g2, o2, h, hc4⟩ := hc3 (by rw [HN.out]; omega)
          cases h
          exact hc4 j (by rw [HN.out]; omega)
        have HK := hide KEEP
        clear hc hc2 KEEP
        generalize hx : (zs[j]?.getD (0, 0)).1 = x at *
        generalize hy : (zs[j]?.getD (0, 0)).2 = y at *
        obtain ⟨x0, x1, y0, y1⟩ := may_bytes hN (show insMay N (x, y) = true by rw [← hx, ← hy]; exact hi)
        have hwx := wrap8 x x0 (by omega)
        have hwy := wrap8 y y0 (by omega)
        clear hi hx hy
        go_wp2
        go_region_held3 (fun W => W.cell? ⟨g, o + j * 2, none⟩ = some (.int .i64 x) ∧ W.cell? ⟨g, o + j * 2 + 1, none⟩ = some (.int .i64 y)) (first | go_keep | exact HK.out _ _ 1 hgrow3)
          ((refine step_bytes _ (by rfl) _ _ (by rfl) w2.heap.size (.slice a' (2 * j) cap') (2 * j) (flat (zs.take j)) (by rfl) ((HO.out.alloc _).drew) ⟨wr.heap.size, 0, none⟩ 2 2 [x, y] (by rfl) (by rfl) (fun i hi => by match i, hi with | 0, _ => simp [Addr.add] | 1, _ => simp [Addr.add]) (by omega) (by omega) (by have := HG2.out.size; simp; omega) ?_; intro g3 cap3 w3 hown3 hgrow3))
        all_goals
          have HO3 := hide hown3
          have HG3 := hide (grown_append (m := 1) HG2.out (fun g hg => (HO.out.lt g hg).1) hgrow3)
          clear hown3 hgrow3
          go_wp2
          go_roundw
          case rel =>
            refine ⟨j + 1, cap3, _, by omega, by go_num, rfl, HG3, ?_⟩
            have h := HO3.out
            rw [← HS.out] at h
            exact h
          case measure => simp [intOf]; omega
      · have e : j = N := by omega
        subst e
        have hcv := conv_own HO.out
        rw [show zs.take j = zs by rw [← HN.out, List.take_length]] at hcv
        go_wp2
        go_ret2
        exact ⟨rfl, grownBy_trans HG.out HG2.out⟩
#print axioms put_ref
end Go.Proofs.YtdgdoiigcdlpaaaDoor

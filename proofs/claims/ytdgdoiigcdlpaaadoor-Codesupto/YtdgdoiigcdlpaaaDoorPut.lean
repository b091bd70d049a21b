/- The contract of package code's Put, proved over the translation. -/
import Derived.Test.YtdgdoiigcdlpaaaDoorProgram
namespace Go.Proofs.YtdgdoiigcdlpaaaDoor
open Go.RowKit
attribute [local go_sem] alloc_drewN setCell_drewN

/-- The numbers of a program, an Op and an Arg by turns. -/
def flat (zs : List Ins) : List Int := zs.flatMap fun z => [z.1, z.2]
theorem flat_length (zs : List Ins) : (flat zs).length = 2 * zs.length := by
  induction zs with
  | nil => rfl
  | cons z zs ih => simp [flat] at ih ⊢; omega
theorem flat_append (xs ys : List Ins) : flat (xs ++ ys) = flat xs ++ flat ys := by simp [flat]
theorem flat_step (zs : List Ins) (j : Nat) (h : j < zs.length) : flat (zs.take (j + 1)) = flat (zs.take j) ++ [(zs[j]?.getD (0, 0)).1, (zs[j]?.getD (0, 0)).2] := by
  rw [List.take_succ_eq_append_getElem h, flat_append, List.getElem?_eq_getElem h]
  rfl
/-- What Put answers. -/
def putS (zs : List Ins) : ByteArray := if codeMay zs = true then strOfNums (flat zs) else ⟨#[]⟩
def errOf (b : Bool) : Int := if b = true then 0 else 400

/-- What may be fits into bytes. -/
theorem may_bytes {N : Nat} (hN : N ≤ 64) {x y : Int} (h : insMay N (x, y) = true) : 0 ≤ x ∧ x < 12 ∧ 0 ≤ y ∧ y < 256 := by
  unfold insMay isOpB at h
  simp only [Bool.and_eq_true, decide_eq_true_eq] at h
  obtain ⟨⟨h1, h2⟩, h3, h4⟩ := h
  refine ⟨h1, h2, h3, Int.lt_of_lt_of_le h4 ?_⟩
  unfold most
  split
  · omega
  · obtain ⟨k, rfl⟩ : ∃ k : Nat, x = k := ⟨x.toNat, by omega⟩
    have hk : k < 12 := by omega
    rw [Int.toNat_natCast]
    clear h4
    revert hk
    clear h1 h2 h3
    intro hk
    have hall : ((List.range 12).all fun k => decide (opBelow k ≤ 256)) = true := by decide
    exact of_decide_eq_true (List.all_eq_true.1 hall k (List.mem_range.2 hk))
theorem codeMay_true {zs : List Ins} (h : codeMay zs = true) : zs.length ≤ 64 ∧ ∀ j, j < zs.length → insMay zs.length (zs[j]?.getD (0, 0)) = true := by
  unfold codeMay at h
  simp only [Bool.and_eq_true, decide_eq_true_eq, List.all_eq_true] at h
  refine ⟨h.1, fun j hj => h.2 _ ?_⟩
  rw [List.getElem?_eq_getElem hj]
  exact List.getElem_mem hj
theorem wrap8 (x : Int) (h0 : 0 ≤ x) (h1 : x < 256) : IntKind.u8.wrap x = x := by rw [IntKind.wrap_u8]; omega

theorem make_bytes (n : Nat) (hn : n ≤ 64) (w : World) : ∃ cs : Array Value, cs.size = 2 * n ∧ (Instr.makeSlice 42 (.int .i64 0) (.int .i64 (2 * n))).run Tryd.prog w = .ok (.slice (some ⟨w.heap.size, 0, none⟩) 0 (2 * n)) (w.alloc (.cells cs 5)) := by
  obtain ⟨i0, hi, hz0, hz1, hz2⟩ := info_parts infoU8
  have := run_make (P := Tryd.prog) w 42 5 i0 (.int .u8 0) Tryd.underlying42 hi hz0 .i64 .i64 0 (2 * n : Nat) (by omega) (by omega) (by rw [hz2]; omega) (by omega)
  rw [hz1] at this
  have e : (2 * (n : Int)).toNat = 2 * n := by omega
  refine ⟨madeCells (Value.int IntKind.u8 0).cells (2 * n), ?_, by simpa [e] using this⟩
  simp [size_madeCells, Value.cells]

set_option maxRecDepth 100000 in
set_option maxHeartbeats 1000000 in
theorem put_any (v : Value) (zs : List Ins) (hz : zs.length ≤ 9223372036854775807) (w : World) (hT : Tab w) (hv : PReads w v zs) :
    Calls Tryd.prog 8 #[v] w fun e w' => e = .returned (.tuple #[.string (putS zs), .int .i64 (errOf (codeMay zs))]) ∧ w.grownBy w' none := by
  have C := hide (may_any v zs hz w hT hv)
  clear hT
  cases hm : codeMay zs with
  | false =>
    rw [show putS zs = ⟨#[]⟩ from if_neg (by rw [hm]; decide), show errOf false = 400 from rfl]
    rw [hm] at C
    obtain ⟨va, vcap, rfl, -⟩ := hv
    clear hm
    generalize zs.length = N at *
    go_enter Tryd.func8, Tryd.ntmps8
    go_wp2_with (go_at_call 14; refine C.out.mono ?_; rintro e w2 ⟨rfl, hg⟩)
    go_ret2
    exact ⟨rfl, hg⟩
  | true =>
    rw [show putS zs = strOfNums (flat zs) from if_pos hm, show errOf true = 0 from rfl]
    rw [hm] at C
    obtain ⟨hN, hall⟩ := codeMay_true hm
    have HV := hide (fun W => hv.grown (W := W))
    have HALL := hide hall
    clear hm hall
    obtain ⟨va, vcap, rfl, -⟩ := hv
    generalize hl : zs.length = N at *
    have HN := hide hl
    clear hl
    go_enter Tryd.func8, Tryd.ntmps8
    go_wp2_with (first | fail)
    refine C.out.mono ?_; rintro e w2 ⟨rfl, hg⟩
    have HG := hide hg
    clear hg C
    obtain ⟨cs, hcs, hmk⟩ := make_bytes N hN w2
    have HCS := hide hcs
    clear hcs
    go_wp2
    go_loopw [4, 6, 16] (fun u _ i W => ∃ (j cap' : Nat) (a' : Option Addr), j ≤ N ∧ i = .int .i64 j ∧ u = .slice a' (2 * j) cap' ∧ Hid (w2.grownBy W none) ∧ Hid (W.ownsRow w2.heap.size 5 1 u (2 * j) (bytes1 (flat (zs.take j))))) (fun _ _ i _ => N - (intOf i).toNat)
    case atStart =>
      refine ⟨0, _, _, by omega, rfl, rfl, World.grownBy_alloc _ _ _, ?_⟩
      refine ⟨rfl, .inr ⟨w2.heap.size, 2 * N, cs, rfl, Nat.le_refl _, heap_alloc_new w2 _, by omega, by unfold maxLen; omega, by rw [HCS.out]; omega, rfl⟩⟩
    case round =>
      obtain ⟨j, cap', a', hj, rfl, rfl, HG2, HO⟩ := hrel
      by_cases hlt : j < N
      · obtain ⟨va', vcap', e, hc⟩ := HV.out wr (grownBy_trans HG.out HG2.out)
        simp only [Value.slice.injEq] at e
        obtain ⟨rfl, -, rfl⟩ := e
        obtain ⟨g, o, rfl, hc2⟩ := hc (by rw [HN.out]; omega)
        obtain ⟨c1, c2⟩ := hc2 j (by rw [HN.out]; omega)
        have hi := HALL.out j hlt
        have hstep := flat_step zs j (by rw [HN.out]; omega)
        have HS := hide hstep
        clear hc hc2 hstep
        generalize hx : (zs[j]?.getD (0, 0)).1 = x at *
        generalize hy : (zs[j]?.getD (0, 0)).2 = y at *
        obtain ⟨x0, x1, y0, y1⟩ := may_bytes hN (show insMay N (x, y) = true by rw [← hx, ← hy]; exact hi)
        have hwx := wrap8 x x0 (by omega)
        have hwy := wrap8 y y0 (by omega)
        clear hi hx hy
        go_wp2_with (at_builtin; refine app_bytes _ rfl _ _ rfl w2.heap.size (.slice a' (2 * j) cap') (2 * j) (flat (zs.take j)) rfl ?c0 ⟨_, 0, none⟩ 2 2 [x, y] rfl rfl ?c1 ?c2 ?c3 ?_)
        case c0 => exact (HO.out.alloc _).alloc _
        case c1 =>
          intro i hi
          match i, hi with
          | 0, _ => simp [Addr.add]
          | 1, _ => simp [Addr.add]
        case c2 => omega
        case c3 => have := HG2.out.size; simp; omega
        intro a2 cap2 w3 hown hgrow
        have HO3 := hide hown
        have HG3 := hide (grown_append (m := 0) (grownBy_trans HG2.out (World.grownBy_alloc _ _ _)) (fun g hg => (HO.out.lt g hg).1) hgrow)
        clear hown hgrow
        go_wp2
        go_roundw
        case rel =>
          refine ⟨j + 1, cap2, a2, by omega, by go_num, rfl, HG3, ?_⟩
          have h := HO3.out
          rw [← HS.out] at h
          exact h
        case measure => simp [intOf]; omega
      · have e : j = N := by omega
        subst e
        have hcv := conv_own HO.out
        rw [show zs.take j = zs by rw [← HN.out, List.take_length]] at hcv
        go_wp2
        go_ret2
        exact ⟨rfl, grownBy_trans HG.out HG2.out⟩
#print axioms put_any
end Go.Proofs.YtdgdoiigcdlpaaaDoor

/- The walk of the statement DemandRow: in which row tasks stand does not count, nor what those behind it ask for; proved over the translation. -/
import Derived.Test.YtadolobbidpejaaRmath
import Derived.Test.YtadolobbidpejaaLend
import Derived.Test.YtadolobbidpejaaLGrows
namespace Go.Proofs.Ytadolobbidpejaa
open Go.RowKit
attribute [local go_sem] alloc_drewN setCell_drewN

theorem fits_reverse {ts : List TaskV} (h : Fits ts) : Fits ts.reverse := fun t ht => h t (List.mem_reverse.1 ht)
theorem fits_filter {ts : List TaskV} (h : Fits ts) (f : TaskV → Bool) : Fits (ts.filter f) := fun t ht => h t (List.mem_filter.1 ht).1
theorem drop_reverse {ts : List TaskV} {q : Nat} (hq : q < ts.length) : (ts.drop (q + 1)).reverse ++ [taskAt ts q] = (ts.drop q).reverse := by
  rw [List.drop_eq_getElem_cons hq, List.reverse_cons, taskAt_get hq]
theorem lit_cell (w1 : World) (t : TaskV) : ∀ i y, [t][i]? = some y → ∀ j u, (shT.f y)[j]? = some u → (w1.alloc (.cells (taskC t).toArray 34)).cell? ((⟨w1.heap.size, 0, none⟩ : Addr).add (i * shT.k + j)) = some u := by
  intro i y hy j u hu
  obtain ⟨-, a9, c9, e9, h9⟩ := rowAt_lit (S := shT) w1 [t] 34 (by simp)
  simp only [Value.slice.injEq] at e9
  obtain ⟨rfl, -, rfl⟩ := e9
  obtain ⟨g9, o9, e8, -, h8⟩ := h9 (by simp)
  cases e8
  rw [Go.WideShapes.add_plain, ← Nat.add_assoc]
  have e : shT.cells [t] = taskC t := by simp [Shape.cells, shT]
  rw [e] at h8
  exact h8 i y hy j u hu
theorem own_row {W : World} {base L : Nat} {v : Value} {xs : List TaskV} (h : W.ownsRow base 34 shT.k v L (shT.cells xs)) (hl : xs.length = L) : RowAt shT base W v xs := by
  subst hl
  exact rowAt_own h
def atN (n : Nat) (A : Int) (j : Nat) : Int := if n < j then A else 0
theorem atN_0 (n : Nat) (A : Int) : atN n A 0 = 0 := by unfold atN; rw [if_neg (by omega)]
theorem atN_here (n : Nat) (A : Int) : atN n A (n + 1) = A := by unfold atN; rw [if_pos (by omega)]
theorem atN_off {n j : Nat} (A : Int) (h : j ≠ n) : atN n A (j + 1) = atN n A j := by
  unfold atN
  by_cases h2 : n < j
  · rw [if_pos h2, if_pos (by omega)]
  · rw [if_neg h2, if_neg (by omega)]
theorem take_low_le (ts : List TaskV) (f : TaskV → Bool) (j : Nat) : ((ts.take j).filter f).length ≤ j := by
  have h1 := List.length_filter_le f (ts.take j)
  rw [List.length_take] at h1
  omega

set_option maxRecDepth 100000 in
set_option maxHeartbeats 4000000 in
theorem row_any {lo : Nat} (v : Value) (ts : List TaskV) (i len : Int) (w : World) (hv : RowAt shT lo w v ts) (hf : Fits ts) (hbig : ts.length ≤ 2932031007317) :
    Calls Try.prog 7 #[v, .int .i64 i, .int .i64 len] w fun e w' => e = .returned (.bool true) ∧ w.grownBy w' none := by
  have NUM := hide num_any
  obtain ⟨k, hk0, hk1, hk⟩ := and1023 len
  have CB := hide (fun W (hg : w.grownBy W none) => bound_any v ts i k W (hv.grown hg) hf (by omega))
  rcases okB_cases ts i k with ⟨hok, hm, h1, h2, -, -⟩ | ⟨hok, -⟩
  · obtain ⟨n, rfl⟩ := Int.eq_ofNat_of_zero_le h1
    have hn : n < ts.length := by omega
    have BK := back_ans hok
    have AH := ahead_ans hok
    have B1 := bound_yes hok
    rw [Int.toNat_natCast] at B1
    have CBK := hide (fun lo' v' W (h : RowAt shT lo' W v' ts.reverse) => bound_any v' ts.reverse ((ts.length - 1 - n : Nat) : Int) k W h (fits_reverse hf) (by rw [List.length_reverse]; omega))
    have CAH := hide (fun lo' v' W (h : RowAt shT lo' W v' (ts.filter (lowP (taskAt ts n).prio))) => bound_any v' (ts.filter (lowP (taskAt ts n).prio)) (((ts.take n).filter (lowP (taskAt ts n).prio)).length : Int) k W h (fits_filter hf _) (by have := List.length_filter_le (lowP (taskAt ts n).prio) ts; omega))
    rw [BK.1, BK.2] at CBK
    rw [AH.1, AH.2] at CAH
    rw [B1.2] at CB
    clear BK AH B1 hok hm
    have HV := hide (fun W => hv.grown (W := W))
    have HROW := hide hv
    obtain ⟨-, ta, tc, rfl, -⟩ := hv
    obtain ⟨g, o, rfl⟩ := row_addr HROW.out (by omega)
    have hq := taskAt_mem' (ws := ts) (i := n) hn
    have HC5 : Hid (∀ W, w.grownBy W none → W.cell? ⟨g, o + n * 6 + 5, none⟩ = some (.int .i64 (taskAt ts n).prio)) := fun W hg => row_cell (S := shT) (HV.out W hg) hq (k := 5) rfl
    have HDROP := hide (fun q (h : q < ts.length) => drop_reverse h)
    have HREV := hide (show (ts.drop 0).reverse = ts.reverse ∧ ts.reverse.length = ts.length by simp)
    have HTAKE := hide (fun j (hj : j < ts.length) => filter_take_succ hj (lowP (taskAt ts n).prio))
    have HLE := hide (fun j => take_low_le ts (lowP (taskAt ts n).prio) j)
    have HEND := hide (show (ts.take ts.length).filter (lowP (taskAt ts n).prio) = ts.filter (lowP (taskAt ts n).prio) by rw [List.take_length])
    have HLOW := hide (show lowP (taskAt ts n).prio (taskAt ts n) = true by unfold lowP; simp)
    clear hq HROW hf
    have e21 : ((ts.length - 1 - n : Nat) : Int) = (ts.length : Int) - 1 - n := by omega
    rw [e21] at CBK
    clear e21
    generalize hP : (taskAt ts n).prio = P at *
    have HPN := hide hP
    clear hP
    generalize hB : boundV ts n k = B at *
    clear hB
    generalize hNN : ts.length = N at *
    have HN := hide hNN
    clear hNN h1 h2
    generalize hLA : ((List.take n ts).filter (lowP P)).length = LA at *
    have HLA := hide hLA
    clear hLA
    go_enter Try.func7, Try.ntmps7
    go_wp2_with (first | fail)
    refine (awake_any w).mono ?_; rintro e w0 ⟨rfl, hg⟩
    have G0 := hide hg
    clear hg
    go_wp2_with (first | fail)
    refine (CB.out w0 G0.out).mono ?_; rintro e w1 ⟨rfl, hg⟩
    have G1 := hide (grownBy_trans G0.out hg)
    clear hg CB
    have nlt : decide (((n : Nat) : Int) < 0) = false := decide_eq_false (by omega)
    have nge : decide (N ≤ n) = false := decide_eq_false (by omega)
    have nge2 : decide ((N : Int) ≤ (n : Int)) = false := decide_eq_false (by omega)
    go_wp2_with (go_at_call 11; refine (NUM.out _ _).mono ?_; rintro e w' ⟨rfl, rfl⟩)
    go_loopw [10, 14] (fun s i W => ∃ (m L : Nat) (z : Int) (a' : Option Addr) (cap' : Nat), L + m = N ∧ z = (m : Int) - 1 ∧ i = .int .i64 z ∧ s = .slice a' L cap' ∧ Hid (W.ownsRow w.heap.size 34 shT.k (.slice a' L cap') L (shT.cells (ts.drop m).reverse)) ∧ Hid (w.grownBy W none)) (fun _ i _ => (intOf i + 1).toNat)
    case atStart => exact ⟨N, 0, _, none, 0, by omega, rfl, by go_num, rfl, hide (by rw [List.drop_of_length_le (by rw [HN.out]; omega)]; exact World.ownsRow_nil _ _ _ _), G1⟩
    case round =>
      obtain ⟨m, L, z, a', cap', hLm, hz, rfl, rfl, HO, HG⟩ := hrel
      by_cases h0 : m = 0
      · subst h0
        obtain rfl : z = -1 := by omega
        obtain rfl : L = N := by omega
        clear hz hLm
        have HBK := hide (show RowAt shT w.heap.size wr (.slice a' L cap') ts.reverse from by rw [HREV.out.1] at HO; exact own_row HO.out (HREV.out.2))
        clear HO
        have CB2 := hide (fun W (hg : wr.grownBy W none) => CBK.out w.heap.size _ W (HBK.out.grown hg))
        clear CBK HBK HDROP HREV
        obtain ⟨wk, hwk⟩ : ∃ x, x = wr := ⟨_, rfl⟩
        subst hwk
        go_wp2
        go_loopw [11, 12, 13, 15] (fun s t c i W => ∃ (j S : Nat) (a2 : Option Addr) (cap2 : Nat), j ≤ L ∧ S ≤ j ∧ i = .int .i64 j ∧ c = .int .i64 S ∧ t = .int .i64 (atN n LA j) ∧ s = .slice a2 S cap2 ∧ Hid (((ts.take j).filter (lowP P)).length = S) ∧ Hid (W.ownsRow wk.heap.size 34 shT.k (.slice a2 S cap2) S (shT.cells ((ts.take j).filter (lowP P)))) ∧ Hid (wk.grownBy W none)) (fun _ _ _ i _ => L - (intOf i).toNat)
        case atStart => exact ⟨0, 0, none, 0, by omega, by omega, rfl, rfl, by rw [atN_0], rfl, hide (by simp), hide (by simpa [Shape.cells] using World.ownsRow_nil wk wk.heap.size 34 shT.k), hide (grownBy_refl _ _)⟩
        case round =>
          obtain ⟨j, S, a2, cap2, hj, hS, rfl, rfl, rfl, rfl, HS, HO, HG2⟩ := hrel
          by_cases hlt : j < L
          · have hq := taskAt_mem' (ws := ts) (i := j) (by rw [HN.out]; exact hlt)
            have HT := hide (HTAKE.out j hlt)
            have HG3 := hide (grownBy_trans HG.out HG2.out)
            by_cases hjn : n = j
            · obtain rfl := hjn
              have c0 : Hid (∀ W, w.grownBy W none → W.cell? ⟨g, o + n * 6, none⟩ = some (.int .i64 (taskAt ts n).kind)) := fun W hg => row_cell (S := shT) (HV.out W hg) hq (k := 0) rfl
              have c1 : Hid (∀ W, w.grownBy W none → W.cell? ⟨g, o + n * 6 + 1, none⟩ = some (.int .i64 (taskAt ts n).period)) := fun W hg => row_cell (S := shT) (HV.out W hg) hq (k := 1) rfl
              have c2 : Hid (∀ W, w.grownBy W none → W.cell? ⟨g, o + n * 6 + 2, none⟩ = some (.int .i64 (taskAt ts n).deadline)) := fun W hg => row_cell (S := shT) (HV.out W hg) hq (k := 2) rfl
              have c3 : Hid (∀ W, w.grownBy W none → W.cell? ⟨g, o + n * 6 + 3, none⟩ = some (.int .i64 (taskAt ts n).clow)) := fun W hg => row_cell (S := shT) (HV.out W hg) hq (k := 3) rfl
              have c4 : Hid (∀ W, w.grownBy W none → W.cell? ⟨g, o + n * 6 + 4, none⟩ = some (.int .i64 (taskAt ts n).chigh)) := fun W hg => row_cell (S := shT) (HV.out W hg) hq (k := 4) rfl
              have c5 : Hid (∀ W, w.grownBy W none → W.cell? ⟨g, o + n * 6 + 5, none⟩ = some (.int .i64 (taskAt ts n).prio)) := fun W hg => row_cell (S := shT) (HV.out W hg) hq (k := 5) rfl
              clear hq
              have HS2 := hide (HT.out.trans (by rw [if_pos HLOW.out]))
              have HTQ := hide (show taskAt ts n = ⟨(taskAt ts n).kind, (taskAt ts n).period, (taskAt ts n).deadline, (taskAt ts n).clow, (taskAt ts n).chigh, (taskAt ts n).prio⟩ from rfl)
              rw [HPN.out] at HTQ c5
              generalize (taskAt ts n).kind = x0 at *
              generalize (taskAt ts n).period = x1 at *
              generalize (taskAt ts n).deadline = x2 at *
              generalize (taskAt ts n).clow = x3 at *
              generalize (taskAt ts n).chigh = x4 at *
              obtain ⟨U, hU, F, HF, HR⟩ := class_of wr
              have f0 := fun u => c0.out _ (grownBy_trans HG3.out (HF.out u))
              have f1 := fun u => c1.out _ (grownBy_trans HG3.out (HF.out u))
              have f2 := fun u => c2.out _ (grownBy_trans HG3.out (HF.out u))
              have f3 := fun u => c3.out _ (grownBy_trans HG3.out (HF.out u))
              have f4 := fun u => c4.out _ (grownBy_trans HG3.out (HF.out u))
              have f5 := fun u => c5.out _ (grownBy_trans HG3.out (HF.out u))
              clear c0 c1 c2 c3 c4 c5
              have EA := hide (atN_here n (LA : Int))
              have ELA := hide (show LA = S from HLA.out.symm.trans HS.out)
              go_wp2
              refine wp_region_quiet_in F (by kernel_rfl) (by kernel_rfl) (HR.out _ (drew_grown _)) ?_
              repeat (go_big_quiet_step (fail))
              refine wpQuiet_nil ?_
              intro _ hw1
              obtain ⟨uq, hw2⟩ := hw1
              subst hw2
              have GU := hide (grownBy_trans HG2.out (HF.out uq))
              have OU := hide (own_kept HO.out (HF.out uq))
              have q0 := f0 uq
              have q1 := f1 uq
              have q2 := f2 uq
              have q3 := f3 uq
              have q4 := f4 uq
              have q5 := f5 uq
              go_wp2_with (at_builtin; refine app_row (S := shT) _ rfl _ _ 22 34 (.agg #[.int .i64 0, .int .i64 0, .int .i64 0, .int .i64 0, .int .i64 0, .int .i64 0]) 48 Try.underlying22 info34 rfl rfl wk.heap.size (.slice a2 S cap2) S ((ts.take n).filter (lowP P)) rfl ?c0 ⟨(F uq).heap.size, 0, none⟩ 1 1 [⟨x0, x1, x2, x3, x4, P⟩] rfl rfl ?c1 ?c2 ?c3 ?c4 ?_)
              case c0 => exact OU.out.alloc _
              case c1 => exact lit_cell (F uq) ⟨x0, x1, x2, x3, x4, P⟩
              case c2 => omega
              case c3 => omega
              case c4 => have := GU.out.size; simp; omega
              intro a3 cap3 w3 hown3 hgrow3 hno
              clear hno
              have HO3 := hide hown3
              have HG4 := hide (grown_append (m := 0) GU.out (fun g hg => (OU.out.lt g hg).1) hgrow3)
              clear hown3 hgrow3
              clear f0 f1 f2 f3 f4 f5 q0 q1 q2 q3 q4 q5
              go_wp2
              go_roundw
              case rel => exact ⟨n + 1, S + 1, a3, cap3, by omega, by omega, by go_num, by go_num, by rw [EA.out, ELA.out], rfl, hide (by rw [HS2.out, List.length_append, HS.out]; rfl), hide (by rw [HS2.out, HTQ.out]; exact HO3.out), HG4⟩
              case measure => simp [intOf]; omega
            · replace hjn : j ≠ n := fun e => hjn e.symm
              by_cases hx : (taskAt ts j).prio ≤ P
              · have HS2 := hide (HT.out.trans (by rw [if_pos (show lowP P (taskAt ts j) = true from decide_eq_true hx)]))
                have c0 : Hid (∀ W, w.grownBy W none → W.cell? ⟨g, o + j * 6, none⟩ = some (.int .i64 (taskAt ts j).kind)) := fun W hg => row_cell (S := shT) (HV.out W hg) hq (k := 0) rfl
                have c1 : Hid (∀ W, w.grownBy W none → W.cell? ⟨g, o + j * 6 + 1, none⟩ = some (.int .i64 (taskAt ts j).period)) := fun W hg => row_cell (S := shT) (HV.out W hg) hq (k := 1) rfl
                have c2 : Hid (∀ W, w.grownBy W none → W.cell? ⟨g, o + j * 6 + 2, none⟩ = some (.int .i64 (taskAt ts j).deadline)) := fun W hg => row_cell (S := shT) (HV.out W hg) hq (k := 2) rfl
                have c3 : Hid (∀ W, w.grownBy W none → W.cell? ⟨g, o + j * 6 + 3, none⟩ = some (.int .i64 (taskAt ts j).clow)) := fun W hg => row_cell (S := shT) (HV.out W hg) hq (k := 3) rfl
                have c4 : Hid (∀ W, w.grownBy W none → W.cell? ⟨g, o + j * 6 + 4, none⟩ = some (.int .i64 (taskAt ts j).chigh)) := fun W hg => row_cell (S := shT) (HV.out W hg) hq (k := 4) rfl
                have c5 : Hid (∀ W, w.grownBy W none → W.cell? ⟨g, o + j * 6 + 5, none⟩ = some (.int .i64 (taskAt ts j).prio)) := fun W hg => row_cell (S := shT) (HV.out W hg) hq (k := 5) rfl
                clear hq
                have HTQ := hide (show taskAt ts j = ⟨(taskAt ts j).kind, (taskAt ts j).period, (taskAt ts j).deadline, (taskAt ts j).clow, (taskAt ts j).chigh, (taskAt ts j).prio⟩ from rfl)
                generalize (taskAt ts j).kind = x0 at *
                generalize (taskAt ts j).period = x1 at *
                generalize (taskAt ts j).deadline = x2 at *
                generalize (taskAt ts j).clow = x3 at *
                generalize (taskAt ts j).chigh = x4 at *
                generalize (taskAt ts j).prio = x5 at *
                obtain ⟨U, hU, F, HF, HR⟩ := class_of wr
                have f0 := fun u => c0.out _ (grownBy_trans HG3.out (HF.out u))
                have f1 := fun u => c1.out _ (grownBy_trans HG3.out (HF.out u))
                have f2 := fun u => c2.out _ (grownBy_trans HG3.out (HF.out u))
                have f3 := fun u => c3.out _ (grownBy_trans HG3.out (HF.out u))
                have f4 := fun u => c4.out _ (grownBy_trans HG3.out (HF.out u))
                have f5 := fun u => c5.out _ (grownBy_trans HG3.out (HF.out u))
                have k5 := fun u => HC5.out _ (grownBy_trans HG3.out (HF.out u))
                clear c0 c1 c2 c3 c4 c5
                have hjn2 : ((j : Int) == (n : Int)) = false := by simp; omega
                have hjn3 : decide ((j : Int) = (n : Int)) = false := decide_eq_false (by omega)
                have EA := hide (atN_off (n := n) (LA : Int) hjn)
                have hd : decide (x5 ≤ P) = true := decide_eq_true hx
                clear hx
                go_wp2
                refine wp_region_quiet_in F (by kernel_rfl) (by kernel_rfl) (HR.out _ (drew_grown _)) ?_
                repeat (go_big_quiet_step (fail))
                refine wpQuiet_nil ?_
                intro _ hw1
                obtain ⟨uq, hw2⟩ := hw1
                subst hw2
                have GU := hide (grownBy_trans HG2.out (HF.out uq))
                have OU := hide (own_kept HO.out (HF.out uq))
                have q0 := f0 uq
                have q1 := f1 uq
                have q2 := f2 uq
                have q3 := f3 uq
                have q4 := f4 uq
                have q5 := f5 uq
                go_wp2_with (at_builtin; refine app_row (S := shT) _ rfl _ _ 22 34 (.agg #[.int .i64 0, .int .i64 0, .int .i64 0, .int .i64 0, .int .i64 0, .int .i64 0]) 48 Try.underlying22 info34 rfl rfl wk.heap.size (.slice a2 S cap2) S ((ts.take j).filter (lowP P)) rfl ?c0 ⟨(F uq).heap.size, 0, none⟩ 1 1 [⟨x0, x1, x2, x3, x4, x5⟩] rfl rfl ?c1 ?c2 ?c3 ?c4 ?_)
                case c0 => exact OU.out.alloc _
                case c1 => exact lit_cell (F uq) ⟨x0, x1, x2, x3, x4, x5⟩
                case c2 => omega
                case c3 => omega
                case c4 => have := GU.out.size; simp; omega
                intro a3 cap3 w3 hown3 hgrow3 hno
                clear hno
                have HO3 := hide hown3
                have HG4 := hide (grown_append (m := 0) GU.out (fun g hg => (OU.out.lt g hg).1) hgrow3)
                clear hown3 hgrow3
                clear f0 f1 f2 f3 f4 f5 q0 q1 q2 q3 q4 q5 k5
                go_wp2
                go_roundw
                case rel => exact ⟨j + 1, S + 1, a3, cap3, by omega, by omega, by go_num, by go_num, by rw [EA.out], rfl, hide (by rw [HS2.out, List.length_append, HS.out]; rfl), hide (by rw [HS2.out, HTQ.out]; exact HO3.out), HG4⟩
                case measure => simp [intOf]; omega
              · have HS2 := hide (HT.out.trans (by rw [if_neg (show ¬ lowP P (taskAt ts j) = true from by unfold lowP; simpa using hx), List.append_nil]))
                have c0 : Hid (∀ W, w.grownBy W none → W.cell? ⟨g, o + j * 6, none⟩ = some (.int .i64 (taskAt ts j).kind)) := fun W hg => row_cell (S := shT) (HV.out W hg) hq (k := 0) rfl
                have c1 : Hid (∀ W, w.grownBy W none → W.cell? ⟨g, o + j * 6 + 1, none⟩ = some (.int .i64 (taskAt ts j).period)) := fun W hg => row_cell (S := shT) (HV.out W hg) hq (k := 1) rfl
                have c2 : Hid (∀ W, w.grownBy W none → W.cell? ⟨g, o + j * 6 + 2, none⟩ = some (.int .i64 (taskAt ts j).deadline)) := fun W hg => row_cell (S := shT) (HV.out W hg) hq (k := 2) rfl
                have c3 : Hid (∀ W, w.grownBy W none → W.cell? ⟨g, o + j * 6 + 3, none⟩ = some (.int .i64 (taskAt ts j).clow)) := fun W hg => row_cell (S := shT) (HV.out W hg) hq (k := 3) rfl
                have c4 : Hid (∀ W, w.grownBy W none → W.cell? ⟨g, o + j * 6 + 4, none⟩ = some (.int .i64 (taskAt ts j).chigh)) := fun W hg => row_cell (S := shT) (HV.out W hg) hq (k := 4) rfl
                have c5 : Hid (∀ W, w.grownBy W none → W.cell? ⟨g, o + j * 6 + 5, none⟩ = some (.int .i64 (taskAt ts j).prio)) := fun W hg => row_cell (S := shT) (HV.out W hg) hq (k := 5) rfl
                clear hq
                have HTQ := hide (show taskAt ts j = ⟨(taskAt ts j).kind, (taskAt ts j).period, (taskAt ts j).deadline, (taskAt ts j).clow, (taskAt ts j).chigh, (taskAt ts j).prio⟩ from rfl)
                generalize (taskAt ts j).kind = x0 at *
                generalize (taskAt ts j).period = x1 at *
                generalize (taskAt ts j).deadline = x2 at *
                generalize (taskAt ts j).clow = x3 at *
                generalize (taskAt ts j).chigh = x4 at *
                generalize (taskAt ts j).prio = x5 at *
                obtain ⟨U, hU, F, HF, HR⟩ := class_of wr
                have f0 := fun u => c0.out _ (grownBy_trans HG3.out (HF.out u))
                have f1 := fun u => c1.out _ (grownBy_trans HG3.out (HF.out u))
                have f2 := fun u => c2.out _ (grownBy_trans HG3.out (HF.out u))
                have f3 := fun u => c3.out _ (grownBy_trans HG3.out (HF.out u))
                have f4 := fun u => c4.out _ (grownBy_trans HG3.out (HF.out u))
                have f5 := fun u => c5.out _ (grownBy_trans HG3.out (HF.out u))
                have k5 := fun u => HC5.out _ (grownBy_trans HG3.out (HF.out u))
                clear c0 c1 c2 c3 c4 c5
                have hjn2 : ((j : Int) == (n : Int)) = false := by simp; omega
                have hjn3 : decide ((j : Int) = (n : Int)) = false := decide_eq_false (by omega)
                have EA := hide (atN_off (n := n) (LA : Int) hjn)
                have hd : decide (x5 ≤ P) = false := decide_eq_false hx
                clear hx
                go_wp2
                refine wp_region_quiet_in F (by kernel_rfl) (by kernel_rfl) (HR.out _ (drew_grown _)) ?_
                repeat (go_big_quiet_step (fail))
                refine wpQuiet_nil ?_
                intro _ hw1
                obtain ⟨uq, hw2⟩ := hw1
                subst hw2
                have GU := hide (grownBy_trans HG2.out (HF.out uq))
                have OU := hide (own_kept HO.out (HF.out uq))
                clear f0 f1 f2 f3 f4 f5 k5
                go_wp2
                go_roundw
                case rel => exact ⟨j + 1, S, a2, cap2, by omega, by omega, by go_num, rfl, by rw [EA.out], rfl, hide (by rw [HS2.out]; exact HS.out), hide (by rw [HS2.out]; exact OU.out), GU⟩
                case measure => simp [intOf]; omega
          · obtain rfl : j = L := by omega
            have HAH := hide (show RowAt shT wk.heap.size wr (.slice a2 S cap2) (ts.filter (lowP P)) from by rw [HEND.out] at HO HS; exact own_row HO.out HS.out)
            have ea : atN n LA j = LA := by unfold atN; rw [if_pos (by omega)]
            rw [ea]
            clear ea HO HS
            have CA2 := hide (fun W (hg : wr.grownBy W none) => CAH.out wk.heap.size _ W (HAH.out.grown hg))
            clear CAH HAH HTAKE HEND
            go_wp2_with (first | fail)
            refine (CB2.out wr HG2.out).mono ?_; rintro e w4 ⟨rfl, hg⟩
            have G4 := hide hg
            clear hg CB2
            go_wp2_with (first | fail)
            refine (CA2.out w4 G4.out).mono ?_; rintro e w5 ⟨rfl, hg⟩
            have G5 := hide (grownBy_trans HG.out (grownBy_trans HG2.out (grownBy_trans G4.out hg)))
            clear hg CA2
            go_wp2_with (go_at_call 11; refine (NUM.out _ _).mono ?_; rintro e w' ⟨rfl, rfl⟩)
            go_ret
            exact ⟨by simp, G5.out⟩
      · obtain ⟨q, rfl⟩ : ∃ q, m = q + 1 := ⟨m - 1, by omega⟩
        obtain rfl : z = (q : Int) := by omega
        have hL1 : L + q + 1 ≤ N := by omega
        have HLM := hide hLm
        have HD := hide (HDROP.out q (by omega))
        have hq := taskAt_mem' (ws := ts) (i := q) (by rw [HN.out]; omega)
        clear h0 hz hLm
        have c0 : Hid (∀ W, w.grownBy W none → W.cell? ⟨g, o + q * 6, none⟩ = some (.int .i64 (taskAt ts q).kind)) := fun W hg => row_cell (S := shT) (HV.out W hg) hq (k := 0) rfl
        have c1 : Hid (∀ W, w.grownBy W none → W.cell? ⟨g, o + q * 6 + 1, none⟩ = some (.int .i64 (taskAt ts q).period)) := fun W hg => row_cell (S := shT) (HV.out W hg) hq (k := 1) rfl
        have c2 : Hid (∀ W, w.grownBy W none → W.cell? ⟨g, o + q * 6 + 2, none⟩ = some (.int .i64 (taskAt ts q).deadline)) := fun W hg => row_cell (S := shT) (HV.out W hg) hq (k := 2) rfl
        have c3 : Hid (∀ W, w.grownBy W none → W.cell? ⟨g, o + q * 6 + 3, none⟩ = some (.int .i64 (taskAt ts q).clow)) := fun W hg => row_cell (S := shT) (HV.out W hg) hq (k := 3) rfl
        have c4 : Hid (∀ W, w.grownBy W none → W.cell? ⟨g, o + q * 6 + 4, none⟩ = some (.int .i64 (taskAt ts q).chigh)) := fun W hg => row_cell (S := shT) (HV.out W hg) hq (k := 4) rfl
        have c5 : Hid (∀ W, w.grownBy W none → W.cell? ⟨g, o + q * 6 + 5, none⟩ = some (.int .i64 (taskAt ts q).prio)) := fun W hg => row_cell (S := shT) (HV.out W hg) hq (k := 5) rfl
        clear hq
        have HTQ := hide (show taskAt ts q = ⟨(taskAt ts q).kind, (taskAt ts q).period, (taskAt ts q).deadline, (taskAt ts q).clow, (taskAt ts q).chigh, (taskAt ts q).prio⟩ from rfl)
        generalize (taskAt ts q).kind = x0 at *
        generalize (taskAt ts q).period = x1 at *
        generalize (taskAt ts q).deadline = x2 at *
        generalize (taskAt ts q).clow = x3 at *
        generalize (taskAt ts q).chigh = x4 at *
        generalize (taskAt ts q).prio = x5 at *
        have f0 := c0.out _ HG.out
        have f1 := c1.out _ HG.out
        have f2 := c2.out _ HG.out
        have f3 := c3.out _ HG.out
        have f4 := c4.out _ HG.out
        have f5 := c5.out _ HG.out
        clear c0 c1 c2 c3 c4 c5
        go_wp2_with (at_builtin; refine app_row (S := shT) _ rfl _ _ 22 34 (.agg #[.int .i64 0, .int .i64 0, .int .i64 0, .int .i64 0, .int .i64 0, .int .i64 0]) 48 Try.underlying22 info34 rfl rfl w.heap.size (.slice a' L cap') L (ts.drop (q + 1)).reverse rfl ?c0 ⟨wr.heap.size, 0, none⟩ 1 1 [⟨x0, x1, x2, x3, x4, x5⟩] rfl rfl ?c1 ?c2 ?c3 ?c4 ?_)
        case c0 => exact HO.out.alloc _
        case c1 => exact lit_cell wr ⟨x0, x1, x2, x3, x4, x5⟩
        case c2 => omega
        case c3 => omega
        case c4 => have := HG.out.size; simp; omega
        intro a3 cap3 w3 hown3 hgrow3 hno
        clear hno
        have HO3 := hide hown3
        have HG4 := hide (grown_append (m := 0) HG.out (fun g hg => (HO.out.lt g hg).1) hgrow3)
        clear hown3 hgrow3
        clear f0 f1 f2 f3 f4 f5
        go_wp2
        go_roundw
        case rel => exact ⟨q, L + 1, _, a3, cap3, by have := HLM.out; omega, rfl, by go_num, rfl, hide (by rw [← HD.out, HTQ.out]; exact HO3.out), HG4⟩
        case measure => simp [intOf]
  · have B1 := bound_no hok
    rw [B1.1, B1.2] at CB
    clear B1 hok
    obtain ⟨-, ta, tc, rfl, -⟩ := hv
    generalize ts.length = N at *
    go_enter Try.func7, Try.ntmps7
    go_wp2_with (first | fail)
    refine (awake_any w).mono ?_; rintro e w0 ⟨rfl, hg⟩
    have G0 := hide hg
    clear hg
    go_wp2_with (first | fail)
    refine (CB.out w0 G0.out).mono ?_; rintro e w1 ⟨rfl, hg⟩
    have G1 := hide (grownBy_trans G0.out hg)
    clear hg CB
    go_wp2_with (go_at_call 11; refine (NUM.out _ _).mono ?_; rintro e w' ⟨rfl, rfl⟩)
    go_ret
    exact ⟨rfl, G1.out⟩
#print axioms row_any
end Go.Proofs.Ytadolobbidpejaa

/- The contract of the document's own owns, proved over the translation: of each tick of a frame, is it the part's. -/
import Derived.Test.YtgocfgjdafkjlaaDoorRefSh
import Derived.Test.YtgocfgjdafkjlaaDoorSums
namespace Go.Proofs.YtgocfgjdafkjlaaDoor.R6
open Go.RowKit
attribute [local go_sem] alloc_drewN setCell_drewN

/-- A block of K truths that has been made since w. -/
structure ArrB (w : World) (B K : Nat) (f : Nat → Bool) (W : World) : Prop where
  grown : w.grownBy W none
  new : w.heap.size ≤ B
  size : B < W.heap.size
  cell : ∀ i, i < K → W.cell? ⟨B, i, none⟩ = some (.bool (f i))
  free : ∀ i, i < K → W.frozen? ⟨B, i, none⟩ = false
theorem ArrB.up {w W W' : World} {B K : Nat} {f : Nat → Bool} (h : ArrB w B K f W) (hg : W.grownBy W' none) : ArrB w B K f W' := by
  have e := hg.block B h.size (by simp)
  exact ⟨grownBy_trans h.grown hg, h.new, Nat.lt_of_lt_of_le h.size hg.size, fun i hi => (World.cell?_of_block (a := ⟨B, i, none⟩) e).trans (h.cell i hi), fun i hi => (World.frozen?_of_block (a := ⟨B, i, none⟩) e).trans (h.free i hi)⟩
theorem ArrB.set {w W : World} {B K : Nat} {f g : Nat → Bool} (h : ArrB w B K f W) (q : Nat) (x : Bool) (hx : g q = x) (hg : ∀ i, i ≠ q → g i = f i) : ArrB w B K g (W.setCell ⟨B, q, none⟩ (.bool x)) where
  grown := grown_spoil h.grown h.new (grownBy_set W B q _)
  new := h.new
  size := by have := h.size; simpa [World.setCell] using this
  cell := fun i hi => by
    by_cases e : i = q
    · subst e
      rw [hx]
      exact World.cell?_setCell_same' _ _ _ (by rw [h.cell i hi]; rfl)
    · rw [other W B i q _ (fun e' => e e'.symm), hg i e]
      exact h.cell i hi
  free := fun i hi => by rw [World.frozen?_setCell]; exact h.free i hi
theorem ArrB.congr {w W : World} {B K : Nat} {f g : Nat → Bool} (h : ArrB w B K f W) (e : ∀ i, i < K → f i = g i) : ArrB w B K g W :=
  ⟨h.grown, h.new, h.size, fun i hi => by rw [← e i hi]; exact h.cell i hi, h.free⟩
theorem ArrB.from {w w1 W : World} {B K : Nat} {f : Nat → Bool} (h : ArrB w1 B K f W) (hg : w.grownBy w1 none) : ArrB w B K f W :=
  ⟨grownBy_trans hg h.grown, Nat.le_trans hg.size h.new, h.size, h.cell, h.free⟩
theorem infoB : (Tryd.prog.info? 4).map (fun i => (i.zero, i.size, i.bytes)) = some (some (.bool false), 1, 1) := by kernel_rfl
def madeB (n : Nat) : Array Value := madeCells #[.bool false] n
theorem make_bools (n : Nat) (hn : n ≤ 35184372088832) (w : World) : (Instr.makeSlice 135 (.int .i64 n) (.int .i64 n)).run Tryd.prog w = .ok (.slice (some ⟨w.heap.size, 0, none⟩) n n) (w.alloc (.cells (madeB n) 4)) := by
  obtain ⟨i0, hi, hz0, hz1, hz2⟩ := info_parts infoB
  have := run_make (P := Tryd.prog) w 135 4 i0 (.bool false) Tryd.underlying135 hi hz0 .i64 .i64 n n (by omega) (Int.le_refl _) (by rw [hz2]; omega) (by omega)
  rw [hz1] at this
  simpa [madeB, Value.cells] using this
theorem madeB_arr (w W : World) (n : Nat) (hg : w.grownBy W none) : ArrB w W.heap.size n (fun _ => false) (W.alloc (.cells (madeB n) 4)) where
  grown := grownBy_trans hg (World.grownBy_alloc _ _ _)
  new := hg.size
  size := by simp
  cell := fun i hi => by
    have : (madeB n)[i]? = some (.bool false) := by
      rw [← Array.getElem?_toList, madeB, toList_madeCells_one, List.getElem?_replicate, if_pos hi]
    simpa using this
  free := fun i _ => blk_free' (heap_alloc_new W (.cells (madeB n) 4)) i

/-- The truths that the windows so far have laid. -/
def layB (f : Nat → Bool) (a b : Nat) (x : Bool) (t : Nat) : Bool := if a ≤ t ∧ t < b then x else f t
def ownF (ws : List WinV) (p : Nat) : Nat → Nat → Bool
  | 0 => fun _ => false
  | j + 1 => layB (ownF ws p j) (winAt ws j).fr.toNat (winAt ws j).til.toNat (decide ((winAt ws j).part = p))
theorem ownF_none (ws : List WinV) (p n t : Nat) (h : ∀ i, i < n → ¬ ((winAt ws i).fr.toNat ≤ t ∧ t < (winAt ws i).til.toNat)) : ownF ws p n t = false := by
  induction n with
  | zero => rfl
  | succ n ih =>
    show layB (ownF ws p n) _ _ _ t = false
    unfold layB
    rw [if_neg (h n (by omega))]
    exact ih fun i hi => h i (by omega)
theorem ownF_some (ws : List WinV) (p n t j : Nat) (hj : j < n) (hin : (winAt ws j).fr.toNat ≤ t ∧ t < (winAt ws j).til.toNat) (h : ∀ i, i < n → i ≠ j → ¬ ((winAt ws i).fr.toNat ≤ t ∧ t < (winAt ws i).til.toNat)) : ownF ws p n t = decide ((winAt ws j).part = p) := by
  induction n with
  | zero => omega
  | succ n ih =>
    show layB (ownF ws p n) _ _ _ t = _
    unfold layB
    by_cases e : j = n
    · subst e; rw [if_pos hin]
    · rw [if_neg (h n (by omega) (fun e' => e e'.symm))]
      exact ih (by omega) fun i hi hne => h i (by omega) hne
theorem Fine.ownF {C : ConfV} (h : Fine C) (p t : Nat) : R6.ownF C.wins p C.wins.length t = decide (ownerN C.wins t = p) := by
  have key : ∀ i, i < C.wins.length → (inW (winAt C.wins i) t = true ↔ ((winAt C.wins i).fr.toNat ≤ t ∧ t < (winAt C.wins i).til.toNat)) := fun i hi => by
    have := h.fr0 i hi; have := h.win i hi
    simp only [inW, Bool.and_eq_true, decide_eq_true_eq]
    omega
  rcases first_in (ws := C.wins) (k := (t : Int)) with hn | ⟨j, hj, hb, hin⟩
  · rw [ownerN_none hn, ownF_none _ _ _ _ (fun i hi e => by have := (key i hi).2 e; rw [hn i hi] at this; cases this)]
    exact (decide_eq_false (by omega)).symm
  · rw [ownerN_some hj hb hin]
    refine ownF_some _ _ _ _ j hj ((key j hj).1 hin) fun i hi hne e => ?_
    have h1 := (key i hi).2 e
    rcases (by omega : i < j ∨ j < i) with h' | h'
    · rw [hb i h'] at h1; cases h1
    · have := h.sorted h' hi
      simp only [inW, Bool.and_eq_true, decide_eq_true_eq] at h1 hin
      omega

set_option maxRecDepth 100000 in
set_option maxHeartbeats 2000000 in
theorem rowns_any {lo : Nat} (c : Value) (C : ConfV) (p F : Nat) (hF : (F : Int) = C.frame) (hFI : Fine C) (w : World) (hc : ConfAt lo w c C) :
    Calls Tryd.prog 103 #[c, .int .i64 p] w fun e w' => ∃ B, e = .returned (.slice (some ⟨B, 0, none⟩) F F) ∧ ArrB w B F (fun t => decide (ownerN C.wins (t : Nat) = p)) w' := by
  obtain ⟨vp, vw, vo, rfl, ⟨qs, -, ⟨-, pa, pc, rfl, -⟩, -⟩, hw, ⟨-, oa, oc, rfl, -⟩⟩ := hc
  have HV := hide (fun W => hw.grown (W := W))
  obtain ⟨hl, wa, wc, rfl, -⟩ := hw
  have f0 := hFI.f0
  have f1 := hFI.f1
  have hw1 := hFI.w1
  have HBD := hide (fun i hi => And.intro (hFI.fr0 i hi) (hFI.win i hi))
  have HLD := hide (Fine.ownF hFI p)
  rw [← hF] at f0 f1 HBD ⊢
  have HWS : Hid (∀ j, ownF C.wins p (j + 1) = layB (ownF C.wins p j) (winAt C.wins j).fr.toNat (winAt C.wins j).til.toNat (decide ((winAt C.wins j).part = p))) := fun j => rfl
  have HW0 : Hid (ownF C.wins p 0 = fun _ => false) := rfl
  clear hF hFI
  generalize C.quiet = qt at *
  generalize qs.length = n0 at *
  generalize C.ports.length = n2 at *
  generalize C.wins = ws at *
  generalize hN : ws.length = N at *
  have HN := hide hN
  clear hN
  have hmk := fun W => make_bools F (by omega) W
  generalize hwb : w.alloc (.cells #[.int .i64 F, .int .i64 qt, .slice pa n0 pc, .slice wa N wc, .slice oa n2 oc] 26) = wb
  have HG0 := hide (show w.grownBy wb none by rw [← hwb]; exact World.grownBy_alloc _ _ none)
  have KEEP : Hid (∀ V, wb.grownBy V none → V.cell? ⟨w.heap.size, 0, none⟩ = some (.int .i64 F) ∧ V.cell? ⟨w.heap.size, 1, none⟩ = some (.int .i64 qt) ∧ V.cell? ⟨w.heap.size, 2, none⟩ = some (.slice pa n0 pc) ∧ V.cell? ⟨w.heap.size, 3, none⟩ = some (.slice wa N wc) ∧ V.cell? ⟨w.heap.size, 4, none⟩ = some (.slice oa n2 oc)) := by
    intro V hV
    have b := fun k => World.cell?_of_block (a := ⟨w.heap.size, k, none⟩) (hV.block w.heap.size (by rw [← hwb]; simp) (by simp))
    exact ⟨(b 0).trans (by rw [← hwb]; simp), (b 1).trans (by rw [← hwb]; simp), (b 2).trans (by rw [← hwb]; simp), (b 3).trans (by rw [← hwb]; simp), (b 4).trans (by rw [← hwb]; simp)⟩
  have HSZ := hide (show wb.heap.size = w.heap.size + 1 by rw [← hwb]; simp)
  have HA1 : Hid (ArrB wb (w.heap.size + 1) F (fun _ => false) (wb.alloc (.cells (madeB F) 4))) := by
    have := madeB_arr wb wb F (grownBy_refl _ _)
    rwa [HSZ.out] at this
  have hszb := HSZ.out
  go_enter Tryd.func103, Tryd.ntmps103
  go_upto_region 1 with fail
  have HWB := hide hwb
  clear hwb
  obtain ⟨k0, k1, k2, k3, k4⟩ := KEEP.out wb (grownBy_refl _ _)
  go_upto_region 2 with (simp only [hmk])
  clear k0 k1 k2 k3 k4
  go_wp2
  go_loopw [6, 7] (fun i _ V => ∃ (j : Nat), j ≤ N ∧ i = .int .i64 j ∧ Hid (ArrB wb (w.heap.size + 1) F (ownF ws p j) V)) (fun i _ _ => N - (intOf i).toNat)
  case atStart => exact ⟨0, by omega, rfl, by rw [HW0.out]; exact HA1⟩
  case round =>
    obtain ⟨j, hj, rfl, HR⟩ := hrel
    obtain ⟨k0, k1, k2, k3, k4⟩ := KEEP.out wr HR.out.grown
    by_cases hlt : j < N
    · obtain ⟨g, o, rfl⟩ := row_addr (HV.out wr (grownBy_trans HG0.out HR.out.grown)) (by omega)
      have HCL : Hid (∀ V, wb.grownBy V none → V.cell? ⟨g, o + j * 3, none⟩ = some (.int .i64 (winAt ws j).fr) ∧ V.cell? ⟨g, o + j * 3 + 1, none⟩ = some (.int .i64 (winAt ws j).til) ∧ V.cell? ⟨g, o + j * 3 + 2, none⟩ = some (.int .i64 (winAt ws j).part)) := fun V hV => by
        have hq := winAt_mem (ws := ws) (i := j) (by rw [HN.out]; exact hlt)
        exact ⟨row_cell (S := shW) (HV.out V (grownBy_trans HG0.out hV)) hq (k := 0) rfl, row_cell (S := shW) (HV.out V (grownBy_trans HG0.out hV)) hq (k := 1) rfl, row_cell (S := shW) (HV.out V (grownBy_trans HG0.out hV)) hq (k := 2) rfl⟩
      have HS := hide (HWS.out j)
      obtain ⟨b0, -, b1, b2, -, -⟩ := HBD.out j hlt
      generalize (winAt ws j).fr = x0 at *
      generalize (winAt ws j).til = x1 at *
      generalize (winAt ws j).part = x2 at *
      obtain ⟨a, rfl⟩ : ∃ a : Nat, x0 = a := ⟨x0.toNat, by omega⟩
      obtain ⟨b, rfl⟩ : ∃ b : Nat, x1 = b := ⟨x1.toNat, by omega⟩
      rw [Int.toNat_natCast, Int.toNat_natCast] at HS
      generalize ownF ws p j = f at *
      have HL0 := hide (show ArrB wb (w.heap.size + 1) F (layB f a a (decide (x2 = (p : Int)))) wr from HR.out.congr fun i _ => by unfold layB; rw [if_neg (by omega)])
      obtain ⟨c0, c1, c2⟩ := HCL.out wr HR.out.grown
      generalize hxb : decide (x2 = (p : Int)) = xb at *
      have hxb2 : (x2 == (p : Int)) = xb := by rw [← hxb]; rfl
      clear hxb
      go_wp2
      go_loopw [7] (fun s V => ∃ (m : Nat), a ≤ m ∧ m ≤ b ∧ s = .int .i64 m ∧ Hid (ArrB wb (w.heap.size + 1) F (layB f a m xb) V)) (fun s _ => b - (intOf s).toNat)
      case atStart => exact ⟨a, by omega, by omega, rfl, HL0⟩
      case round =>
        obtain ⟨m, hm1, hm2, rfl, HI⟩ := hrel
        clear k0 k1 k2 k3 k4 c0 c1 c2
        obtain ⟨k0, k1, k2, k3, k4⟩ := KEEP.out wr HI.out.grown
        obtain ⟨c0, c1, c2⟩ := HCL.out wr HI.out.grown
        by_cases hm3 : m < b
        · have d0 := HI.out.cell m (by omega)
          have d1 := HI.out.free m (by omega)
          have HN2 := hide (show ArrB wb (w.heap.size + 1) F (layB f a (m + 1) xb) (wr.setCell ⟨w.heap.size + 1, m, none⟩ (.bool xb)) from
            HI.out.set m _ (by unfold layB; rw [if_pos (by omega)]) (fun i hi => by
              unfold layB
              by_cases e : a ≤ i ∧ i < m
              · rw [if_pos e, if_pos (by omega)]
              · rw [if_neg e, if_neg (by omega)]))
          generalize layB f a m xb m = old at *
          go_wp2
          go_roundw
          case rel => exact ⟨m + 1, by omega, by omega, by go_num, HN2⟩
          case measure => simp [intOf]; omega
        · have e : m = b := by omega
          subst e
          go_wp2
          go_roundw
          case rel => exact ⟨j + 1, by omega, by go_num, by rw [HS.out]; exact HI⟩
          case measure => simp [intOf]; omega
    · have e : j = N := by omega
      subst e
      go_wp2
      go_ret
      exact ⟨_, rfl, (HR.out.from HG0.out).congr fun i _ => HLD.out i⟩
#print axioms rowns_any
end Go.Proofs.YtgocfgjdafkjlaaDoor.R6

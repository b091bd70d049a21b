/- Contracts of readList over parts, of the reader of a configuration and of its done, proved over the translation. -/
import Derived.Test.YtgaegggiehhcpaaDoorReadP
namespace Go.Proofs.YtgaegggiehhcpaaDoor
open Go.RowKit
attribute [local go_sem] alloc_drewN setCell_drewN

theorem info50 : (Tryd.prog.info? 50).map (fun i => (i.zero, i.size, i.bytes)) = some (some (.agg #[.int .i64 0, .slice none 0 0, .slice none 0 0]), 3, 56) := by kernel_rfl
set_option maxRecDepth 100000 in
set_option maxHeartbeats 2000000 in
theorem readAll_P (b : Nat) (st : St) (w : World) (h : RAt w b st) :
    Calls Tryd.prog 64 #[.pointer (some ⟨b, 0, none⟩), .func (.func 65) #[.pointer (some ⟨b, 0, none⟩)] #[]] w fun e w' => ∃ a n cap, e = .returned (.slice a n cap) ∧ PartsOwn w.heap.size w' (.slice a n cap) (allR partR st).1 ∧ RAt w' b (allR partR st).2 ∧ w.grownBy w' (some b) := by
  have CN := hide (number_1 b st w h)
  have HB := num1_byte h.bytes
  have hbl := h.lt
  clear h
  unfold allR
  generalize numR 1 st = r0 at *
  obtain ⟨c0, st1⟩ := r0
  dsimp only at CN HB ⊢
  obtain ⟨N, rfl⟩ : ∃ N : Nat, c0 = N := ⟨c0.toNat, by omega⟩
  simp only [Int.toNat_natCast]
  have hN : N < 256 := by omega
  go_enter Tryd.func64, Tryd.ntmps64
  go_wp2_with (first | fail)
  refine CN.out.mono ?_; rintro e w1 ⟨rfl, hr, hg⟩
  have HR1 := hide hr
  have HG1 := hide hg
  clear hr hg CN
  go_wp2
  go_loopw [5, 10] (fun u i W => ∃ (j cap' : Nat) (a' : Option Addr), j ≤ N ∧ i = .int .i64 j ∧ u = .slice a' j cap' ∧ Hid (PartsOwn w.heap.size W u (manyR partR j st1).1) ∧ Hid (RAt W b (manyR partR j st1).2) ∧ Hid (w.grownBy W (some b))) (fun _ i _ => N - (intOf i).toNat)
  case atStart => exact ⟨0, 0, none, by omega, rfl, rfl, ⟨[], rfl, ⟨rfl, .inl ⟨rfl, rfl⟩⟩, fun i q p hq _ => by simp at hq⟩, HR1, HG1⟩
  case round =>
    obtain ⟨j, cap', a', hj, rfl, rfl, HO, HR, HG⟩ := hrel
    by_cases hlt : j < N
    · have HC := hide (read_P b _ wr HR.out)
      have HS := hide (show manyR partR (j + 1) st1 = ((manyR partR j st1).1 ++ [(partR (manyR partR j st1).2).1], (partR (manyR partR j st1).2).2) from rfl)
      have HPL := hide (manyR_length partR st1 j)
      generalize (manyR partR j st1).1 = P at *
      generalize partR (manyR partR j st1).2 = r at *
      obtain ⟨p, st2⟩ := r
      dsimp only at HC HS
      obtain ⟨qs, q1, q2, q3⟩ := HO.out
      have Q1 := hide q1
      have Q2 := hide q2
      have Q3 := hide q3
      clear q1 q2 q3 HO
      go_wp2_with (first | fail)
      refine HC.out.mono ?_; rintro e w2 ⟨q, rfl, hp, hr, hg⟩
      have HR2 := hide hr
      have HP2 := hide hp
      have HGs := hide hg
      have HG2 := hide (grownBy_trans HG.out hg)
      have hQ0 := Q2.out
      rw [Q1.out, HPL.out] at hQ0
      have HO1 := hide hQ0
      have HO2 := hide (own_off hQ0 hg hbl)
      clear hr hg hp hQ0
      go_wp2_with (at_builtin; refine app_row (S := shP) _ rfl _ _ 22 50 _ 56 Tryd.underlying22 info50 rfl rfl w.heap.size (.slice a' j cap') j qs rfl ?c0 ⟨w2.heap.size, 0, none⟩ 1 1 [q] rfl rfl ?c1 ?c2 ?c3 ?c4 ?_)
      case c0 => exact HO2.out.alloc _
      case c1 => exact one_cells shP q w2 50
      case c2 => omega
      case c3 => omega
      case c4 => have := HG2.out.size; simp; omega
      intro a3 cap3 w3 hown hgrow hnew
      have HP3 := hide (PartsOwn.snoc Q1.out Q2.out Q3.out HPL.out HGs.out hbl HG.out.size HP2.out hown hgrow hnew)
      have HG3 := hide (grown_append_some HG2.out (fun g hg => (HO1.out.lt g hg).1) hgrow)
      have HR3 := hide (HR2.out.append (fun e => by have := (HO1.out.lt _ e).1; omega) hgrow)
      clear hown hgrow hnew
      go_wp2
      go_roundw
      case rel =>
        refine ⟨j + 1, cap3, a3, by omega, by go_num, rfl, ?_, ?_, HG3⟩
        · rw [HS.out]; exact HP3.out
        · rw [HS.out]; exact HR3.out
      case measure => simp [intOf]; omega
    · go_wp2
      go_ret
      have e : j = N := by omega
      subst e
      exact ⟨_, _, _, rfl, HO.out, HR.out, HG.out⟩
#print axioms readAll_P

theorem strOfNums_nums (s : ByteArray) : strOfNums (nums s) = s := by
  cases s with
  | mk d =>
    unfold strOfNums nums
    congr 1
    apply Array.ext'
    simp only [List.map_map]
    conv => rhs; rw [← List.map_id d.toList]
    apply List.map_congr_left
    intro x _
    simp
theorem nums_inj {s t : ByteArray} (h : nums s = nums t) : s = t := by rw [← strOfNums_nums s, h, strOfNums_nums]

theorem toList_beq (t : ByteArray) (l : List UInt8) : (t.toList == l) = decide (nums t = l.map (fun b => (b.toNat : Int))) := by
  rw [ByteArray.toList_eq]
  by_cases h : t.data.toList = l
  · subst h; simp [nums]
  · have h2 : nums t ≠ l.map (fun b => (b.toNat : Int)) := fun e => h (by
      have : t = ⟨l.toArray⟩ := nums_inj (by rw [e]; simp [nums])
      rw [this])
    simp [h, h2]

/-- A configuration in new memory. -/
def ConfOwn (base : Nat) (W : World) (c : Value) (C : ConfV) : Prop := ∃ vp vw vo, c = .agg #[.int .i64 C.frame, .int .i64 C.quiet, vp, vw, vo] ∧ PartsOwn base W vp C.parts ∧ W.ownsRow base 59 3 vw C.wins.length (shW.cells C.wins) ∧ W.ownsRow base 57 4 vo C.ports.length (shO.cells C.ports)
theorem ConfOwn.at {base : Nat} {W : World} {c : Value} {C : ConfV} (h : ConfOwn base W c C) : ConfAt base W c C := by
  obtain ⟨vp, vw, vo, rfl, h1, h2, h3⟩ := h
  exact ⟨vp, vw, vo, rfl, h1.at, rowAt_own (S := shW) h2, rowAt_own (S := shO) h3⟩
theorem ConfOwn.off {base b : Nat} {W W2 : World} {c : Value} {C : ConfV} (h : ConfOwn base W c C) (hg : W.grownBy W2 (some b)) (hb : b < base) : ConfOwn base W2 c C := by
  obtain ⟨vp, vw, vo, rfl, h1, h2, h3⟩ := h
  exact ⟨vp, vw, vo, rfl, h1.off hg hb, own_off h2 hg hb, own_off h3 hg hb⟩
theorem ConfOwn.mono {base base' : Nat} {W : World} {c : Value} {C : ConfV} (h : ConfOwn base' W c C) (hle : base ≤ base') : ConfOwn base W c C := by
  obtain ⟨vp, vw, vo, rfl, h1, h2, h3⟩ := h
  exact ⟨vp, vw, vo, rfl, h1.mono hle, own_mono h2 hle, own_mono h3 hle⟩
theorem PartsOwn.grown {base : Nat} {W W2 : World} {v : Value} {ps : List PartV} (h : PartsOwn base W v ps) (hg : W.grownBy W2 none) : PartsOwn base W2 v ps := by
  obtain ⟨qs, h1, h2, h3⟩ := h
  exact ⟨qs, h1, own_kept h2 hg, fun i q p hq hp => ⟨⟨(h3 i q p hq hp).1.1, own_kept (h3 i q p hq hp).1.2.1 hg, own_kept (h3 i q p hq hp).1.2.2 hg⟩, (h3 i q p hq hp).2⟩⟩
theorem ConfOwn.grown {base : Nat} {W W2 : World} {c : Value} {C : ConfV} (h : ConfOwn base W c C) (hg : W.grownBy W2 none) : ConfOwn base W2 c C := by
  obtain ⟨vp, vw, vo, rfl, h1, h2, h3⟩ := h
  exact ⟨vp, vw, vo, rfl, h1.grown hg, own_kept h2 hg, own_kept h3 hg⟩
def confR (st : St) : ConfV × St :=
  let t := takeR 2 st
  let f := numR 2 (t.2.1, decide (t.1 ≠ [78, 67]))
  let q := numR 1 f.2
  let p := allR partR q.2
  let w := allR winR p.2
  let o := allR portR w.2
  (⟨f.1, q.1, p.1, w.1, o.1⟩, o.2)
theorem size26 : (Tryd.prog.info? 26).map (·.size) = some 5 := by kernel_rfl


#print axioms toList_beq
end Go.Proofs.YtgaegggiehhcpaaDoor

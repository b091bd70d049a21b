/- The walk of the statement AdmitHigh: what low parts ask for does not count; proved over the translation. -/
import Derived.Test.YtehnklpjkcofcaaDoorAw9
import Derived.Test.YtehnklpjkcofcaaDoorSetrow
import Derived.Test.YtehnklpjkcofcaaDoorMixmath
namespace Go.Proofs.YtehnklpjkcofcaaDoor.P9
open Go.RowKit R6
attribute [local go_sem] alloc_drewN setCell_drewN

/-- A list of parts whose row the call owns, whose tasks are the call's own or lie in what was handed in. -/
def MixOwn (w0 : World) (base : Nat) (W : World) (v : Value) (ps : List PartV) : Prop := ∃ qs : List PartM, qs.length = ps.length ∧ W.ownsRow base 42 3 v ps.length (shP.cells qs) ∧ ∀ (i : Nat) q p, qs[i]? = some q → ps[i]? = some p → q.level = p.level ∧ (W.ownsRow base 44 6 q.tasks p.tasks.length (shT.cells p.tasks) ∨ RowAt shT 0 w0 q.tasks p.tasks) ∧ W.ownsRow base 65 2 q.code p.code.length (shI.cells p.code)
theorem mix_own {w0 W : World} {base : Nat} {v : Value} {ps : List PartV} (h : POwn base W v ps) : MixOwn w0 base W v ps := by
  obtain ⟨qs, h1, h2, h3⟩ := h
  exact ⟨qs, h1, h1 ▸ h2, fun i q p hq hp => ⟨(h3 i q p hq hp).1, .inl (h3 i q p hq hp).2.1, (h3 i q p hq hp).2.2⟩⟩
theorem mix_grown {w0 W W2 : World} {base : Nat} {v : Value} {ps : List PartV} (h : MixOwn w0 base W v ps) (hg : W.grownBy W2 none) : MixOwn w0 base W2 v ps := by
  obtain ⟨qs, h1, h2, h3⟩ := h
  refine ⟨qs, h1, own_kept h2 hg, fun i q p hq hp => ?_⟩
  obtain ⟨a1, a2, a3⟩ := h3 i q p hq hp
  exact ⟨a1, a2.imp (fun a => own_kept a hg) id, own_kept a3 hg⟩
theorem mix_conf {w0 W : World} {base : Nat} {v : Value} {ps : List PartV} (h : MixOwn w0 base W v ps) (hw : w0.grownBy W none) : PartsAt 0 W v ps := by
  obtain ⟨qs, h1, h2, h3⟩ := h
  refine ⟨qs, h1, (rowAt_own (S := shP) (h1 ▸ h2)).mono (Nat.zero_le _), fun i q p hq hp => ?_⟩
  obtain ⟨a1, a2, a3⟩ := h3 i q p hq hp
  refine ⟨a1, ?_, (rowAt_own (S := shI) a3).mono (Nat.zero_le _)⟩
  rcases a2 with a2 | a2
  · exact (rowAt_own (S := shT) a2).mono (Nat.zero_le _)
  · exact a2.grown hw
theorem mix_cells {w0 W : World} {base g n cap : Nat} {ps : List PartV} (h : MixOwn w0 base W (.slice (some ⟨g, 0, none⟩) n cap) ps) {j : Nat} (hj : j < ps.length) : W.cell? ⟨g, j * 3, none⟩ = some (.int .i64 (partAt ps j).level) ∧ (∃ u, W.cell? ⟨g, j * 3 + 1, none⟩ = some u) ∧ W.frozen? ⟨g, j * 3 + 1, none⟩ = false ∧ base ≤ g := by
  obtain ⟨qs, h1, h2, h3⟩ := h
  have hn : n = ps.length := by obtain ⟨a, c, e⟩ := own_form h2; simp only [Value.slice.injEq] at e; omega
  subst hn
  have hq : qs[j]? = some qs[j] := List.getElem?_eq_getElem (by omega)
  have hl := (h3 j _ _ hq (partAt_mem hj)).1
  refine ⟨?_, ⟨_, own_cell (S := shP) h2 hq (i := 1) rfl⟩, own_free h2 _, own_ge h2⟩
  rw [← hl]
  exact own_cell (S := shP) h2 hq (i := 0) rfl
theorem mix_put {w0 W : World} {base g n cap : Nat} {ps : List PartV} (h : MixOwn w0 base W (.slice (some ⟨g, 0, none⟩) n cap) ps) {j : Nat} (hj : j < ps.length) {ta : Option Addr} {tn tc : Nat} {ts : List TaskV} (hr : RowAt shT 0 w0 (.slice ta tn tc) ts) :
    MixOwn w0 base (W.setCell ⟨g, j * 3 + 1, none⟩ (.slice ta tn tc)) (.slice (some ⟨g, 0, none⟩) n cap) (ps.set j ⟨(partAt ps j).level, ts, (partAt ps j).code⟩) := by
  obtain ⟨qs, h1, h2, h3⟩ := h
  have hn : n = ps.length := by obtain ⟨a, c, e⟩ := own_form h2; simp only [Value.slice.injEq] at e; omega
  subst hn
  have hq : qs[j]? = some qs[j] := List.getElem?_eq_getElem (by omega)
  have T := type_own h2
  have hg := grownBy_set W g (j * 3 + 1) (.slice ta tn tc)
  obtain ⟨b1, b2, b3⟩ := h3 j _ _ hq (partAt_mem hj)
  refine ⟨qs.set j ⟨qs[j].level, ta, tn, tc, qs[j].ca, qs[j].cn, qs[j].cc⟩, by simp [h1], ?_, fun i q p hq' hp' => ?_⟩
  · rw [List.length_set]
    exact own_set (S := shP) h2 hq (i := 1) (by decide) rfl
  · by_cases e : j = i
    · subst e
      rw [List.getElem?_set_self (by omega), Option.some.injEq] at hq'
      rw [List.getElem?_set_self hj, Option.some.injEq] at hp'
      subst hq' hp'
      exact ⟨b1, .inr hr, own_type b3 hg T (by decide)⟩
    · rw [List.getElem?_set_ne e] at hq' hp'
      obtain ⟨a1, a2, a3⟩ := h3 i q p hq' hp'
      exact ⟨a1, a2.imp (fun a => own_type a hg T (by decide)) id, own_type a3 hg T (by decide)⟩
theorem box_at (W : World) (o : Obj) : (W.alloc o).heap[W.heap.size]? = some o := heap_at _ _ _ rfl

set_option maxRecDepth 100000 in
set_option maxHeartbeats 8000000 in
theorem admitHigh_any (c : Value) (C : ConfV) (hbig : Big C) (d : Value) (D : ConfV) (i : Int) (w : World) (hT : Tab w) (hc : ConfAt 0 w c C) (hd : ConfAt 0 w d D) :
    Calls Tryd.prog 8 #[c, d, .int .i64 i] w fun e w' => e = .returned (.bool true) ∧ w.grownBy w' none := by
  have NUM : Hid (∀ (e : Int) (W : World), Calls Tryd.prog 13 #[.int .i64 e] W fun r w' => r = .returned (.int .i64 e) ∧ W = w') := fun e W => (num_any e W).mono fun _ _ h => ⟨h.1, h.2.symm⟩
  have CA := hide (fun W (hg : w.grownBy W none) => awake_any W (hT.grown hg))
  have CC := hide (fun W (hg : w.grownBy W none) => copy_any c C hbig W (hc.grown hg))
  have CR := hide (fun W (hg : w.grownBy W none) => resp_any c C 0 i W (hT.grown hg) (hc.grown hg))
  have CK := hide (fun W (hg : w.grownBy W none) => admit_any c C W (hT.grown hg) (hc.grown hg))
  have XR := hide (fun (j : Nat) c' W (hg : w.grownBy W none) (h : ConfAt 0 W c' (mixC C D j)) => resp_any c' (mixC C D j) 0 i W (hT.grown hg) h)
  have XK := hide (fun (j : Nat) c' W (hg : w.grownBy W none) (h : ConfAt 0 W c' (mixC C D j)) => admit_any c' (mixC C D j) W (hT.grown hg) h)
  have HALL := hide (fun (j : Nat) h1 h2 => mix_all (C := C) (D := D) (j := j) (i := i) h1 h2)
  obtain ⟨vp, vw, vo, rfl, ⟨qs, hlen, ⟨hl, pa, pc, rfl, -⟩, -⟩, ⟨-, wa, wc, rfl, -⟩, ⟨-, oa, oc, rfl, -⟩⟩ := hc
  obtain ⟨vp2, vw2, vo2, rfl, hp2, ⟨-, wa2, wc2, rfl, -⟩, ⟨-, oa2, oc2, rfl, -⟩⟩ := hd
  have HPP := hide hp2
  obtain ⟨qs2, hlen2, ⟨hl2, pa2, pc2, rfl, -⟩, -⟩ := hp2
  rw [hlen] at hl CC CR CK ⊢
  rw [hlen2] at hl2 HPP ⊢
  have HDP : Hid (∀ (j : Nat), j < D.parts.length → ∃ g o ta tc, pa2 = some ⟨g, o, none⟩ ∧ Hid (∀ V, w.grownBy V none → V.cell? ⟨g, o + j * 3, none⟩ = some (.int .i64 (partAt D.parts j).level) ∧ V.cell? ⟨g, o + j * 3 + 1, none⟩ = some (.slice ta (partAt D.parts j).tasks.length tc)) ∧ Hid (RowAt shT 0 w (.slice ta (partAt D.parts j).tasks.length tc) (partAt D.parts j).tasks)) := fun j hj => by
    obtain ⟨g, o, ta, tc, ca, cc, h1, -, h2, h3, h4⟩ := HPP.out.part hj
    exact ⟨g, o, ta, tc, h1, fun V hV => ⟨(h2.out V hV).1, (h2.out V hV).2.1⟩, h3.out w (grownBy_refl _ _)⟩
  clear hlen hlen2 HPP hT
  have HML := hide (fun (j : Nat) => mix_length C.parts D.parts j)
  have HMA := hide (fun (j : Nat) => (mix_at C.parts D.parts j j).2.2.2 (Nat.le_refl _))
  have HS1 : Hid (∀ j, (partAt C.parts j).level = 0 → (partAt D.parts j).level = 0 → mixTo C.parts D.parts (j + 1) = (mixTo C.parts D.parts j).set j ⟨(partAt C.parts j).level, (partAt D.parts j).tasks, (partAt C.parts j).code⟩) := fun j h1 h2 => by
    show (if mixB C.parts D.parts j = true then _ else _) = _
    rw [if_pos (by unfold mixB; rw [h1, h2]; rfl)]
  have HS2 : Hid (∀ j, (partAt C.parts j).level ≠ 0 ∨ (partAt D.parts j).level ≠ 0 → mixTo C.parts D.parts (j + 1) = mixTo C.parts D.parts j) := fun j h => by
    show (if mixB C.parts D.parts j = true then _ else _) = _
    rw [if_neg]
    unfold mixB
    rcases h with h | h <;> simp [h]
  have HMC : Hid (∀ (j base : Nat) W vp vw vo, w.grownBy W none → MixOwn w base W vp (mixTo C.parts D.parts j) → W.ownsRow base 47 3 vw C.wins.length (shW.cells C.wins) → W.ownsRow base 60 4 vo C.ports.length (shO.cells C.ports) → ConfAt 0 W (.agg #[.int .i64 C.frame, .int .i64 C.quiet, vp, vw, vo]) (mixC C D j)) := fun j base W vp vw vo hg h1 h2 h3 =>
    ⟨_, _, _, rfl, mix_conf h1 hg, (rowAt_own (S := shW) h2).mono (Nat.zero_le _), (rowAt_own (S := shO) h3).mono (Nat.zero_le _)⟩
  have HM0 : Hid (mixTo C.parts D.parts 0 = C.parts) := rfl
  generalize hN : C.parts.length = N at *
  have HN := hide hN
  clear hN
  generalize hM : D.parts.length = M at *
  have HM := hide hM
  clear hM
  generalize D.frame = fr2 at *
  generalize D.quiet = qt2 at *
  generalize D.wins.length = m1 at *
  generalize D.ports.length = m2 at *
  generalize hwb : (w.alloc (.cells #[.int .i64 C.frame, .int .i64 C.quiet, .slice pa N pc, .slice wa C.wins.length wc, .slice oa C.ports.length oc] 26)).alloc (.cells #[.int .i64 fr2, .int .i64 qt2, .slice pa2 M pc2, .slice wa2 m1 wc2, .slice oa2 m2 oc2] 26) = wb
  have HG0 := hide (show w.grownBy wb none by rw [← hwb]; exact grownBy_trans (World.grownBy_alloc _ _ none) (World.grownBy_alloc _ _ none))
  have B1 : Hid (wb.heap[w.heap.size]? = some (.cells #[.int .i64 C.frame, .int .i64 C.quiet, .slice pa N pc, .slice wa C.wins.length wc, .slice oa C.ports.length oc] 26 (0, 0))) := by
    rw [← hwb]
    exact heap_up _ _ _ _ (box_at _ _)
  have B2 : Hid (wb.heap[w.heap.size + 1]? = some (.cells #[.int .i64 fr2, .int .i64 qt2, .slice pa2 M pc2, .slice wa2 m1 wc2, .slice oa2 m2 oc2] 26 (0, 0))) := by
    rw [← hwb]
    exact heap_at _ _ _ (by simp)
  go_enter Tryd.func8, Tryd.ntmps8
  go_upto_region 1 with fail
  have HWB := hide hwb
  clear hwb HWB
  go_wp2_with (first | fail)
  refine (CA.out _ HG0.out).mono ?_; rintro e w1 ⟨rfl, hg⟩
  have G1 := hide (grownBy_trans HG0.out hg)
  have C1 := hide (box_grown B1.out hg (by simp))
  have D1 := hide (box_grown B2.out hg (by simp))
  clear hg CA B1 B2 HG0
  have k0 : w1.cell? ⟨w.heap.size, 0, none⟩ = some (.int .i64 C.frame) := blk_cell C1.out 0
  have k1 : w1.cell? ⟨w.heap.size, 1, none⟩ = some (.int .i64 C.quiet) := blk_cell C1.out 1
  have k2 : w1.cell? ⟨w.heap.size, 2, none⟩ = some (.slice pa N pc) := blk_cell C1.out 2
  have k3 : w1.cell? ⟨w.heap.size, 3, none⟩ = some (.slice wa C.wins.length wc) := blk_cell C1.out 3
  have k4 : w1.cell? ⟨w.heap.size, 4, none⟩ = some (.slice oa C.ports.length oc) := blk_cell C1.out 4
  go_wp2_with (first | fail)
  refine (CC.out _ G1.out).mono ?_; rintro e w2 ⟨c', rfl, ⟨vp, vw, vo, rfl, hp, hw, ho⟩, hg⟩
  have G2 := hide (grownBy_trans G1.out hg)
  have C2 := hide (box_grown C1.out hg (by simp))
  have D2 := hide (box_grown D1.out hg (by simp))
  have HBA := hide (show w.heap.size ≤ w1.heap.size from G1.out.size)
  have MO2 := hide (mix_own (w0 := w) hp)
  have WO2 := hide hw
  have PO2 := hide ho
  obtain ⟨a2, c2, rfl⟩ := own_form hw
  obtain ⟨a3, c3, rfl⟩ := own_form ho
  obtain ⟨a1, c1, rfl⟩ : ∃ a c, vp = .slice a N c := by
    obtain ⟨qs3, h1, h2, -⟩ := hp
    obtain ⟨a, c, rfl⟩ := own_form h2
    exact ⟨a, c, by rw [h1, HN.out]⟩
  clear hg hp hw ho k0 k1 k2 k3 k4 CC C1 D1 G1
  generalize w1.heap.size = base at *
  go_upto_region 4 with fail
  have A3 := hide (World.grownBy_alloc w2 (.cells #[.int .i64 C.frame, .int .i64 C.quiet, .slice a1 N c1, .slice a2 C.wins.length c2, .slice a3 C.ports.length c3] 26) none)
  have X3 := hide (box_at w2 (.cells #[.int .i64 C.frame, .int .i64 C.quiet, .slice a1 N c1, .slice a2 C.wins.length c2, .slice a3 C.ports.length c3] 26))
  have HXA := hide (show w.heap.size ≤ w2.heap.size from G2.out.size)
  generalize w2.alloc (.cells #[.int .i64 C.frame, .int .i64 C.quiet, .slice a1 N c1, .slice a2 C.wins.length c2, .slice a3 C.ports.length c3] 26) = w3 at *
  generalize w2.heap.size = X at *
  have G3 := hide (grownBy_trans G2.out A3.out)
  have C3 := hide (box_grown C2.out A3.out (by simp))
  have D3 := hide (box_grown D2.out A3.out (by simp))
  have MO3 := hide (mix_grown MO2.out A3.out)
  have WO3 := hide (own_kept WO2.out A3.out)
  have PO3 := hide (own_kept PO2.out A3.out)
  clear MO2 WO2 PO2 C2 D2 G2 A3
  generalize hW1 : C.wins.length = n1 at *
  generalize hO1 : C.ports.length = n2 at *
  clear hW1 hO1
  go_wp2
  go_loopw [8] (fun s W => ∃ (j : Nat), j ≤ N ∧ s = .int .i64 j ∧ Hid (w.grownBy W none) ∧ Hid (W.heap[w.heap.size]? = some (.cells #[.int .i64 C.frame, .int .i64 C.quiet, .slice pa N pc, .slice wa n1 wc, .slice oa n2 oc] 26 (0, 0)) ∧ W.heap[w.heap.size + 1]? = some (.cells #[.int .i64 fr2, .int .i64 qt2, .slice pa2 M pc2, .slice wa2 m1 wc2, .slice oa2 m2 oc2] 26 (0, 0)) ∧ W.heap[X]? = some (.cells #[.int .i64 C.frame, .int .i64 C.quiet, .slice a1 N c1, .slice a2 n1 c2, .slice a3 n2 c3] 26 (0, 0))) ∧ Hid (MixOwn w base W (.slice a1 N c1) (mixTo C.parts D.parts j)) ∧ Hid (W.ownsRow base 47 3 (.slice a2 n1 c2) n1 (shW.cells C.wins)) ∧ Hid (W.ownsRow base 60 4 (.slice a3 n2 c3) n2 (shO.cells C.ports))) (fun s _ => N - (intOf s).toNat)
  case atStart => exact ⟨0, by omega, rfl, G3, ⟨C3.out, D3.out, X3.out⟩, by rw [HM0.out]; exact MO3, WO3, PO3⟩
  case round =>
    clear G3 C3 D3 X3 MO3 WO3 PO3
    obtain ⟨j, hj, rfl, HG, HBX, HMO, HWO, HPO⟩ := hrel
    obtain ⟨b1, b2, b3⟩ := HBX.out
    have x2 : wr.cell? ⟨X, 2, none⟩ = some (.slice a1 N c1) := blk_cell b3 2
    have d2 : wr.cell? ⟨w.heap.size + 1, 2, none⟩ = some (.slice pa2 M pc2) := blk_cell b2 2
    clear b1 b2 b3
    by_cases hlt : j < N
    · by_cases hlm : j < M
      · obtain ⟨g, rfl, -⟩ : ∃ g, a1 = some ⟨g, 0, none⟩ ∧ True := by
          obtain ⟨qs3, h1, h2, -⟩ := HMO.out
          rw [HML.out] at h2
          obtain ⟨g, e, -⟩ := own_cap h2 (by omega)
          exact ⟨g, e, trivial⟩
        obtain ⟨gd, od, ta, tc, rfl, HDC, HDR⟩ := HDP.out j hlm
        obtain ⟨xl, ⟨xu, xt⟩, xf, xg⟩ := mix_cells HMO.out (j := j) (by rw [HML.out]; exact hlt)
        rw [HMA.out j] at xl
        obtain ⟨dl, dt⟩ := HDC.out wr HG.out
        have HS1j := hide (HS1.out j)
        have HS2j := hide (HS2.out j)
        have HPUT := hide (fun ta tn tc ts hr => mix_put HMO.out (j := j) (by rw [HML.out]; exact hlt) (ta := ta) (tn := tn) (tc := tc) (ts := ts) hr)
        simp only [HMA.out j] at HPUT
        have HPT := hide (HPUT.out ta _ tc _ HDR.out)
        clear HPUT
        have HTY : Hid (TypeAt wr g 42) := by
          obtain ⟨qs3, h1, h2, -⟩ := HMO.out
          rw [HML.out] at h2
          exact type_own h2
        have hgw : w.heap.size ≤ g := by have := HBA.out; omega
        generalize (partAt C.parts j).level = l1 at *
        generalize (partAt D.parts j).level = l2 at *
        generalize (partAt D.parts j).tasks.length = tn at *
        by_cases h1 : l1 = 0
        · subst h1
          by_cases h2 : l2 = 0
          · subst h2
            have HNX := hide (HS1j.out rfl rfl)
            have G4 := hide (grown_set_new (j := j * 3 + 1) (u := .slice ta tn tc) hgw HG.out)
            have hgs := grownBy_set wr g (j * 3 + 1) (.slice ta tn tc)
            have HBX4 := hide (And.intro (box_type HBX.out.1 hgs HTY.out (by decide)) (And.intro (box_type HBX.out.2.1 hgs HTY.out (by decide)) (box_type HBX.out.2.2 hgs HTY.out (by decide))))
            have HMO4 : Hid (MixOwn w base (wr.setCell ⟨g, j * 3 + 1, none⟩ (.slice ta tn tc)) (.slice (some ⟨g, 0, none⟩) N c1) (mixTo C.parts D.parts (j + 1))) := by
              rw [HNX.out]
              exact HPT.out
            have HWO4 := hide (own_type HWO.out hgs HTY.out (by decide))
            have HPO4 := hide (own_type HPO.out hgs HTY.out (by decide))
            clear HPT HNX HS1j HS2j hgs HDC HDR HTY HMO HWO HPO HBX
            go_wp2
            go_region
            all_goals
              generalize wr.setCell ⟨g, j * 3 + 1, none⟩ (.slice ta tn tc) = w5 at *
              clear x2 d2 xl xt xf dl dt
              go_wp2
              go_roundw
              case rel => exact ⟨j + 1, by omega, by go_num, hide (grownBy_trans G4.out (grownBy_draws _ _ _)), HBX4, hide (mix_grown HMO4.out (grownBy_draws _ _ _)), hide (own_kept HWO4.out (grownBy_draws _ _ _)), hide (own_kept HPO4.out (grownBy_draws _ _ _))⟩
              case measure => simp [intOf]; omega
          · have hb : (l2 == 0) = false := by simp [h2]
            have HMO4 : Hid (MixOwn w base wr (.slice (some ⟨g, 0, none⟩) N c1) (mixTo C.parts D.parts (j + 1))) := by
              rw [HS2j.out (.inr h2)]
              exact HMO.out
            clear HPT HS1j HS2j HDC HDR HTY HMO
            go_wp2
            clear x2 d2 xl xt xf dl dt
            go_roundw
            case rel => exact ⟨j + 1, by omega, by go_num, HG, HBX, HMO4, HWO, HPO⟩
            case measure => simp [intOf]; omega
        · have hb : (l1 == 0) = false := by simp [h1]
          have HMO4 : Hid (MixOwn w base wr (.slice (some ⟨g, 0, none⟩) N c1) (mixTo C.parts D.parts (j + 1))) := by
            rw [HS2j.out (.inl h1)]
            exact HMO.out
          clear HPT HS1j HS2j HDC HDR HTY HMO
          go_wp2
          clear x2 d2 xl xt xf dl dt
          go_roundw
          case rel => exact ⟨j + 1, by omega, by go_num, HG, HBX, HMO4, HWO, HPO⟩
          case measure => simp [intOf]; omega
      · have hdm : decide (j < M) = false := decide_eq_false hlm
        have hdm2 : decide ((j : Int) < (M : Int)) = false := decide_eq_false (by omega)
        have HCF := hide (HMC.out j base wr _ _ _ HG.out HMO.out HWO.out HPO.out)
        have XRj := hide (fun W (hg : wr.grownBy W none) => XR.out j _ W (grownBy_trans HG.out hg) (HCF.out.grown hg))
        have XKj := hide (fun W (hg : wr.grownBy W none) => XK.out j _ W (grownBy_trans HG.out hg) (HCF.out.grown hg))
        have HAj := hide (HALL.out j)
        have KC : Hid (∀ V, wr.grownBy V none → V.cell? ⟨w.heap.size, 0, none⟩ = some (.int .i64 C.frame) ∧ V.cell? ⟨w.heap.size, 1, none⟩ = some (.int .i64 C.quiet) ∧ V.cell? ⟨w.heap.size, 2, none⟩ = some (.slice pa N pc) ∧ V.cell? ⟨w.heap.size, 3, none⟩ = some (.slice wa n1 wc) ∧ V.cell? ⟨w.heap.size, 4, none⟩ = some (.slice oa n2 oc)) := fun V hV => by
          have b := box_grown HBX.out.1 hV (by simp)
          exact ⟨blk_cell b 0, blk_cell b 1, blk_cell b 2, blk_cell b 3, blk_cell b 4⟩
        have KX : Hid (∀ V, wr.grownBy V none → V.cell? ⟨X, 0, none⟩ = some (.int .i64 C.frame) ∧ V.cell? ⟨X, 1, none⟩ = some (.int .i64 C.quiet) ∧ V.cell? ⟨X, 2, none⟩ = some (.slice a1 N c1) ∧ V.cell? ⟨X, 3, none⟩ = some (.slice a2 n1 c2) ∧ V.cell? ⟨X, 4, none⟩ = some (.slice a3 n2 c3)) := fun V hV => by
          have b := box_grown HBX.out.2.2 hV (by simp)
          exact ⟨blk_cell b 0, blk_cell b 1, blk_cell b 2, blk_cell b 3, blk_cell b 4⟩
        clear HCF HMO HWO HPO HBX HALL XR XK HMC HS1 HS2 HDP HML HMA HM0
        generalize reV (mixC C D j) 0 i = rv2 at *
        generalize reE (mixC C D j) 0 i = re2 at *
        generalize adN (mixC C D j) = an2 at *
        generalize reV C 0 i = rv1 at *
        generalize reE C 0 i = re1 at *
        generalize adN C = an1 at *
        obtain ⟨k0, k1, k2, k3, k4⟩ := KC.out wr (grownBy_refl _ _)
        go_wp2_with (first | fail)
        clear x2 d2 k0 k1 k2 k3 k4
        refine (CR.out _ HG.out).mono ?_; rintro e v1 ⟨rfl, hg⟩
        have Q1 := hide hg
        clear hg CR
        obtain ⟨k0, k1, k2, k3, k4⟩ := KX.out _ Q1.out
        go_wp2_with (first | fail)
        refine (XRj.out _ Q1.out).mono ?_; rintro e v2 ⟨rfl, hg⟩
        have Q2 := hide (grownBy_trans Q1.out hg)
        clear hg XRj k0 k1 k2 k3 k4
        by_cases he1 : re1 = 900
        · subst he1
          go_wp2_with (go_at_call 13; refine (NUM.out _ _).mono ?_; rintro e w' ⟨rfl, rfl⟩)
          go_ret
          exact ⟨rfl, grownBy_trans HG.out Q2.out⟩
        · have hb1 : (re1 == 900) = false := by simp [he1]
          by_cases he2 : re2 = 900
          · subst he2
            go_wp2_with (go_at_call 13; refine (NUM.out _ _).mono ?_; rintro e w' ⟨rfl, rfl⟩)
            go_ret
            exact ⟨rfl, grownBy_trans HG.out Q2.out⟩
          · have hb2 : (re2 == 900) = false := by simp [he2]
            obtain ⟨rfl, rfl, rfl⟩ := HAj.out he1 he2
            clear HAj he1 he2
            obtain ⟨k0, k1, k2, k3, k4⟩ := KC.out _ Q2.out
            go_upto_region 13 with (go_at_call 13; refine (NUM.out _ _).mono ?_; rintro e w' ⟨rfl, rfl⟩)
            go_wp2_with (first | fail)
            refine (CK.out _ (grownBy_trans HG.out Q2.out)).mono ?_; rintro e v3 ⟨rfl, hg⟩
            have Q3 := hide (grownBy_trans Q2.out hg)
            clear hg CK k0 k1 k2 k3 k4
            obtain ⟨k0, k1, k2, k3, k4⟩ := KX.out _ Q3.out
            go_wp2_with (first | fail)
            refine (XKj.out _ Q3.out).mono ?_; rintro e v4 ⟨rfl, hg⟩
            have Q4 := hide (grownBy_trans Q3.out hg)
            clear hg k0 k1 k2 k3 k4
            go_wp2_with (go_at_call 13; refine (NUM.out _ _).mono ?_; rintro e w' ⟨rfl, rfl⟩)
            go_ret
            exact ⟨rfl, grownBy_trans HG.out Q4.out⟩
    · have hdm : decide (j < N) = false := decide_eq_false hlt
      have hdm2 : decide ((j : Int) < (N : Int)) = false := decide_eq_false (by omega)
      have HCF := hide (HMC.out j base wr _ _ _ HG.out HMO.out HWO.out HPO.out)
      have XRj := hide (fun W (hg : wr.grownBy W none) => XR.out j _ W (grownBy_trans HG.out hg) (HCF.out.grown hg))
      have XKj := hide (fun W (hg : wr.grownBy W none) => XK.out j _ W (grownBy_trans HG.out hg) (HCF.out.grown hg))
      have HAj := hide (HALL.out j)
      have KC : Hid (∀ V, wr.grownBy V none → V.cell? ⟨w.heap.size, 0, none⟩ = some (.int .i64 C.frame) ∧ V.cell? ⟨w.heap.size, 1, none⟩ = some (.int .i64 C.quiet) ∧ V.cell? ⟨w.heap.size, 2, none⟩ = some (.slice pa N pc) ∧ V.cell? ⟨w.heap.size, 3, none⟩ = some (.slice wa n1 wc) ∧ V.cell? ⟨w.heap.size, 4, none⟩ = some (.slice oa n2 oc)) := fun V hV => by
        have b := box_grown HBX.out.1 hV (by simp)
        exact ⟨blk_cell b 0, blk_cell b 1, blk_cell b 2, blk_cell b 3, blk_cell b 4⟩
      have KX : Hid (∀ V, wr.grownBy V none → V.cell? ⟨X, 0, none⟩ = some (.int .i64 C.frame) ∧ V.cell? ⟨X, 1, none⟩ = some (.int .i64 C.quiet) ∧ V.cell? ⟨X, 2, none⟩ = some (.slice a1 N c1) ∧ V.cell? ⟨X, 3, none⟩ = some (.slice a2 n1 c2) ∧ V.cell? ⟨X, 4, none⟩ = some (.slice a3 n2 c3)) := fun V hV => by
        have b := box_grown HBX.out.2.2 hV (by simp)
        exact ⟨blk_cell b 0, blk_cell b 1, blk_cell b 2, blk_cell b 3, blk_cell b 4⟩
      clear HCF HMO HWO HPO HBX HALL XR XK HMC HS1 HS2 HDP HML HMA HM0
      generalize reV (mixC C D j) 0 i = rv2 at *
      generalize reE (mixC C D j) 0 i = re2 at *
      generalize adN (mixC C D j) = an2 at *
      generalize reV C 0 i = rv1 at *
      generalize reE C 0 i = re1 at *
      generalize adN C = an1 at *
      obtain ⟨k0, k1, k2, k3, k4⟩ := KC.out wr (grownBy_refl _ _)
      go_wp2_with (first | fail)
      clear x2 d2 k0 k1 k2 k3 k4
      refine (CR.out _ HG.out).mono ?_; rintro e v1 ⟨rfl, hg⟩
      have Q1 := hide hg
      clear hg CR
      obtain ⟨k0, k1, k2, k3, k4⟩ := KX.out _ Q1.out
      go_wp2_with (first | fail)
      refine (XRj.out _ Q1.out).mono ?_; rintro e v2 ⟨rfl, hg⟩
      have Q2 := hide (grownBy_trans Q1.out hg)
      clear hg XRj k0 k1 k2 k3 k4
      by_cases he1 : re1 = 900
      · subst he1
        go_wp2_with (go_at_call 13; refine (NUM.out _ _).mono ?_; rintro e w' ⟨rfl, rfl⟩)
        go_ret
        exact ⟨rfl, grownBy_trans HG.out Q2.out⟩
      · have hb1 : (re1 == 900) = false := by simp [he1]
        by_cases he2 : re2 = 900
        · subst he2
          go_wp2_with (go_at_call 13; refine (NUM.out _ _).mono ?_; rintro e w' ⟨rfl, rfl⟩)
          go_ret
          exact ⟨rfl, grownBy_trans HG.out Q2.out⟩
        · have hb2 : (re2 == 900) = false := by simp [he2]
          obtain ⟨rfl, rfl, rfl⟩ := HAj.out he1 he2
          clear HAj he1 he2
          obtain ⟨k0, k1, k2, k3, k4⟩ := KC.out _ Q2.out
          go_upto_region 13 with (go_at_call 13; refine (NUM.out _ _).mono ?_; rintro e w' ⟨rfl, rfl⟩)
          go_wp2_with (first | fail)
          refine (CK.out _ (grownBy_trans HG.out Q2.out)).mono ?_; rintro e v3 ⟨rfl, hg⟩
          have Q3 := hide (grownBy_trans Q2.out hg)
          clear hg CK k0 k1 k2 k3 k4
          obtain ⟨k0, k1, k2, k3, k4⟩ := KX.out _ Q3.out
          go_wp2_with (first | fail)
          refine (XKj.out _ Q3.out).mono ?_; rintro e v4 ⟨rfl, hg⟩
          have Q4 := hide (grownBy_trans Q3.out hg)
          clear hg k0 k1 k2 k3 k4
          go_wp2_with (go_at_call 13; refine (NUM.out _ _).mono ?_; rintro e w' ⟨rfl, rfl⟩)
          go_ret
          exact ⟨rfl, grownBy_trans HG.out Q4.out⟩
#print axioms admitHigh_any
end Go.Proofs.YtehnklpjkcofcaaDoor.P9

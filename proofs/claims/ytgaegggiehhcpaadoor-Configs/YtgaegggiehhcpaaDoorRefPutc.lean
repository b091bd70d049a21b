/- The contract of the document's own PutConfig, proved over the translation: it answers as the program's Put. -/
import Derived.Test.YtgaegggiehhcpaaDoorRefPc
import Derived.Test.YtgaegggiehhcpaaDoorRefChk
import Derived.Test.YtgaegggiehhcpaaDoorPut
namespace Go.Proofs.YtgaegggiehhcpaaDoor.R5
open Go.RowKit
attribute [local go_sem] alloc_drewN setCell_drewN

theorem str_app (a b : List Int) : strOfNums a ++ strOfNums b = strOfNums (a ++ b) := by
  unfold strOfNums
  apply ByteArray.ext
  simp
theorem str_size (a : List Int) : (strOfNums a).size = a.length := by
  unfold strOfNums
  simp [ByteArray.size]
theorem be_size (k x : Int) : (strOfNums (beI k x)).size ≤ 2 := by
  rw [str_size]
  unfold beI
  split <;> simp
theorem nc_size : (⟨#[78, 67]⟩ : ByteArray).size = 2 := rfl
theorem str_nc : (⟨#[78, 67]⟩ : ByteArray) = strOfNums [78, 67] := by rfl

theorem bounds_of {C : ConfV} (h : checkN C = 0) : 1 ≤ C.frame ∧ C.frame ≤ 256 ∧ 1 ≤ C.quiet ∧ C.quiet ≤ 16 ∧ C.parts.length ≤ 8 ∧ C.wins.length ≤ 32 ∧ C.ports.length ≤ 8 := by
  unfold checkN at h
  by_cases h1 : frameB C.frame C.quiet = false
  · rw [if_pos h1] at h; omega
  rw [if_neg h1] at h
  by_cases h2 : partsB C.parts = false
  · rw [if_pos h2] at h; omega
  rw [if_neg h2] at h
  by_cases h3 : allB C.parts.length (fun i => tasksB (partAt C.parts i)) = false
  · rw [if_pos h3] at h; omega
  rw [if_neg h3] at h
  by_cases h4 : winsB C.frame C.parts.length C.wins = false
  · rw [if_pos h4] at h; omega
  rw [if_neg h4] at h
  by_cases h5 : portsB (C.parts.map PartV.level) C.ports = false
  · rw [if_pos h5] at h; omega
  clear h
  rw [Bool.not_eq_false] at h1 h2 h3 h4 h5
  simp only [frameB, Bool.and_eq_true, decide_eq_true_eq] at h1
  simp only [partsB, Bool.and_eq_true, decide_eq_true_eq] at h2
  simp only [winsB, Bool.and_eq_true, decide_eq_true_eq] at h4
  simp only [portsB, Bool.and_eq_true, decide_eq_true_eq] at h5
  exact ⟨h1.1, h1.2.1, h1.2.2.1, h1.2.2.2, h2.2.1, h4.1, h5.1⟩
theorem part_mem {ws : List PartV} {i : Nat} (h : i < ws.length) : ws[i]? = some (partAt ws i) := by
  unfold partAt; rw [List.getElem?_eq_getElem h]; rfl
/-- What a configuration that may be keeps to, number by number. -/
structure Bnd (C : ConfV) : Prop where
  lev : ∀ j, j < C.parts.length → 0 ≤ (partAt C.parts j).level ∧ (partAt C.parts j).level < 65536 ∧ (partAt C.parts j).tasks.length ≤ 6 ∧ codeMay (partAt C.parts j).code = true ∧ (partAt C.parts j).code.length ≤ 64
  tsk : ∀ j, j < C.parts.length → ∀ m, m < (partAt C.parts j).tasks.length → (0 ≤ (taskAt (partAt C.parts j).tasks m).kind ∧ (taskAt (partAt C.parts j).tasks m).kind < 65536) ∧ (0 ≤ (taskAt (partAt C.parts j).tasks m).period ∧ (taskAt (partAt C.parts j).tasks m).period < 65536) ∧ (0 ≤ (taskAt (partAt C.parts j).tasks m).deadline ∧ (taskAt (partAt C.parts j).tasks m).deadline < 65536) ∧ (0 ≤ (taskAt (partAt C.parts j).tasks m).clow ∧ (taskAt (partAt C.parts j).tasks m).clow < 65536) ∧ (0 ≤ (taskAt (partAt C.parts j).tasks m).chigh ∧ (taskAt (partAt C.parts j).tasks m).chigh < 65536) ∧ (0 ≤ (taskAt (partAt C.parts j).tasks m).prio ∧ (taskAt (partAt C.parts j).tasks m).prio < 65536)
  win : ∀ j, j < C.wins.length → (0 ≤ (winAt C.wins j).fr ∧ (winAt C.wins j).fr < 65536) ∧ (0 ≤ (winAt C.wins j).til ∧ (winAt C.wins j).til < 65536) ∧ (0 ≤ (winAt C.wins j).part ∧ (winAt C.wins j).part < 65536)
  prt : ∀ j, j < C.ports.length → (0 ≤ (portAt C.ports j).kind ∧ (portAt C.ports j).kind < 65536) ∧ (0 ≤ (portAt C.ports j).fr ∧ (portAt C.ports j).fr < 65536) ∧ (0 ≤ (portAt C.ports j).til ∧ (portAt C.ports j).til < 65536) ∧ (0 ≤ (portAt C.ports j).size ∧ (portAt C.ports j).size < 65536)
theorem end0 {f : Int} {n : Nat} {ws : List WinV} (h : ∀ i, i < ws.length → winB (endAt ws i) f n (winAt ws i) = true) (j : Nat) (hj : j ≤ ws.length) : 0 ≤ endAt ws j := by
  induction j with
  | zero => exact Int.le_refl _
  | succ j ih =>
    have h1 := ih (by omega)
    have h2 := h j (by omega)
    simp only [winB, Bool.and_eq_true, Bool.not_eq_true', decide_eq_false_iff_not] at h2
    show 0 ≤ (winAt ws j).til
    omega
theorem bnd_of {C : ConfV} (h : checkN C = 0) : Bnd C := by
  have hb := bounds_of h
  unfold checkN at h
  by_cases h1 : frameB C.frame C.quiet = false
  · rw [if_pos h1] at h; omega
  rw [if_neg h1] at h
  by_cases h2 : partsB C.parts = false
  · rw [if_pos h2] at h; omega
  rw [if_neg h2] at h
  by_cases h3 : allB C.parts.length (fun i => tasksB (partAt C.parts i)) = false
  · rw [if_pos h3] at h; omega
  rw [if_neg h3] at h
  by_cases h4 : winsB C.frame C.parts.length C.wins = false
  · rw [if_pos h4] at h; omega
  rw [if_neg h4] at h
  by_cases h5 : portsB (C.parts.map PartV.level) C.ports = false
  · rw [if_pos h5] at h; omega
  rw [if_neg h5] at h
  by_cases h6 : allB C.parts.length (fun i => codeMay (partAt C.parts i).code) = false
  · rw [if_pos h6] at h; omega
  clear h
  rw [Bool.not_eq_false] at h1 h2 h3 h4 h5 h6
  simp only [partsB, Bool.and_eq_true, decide_eq_true_eq] at h2
  simp only [winsB, Bool.and_eq_true, decide_eq_true_eq] at h4
  simp only [portsB, Bool.and_eq_true, decide_eq_true_eq] at h5
  refine ⟨fun j hj => ?_, fun j hj m hm => ?_, fun j hj => ?_, fun j hj => ?_⟩
  · have a1 := allB_of h2.2.2 j hj
    have a2 := allB_of h3 j hj
    have a3 := allB_of h6 j hj
    simp only [levelB, Bool.or_eq_true, decide_eq_true_eq] at a1
    simp only [tasksB, Bool.and_eq_true, decide_eq_true_eq] at a2
    have a4 := a3
    unfold codeMay at a4
    simp only [Bool.and_eq_true, decide_eq_true_eq] at a4
    exact ⟨by omega, by omega, a2.1, a3, by omega⟩
  · have a2 := allB_of h3 j hj
    simp only [tasksB, Bool.and_eq_true, decide_eq_true_eq] at a2
    have a3 := allB_of a2.2 m hm
    simp only [taskOK, taskMay, Bool.and_eq_true, decide_eq_true_eq] at a3
    omega
  · have a1 := allB_of h4.2 j hj
    have a0 := end0 (fun i hi => allB_of h4.2 i hi) j (by omega)
    simp only [winB, isPartB, Bool.and_eq_true, Bool.not_eq_true', decide_eq_false_iff_not, decide_eq_true_eq] at a1
    omega
  · have a1 := allB_of h5.2 j hj
    simp only [portB, isLevelB, isPartB, sizeB, Bool.and_eq_true, decide_eq_true_eq, List.length_map] at a1
    obtain ⟨⟨⟨a2, a3⟩, -⟩, ⟨⟨a4, a5⟩, -⟩, a6⟩ := a1
    have a7 : ((portAt C.ports j).kind = 0 ∨ (portAt C.ports j).kind = 1) ∧ 1 ≤ (portAt C.ports j).size ∧ (portAt C.ports j).size ≤ 8 := by
      by_cases e0 : (portAt C.ports j).kind = 0
      · rw [if_pos e0] at a6
        simp only [decide_eq_true_eq] at a6
        omega
      · rw [if_neg e0] at a6
        by_cases e1 : (portAt C.ports j).kind = 1
        · rw [if_pos e1] at a6
          simp only [Bool.and_eq_true, decide_eq_true_eq] at a6
          omega
        · rw [if_neg e1] at a6; cases a6
    omega


set_option maxRecDepth 100000 in
set_option maxHeartbeats 4000000 in
theorem putConfig_ref {lo : Nat} (c : Value) (C : ConfV) (w : World) (hc : ConfAt lo w c C) :
    Calls Tryd.prog 12 #[c] w fun e w' => e = .returned (.tuple #[.string (putS C), .int .i64 (checkN C)]) ∧ w.grownBy w' none := by
  have BE := hide (fun x k hk h0 h1 W => be_any x k hk h0 h1 W)
  have C1 := hide (fun W (hg : w.grownBy W none) => R6.rcheck_any c C W (hc.grown hg))
  obtain ⟨vp, vw, vo, rfl, ⟨qs, hlen, hrow, hel⟩, hw, ho⟩ := hc
  have HRP := hide (fun W => hrow.grown (W := W))
  have HRW := hide (fun W => hw.grown (W := W))
  have HRO := hide (fun W => ho.grown (W := W))
  have HEL := hide (fun W (hg : w.grownBy W none) i q p hq hp => (hel i q p hq hp).kept (keep_grown hg))
  obtain ⟨hl0, pa, pc, rfl, -⟩ := hrow
  obtain ⟨hl1, wa, wc, rfl, -⟩ := hw
  obtain ⟨hl2, oa, oc, rfl, -⟩ := ho
  have HPS : Hid (putS C = if checkN C = 0 then strOfNums (layConf C) else ⟨#[]⟩) := rfl
  have HLC : Hid (layConf C = [78, 67] ++ (be 2 C.frame ++ (be 1 C.quiet ++ (layAll layPart C.parts ++ (layAll layWin C.wins ++ layAll layPort C.ports))))) := rfl
  rw [hlen] at HRP C1 hl0 ⊢
  have HLQ := hide hlen
  clear hlen hel
  have HBD0 := hide (fun h : checkN C = 0 => bnd_of h)
  have HBND : Hid (checkN C = 0 → 1 ≤ C.frame ∧ C.frame ≤ 256 ∧ 1 ≤ C.quiet ∧ C.quiet ≤ 16 ∧ C.parts.length ≤ 8 ∧ C.wins.length ≤ 32 ∧ C.ports.length ≤ 8) := fun h => bounds_of h
  generalize putS C = ps at *
  generalize hce : checkN C = ce at *
  have HCE := hide hce
  clear hce
  generalize hfr : C.frame = fr at *
  generalize hqt : C.quiet = qt at *
  have HFR := hide hfr
  have HQT := hide hqt
  clear hfr hqt
  generalize hn0 : C.parts.length = n0 at *
  generalize hnw : C.wins.length = N at *
  generalize hno : C.ports.length = n2 at *
  have HN0 := hide hn0
  have HNW := hide hnw
  have HNO := hide hno
  clear hn0 hnw hno
  generalize hwb : w.alloc (.cells #[.int .i64 fr, .int .i64 qt, .slice pa n0 pc, .slice wa N wc, .slice oa n2 oc] 26) = wb
  have HG0 := hide (show w.grownBy wb none by rw [← hwb]; exact World.grownBy_alloc _ _ none)
  have KEEP : Hid (∀ V, wb.grownBy V none → V.cell? ⟨w.heap.size, 0, none⟩ = some (.int .i64 fr) ∧ V.cell? ⟨w.heap.size, 1, none⟩ = some (.int .i64 qt) ∧ V.cell? ⟨w.heap.size, 2, none⟩ = some (.slice pa n0 pc) ∧ V.cell? ⟨w.heap.size, 3, none⟩ = some (.slice wa N wc) ∧ V.cell? ⟨w.heap.size, 4, none⟩ = some (.slice oa n2 oc)) := by
    intro V hV
    have b := fun k => World.cell?_of_block (a := ⟨w.heap.size, k, none⟩) (hV.block w.heap.size (by rw [← hwb]; simp) (by simp))
    exact ⟨(b 0).trans (by rw [← hwb]; simp), (b 1).trans (by rw [← hwb]; simp), (b 2).trans (by rw [← hwb]; simp), (b 3).trans (by rw [← hwb]; simp), (b 4).trans (by rw [← hwb]; simp)⟩
  go_enter Tryd.func12, Tryd.ntmps12
  go_upto_region 1 with fail
  have HWB := hide hwb
  clear hwb
  obtain ⟨k0, k1, k2, k3, k4⟩ := KEEP.out wb (grownBy_refl _ _)
  go_wp2_with (first | fail)
  refine (C1.out _ HG0.out).mono ?_; rintro e w1 ⟨rfl, hg⟩
  have G1 := hide hg
  clear hg C1 k0 k1 k2 k3 k4
  obtain ⟨k0, k1, k2, k3, k4⟩ := KEEP.out w1 G1.out
  by_cases h : ce = 0
  · subst h
    have HP2 := hide (HPS.out.trans (if_pos rfl))
    obtain ⟨b1, b2, b3, b4, b5, b6, b7⟩ := HBND.out rfl
    have HBD := hide (HBD0.out rfl)
    clear HPS HBND HBD0
    obtain ⟨U, hU, V, HF, HC⟩ := class_of w1
    have q0 := fun u => (KEEP.out _ (grownBy_trans G1.out (HF.out u))).1
    have q1 := fun u => (KEEP.out _ (grownBy_trans G1.out (HF.out u))).2.1
    have q2 := fun u => (KEEP.out _ (grownBy_trans G1.out (HF.out u))).2.2.1
    have z1 := be_size 2 fr
    have z2 := be_size 1 qt
    have z3 := be_size 1 (n0 : Int)
    have znc := nc_size
    clear k0 k1 k2 k3 k4
    obtain ⟨k0, k1, k2, k3, k4⟩ := KEEP.out w1 G1.out
    go_upto_region 4 with fail
    go_wp2
    refine wp_region_quiet_in V (by kernel_rfl) (by kernel_rfl) (HC.out _ (grownBy_trans (grownBy_refl _ _) (drew_grown _))) ?_
    repeat (go_big_quiet_step (first | (go_at_call 31; exact calls_in HC (HF.out _) (BE.out _ _ (by omega) (by omega) (by omega) _))))
    refine wpQuiet_nil ?_
    intro _ hwq
    obtain ⟨uq, hwq2⟩ := hwq
    subst hwq2
    have GQ := hide (grownBy_trans G1.out (HF.out uq))
    generalize hS0 : (⟨#[78, 67]⟩ : ByteArray) ++ strOfNums (beI 2 fr) ++ strOfNums (beI 1 qt) ++ strOfNums (beI 1 (n0 : Int)) = S0
    obtain ⟨L0, hL0⟩ : ∃ L0, L0 = [78, 67] ++ beI 2 fr ++ beI 1 qt ++ beI 1 (n0 : Int) := ⟨_, rfl⟩
    have HS0 := hide (show S0 = strOfNums L0 by rw [← hS0, str_nc, str_app, str_app, str_app, hL0])
    have zS0 : S0.size ≤ 8 := by rw [← hS0]; simp only [ByteArray.size_append]; omega
    have HL0 := hide hL0
    clear hS0 hL0 z1 z2 z3 znc q0 q1 q2
    generalize V uq = w2 at *
    clear HF HC hU uq V U k0 k1 k2 k3 k4
    go_wp2
    go_loopw [5, 6] (fun v i W => ∃ (j : Nat) (S : ByteArray), j ≤ n0 ∧ i = .int .i64 j ∧ v = .string S ∧ S.size ≤ 8 + 300 * j ∧ Hid (S = strOfNums (L0 ++ (C.parts.take j).flatMap layPart)) ∧ Hid (wb.grownBy W none)) (fun _ i _ => n0 - (intOf i).toNat)
    case atStart => exact ⟨0, S0, by omega, rfl, rfl, by omega, hide (by rw [HS0.out]; exact congrArg strOfNums (List.append_nil L0).symm), GQ⟩
    case round =>
      obtain ⟨j, S, hj, rfl, rfl, hS, HS, HG⟩ := hrel
      obtain ⟨k0, k1, k2, k3, k4⟩ := KEEP.out wr HG.out
      by_cases hlt : j < n0
      · obtain ⟨g, o, rfl⟩ := R6.row_addr (HRP.out wr (grownBy_trans HG0.out HG.out)) (by omega)
        obtain ⟨q, hq⟩ : ∃ q, qs[j]? = some q := ⟨_, List.getElem?_eq_getElem (by rw [HLQ.out]; exact hlt)⟩
        have hpt := part_mem (ws := C.parts) (i := j) (by rw [HN0.out]; exact hlt)
        have HPI := hide (fun V (h : wb.grownBy V none) => HEL.out V (grownBy_trans HG0.out h) j q _ hq hpt)
        have c0 : wr.cell? ⟨g, o + j * 3, none⟩ = some (.int .i64 q.level) := R6.row_cell (S := shP) (HRP.out wr (grownBy_trans HG0.out HG.out)) hq (k := 0) rfl
        have c1 : wr.cell? ⟨g, o + j * 3 + 1, none⟩ = some (.slice q.ta q.tn q.tc) := R6.row_cell (S := shP) (HRP.out wr (grownBy_trans HG0.out HG.out)) hq (k := 1) rfl
        have c2 : wr.cell? ⟨g, o + j * 3 + 2, none⟩ = some (.slice q.ca q.cn q.cc) := R6.row_cell (S := shP) (HRP.out wr (grownBy_trans HG0.out HG.out)) hq (k := 2) rfl
        obtain ⟨l0, l1, t6, hmay, c64⟩ := HBD.out.lev j (by rw [HN0.out]; exact hlt)
        have HTB := hide (HBD.out.tsk j (by rw [HN0.out]; exact hlt))
        have HST : Hid ((C.parts.take (j + 1)).flatMap layPart = (C.parts.take j).flatMap layPart ++ layPart (partAt C.parts j)) := by
          show _ = _
          rw [List.take_add_one, hpt, List.flatMap_append]
          simp
        have HLP : Hid (layPart (partAt C.parts j) = be 1 (partAt C.parts j).level ++ (layAll layTask (partAt C.parts j).tasks ++ layAll layIns (partAt C.parts j).code)) := rfl
        clear hq hpt
        generalize partAt C.parts j = pj at *
        obtain ⟨pl, ts, cd⟩ := pj
        obtain ⟨ql, ta, tn, tc, ca, cn, cc⟩ := q
        have hql : ql = pl := (HPI.out wr HG.out).1
        subst hql
        have HTR := hide (fun V h => (HPI.out V h).2.1)
        have HCR := hide (fun V h => (HPI.out V h).2.2)
        unfold PartM.tasks at HTR
        unfold PartM.code at HCR
        dsimp only at HTR HCR c0 c1 c2 l0 l1 t6 hmay c64 HTB HLP
        have htn : tn = ts.length := by obtain ⟨_, a, cap, e, _⟩ := HTR.out wr HG.out; simp only [Value.slice.injEq] at e; exact e.2.1
        have hcn : cn = cd.length := by obtain ⟨_, a, cap, e, _⟩ := HCR.out wr HG.out; simp only [Value.slice.injEq] at e; exact e.2.1
        subst htn hcn
        have CPC := hide (fun W (h : wb.grownBy W none) => putCode_ref _ cd hmay (by omega) W (preads_row (HCR.out W h)))
        have HFL := hide (flatI_length cd)
        have HFE : Hid (flatI cd = cd.flatMap layIns) := rfl
        clear HPI hmay
        generalize hM : ts.length = M at *
        have HM := hide hM
        generalize hKc : cd.length = Kc at *
        have HKc := hide hKc
        clear hM hKc
        go_upto_region 9 with fail
        have HXG := hide (World.grownBy_alloc wr (.cells #[.int .i64 ql, .slice ta M tc, .slice ca Kc cc] 50) none)
        have HBX := hide (heap_alloc_new wr (.cells #[.int .i64 ql, .slice ta M tc, .slice ca Kc cc] 50))
        generalize wr.alloc (.cells #[.int .i64 ql, .slice ta M tc, .slice ca Kc cc] 50) = wx at *
        generalize wr.heap.size = X at *
        have HGX := hide (grownBy_trans HG.out HXG.out)
        have KX : Hid (∀ V, wx.grownBy V none → V.cell? ⟨X, 0, none⟩ = some (.int .i64 ql) ∧ V.cell? ⟨X, 1, none⟩ = some (.slice ta M tc) ∧ V.cell? ⟨X, 2, none⟩ = some (.slice ca Kc cc)) := fun V hV => by
          have b := R6.hp_keep6 HBX.out hV
          exact ⟨R6.blk_cell6 b 0, R6.blk_cell6 b 1, R6.blk_cell6 b 2⟩
        clear k0 k1 k2 k3 k4 c0 c1 c2 HXG HG
        obtain ⟨U, hU, V, HF, HC⟩ := class_of wx
        have q0 := fun u => (KX.out _ (HF.out u)).1
        have q1 := fun u => (KX.out _ (HF.out u)).2.1
        obtain ⟨A, hA⟩ : ∃ A, A = L0 ++ (C.parts.take j).flatMap layPart := ⟨_, rfl⟩
        rw [← hA] at HS
        have HA := hide hA
        clear hA
        have z0 := be_size 1 ql
        have z1 := be_size 1 (M : Int)
        go_wp2
        refine wp_region_quiet_in V (by kernel_rfl) (by kernel_rfl) (HC.out _ (drew_grown _)) ?_
        repeat (go_big_quiet_step (first | (go_at_call 31; exact calls_in HC (HF.out _) (BE.out _ _ (by omega) (by omega) (by omega) _))))
        refine wpQuiet_nil ?_
        intro _ hwq
        obtain ⟨uq, hwq2⟩ := hwq
        subst hwq2
        generalize hNew : S ++ strOfNums (beI 1 ql) ++ strOfNums (beI 1 (M : Int)) = S1
        have HS1 := hide (show S1 = strOfNums (A ++ beI 1 ql ++ beI 1 (M : Int)) by rw [← hNew, HS.out, str_app, str_app])
        have zS1 : S1.size ≤ 12 + 300 * j := by rw [← hNew]; simp only [ByteArray.size_append]; omega
        clear hNew z0 z1
        have GX1 := hide (HF.out uq)
        clear q0 q1
        generalize V uq = w3 at *
        clear HF HC hU uq V U
        obtain ⟨A1, hA1⟩ : ∃ A1, A1 = A ++ beI 1 ql ++ beI 1 (M : Int) := ⟨_, rfl⟩
        rw [← hA1] at HS1
        have HA1 := hide hA1
        clear hA1
        obtain ⟨x0, x1, x2⟩ := KX.out w3 GX1.out
        go_wp2
        go_loopw [5, 8] (fun v i W => ∃ (m : Nat) (R : ByteArray), m ≤ M ∧ i = .int .i64 m ∧ v = .string R ∧ R.size ≤ 12 + 300 * j + 12 * m ∧ Hid (R = strOfNums (A1 ++ (ts.take m).flatMap layTask)) ∧ Hid (wx.grownBy W none)) (fun _ i _ => M - (intOf i).toNat)
        case atStart => exact ⟨0, S1, by omega, rfl, rfl, by omega, hide (by rw [HS1.out]; exact congrArg strOfNums (List.append_nil A1).symm), GX1⟩
        case round =>
          clear x0 x1 x2
          obtain ⟨m, R, hm, rfl, rfl, hR, HR, HI⟩ := hrel
          obtain ⟨x0, x1, x2⟩ := KX.out wr HI.out
          by_cases hm2 : m < M
          · have HTW := hide (HTR.out wr (grownBy_trans HGX.out HI.out))
            obtain ⟨g', o', rfl⟩ := R6.row_addr HTW.out (by omega)
            have hqt := R6.taskAt_mem' (ws := ts) (i := m) (by rw [HM.out]; exact hm2)
            have d0 : wr.cell? ⟨g', o' + m * 6, none⟩ = some (.int .i64 (taskAt ts m).kind) := R6.row_cell (S := shT) HTW.out hqt (k := 0) rfl
            have d1 : wr.cell? ⟨g', o' + m * 6 + 1, none⟩ = some (.int .i64 (taskAt ts m).period) := R6.row_cell (S := shT) HTW.out hqt (k := 1) rfl
            have d2 : wr.cell? ⟨g', o' + m * 6 + 2, none⟩ = some (.int .i64 (taskAt ts m).deadline) := R6.row_cell (S := shT) HTW.out hqt (k := 2) rfl
            have d3 : wr.cell? ⟨g', o' + m * 6 + 3, none⟩ = some (.int .i64 (taskAt ts m).clow) := R6.row_cell (S := shT) HTW.out hqt (k := 3) rfl
            have d4 : wr.cell? ⟨g', o' + m * 6 + 4, none⟩ = some (.int .i64 (taskAt ts m).chigh) := R6.row_cell (S := shT) HTW.out hqt (k := 4) rfl
            have d5 : wr.cell? ⟨g', o' + m * 6 + 5, none⟩ = some (.int .i64 (taskAt ts m).prio) := R6.row_cell (S := shT) HTW.out hqt (k := 5) rfl
            obtain ⟨⟨p0, r0⟩, ⟨p1, r1⟩, ⟨p2, r2⟩, ⟨p3, r3⟩, ⟨p4, r4⟩, ⟨p5, r5⟩⟩ := HTB.out m hm2
            have HTS : Hid ((ts.take (m + 1)).flatMap layTask = (ts.take m).flatMap layTask ++ layTask (taskAt ts m)) := by
              show _ = _
              rw [List.take_add_one, hqt, List.flatMap_append]
              simp
            have HLT : Hid (layTask (taskAt ts m) = beI 1 (taskAt ts m).kind ++ (beI 2 (taskAt ts m).period ++ (beI 2 (taskAt ts m).deadline ++ (beI 2 (taskAt ts m).clow ++ (beI 2 (taskAt ts m).chigh ++ beI 1 (taskAt ts m).prio))))) := rfl
            clear hqt HTW
            generalize layTask (taskAt ts m) = lt at *
            generalize (taskAt ts m).kind = y0 at *
            generalize (taskAt ts m).period = y1 at *
            generalize (taskAt ts m).deadline = y2 at *
            generalize (taskAt ts m).clow = y3 at *
            generalize (taskAt ts m).chigh = y4 at *
            generalize (taskAt ts m).prio = y5 at *
            go_upto_region 14 with fail
            have HYG := hide (World.grownBy_alloc wr (.cells #[.int .i64 y0, .int .i64 y1, .int .i64 y2, .int .i64 y3, .int .i64 y4, .int .i64 y5] 52) none)
            have HBY := hide (heap_alloc_new wr (.cells #[.int .i64 y0, .int .i64 y1, .int .i64 y2, .int .i64 y3, .int .i64 y4, .int .i64 y5] 52))
            generalize wr.alloc (.cells #[.int .i64 y0, .int .i64 y1, .int .i64 y2, .int .i64 y3, .int .i64 y4, .int .i64 y5] 52) = wy at *
            generalize wr.heap.size = Y at *
            have HIY := hide (grownBy_trans HI.out HYG.out)
            clear x0 x1 x2 d0 d1 d2 d3 d4 d5 HYG HI
            obtain ⟨U, hU, V, HF, HC⟩ := class_of wy
            have q0 := fun u => (R6.blk_cell6 (R6.hp_keep6 HBY.out (HF.out u)) 0 : (V u).cell? ⟨Y, 0, none⟩ = some (.int .i64 y0))
            have q1 := fun u => (R6.blk_cell6 (R6.hp_keep6 HBY.out (HF.out u)) 1 : (V u).cell? ⟨Y, 1, none⟩ = some (.int .i64 y1))
            have q2 := fun u => (R6.blk_cell6 (R6.hp_keep6 HBY.out (HF.out u)) 2 : (V u).cell? ⟨Y, 2, none⟩ = some (.int .i64 y2))
            have q3 := fun u => (R6.blk_cell6 (R6.hp_keep6 HBY.out (HF.out u)) 3 : (V u).cell? ⟨Y, 3, none⟩ = some (.int .i64 y3))
            have q4 := fun u => (R6.blk_cell6 (R6.hp_keep6 HBY.out (HF.out u)) 4 : (V u).cell? ⟨Y, 4, none⟩ = some (.int .i64 y4))
            have q5 := fun u => (R6.blk_cell6 (R6.hp_keep6 HBY.out (HF.out u)) 5 : (V u).cell? ⟨Y, 5, none⟩ = some (.int .i64 y5))
            have z0 := be_size 1 y0
            have z1 := be_size 2 y1
            have z2 := be_size 2 y2
            have z3 := be_size 2 y3
            have z4 := be_size 2 y4
            have z5 := be_size 1 y5
            go_wp2
            refine wp_region_quiet_in V (by kernel_rfl) (by kernel_rfl) (HC.out _ (drew_grown _)) ?_
            repeat (go_big_quiet_step (first | (go_at_call 31; exact calls_in HC (HF.out _) (BE.out _ _ (by omega) (by omega) (by omega) _))))
            refine wpQuiet_nil ?_
            intro _ hwq
            obtain ⟨uq, hwq2⟩ := hwq
            subst hwq2
            generalize hNew : R ++ strOfNums (beI 1 y0) ++ strOfNums (beI 2 y1) ++ strOfNums (beI 2 y2) ++ strOfNums (beI 2 y3) ++ strOfNums (beI 2 y4) ++ strOfNums (beI 1 y5) = R1
            have HR1 := hide (show R1 = strOfNums (A1 ++ (ts.take m).flatMap layTask ++ beI 1 y0 ++ beI 2 y1 ++ beI 2 y2 ++ beI 2 y3 ++ beI 2 y4 ++ beI 1 y5) by rw [← hNew, HR.out, str_app, str_app, str_app, str_app, str_app, str_app])
            have zR1 : R1.size ≤ 24 + 300 * j + 12 * m := by rw [← hNew]; simp only [ByteArray.size_append]; omega
            clear hNew z0 z1 z2 z3 z4 z5
            have HR2 := hide (show R1 = strOfNums (A1 ++ (ts.take (m + 1)).flatMap layTask) by rw [HR1.out, HTS.out, HLT.out]; simp only [List.append_assoc])
            go_wp2
            go_roundw
            case rel => exact ⟨m + 1, R1, by omega, by go_num, rfl, by omega, HR2, hide (grownBy_trans HIY.out (HF.out uq))⟩
            case measure => simp [intOf]; omega
          · have HTK := hide (show ts.take m = ts from List.take_of_length_le (by rw [HM.out]; omega))
            have zK := be_size 1 (Kc : Int)
            have zF : (strOfNums (flatI cd)).size ≤ 2 * Kc := by rw [str_size, HFL.out]; omega
            go_wp2_with (first | fail)
            refine (CPC.out _ (grownBy_trans HGX.out HI.out)).mono ?_; rintro e w4 ⟨rfl, hg⟩
            have HI4 := hide (grownBy_trans HI.out hg)
            clear hg x0 x1 x2
            obtain ⟨x0, x1, x2⟩ := KX.out w4 HI4.out
            generalize hFC : strOfNums (flatI cd) = FC at *
            have HFC := hide hFC
            clear hFC
            go_wp2_with (first | fail)
            refine (BE.out _ _ (by omega) (by omega) (by omega) _).mono ?_; rintro e w5 ⟨rfl, hg⟩
            have HI5 := hide (grownBy_trans HI4.out hg)
            clear hg x0 x1 x2
            go_wp2
            go_roundw
            case rel => exact ⟨j + 1, R ++ strOfNums (beI 1 (Kc : Int)) ++ FC, by omega, by go_num, rfl, by simp only [ByteArray.size_append]; omega, hide (by rw [HR.out, ← HFC.out, str_app, str_app, HTK.out, HA1.out, HA.out, HST.out, HLP.out]; unfold layAll; rw [HM.out, HKc.out]; simp only [List.append_assoc]; rfl), hide (grownBy_trans HGX.out HI5.out)⟩
            case measure => simp [intOf]; omega
      · have HTK := hide (show C.parts.take j = C.parts from List.take_of_length_le (by rw [HN0.out]; omega))
        have zN := be_size 1 (N : Int)
        go_wp2_with (first | fail)
        refine (BE.out _ _ (by omega) (by omega) (by omega) _).mono ?_; rintro e w3 ⟨rfl, hg⟩
        have G3 := hide (grownBy_trans HG.out hg)
        clear hg k0 k1 k2 k3 k4
        go_upto_region 18 with fail
        generalize hNew : S ++ strOfNums (beI 1 (N : Int)) = T0
        obtain ⟨A3, hA3⟩ : ∃ A3, A3 = L0 ++ C.parts.flatMap layPart ++ beI 1 (N : Int) := ⟨_, rfl⟩
        have HT0 := hide (show T0 = strOfNums A3 by rw [← hNew, HS.out, str_app, HTK.out, hA3])
        have zT0 : T0.size ≤ 2500 := by rw [← hNew]; simp only [ByteArray.size_append]; omega
        have HA3 := hide hA3
        clear hNew hA3 zN
        go_wp2
        go_loopw [5, 12] (fun v i W => ∃ (m : Nat) (R : ByteArray), m ≤ N ∧ i = .int .i64 m ∧ v = .string R ∧ R.size ≤ 2500 + 6 * m ∧ Hid (R = strOfNums (A3 ++ (C.wins.take m).flatMap layWin)) ∧ Hid (wb.grownBy W none)) (fun _ i _ => N - (intOf i).toNat)
        case atStart => exact ⟨0, T0, by omega, rfl, rfl, by omega, hide (by rw [HT0.out]; exact congrArg strOfNums (List.append_nil A3).symm), G3⟩
        case round =>
          obtain ⟨m, R, hm, rfl, rfl, hR, HR, HI⟩ := hrel
          obtain ⟨k0, k1, k2, k3, k4⟩ := KEEP.out wr HI.out
          by_cases hm2 : m < N
          · obtain ⟨g', o', rfl⟩ := R6.row_addr (HRW.out wr (grownBy_trans HG0.out HI.out)) (by omega)
            have hqt := R6.winAt_mem' (ws := C.wins) (i := m) (by rw [HNW.out]; exact hm2)
            have HCW : Hid (∀ V, wb.grownBy V none → V.cell? ⟨g', o' + m * 3, none⟩ = some (.int .i64 (winAt C.wins m).fr) ∧ V.cell? ⟨g', o' + m * 3 + 1, none⟩ = some (.int .i64 (winAt C.wins m).til) ∧ V.cell? ⟨g', o' + m * 3 + 2, none⟩ = some (.int .i64 (winAt C.wins m).part)) := fun V hV => ⟨R6.row_cell (S := shW) (HRW.out V (grownBy_trans HG0.out hV)) hqt (k := 0) rfl, R6.row_cell (S := shW) (HRW.out V (grownBy_trans HG0.out hV)) hqt (k := 1) rfl, R6.row_cell (S := shW) (HRW.out V (grownBy_trans HG0.out hV)) hqt (k := 2) rfl⟩
            obtain ⟨⟨p0, r0⟩, ⟨p1, r1⟩, ⟨p2, r2⟩⟩ := HBD.out.win m (by rw [HNW.out]; exact hm2)
            have HTS : Hid ((C.wins.take (m + 1)).flatMap layWin = (C.wins.take m).flatMap layWin ++ layWin (winAt C.wins m)) := by
              show _ = _
              rw [List.take_add_one, hqt, List.flatMap_append]
              simp
            have HLT : Hid (layWin (winAt C.wins m) = beI 2 (winAt C.wins m).fr ++ (beI 2 (winAt C.wins m).til ++ beI 1 (winAt C.wins m).part)) := rfl
            clear hqt
            generalize layWin (winAt C.wins m) = lt at *
            generalize (winAt C.wins m).fr = y0 at *
            generalize (winAt C.wins m).til = y1 at *
            generalize (winAt C.wins m).part = y2 at *
            obtain ⟨U, hU, V, HF, HC⟩ := class_of wr
            have q0 := fun u => (HCW.out _ (grownBy_trans HI.out (HF.out u))).1
            have q1 := fun u => (HCW.out _ (grownBy_trans HI.out (HF.out u))).2.1
            have q2 := fun u => (HCW.out _ (grownBy_trans HI.out (HF.out u))).2.2
            have q3 := fun u => (KEEP.out _ (grownBy_trans HI.out (HF.out u))).2.2.2.1
            have z0 := be_size 2 y0
            have z1 := be_size 2 y1
            have z2 := be_size 1 y2
            go_wp2
            refine wp_region_quiet_in V (by kernel_rfl) (by kernel_rfl) (HC.out _ (drew_grown _)) ?_
            repeat (go_big_quiet_step (first | (go_at_call 31; exact calls_in HC (HF.out _) (BE.out _ _ (by omega) (by omega) (by omega) _))))
            refine wpQuiet_nil ?_
            intro _ hwq
            obtain ⟨uq, hwq2⟩ := hwq
            subst hwq2
            generalize hNew : R ++ strOfNums (beI 2 y0) ++ strOfNums (beI 2 y1) ++ strOfNums (beI 1 y2) = R1
            have HR1 := hide (show R1 = strOfNums (A3 ++ (C.wins.take m).flatMap layWin ++ beI 2 y0 ++ beI 2 y1 ++ beI 1 y2) by rw [← hNew, HR.out, str_app, str_app, str_app])
            have zR1 : R1.size ≤ 2506 + 6 * m := by rw [← hNew]; simp only [ByteArray.size_append]; omega
            clear hNew z0 z1 z2
            have HR2 := hide (show R1 = strOfNums (A3 ++ (C.wins.take (m + 1)).flatMap layWin) by rw [HR1.out, HTS.out, HLT.out]; simp only [List.append_assoc])
            go_wp2
            go_roundw
            case rel => exact ⟨m + 1, R1, by omega, by go_num, rfl, by omega, HR2, hide (grownBy_trans HI.out (HF.out uq))⟩
            case measure => simp [intOf]; omega
          · have HTW := hide (show C.wins.take m = C.wins from List.take_of_length_le (by rw [HNW.out]; omega))
            have zN := be_size 1 (n2 : Int)
            go_wp2_with (first | fail)
            refine (BE.out _ _ (by omega) (by omega) (by omega) _).mono ?_; rintro e w4 ⟨rfl, hg⟩
            have G4 := hide (grownBy_trans HI.out hg)
            clear hg k0 k1 k2 k3 k4
            go_upto_region 23 with fail
            generalize hNew : R ++ strOfNums (beI 1 (n2 : Int)) = T1
            obtain ⟨A4, hA4⟩ : ∃ A4, A4 = A3 ++ C.wins.flatMap layWin ++ beI 1 (n2 : Int) := ⟨_, rfl⟩
            have HT1 := hide (show T1 = strOfNums A4 by rw [← hNew, HR.out, str_app, HTW.out, hA4])
            have zT1 : T1.size ≤ 2800 := by rw [← hNew]; simp only [ByteArray.size_append]; omega
            have HA4 := hide hA4
            clear hNew hA4 zN
            go_wp2
            go_loopw [5, 13] (fun v i W => ∃ (b : Nat) (R : ByteArray), b ≤ n2 ∧ i = .int .i64 b ∧ v = .string R ∧ R.size ≤ 2800 + 8 * b ∧ Hid (R = strOfNums (A4 ++ (C.ports.take b).flatMap layPort)) ∧ Hid (wb.grownBy W none)) (fun _ i _ => n2 - (intOf i).toNat)
            case atStart => exact ⟨0, T1, by omega, rfl, rfl, by omega, hide (by rw [HT1.out]; exact congrArg strOfNums (List.append_nil A4).symm), G4⟩
            case round =>
              clear HR HI
              obtain ⟨b, R, hb, rfl, rfl, hR, HR, HI⟩ := hrel
              obtain ⟨k0, k1, k2, k3, k4⟩ := KEEP.out wr HI.out
              by_cases hb2 : b < n2
              · have HOW := hide (HRO.out wr (grownBy_trans HG0.out HI.out))
                obtain ⟨g', o', rfl⟩ := R6.row_addr HOW.out (by omega)
                have hqt := R6.portAt_mem' (ws := C.ports) (i := b) (by rw [HNO.out]; exact hb2)
                have d0 : wr.cell? ⟨g', o' + b * 4, none⟩ = some (.int .i64 (portAt C.ports b).kind) := R6.row_cell (S := shO) HOW.out hqt (k := 0) rfl
                have d1 : wr.cell? ⟨g', o' + b * 4 + 1, none⟩ = some (.int .i64 (portAt C.ports b).fr) := R6.row_cell (S := shO) HOW.out hqt (k := 1) rfl
                have d2 : wr.cell? ⟨g', o' + b * 4 + 2, none⟩ = some (.int .i64 (portAt C.ports b).til) := R6.row_cell (S := shO) HOW.out hqt (k := 2) rfl
                have d3 : wr.cell? ⟨g', o' + b * 4 + 3, none⟩ = some (.int .i64 (portAt C.ports b).size) := R6.row_cell (S := shO) HOW.out hqt (k := 3) rfl
                obtain ⟨⟨p0, r0⟩, ⟨p1, r1⟩, ⟨p2, r2⟩, ⟨p3, r3⟩⟩ := HBD.out.prt b (by rw [HNO.out]; exact hb2)
                have HTS : Hid ((C.ports.take (b + 1)).flatMap layPort = (C.ports.take b).flatMap layPort ++ layPort (portAt C.ports b)) := by
                  show _ = _
                  rw [List.take_add_one, hqt, List.flatMap_append]
                  simp
                have HLT : Hid (layPort (portAt C.ports b) = beI 1 (portAt C.ports b).kind ++ (beI 1 (portAt C.ports b).fr ++ (beI 1 (portAt C.ports b).til ++ beI 1 (portAt C.ports b).size))) := rfl
                clear hqt HOW
                generalize layPort (portAt C.ports b) = lt at *
                generalize (portAt C.ports b).kind = y0 at *
                generalize (portAt C.ports b).fr = y1 at *
                generalize (portAt C.ports b).til = y2 at *
                generalize (portAt C.ports b).size = y3 at *
                go_upto_region 27 with fail
                have HYG := hide (World.grownBy_alloc wr (.cells #[.int .i64 y0, .int .i64 y1, .int .i64 y2, .int .i64 y3] 57) none)
                have HBY := hide (heap_alloc_new wr (.cells #[.int .i64 y0, .int .i64 y1, .int .i64 y2, .int .i64 y3] 57))
                generalize wr.alloc (.cells #[.int .i64 y0, .int .i64 y1, .int .i64 y2, .int .i64 y3] 57) = wy at *
                generalize wr.heap.size = Y at *
                have HIY := hide (grownBy_trans HI.out HYG.out)
                clear k0 k1 k2 k3 k4 d0 d1 d2 d3 HYG HI
                obtain ⟨U, hU, V, HF, HC⟩ := class_of wy
                have q0 := fun u => (R6.blk_cell6 (R6.hp_keep6 HBY.out (HF.out u)) 0 : (V u).cell? ⟨Y, 0, none⟩ = some (.int .i64 y0))
                have q1 := fun u => (R6.blk_cell6 (R6.hp_keep6 HBY.out (HF.out u)) 1 : (V u).cell? ⟨Y, 1, none⟩ = some (.int .i64 y1))
                have q2 := fun u => (R6.blk_cell6 (R6.hp_keep6 HBY.out (HF.out u)) 2 : (V u).cell? ⟨Y, 2, none⟩ = some (.int .i64 y2))
                have q3 := fun u => (R6.blk_cell6 (R6.hp_keep6 HBY.out (HF.out u)) 3 : (V u).cell? ⟨Y, 3, none⟩ = some (.int .i64 y3))
                have z0 := be_size 1 y0
                have z1 := be_size 1 y1
                have z2 := be_size 1 y2
                have z3 := be_size 1 y3
                go_wp2
                refine wp_region_quiet_in V (by kernel_rfl) (by kernel_rfl) (HC.out _ (drew_grown _)) ?_
                repeat (go_big_quiet_step (first | (go_at_call 31; exact calls_in HC (HF.out _) (BE.out _ _ (by omega) (by omega) (by omega) _))))
                refine wpQuiet_nil ?_
                intro _ hwq
                obtain ⟨uq, hwq2⟩ := hwq
                subst hwq2
                generalize hNew : R ++ strOfNums (beI 1 y0) ++ strOfNums (beI 1 y1) ++ strOfNums (beI 1 y2) ++ strOfNums (beI 1 y3) = R1
                have HR1 := hide (show R1 = strOfNums (A4 ++ (C.ports.take b).flatMap layPort ++ beI 1 y0 ++ beI 1 y1 ++ beI 1 y2 ++ beI 1 y3) by rw [← hNew, HR.out, str_app, str_app, str_app, str_app])
                have zR1 : R1.size ≤ 2808 + 8 * b := by rw [← hNew]; simp only [ByteArray.size_append]; omega
                clear hNew z0 z1 z2 z3
                have HR2 := hide (show R1 = strOfNums (A4 ++ (C.ports.take (b + 1)).flatMap layPort) by rw [HR1.out, HTS.out, HLT.out]; simp only [List.append_assoc])
                go_wp2
                go_roundw
                case rel => exact ⟨b + 1, R1, by omega, by go_num, rfl, by omega, HR2, hide (grownBy_trans HIY.out (HF.out uq))⟩
                case measure => simp [intOf]; omega
              · have HTO := hide (show C.ports.take b = C.ports from List.take_of_length_le (by rw [HNO.out]; omega))
                have HFIN := hide (show ps = R by
                  rw [HP2.out, HR.out, HTO.out, HA4.out, HA3.out, HL0.out, HLC.out]
                  unfold layAll
                  rw [HN0.out, HNW.out, HNO.out]
                  simp only [List.append_assoc]
                  rfl)
                go_wp2
                go_ret2
                exact ⟨by rw [HFIN.out]; rfl, grownBy_trans HG0.out HI.out⟩
  · have HP2 := hide (HPS.out.trans (if_neg h))
    have hd : (ce != 0) = true := by simp [h]
    go_wp2
    go_ret2
    exact ⟨by rw [HP2.out]; rfl, grownBy_trans HG0.out G1.out⟩
#print axioms putConfig_ref
end Go.Proofs.YtgaegggiehhcpaaDoor.R5

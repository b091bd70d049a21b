/- The walk of the statement FrameWindows: each tick of each window is its part's, the others are nobody's; proved over the translation. -/
import Derived.Test.YtgaegggiehhcpabDoorFw0
import Derived.Test.YtgaegggiehhcpabDoorAw6
import Derived.Test.YtgaegggiehhcpabDoorCopy
import Derived.Test.YtgaegggiehhcpabDoorLCnt0
namespace Go.Proofs.YtgaegggiehhcpabDoor.P6
open Go.RowKit
attribute [local go_sem] alloc_drewN setCell_drewN

theorem and2 (z : Int) : ∃ c : Nat, c ≤ 3 ∧ bits .and .i64 z 3 = (c : Int) := ⟨(z % 4).toNat, by omega, by rw [and_low z 2 (by decide) 3 (by decide)]; omega⟩
theorem and3' (z : Int) : ∃ c : Nat, c ≤ 7 ∧ bits .and .i64 z 7 = (c : Int) := ⟨(z % 8).toNat, by omega, by rw [and_low z 3 (by decide) 7 (by decide)]; omega⟩
theorem and20' (z : Int) : ∃ c : Nat, c ≤ 1048575 ∧ bits .and .i64 z 1048575 = (c : Int) := ⟨(z % 1048576).toNat, by omega, by rw [and_low z 20 (by decide) 1048575 (by decide)]; omega⟩
theorem infoN : (Tryd.prog.info? 3).map (fun i => (i.zero, i.size, i.bytes)) = some (some (.int .i64 0), 1, 8) := by kernel_rfl
theorem int_cell {lo n c g o : Nat} {W : World} {xs : List Int} (h : RowAt shN lo W (.slice (some ⟨g, o, none⟩) n c) xs) {j : Nat} {x : Int} (hx : xs[j]? = some x) : W.cell? ⟨g, o + j, none⟩ = some (.int .i64 x) := by
  have hj : j < xs.length := (List.getElem?_eq_some_iff.1 hx).1
  obtain ⟨-, a2, cap2, e2, hc⟩ := h
  simp only [Value.slice.injEq] at e2
  obtain ⟨rfl, -, rfl⟩ := e2
  obtain ⟨g', o', h', -, hc2⟩ := hc (by omega)
  cases h'
  have := hc2 j x hx 0 _ rfl
  simpa [shN] using this
theorem int_addr {lo n c : Nat} {W : World} {a : Option Addr} {xs : List Int} (h : RowAt shN lo W (.slice a n c) xs) (hn : 0 < n) : ∃ g o, a = some ⟨g, o, none⟩ := by
  obtain ⟨-, a2, cap2, e2, hc⟩ := h
  simp only [Value.slice.injEq] at e2
  obtain ⟨rfl, e3, rfl⟩ := e2
  obtain ⟨g', o', h', -⟩ := hc (by omega)
  exact ⟨g', o', h'⟩

/-- The law's own memory. -/
structure FwSt (w1 V : World) (Bp Bc : Nat) (ws : List WinV) (wh : List Int) (n L : Nat) (wa : Option Addr) (wq : Nat) (a9 : Option Addr) (c9 : Nat) : Prop where
  grown : w1.grownBy V none
  parts : V.heap[Bp]? = some (.cells #[.int .i64 1, .slice none 0 0, .slice none 0 0, .int .i64 0, .slice none 0 0, .slice none 0 0, .int .i64 0, .slice none 0 0, .slice none 0 0] 47 (0, 0))
  box : V.heap[Bc]? = some (.cells #[.int .i64 0, .int .i64 1, .slice (some ⟨Bp, 0, none⟩) 3 3, .slice wa n wq, .slice none 0 0] 26 (0, 0))
  wins : V.ownsRow w1.heap.size 55 3 (.slice wa n wq) n (shW.cells ws)
  whose : V.ownsRow w1.heap.size 3 1 (.slice a9 L c9) L (shN.cells wh)
  lenW : ws.length = n
  lenH : wh.length = L
  newC : w1.heap.size ≤ Bc
section
variable {w1 V W2 : World} {Bp Bc n L wq c9 : Nat} {ws : List WinV} {wh : List Int} {wa a9 : Option Addr}
theorem FwSt.up (h : FwSt w1 V Bp Bc ws wh n L wa wq a9 c9) (hg : V.grownBy W2 none) : FwSt w1 W2 Bp Bc ws wh n L wa wq a9 c9 :=
  ⟨grownBy_trans h.grown hg, hp_keep h.parts hg, hp_keep h.box hg, own_kept h.wins hg, own_kept h.whose hg, h.lenW, h.lenH, h.newC⟩
theorem FwSt.app (h : FwSt w1 V Bp Bc ws wh n L wa wq a9 c9) (o : Obj) (x : Int) {a' : Option Addr} {c' : Nat} (ho : W2.ownsRow w1.heap.size 3 1 (.slice a' (L + 1) c') (L + 1) (shN.cells (wh ++ [x]))) (hg : (V.alloc o).grownBy W2 (Value.slice a9 L c9).ownBlock) : FwSt w1 W2 Bp Bc ws (wh ++ [x]) n (L + 1) wa wq a' c' := by
  have h2 := h.up (World.grownBy_alloc V o none)
  exact ⟨grown_app h2.grown h2.whose (Nat.le_refl _) hg, box_app h2.parts h2.whose hg (by decide), box_app h2.box h2.whose hg (by decide), own_app h2.wins h2.whose hg (by decide), ho, h.lenW, by simp [h.lenH], h.newC⟩
/-- Behind append onto the windows, ahead of the store. -/
theorem FwSt.appW (h : FwSt w1 V Bp Bc ws wh n L wa wq a9 c9) (o : Obj) {ws' : List WinV} {a' : Option Addr} {c' : Nat} (ho : W2.ownsRow w1.heap.size 55 3 (.slice a' (n + 1) c') (n + 1) (shW.cells ws')) (hl : ws'.length = n + 1) (hg : (V.alloc o).grownBy W2 (Value.slice wa n wq).ownBlock) :
    W2.heap[Bc]? = some (.cells #[.int .i64 0, .int .i64 1, .slice (some ⟨Bp, 0, none⟩) 3 3, .slice wa n wq, .slice none 0 0] 26 (0, 0)) ∧ FwSt w1 (W2.setCell ⟨Bc, 3, none⟩ (.slice a' (n + 1) c')) Bp Bc ws' wh (n + 1) L a' c' a9 c9 := by
  have h2 := h.up (World.grownBy_alloc V o none)
  have b := box_app h2.box h2.wins hg (by decide)
  have T := type_box b
  have gs := grownBy_set W2 Bc 3 (.slice a' (n + 1) c')
  refine ⟨b, ⟨grown_spoil (grown_app h2.grown h2.wins (Nat.le_refl _) hg) h.newC gs, box_type (box_app h2.parts h2.wins hg (by decide)) gs T (by decide), blk_set2 b rfl, own_type ho gs T (by decide), own_type (own_app h2.whose h2.wins hg (by decide)) gs T (by decide), hl, h.lenH, h.newC⟩⟩
end
/-- The configuration that the law has made. -/
theorem fw_conf {W : World} {Bp n wq base : Nat} {fr : Int} {ws : List WinV} {wa : Option Addr} {L : Nat} (hp : W.heap[Bp]? = some (.cells #[.int .i64 1, .slice none 0 0, .slice none 0 0, .int .i64 0, .slice none 0 0, .slice none 0 0, .int .i64 0, .slice none 0 0, .slice none 0 0] 47 (0, 0))) (hw : W.ownsRow base 55 3 (.slice wa n wq) n (shW.cells ws)) (hn : ws.length = n) (hf : fr = (L : Int) + 1) :
    ConfAt 0 W (.agg #[.int .i64 fr, .int .i64 1, .slice (some ⟨Bp, 0, none⟩) 3 3, .slice wa n wq, .slice none 0 0]) (fwC ws L) := by
  subst hf hn
  refine ⟨_, _, _, rfl, ⟨[⟨1, none, 0, 0, none, 0, 0⟩, ⟨0, none, 0, 0, none, 0, 0⟩, ⟨0, none, 0, 0, none, 0, 0⟩], rfl, row_blk (S := shP) [_, _, _] rfl (by simp) hp 0 (by omega), ?_⟩, (rowAt_own (S := shW) (e := 55) hw).mono (Nat.zero_le _), rowAt_nil _ _ _ _⟩
  intro i q p hq hp'
  match i, hq, hp' with
  | 0, hq, hp' =>
    simp only [List.getElem?_cons_zero, Option.some.injEq] at hq
    have hp' : (⟨1, [], []⟩ : PartV) = p := by simpa [fwC] using hp'
    subst hq hp'
    exact ⟨rfl, rowAt_nil _ _ _ _, rowAt_nil _ _ _ _⟩
  | 1, hq, hp' =>
    simp only [List.getElem?_cons_succ, List.getElem?_cons_zero, Option.some.injEq] at hq
    have hp' : (⟨0, [], []⟩ : PartV) = p := by simpa [fwC] using hp'
    subst hq hp'
    exact ⟨rfl, rowAt_nil _ _ _ _, rowAt_nil _ _ _ _⟩
  | 2, hq, hp' =>
    simp only [List.getElem?_cons_succ, List.getElem?_cons_zero, Option.some.injEq] at hq
    have hp' : (⟨0, [], []⟩ : PartV) = p := by simpa [fwC] using hp'
    subst hq hp'
    exact ⟨rfl, rowAt_nil _ _ _ _, rowAt_nil _ _ _ _⟩
  | k + 3, hq, _ => simp at hq

set_option maxRecDepth 100000 in
set_option maxHeartbeats 4000000 in
theorem frameWindows_any (v0 v1 : Value) (z0 z1 : List Int) (t : Int) (w : World) (hT : Tab w) (h0 : RowAt shN 0 w v0 z0) (h1 : RowAt shN 0 w v1 z1) :
    Calls Tryd.prog 7 #[v0, v1, .int .i64 t] w fun e w' => e = .returned (.bool true) ∧ w.grownBy w' none := by
  have NUM : Hid (∀ (e : Int) (W : World), Calls Tryd.prog 15 #[.int .i64 e] W fun r w' => r = .returned (.int .i64 e) ∧ W = w') := fun e W => (num_any e W).mono fun _ _ h => ⟨h.1, h.2.symm⟩
  have HT := hide hT
  have HV0 := hide (fun W => h0.grown (W := W))
  have HV1 := hide (fun W => h1.grown (W := W))
  obtain ⟨hl0, ga, gc, rfl, -⟩ := h0
  obtain ⟨hl1, sa, sc, rfl, -⟩ := h1
  clear hT
  generalize hN0 : z0.length = n0 at *
  have HN0 := hide hN0
  generalize hN1 : z1.length = n1 at *
  have HN1 := hide hN1
  clear hN0 hN1
  obtain ⟨T, hT1, hT2⟩ := and20' t
  go_enter Tryd.func7, Tryd.ntmps7
  go_wp2_with (first | fail)
  refine (awake_any w HT.out).mono ?_; rintro e w1 ⟨rfl, hg⟩
  have G1 := hide hg
  clear hg
  go_upto_region 4 with fail
  have hB1 := heap_alloc_new w1 (.cells #[.int .i64 1, .slice none 0 0, .slice none 0 0, .int .i64 0, .slice none 0 0, .slice none 0 0, .int .i64 0, .slice none 0 0, .slice none 0 0] 47)
  have HS0 : Hid (FwSt w1 ((w1.alloc (.cells #[.int .i64 1, .slice none 0 0, .slice none 0 0, .int .i64 0, .slice none 0 0, .slice none 0 0, .int .i64 0, .slice none 0 0, .slice none 0 0] 47)).alloc (.cells #[.int .i64 0, .int .i64 1, .slice (some ⟨w1.heap.size, 0, none⟩) 3 3, .slice none 0 0, .slice none 0 0] 26)) w1.heap.size (w1.heap.size + 1) [] [] 0 0 none 0 none 0) :=
    ⟨grownBy_trans (World.grownBy_alloc _ _ _) (World.grownBy_alloc _ _ _), hp_up hB1 _, heap_at _ _ _ (by simp), ⟨rfl, .inl ⟨rfl, rfl⟩⟩, ⟨rfl, .inl ⟨rfl, rfl⟩⟩, rfl, rfl, by omega⟩
  clear hB1
  generalize (w1.alloc (.cells #[.int .i64 1, .slice none 0 0, .slice none 0 0, .int .i64 0, .slice none 0 0, .slice none 0 0, .int .i64 0, .slice none 0 0, .slice none 0 0] 47)).alloc (.cells #[.int .i64 0, .int .i64 1, .slice (some ⟨w1.heap.size, 0, none⟩) 3 3, .slice none 0 0, .slice none 0 0] 26) = w2 at *
  generalize hBp : w1.heap.size = Bp at HS0 ⊢
  generalize hBc : Bp + 1 = Bc at *
  clear hBp hBc
  go_wp2
  go_loopw [8, 9, 10] (fun at8 v9 s V => ∃ (i L : Nat) (ws : List WinV) (wh : List Int) (wa : Option Addr) (wq : Nat) (a9 : Option Addr) (c9 : Nat), i ≤ 8 ∧ i ≤ n0 ∧ L ≤ 11 * i ∧ s = .int .i64 i ∧ at8 = .int .i64 L ∧ v9 = .slice a9 L c9 ∧ Hid (Laid6 ws wh) ∧ Hid (FwSt w1 V Bp Bc ws wh i L wa wq a9 c9)) (fun _ _ s _ => 8 - (intOf s).toNat)
  case atStart => exact ⟨0, 0, [], [], none, 0, none, 0, by omega, by omega, by omega, rfl, rfl, rfl, laid6_nil, HS0⟩
  case round =>
    obtain ⟨i, L, ws, wh, wa, wq, a9, c9, hi8, hin, hL, rfl, rfl, rfl, HLD, HS⟩ := hrel
    by_cases hb : i < n0 ∧ i < 8
    · obtain ⟨hb1, hb2⟩ := hb
      have HR0 := hide (HV0.out wr (grownBy_trans G1.out HS.out.grown))
      obtain ⟨g0, o0, rfl⟩ := int_addr HR0.out (by omega)
      obtain ⟨x0, hx0⟩ : ∃ x, z0[i]? = some x := ⟨_, List.getElem?_eq_getElem (by rw [HN0.out]; exact hb1)⟩
      have c0 := int_cell HR0.out hx0
      obtain ⟨g, hg3, hg4⟩ := and2 x0
      clear hx0 HR0
      obtain ⟨p, hp⟩ : ∃ p : Nat, p = i % 3 := ⟨_, rfl⟩
      have hp3 : p < 3 := by omega
      have htm : Int.tmod (i : Int) 3 = (p : Int) := by rw [Int.tmod_eq_emod_of_nonneg (by omega)]; omega
      clear hp
      go_upto_if 43 with fail
      go_cut [12] (fun v V => ∃ s : Nat, 1 ≤ s ∧ s ≤ 8 ∧ v = .int .i64 s ∧ V = wr)
      case first =>
        by_cases hs : i < n1
        · have HR1 := hide (HV1.out wr (grownBy_trans G1.out HS.out.grown))
          obtain ⟨g1, o1, rfl⟩ := int_addr HR1.out (by omega)
          obtain ⟨x1, hx1⟩ : ∃ x, z1[i]? = some x := ⟨_, List.getElem?_eq_getElem (by rw [HN1.out]; exact hs)⟩
          have c1 := int_cell HR1.out hx1
          obtain ⟨d, hd3, hd4⟩ := and3' x1
          clear hx1 HR1
          go_wp2_with fail
          go_meet
          case rel => exact ⟨d + 1, by omega, by omega, by congr 1; omega, rfl⟩
        · go_wp2_with fail
          go_meet
          case rel => exact ⟨1, by omega, by omega, rfl, rfl⟩
      case rest =>
        obtain ⟨s, hs1, hs2, rfl, rfl⟩ := hcut
        clear c0 hg4
        go_wp2
        go_loopw [9, 13] (fun v k V => ∃ (m : Nat) (a : Option Addr) (c : Nat), m ≤ g ∧ k = .int .i64 m ∧ v = .slice a (L + m) c ∧ Hid (FwSt w1 V Bp Bc ws (wh ++ List.replicate m (-1)) i (L + m) wa wq a c)) (fun _ k _ => g - (intOf k).toNat)
        case atStart => exact ⟨0, a9, c9, by omega, rfl, rfl, by have h := HS.out; rw [← List.append_nil wh] at h; exact h⟩
        case round =>
          obtain ⟨m, a, c, hm, rfl, rfl, HI⟩ := hrel
          by_cases hmg : m < g
          · go_wp2_with (at_builtin; refine app_row (S := shN) _ rfl _ _ 53 3 _ 8 Tryd.underlying53 infoN rfl rfl w1.heap.size (.slice a (L + m) c) (L + m) (wh ++ List.replicate m (-1)) rfl ?c0 ⟨wr.heap.size, 0, none⟩ 1 1 [-1] rfl rfl ?c1 ?c2 ?c3 ?c4 ?_)
            case c0 => exact HI.out.whose.alloc _
            case c1 => exact one_at shN (-1) (heap_alloc_new wr _)
            case c2 => omega
            case c3 => omega
            case c4 => have := HI.out.grown.size; simp; omega
            intro a3 cap3 w3 hown hgrow _
            have HI2 := hide (HI.out.app _ (-1) (by simp only [List.append_assoc]; exact hown) hgrow)
            clear hown hgrow
            go_wp2
            go_roundw
            case rel => exact ⟨m + 1, a3, cap3, by omega, by go_num, rfl, by have h := HI2.out; rw [List.append_assoc, ← List.replicate_succ'] at h; exact h⟩
            case measure => simp [intOf]; omega
          · have e : m = g := by omega
            subst e
            clear hmg hm
            go_wp2
            go_loopw [9, 14] (fun v k V => ∃ (q : Nat) (a : Option Addr) (c : Nat), q ≤ s ∧ k = .int .i64 q ∧ v = .slice a (L + m + q) c ∧ Hid (FwSt w1 V Bp Bc ws (wh ++ List.replicate m (-1) ++ List.replicate q (p : Int)) i (L + m + q) wa wq a c)) (fun _ k _ => s - (intOf k).toNat)
            case atStart => exact ⟨0, a, c, by omega, rfl, rfl, by have h := HI.out; rw [← List.append_nil (wh ++ List.replicate m (-1))] at h; exact h⟩
            case round =>
              clear HI
              obtain ⟨q, a, c, hq, rfl, rfl, HI⟩ := hrel
              by_cases hqs : q < s
              · go_wp2_with (at_builtin; refine app_row (S := shN) _ rfl _ _ 53 3 _ 8 Tryd.underlying53 infoN rfl rfl w1.heap.size (.slice a (L + m + q) c) (L + m + q) (wh ++ List.replicate m (-1) ++ List.replicate q (p : Int)) rfl ?c0 ⟨wr.heap.size, 0, none⟩ 1 1 [(p : Int)] rfl rfl ?c1 ?c2 ?c3 ?c4 ?_)
                case c0 => exact HI.out.whose.alloc _
                case c1 => exact one_at shN (p : Int) (heap_alloc_new wr _)
                case c2 => omega
                case c3 => omega
                case c4 => have := HI.out.grown.size; simp; omega
                intro a3 cap3 w3 hown hgrow _
                have HI2 := hide (HI.out.app _ (p : Int) (by simp only [List.append_assoc]; exact hown) hgrow)
                clear hown hgrow
                go_wp2
                go_roundw
                case rel => exact ⟨q + 1, a3, cap3, by omega, by go_num, rfl, by have h := HI2.out; rw [List.append_assoc, ← List.replicate_succ'] at h; exact h⟩
                case measure => simp [intOf]; omega
              · have e : q = s := by omega
                subst e
                clear hqs hq
                have k3 : wr.cell? ⟨Bc, 3, none⟩ = some (.slice wa i wq) := blk_cell HI.out.box 3
                have HL2 := hide (show Laid6 (ws ++ [⟨(L : Int) + m, (L : Int) + m + q, (p : Int)⟩]) (wh ++ List.replicate m (-1) ++ List.replicate q (p : Int)) by
                  have h := HLD.out.snoc m q (p : Int) (by omega) (by omega) (by omega)
                  rw [HS.out.lenH] at h
                  exact h)
                go_wp2_with (at_builtin; refine app_row (S := shW) _ rfl _ _ 23 55 _ 24 Tryd.underlying23 infoW rfl rfl w1.heap.size (.slice wa i wq) i ws rfl ?c0 ⟨wr.heap.size, 0, none⟩ 1 1 [⟨(L : Int) + m, (L : Int) + m + q, (p : Int)⟩] rfl rfl ?c1 ?c2 ?c3 ?c4 ?_)
                case c0 => exact HI.out.wins.alloc _
                case c1 => exact one_at shW (⟨(L : Int) + m, (L : Int) + m + q, (p : Int)⟩ : WinV) (heap_alloc_new wr _)
                case c2 => omega
                case c3 => omega
                case c4 => have := HI.out.grown.size; simp; omega
                intro a3 cap3 w3 hown hgrow _
                obtain ⟨hbx, hst⟩ := HI.out.appW _ hown (by simp [HI.out.lenW]) hgrow
                have HST := hide hst
                have k3' : w3.cell? ⟨Bc, 3, none⟩ = some (.slice wa i wq) := blk_cell hbx 3
                have kf := blk_free hbx
                clear hown hgrow hst k3 hbx
                go_wp2
                go_roundw
                case rel => exact ⟨i + 1, L + m + q, _, _, a3, cap3, a, c, by omega, by omega, by omega, by go_num, by go_num, rfl, HL2, HST⟩
                case measure => simp [intOf]; omega
    · have HANS := hide (HLD.out.answer (by rw [HS.out.lenW]; omega) (by rw [HS.out.lenH]; omega) T hT1)
      rw [HS.out.lenH] at HANS
      have CAT := hide (fun W (hg : w1.grownBy W none) (v : Value) (h : ConfAt 0 W v (fwC ws L)) => at_any v (fwC ws L) T W (HT.out.grown (grownBy_trans G1.out hg)) h)
      generalize atV (fwC ws L) T = av at *
      generalize atE (fwC ws L) T = ae at *
      obtain ⟨hae, hav⟩ := HANS.out
      have HAV := hide hav
      clear hav HANS
      subst hae
      by_cases hb1 : i < n0
      · have hb2 : ¬ i < 8 := fun e => hb ⟨hb1, e⟩
        clear hb
        go_wp2_with (at_builtin; refine app_row (S := shN) _ rfl _ _ 53 3 _ 8 Tryd.underlying53 infoN rfl rfl w1.heap.size (.slice a9 L c9) L wh rfl ?c0 ⟨wr.heap.size, 0, none⟩ 1 1 [-1] rfl rfl ?c1 ?c2 ?c3 ?c4 ?_)
        case c0 => exact HS.out.whose.alloc _
        case c1 => exact one_at shN (-1) (heap_alloc_new wr _)
        case c2 => omega
        case c3 => omega
        case c4 => have := HS.out.grown.size; simp; omega
        intro a3 cap3 w3 hown hgrow _
        have HI2 := hide (HS.out.app _ (-1) hown hgrow)
        clear hown hgrow HS
        have k0 : w3.cell? ⟨Bc, 0, none⟩ = some (.int .i64 0) := blk_cell HI2.out.box 0
        have kf := blk_free HI2.out.box
        go_upto_region 24 with fail
        have gs := grownBy_set w3 Bc 0 (.int .i64 ((L : Int) + 1))
        have TB := type_box HI2.out.box
        have G4 := hide (grown_spoil HI2.out.grown HI2.out.newC gs)
        have HBX := hide (show (w3.setCell ⟨Bc, 0, none⟩ (.int .i64 ((L : Int) + 1))).heap[Bc]? = some (.cells #[.int .i64 ((L : Int) + 1), .int .i64 1, .slice (some ⟨Bp, 0, none⟩) 3 3, .slice wa i wq, .slice none 0 0] 26 (0, 0)) from blk_set2 HI2.out.box rfl)
        have HCF := hide (fw_conf (L := L) (box_type HI2.out.parts gs TB (by decide)) (own_type HI2.out.wins gs TB (by decide)) HI2.out.lenW rfl)
        have HWO := hide (own_type HI2.out.whose gs TB (by decide))
        clear gs TB HI2 k0 kf
        generalize w3.setCell ⟨Bc, 0, none⟩ (.int .i64 ((L : Int) + 1)) = w4 at *
        have d0 : w4.cell? ⟨Bc, 0, none⟩ = some (.int .i64 ((L : Int) + 1)) := blk_cell HBX.out 0
        have d1 : w4.cell? ⟨Bc, 1, none⟩ = some (.int .i64 1) := blk_cell HBX.out 1
        have d2 : w4.cell? ⟨Bc, 2, none⟩ = some (.slice (some ⟨Bp, 0, none⟩) 3 3) := blk_cell HBX.out 2
        have d3 : w4.cell? ⟨Bc, 3, none⟩ = some (.slice wa i wq) := blk_cell HBX.out 3
        have d4 : w4.cell? ⟨Bc, 4, none⟩ = some (.slice none 0 0) := blk_cell HBX.out 4
        obtain ⟨g9, rfl, -, hc9, hm9⟩ := own_cap HWO.out (by omega)
        go_wp2_with (first | fail)
        refine (CAT.out _ G4.out _ HCF.out).mono ?_; rintro e w5 ⟨rfl, hg⟩
        have HWO5 := hide (own_kept HWO.out hg)
        have G5 := hide (grownBy_trans G4.out hg)
        clear hg d0 d1 d2 d3 d4
        have hcl : w5.cell? ⟨g9, T % (L + 1), none⟩ = some (.int .i64 av) := by
          have h := HWO5.out.cells (g := g9) rfl _ _ (shN.cells_get _ _ _ HAV.out 0 _ rfl)
          rw [Go.WideShapes.add_plain] at h
          simpa [shN] using h
        have hml : T % (L + 1) < L + 1 := Nat.mod_lt _ (by omega)
        have htm : Int.tmod (T : Int) ((L : Int) + 1) = ((T % (L + 1) : Nat) : Int) := by rw [Int.tmod_eq_emod_of_nonneg (by omega), Int.natCast_emod]; norm_cast
        have htm2 : Int.tmod (T : Int) ((L + 1 : Nat) : Int) = ((T % (L + 1) : Nat) : Int) := by rw [Int.tmod_eq_emod_of_nonneg (by omega), Int.natCast_emod]
        have hne : ((L : Int) + 1) ≠ 0 := by omega
        generalize T % (L + 1) = mm at *
        go_wp2_with (go_at_call 15; refine (NUM.out _ _).mono ?_; rintro e w' ⟨rfl, rfl⟩)
        go_ret
        exact ⟨rfl, grownBy_trans G1.out G5.out⟩
      · clear hb
        go_wp2_with (at_builtin; refine app_row (S := shN) _ rfl _ _ 53 3 _ 8 Tryd.underlying53 infoN rfl rfl w1.heap.size (.slice a9 L c9) L wh rfl ?c0 ⟨wr.heap.size, 0, none⟩ 1 1 [-1] rfl rfl ?c1 ?c2 ?c3 ?c4 ?_)
        case c0 => exact HS.out.whose.alloc _
        case c1 => exact one_at shN (-1) (heap_alloc_new wr _)
        case c2 => omega
        case c3 => omega
        case c4 => have := HS.out.grown.size; simp; omega
        intro a3 cap3 w3 hown hgrow _
        have HI2 := hide (HS.out.app _ (-1) hown hgrow)
        clear hown hgrow HS
        have k0 : w3.cell? ⟨Bc, 0, none⟩ = some (.int .i64 0) := blk_cell HI2.out.box 0
        have kf := blk_free HI2.out.box
        go_upto_region 24 with fail
        have gs := grownBy_set w3 Bc 0 (.int .i64 ((L : Int) + 1))
        have TB := type_box HI2.out.box
        have G4 := hide (grown_spoil HI2.out.grown HI2.out.newC gs)
        have HBX := hide (show (w3.setCell ⟨Bc, 0, none⟩ (.int .i64 ((L : Int) + 1))).heap[Bc]? = some (.cells #[.int .i64 ((L : Int) + 1), .int .i64 1, .slice (some ⟨Bp, 0, none⟩) 3 3, .slice wa i wq, .slice none 0 0] 26 (0, 0)) from blk_set2 HI2.out.box rfl)
        have HCF := hide (fw_conf (L := L) (box_type HI2.out.parts gs TB (by decide)) (own_type HI2.out.wins gs TB (by decide)) HI2.out.lenW rfl)
        have HWO := hide (own_type HI2.out.whose gs TB (by decide))
        clear gs TB HI2 k0 kf
        generalize w3.setCell ⟨Bc, 0, none⟩ (.int .i64 ((L : Int) + 1)) = w4 at *
        have d0 : w4.cell? ⟨Bc, 0, none⟩ = some (.int .i64 ((L : Int) + 1)) := blk_cell HBX.out 0
        have d1 : w4.cell? ⟨Bc, 1, none⟩ = some (.int .i64 1) := blk_cell HBX.out 1
        have d2 : w4.cell? ⟨Bc, 2, none⟩ = some (.slice (some ⟨Bp, 0, none⟩) 3 3) := blk_cell HBX.out 2
        have d3 : w4.cell? ⟨Bc, 3, none⟩ = some (.slice wa i wq) := blk_cell HBX.out 3
        have d4 : w4.cell? ⟨Bc, 4, none⟩ = some (.slice none 0 0) := blk_cell HBX.out 4
        obtain ⟨g9, rfl, -, hc9, hm9⟩ := own_cap HWO.out (by omega)
        go_wp2_with (first | fail)
        refine (CAT.out _ G4.out _ HCF.out).mono ?_; rintro e w5 ⟨rfl, hg⟩
        have HWO5 := hide (own_kept HWO.out hg)
        have G5 := hide (grownBy_trans G4.out hg)
        clear hg d0 d1 d2 d3 d4
        have hcl : w5.cell? ⟨g9, T % (L + 1), none⟩ = some (.int .i64 av) := by
          have h := HWO5.out.cells (g := g9) rfl _ _ (shN.cells_get _ _ _ HAV.out 0 _ rfl)
          rw [Go.WideShapes.add_plain] at h
          simpa [shN] using h
        have hml : T % (L + 1) < L + 1 := Nat.mod_lt _ (by omega)
        have htm : Int.tmod (T : Int) ((L : Int) + 1) = ((T % (L + 1) : Nat) : Int) := by rw [Int.tmod_eq_emod_of_nonneg (by omega), Int.natCast_emod]; norm_cast
        have htm2 : Int.tmod (T : Int) ((L + 1 : Nat) : Int) = ((T % (L + 1) : Nat) : Int) := by rw [Int.tmod_eq_emod_of_nonneg (by omega), Int.natCast_emod]
        have hne : ((L : Int) + 1) ≠ 0 := by omega
        generalize T % (L + 1) = mm at *
        go_wp2_with (go_at_call 15; refine (NUM.out _ _).mono ?_; rintro e w' ⟨rfl, rfl⟩)
        go_ret
        exact ⟨rfl, grownBy_trans G1.out G5.out⟩
#print axioms frameWindows_any
end Go.Proofs.YtgaegggiehhcpabDoor.P6

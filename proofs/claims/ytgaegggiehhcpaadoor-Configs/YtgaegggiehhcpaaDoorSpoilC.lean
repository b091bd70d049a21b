/- The contract of the statements' own SpoilConfig, proved over the translation. -/
import Derived.Test.YtgaegggiehhcpaaDoorSpoil
namespace Go.Proofs.YtgaegggiehhcpaaDoor.R5
open Go.RowKit
attribute [local go_sem] alloc_drewN setCell_drewN

theorem Sh.pre {lo hi : Nat} {W W1 V : World} (hg : W.grownBy W1 none) (h : Sh lo hi W1 V) : Sh lo hi W V := by
  have key : ∀ k, k < W.heap.size → W1.heap[k]? = W.heap[k]? := fun k hk => hg.block k hk (by simp)
  have sz := hg.size
  refine ⟨h.os.trans hg.os, h.tape.trans hg.tape, h.output.trans hg.output, Nat.le_trans hg.size h.size, fun k hk hn => (h.block k (by omega) hn).trans (key k hk), fun g j x hg' hx => h.num g j x (by omega) ?_, fun g j a n c hg' hx => h.other g j a n c (by omega) ?_, fun g j hg' hx => h.free g j (by omega) ?_⟩
  · rw [← hx]; exact World.cell?_of_block (a := ⟨g, j, none⟩) (key g hg')
  · rw [← hx]; exact World.cell?_of_block (a := ⟨g, j, none⟩) (key g hg')
  · rw [← hx]; simp [World.frozen?, key g hg']
/-- What a row's cell is while its numbers are spoilt. -/
theorem sh_num {lo g j : Nat} {W0 W V : World} {x : Int} (hw : W0.cell? ⟨g, j, none⟩ = some (.int .i64 x)) (hlt : g < W0.heap.size) (hg : W0.grownBy W none) (h : Sh lo W0.heap.size W V) : ∃ y, V.cell? ⟨g, j, none⟩ = some (.int .i64 y) :=
  h.num g j x (by have := hg.size; omega) ((World.cell?_of_block (a := ⟨g, j, none⟩) (hg.block g hlt (by simp))).trans hw)
theorem sh_sl {lo g j n c : Nat} {a : Option Addr} {W0 W V : World} (hw : W0.cell? ⟨g, j, none⟩ = some (.slice a n c)) (hlt : g < W0.heap.size) (hg : W0.grownBy W none) (h : Sh lo W0.heap.size W V) : V.cell? ⟨g, j, none⟩ = some (.slice a n c) :=
  h.other g j a n c (by have := hg.size; omega) ((World.cell?_of_block (a := ⟨g, j, none⟩) (hg.block g hlt (by simp))).trans hw)
theorem sh_free {lo g j : Nat} {W0 W V : World} (hw : W0.frozen? ⟨g, j, none⟩ = false) (hlt : g < W0.heap.size) (hg : W0.grownBy W none) (h : Sh lo W0.heap.size W V) : V.frozen? ⟨g, j, none⟩ = false :=
  h.free g j (by have := hg.size; omega) (by rw [← hw]; simp [World.frozen?, hg.block g hlt (by simp)])

set_option maxRecDepth 100000 in
set_option maxHeartbeats 4000000 in
theorem spoilC {lo : Nat} {W0 W : World} (d : Value) (D : ConfV) (hd : ConfOwn lo W0 d D) (hg0 : W0.grownBy W none) :
    Calls Tryd.prog 18 #[d] W fun e V' => e = .returned (.tuple #[]) ∧ Sh lo W0.heap.size W V' := by
  obtain ⟨vp, vw, vo, rfl, ⟨qs, hql, hqr, hqe⟩, hw, ho⟩ := hd
  have HQE := hide hqe
  have HP := hide hqr
  have HW := hide hw
  have HO := hide ho
  have HQL := hide hql
  obtain ⟨hl0, pa, pc, rfl, hpa⟩ := rowAt_own (S := shP) hqr
  obtain ⟨hl1, wa, wq, rfl, hwa⟩ := rowAt_own (S := shW) hw
  obtain ⟨hl2, oa, oc, rfl, hoa⟩ := rowAt_own (S := shO) ho
  have HPA := hide hpa
  have HWA := hide hwa
  have HOA := hide hoa
  clear hpa hwa hoa hqe hqr hw ho hql
  generalize D.frame = fr at *
  generalize D.quiet = qt at *
  generalize D.wins = ws at *
  generalize D.ports = os at *
  generalize D.parts = ps at *
  generalize hn0 : qs.length = n0 at *
  generalize hn1 : ws.length = n1 at *
  generalize hn2 : os.length = n2 at *
  have HN0 := hide hn0
  have HN1 := hide hn1
  have HN2 := hide hn2
  clear hn0 hn1 hn2
  have HGX := hide (World.grownBy_alloc W (.cells #[.int .i64 fr, .int .i64 qt, .slice pa n0 pc, .slice wa n1 wq, .slice oa n2 oc] 26) none)
  have HG1 := hide (grownBy_trans hg0 HGX.out)
  have HBX := hide (heap_alloc_new W (.cells #[.int .i64 fr, .int .i64 qt, .slice pa n0 pc, .slice wa n1 wq, .slice oa n2 oc] 26))
  have hsz : W0.heap.size ≤ W.heap.size := hg0.size
  have HLT := hide (show W.heap.size < (W.alloc (.cells #[.int .i64 fr, .int .i64 qt, .slice pa n0 pc, .slice wa n1 wq, .slice oa n2 oc] 26)).heap.size by simp)
  clear hg0
  have HFIN := hide (fun V (h : Sh lo W0.heap.size (W.alloc (.cells #[.int .i64 fr, .int .i64 qt, .slice pa n0 pc, .slice wa n1 wq, .slice oa n2 oc] 26)) V) => Sh.pre HGX.out h)
  have HST := hide (Sh.refl lo W0.heap.size (W.alloc (.cells #[.int .i64 fr, .int .i64 qt, .slice pa n0 pc, .slice wa n1 wq, .slice oa n2 oc] 26)))
  go_enter Tryd.func18, Tryd.ntmps18
  go_upto_region 1 with fail
  generalize W.alloc (.cells #[.int .i64 fr, .int .i64 qt, .slice pa n0 pc, .slice wa n1 wq, .slice oa n2 oc] 26) = W1 at *
  have KB : Hid (∀ V, Sh lo W0.heap.size W1 V → V.cell? ⟨W.heap.size, 2, none⟩ = some (.slice pa n0 pc) ∧ V.cell? ⟨W.heap.size, 3, none⟩ = some (.slice wa n1 wq) ∧ V.cell? ⟨W.heap.size, 4, none⟩ = some (.slice oa n2 oc)) := fun V h => by
    have e := (h.block W.heap.size HLT.out (.inr hsz)).trans HBX.out
    exact ⟨blk_cell e 2, blk_cell e 3, blk_cell e 4⟩
  clear HBX HLT HGX
  go_wp2
  go_loopw [2] (fun i X => ∃ j : Nat, j ≤ n0 ∧ i = .int .i64 j ∧ Hid (Sh lo W0.heap.size W1 X)) (fun i _ => n0 - (intOf i).toNat)
  case atStart => exact ⟨0, by omega, rfl, HST⟩
  case round =>
    obtain ⟨j, hj, rfl, HS⟩ := hrel
    obtain ⟨b2, b3, b4⟩ := KB.out _ HS.out
    by_cases hlt : j < n0
    · obtain ⟨g, o, rfl, hlo, hc⟩ := HPA.out (by omega)
      obtain ⟨m1, m2, m3⟩ := own_at HP.out
      have M2 := hide m2
      have M3 := hide m3
      obtain ⟨q, hq⟩ : ∃ q, qs[j]? = some q := ⟨_, List.getElem?_eq_getElem (by have := HN0.out; omega)⟩
      obtain ⟨p, hp⟩ : ∃ p, ps[j]? = some p := ⟨_, List.getElem?_eq_getElem (by have := HN0.out; have := HQL.out; omega)⟩
      have HQ := hide (HQE.out j q p hq hp).1
      have X0 : Hid (W0.cell? ⟨g, o + j * 3, none⟩ = some (.int .i64 q.level)) := hc j q hq 0 _ rfl
      have X1 : Hid (W0.cell? ⟨g, o + j * 3 + 1, none⟩ = some (.slice q.ta q.tn q.tc)) := hc j q hq 1 _ rfl
      have X2 : Hid (W0.cell? ⟨g, o + j * 3 + 2, none⟩ = some (.slice q.ca q.cn q.cc)) := hc j q hq 2 _ rfl
      clear hc hq hp m2 m3
      have CT := hide (fun V (h : Sh lo W0.heap.size W1 V) => spoilT (.slice q.ta q.tn q.tc) p.tasks HQ.out.2.1 HG1.out V h)
      have CI := hide (fun V (h : Sh lo W0.heap.size W1 V) => spoilI (.slice q.ca q.cn q.cc) p.code HQ.out.2.2 HG1.out V h)
      have x1 := sh_sl X1.out M2.out HG1.out HS.out
      go_wp2_with (first | fail)
      refine (CT.out _ HS.out).mono ?_; rintro e w2 ⟨rfl, hs2⟩
      have HS2 := hide hs2
      clear hs2 b2 b3 b4 x1
      obtain ⟨b2, b3, b4⟩ := KB.out _ HS2.out
      have x2 := sh_sl X2.out M2.out HG1.out HS2.out
      go_wp2_with (first | fail)
      refine (CI.out _ HS2.out).mono ?_; rintro e w3 ⟨rfl, hs3⟩
      have HS3 := hide hs3
      clear hs3 b2 b3 b4 x2
      obtain ⟨b2, b3, b4⟩ := KB.out _ HS3.out
      obtain ⟨y, hy⟩ := sh_num X0.out M2.out HG1.out HS3.out
      have hf := sh_free (M3.out (o + j * 3)) M2.out HG1.out HS3.out
      have HY := hide hy
      go_wp2
      go_region
      all_goals
        go_wp2
        go_roundw
        case rel => exact ⟨j + 1, by omega, by go_num, (HS3.out.set HY.out hlo.1 M2.out).grown (drew_grown _)⟩
        case measure => simp [intOf]; omega
    · clear HST
      have HSA := HS
      have e : j = n0 := by omega
      subst e
      go_wp2
      go_loopw [3] (fun i X => ∃ j : Nat, j ≤ n1 ∧ i = .int .i64 j ∧ Hid (Sh lo W0.heap.size W1 X)) (fun i _ => n1 - (intOf i).toNat)
      case atStart => exact ⟨0, by omega, rfl, HSA⟩
      case round =>
        obtain ⟨j, hj, rfl, HS⟩ := hrel
        clear b2 b3 b4
        obtain ⟨b2, b3, b4⟩ := KB.out _ HS.out
        by_cases hlt : j < n1
        · obtain ⟨g, o, rfl, hlo, hc⟩ := HWA.out (by omega)
          obtain ⟨m1, m2, m3⟩ := own_at HW.out
          have M2 := hide m2
          have M3 := hide m3
          obtain ⟨t, ht⟩ : ∃ t, ws[j]? = some t := ⟨_, List.getElem?_eq_getElem (by have := HN1.out; omega)⟩
          have X0 := hide (hc j t ht 2 _ rfl)
          clear hc ht m2 m3
          obtain ⟨y, hy⟩ := sh_num (j := o + j * 3 + 2) X0.out M2.out HG1.out HS.out
          have hf := sh_free (M3.out (o + j * 3 + 2)) M2.out HG1.out HS.out
          have HY := hide hy
          go_wp2
          go_region
          all_goals
            go_wp2
            go_roundw
            case rel => exact ⟨j + 1, by omega, by go_num, (HS.out.set HY.out hlo.1 M2.out).grown (drew_grown _)⟩
            case measure => simp [intOf]; omega
        · have HSB := HS
          have e : j = n1 := by omega
          subst e
          clear HSA
          go_wp2
          go_loopw [4] (fun i X => ∃ j : Nat, j ≤ n2 ∧ i = .int .i64 j ∧ Hid (Sh lo W0.heap.size W1 X)) (fun i _ => n2 - (intOf i).toNat)
          case atStart => exact ⟨0, by omega, rfl, HSB⟩
          case round =>
            obtain ⟨j, hj, rfl, HS⟩ := hrel
            clear b2 b3 b4
            obtain ⟨b2, b3, b4⟩ := KB.out _ HS.out
            by_cases hlt : j < n2
            · obtain ⟨g, o, rfl, hlo, hc⟩ := HOA.out (by omega)
              obtain ⟨m1, m2, m3⟩ := own_at HO.out
              have M2 := hide m2
              have M3 := hide m3
              obtain ⟨t, ht⟩ : ∃ t, os[j]? = some t := ⟨_, List.getElem?_eq_getElem (by have := HN2.out; omega)⟩
              have X0 := hide (hc j t ht 1 _ rfl)
              clear hc ht m2 m3
              obtain ⟨y, hy⟩ := sh_num (j := o + j * 4 + 1) X0.out M2.out HG1.out HS.out
              have hf := sh_free (M3.out (o + j * 4 + 1)) M2.out HG1.out HS.out
              have HY := hide hy
              go_wp2
              go_region
              all_goals
                go_wp2
                go_roundw
                case rel => exact ⟨j + 1, by omega, by go_num, (HS.out.set HY.out hlo.1 M2.out).grown (drew_grown _)⟩
                case measure => simp [intOf]; omega
            · go_wp2
              go_end0
              exact ⟨rfl, HFIN.out _ HS.out⟩
#print axioms spoilC
end Go.Proofs.YtgaegggiehhcpaaDoor.R5

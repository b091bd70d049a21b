/- Contracts of the writer's part and config, and of package config's Put, proved over the translation. -/
import Derived.Test.YtgaegggiehhcpaaDoorLay
import Derived.Lib.AppendStr
namespace Go.Proofs.YtgaegggiehhcpaaDoor
open Go.RowKit
attribute [local go_sem] alloc_drewN setCell_drewN

def layPart (p : PartV) : List Int := be 1 p.level ++ (layAll layTask p.tasks ++ layAll layIns p.code)
/-- The bytes of a configuration. -/
def layConf (C : ConfV) : List Int := [78, 67] ++ (be 2 C.frame ++ (be 1 C.quiet ++ (layAll layPart C.parts ++ (layAll layWin C.wins ++ layAll layPort C.ports))))
theorem hmf (fn : Fn) (first cap : Array Value) (w : World) : (Instr.makeFunc fn first cap).run Tryd.prog w = .ok (.func fn first cap) w := rfl

set_option maxRecDepth 100000 in
set_option maxHeartbeats 1000000 in
theorem lay_P {lo : Nat} (b : Nat) (zs : List Int) (q : PartM) (p : PartV) (v : Value) (w : World) (hW : WAt w b v zs) (hP : ∀ W, Below b w W → PartIs lo W q p) (hlim : (zs ++ layPart p).length ≤ 1000000) :
    Calls Tryd.prog 57 #[.pointer (some ⟨b, 0, none⟩), .agg #[.int .i64 q.level, .slice q.ta q.tn q.tc, .slice q.ca q.cn q.cc]] w fun e w' => e = .returned (.tuple #[]) ∧ ∃ v', WAt w' b v' (zs ++ layPart p) ∧ Wrote b v w v' w' := by
  have hmf := hmf
  obtain ⟨pl, ts, cd⟩ := p
  obtain ⟨l, ta, tn, tc, ca, cn, cc⟩ := q
  have hlv : l = pl := (hP w (Below.refl _ _)).1
  subst hlv
  have HP := hide hP
  have hl1 : zs.length + 1 ≤ 1000000 := by unfold layPart at hlim; simp [be] at hlim; omega
  have hl2 : ((zs ++ [l].flatMap (be 1)) ++ layAll layTask ts).length ≤ 1000000 := by
    unfold layPart at hlim; simp only [List.length_append, List.flatMap_cons, List.flatMap_nil, List.append_nil] at hlim ⊢; omega
  have hl3 : (((zs ++ [l].flatMap (be 1)) ++ layAll layTask ts) ++ layAll layIns cd).length ≤ 1000000 := by
    unfold layPart at hlim; simp only [List.length_append, List.flatMap_cons, List.flatMap_nil, List.append_nil] at hlim ⊢; omega
  have HL1 := hide hl1
  have HL2 := hide hl2
  have HL3 := hide hl3
  clear hlim hl1 hl2 hl3 hP
  have HW0 := hide hW
  have HW1 := hide (hW.alloc (.cells #[.int .i64 l, .slice ta tn tc, .slice ca cn cc] 50))
  clear hW
  have HF : Hid (zs ++ layPart ⟨l, ts, cd⟩ = ((zs ++ [l].flatMap (be 1)) ++ layAll layTask ts) ++ layAll layIns cd) := hide (by simp [layPart, List.append_assoc])
  go_enter Tryd.func57, Tryd.ntmps57
  go_wp2_with (first | fail)
  refine (num_1_1 b zs l _ _ (w.heap.size + 1) (by simp) HW1.out HL1.out).mono ?_; rintro e w2 ⟨rfl, v2, hw, hr⟩
  have HW2 := hide hw
  have HR2 := hide hr
  clear hw hr
  have fb := box_cells (HR2.out.new HW0.out)
  have f21 : w2.cell? ⟨w.heap.size, 1, none⟩ = some (.slice ta tn tc) := fb 1
  have f22 : w2.cell? ⟨w.heap.size, 2, none⟩ = some (.slice ca cn cc) := fb 2
  clear fb
  go_wp2_with (first | fail)
  refine (layAll_T b _ _ ts _ _ HW2.out (fun W hW => (HP.out W (below_trans (HR2.out.alloc.below HW0.out) hW)).2.1) HL2.out).mono ?_; rintro e w3 ⟨rfl, v3, hw, hr⟩
  have HW3 := hide hw
  have HR3 := hide (HR2.out.trans hr)
  clear hw hr
  have fb := box_cells (HR3.out.new HW0.out)
  have f32 : w3.cell? ⟨w.heap.size, 2, none⟩ = some (.slice ca cn cc) := fb 2
  clear fb
  go_wp2_with (first | fail)
  refine (layAll_I b _ _ cd _ _ HW3.out (fun W hW => (HP.out W (below_trans (HR3.out.alloc.below HW0.out) hW)).2.2) HL3.out).mono ?_; rintro e w4 ⟨rfl, v4, hw, hr⟩
  have HW4 := hide hw
  have HR4 := hide (HR3.out.trans hr)
  clear hw hr
  go_wp2
  go_end0
  exact ⟨rfl, v4, by rw [HF.out]; exact HW4.out, HR4.out.alloc⟩

set_option maxRecDepth 100000 in
set_option maxHeartbeats 2000000 in
theorem layAll_P {lo : Nat} (b : Nat) (zs : List Int) (vx : Value) (qs : List PartM) (xs : List PartV) (hlen : qs.length = xs.length) (v : Value) (w : World) (hW : WAt w b v zs) (hR : ∀ W, Below b w W → RowAt shP lo W vx qs) (hE : ∀ W, Below b w W → ∀ (i : Nat) q p, qs[i]? = some q → xs[i]? = some p → PartIs lo W q p) (hlim : (zs ++ layAll layPart xs).length ≤ 1000000) :
    Calls Tryd.prog 56 #[.pointer (some ⟨b, 0, none⟩), vx, .func (.func 57) #[.pointer (some ⟨b, 0, none⟩)] #[]] w fun e w' => e = .returned (.tuple #[]) ∧ ∃ v', WAt w' b v' (zs ++ layAll layPart xs) ∧ Wrote b v w v' w' := by
  have HV := hide hR
  have HE := hide hE
  obtain ⟨hl, va, vcap, rfl, -⟩ := hR w (Below.refl _ _)
  rw [hlen] at hl HV ⊢
  have HW0 := hide hW
  have HL1 := hide (show zs.length + 1 ≤ 1000000 by unfold layAll at hlim; simp [be] at hlim; omega)
  have HL2 := hide (show ∀ (j : Nat) (x : PartV), xs[j]? = some x → ((zs ++ be 1 (xs.length : Int) ++ (xs.take j).flatMap layPart) ++ layPart x).length ≤ 1000000 from fun j x hx => by
    have h1 := flat_take_le layPart xs (j + 1)
    rw [flat_take_succ layPart xs j x hx] at h1
    unfold layAll at hlim
    simp only [List.length_append] at h1 hlim ⊢
    omega)
  clear hW hR hlim hE
  unfold layAll
  generalize hN : xs.length = N at *
  have HQ := hide hlen
  clear hlen
  have HN := hide hN
  clear hN
  go_enter Tryd.func56, Tryd.ntmps56
  go_wp2_with (first | fail)
  refine (numbers_1 b zs [(N : Int)] _ _ HW0.out (by simpa using HL1.out)).mono ?_; rintro e w1 ⟨rfl, v1, hw, hr⟩
  have HW1 := hide hw
  have HR1 := hide hr
  clear hw hr
  go_wp2
  go_loopw [7, 15] (fun _ i W => ∃ (j : Nat) (u : Value), j ≤ N ∧ i = .int .i64 j ∧ Hid (WAt W b u (zs ++ be 1 (N : Int) ++ (xs.take j).flatMap layPart)) ∧ Hid (Wrote b v w u W)) (fun _ i _ => N - (intOf i).toNat)
  case atStart => exact ⟨0, v1, by omega, rfl, hide (by simpa using HW1.out), HR1⟩
  case round =>
    obtain ⟨j, u, hj, rfl, HW, HR⟩ := hrel
    by_cases hlt : j < N
    · obtain ⟨-, a2, cap2, e2, hc⟩ := HV.out wr (HR.out.below HW0.out)
      simp only [Value.slice.injEq] at e2
      obtain ⟨rfl, -, rfl⟩ := e2
      obtain ⟨g, o, rfl, -, hc2⟩ := hc (by rw [HQ.out]; omega)
      obtain ⟨q, hq⟩ : ∃ q, qs[j]? = some q := ⟨_, List.getElem?_eq_getElem (by rw [HQ.out]; exact hlt)⟩
      obtain ⟨p, hp⟩ : ∃ p, xs[j]? = some p := ⟨_, List.getElem?_eq_getElem (by rw [HN.out]; exact hlt)⟩
      have hc3 := hc2 j q hq
      have HS := hide (flat_take_succ layPart xs j p hp)
      have HC := hide (lay_P b _ q p u (wr.alloc (.cells #[.int .i64 q.level, .slice q.ta q.tn q.tc, .slice q.ca q.cn q.cc] 50)) (HW.out.alloc _) (fun W hW => HE.out W (below_trans (HR.out.below HW0.out) (below_trans (below_grown (World.grownBy_alloc _ _ _) (Nat.le_of_lt HW.out.lt)) hW)) j q p hq hp) (HL2.out j p hp))
      obtain ⟨lv, ta, tn, tc, ca, cn, cc⟩ := q
      have c0 : wr.cell? ⟨g, o + j * 3, none⟩ = some (.int .i64 lv) := hc3 0 _ rfl
      have c1 : wr.cell? ⟨g, o + j * 3 + 1, none⟩ = some (.slice ta tn tc) := hc3 1 _ rfl
      have c2 : wr.cell? ⟨g, o + j * 3 + 2, none⟩ = some (.slice ca cn cc) := hc3 2 _ rfl
      clear hc hc2 hc3 hq hp
      go_wp2_with (first | fail)
      refine HC.out.mono ?_; rintro e w2 ⟨rfl, v2, hw, hr⟩
      have HW2 := hide hw
      have HR2 := hide (HR.out.trans hr.alloc)
      clear hw hr
      go_wp2
      go_roundw
      case rel =>
        refine ⟨j + 1, v2, by omega, by go_num, ?_, HR2⟩
        rw [HS.out, ← List.append_assoc]
        exact HW2.out
      case measure => simp [intOf]; omega
    · go_wp2
      go_end0
      have e : j = N := by omega
      subst e
      rw [show xs.take j = xs by rw [← HN.out, List.take_length], List.append_assoc] at HW
      exact ⟨rfl, u, HW.out, HR.out⟩

theorem own_mono {w : World} {base base' e size n : Nat} {v : Value} {xs : List Value} (h : w.ownsRow base' e size v n xs) (hle : base ≤ base') : w.ownsRow base e size v n xs := by
  refine ⟨h.1, ?_⟩
  rcases h.2 with h2 | ⟨g, cap, cur, h1, h2, h3⟩
  · exact .inl h2
  · exact .inr ⟨g, cap, cur, h1, by omega, h3⟩
/-- Behind the mark: the first bytes of all. -/
theorem mark_step {b cap : Nat} {a : Option Addr} {W W2 : World} (hW : WAt W b (.slice none 0 0) []) (hown : W2.ownsRow W.heap.size 5 1 (.slice a 2 cap) 2 (bytes1 [78, 67])) (hg : W.grownBy W2 none) :
    WAt (W2.setCell ⟨b, 0, none⟩ (.slice a 2 cap)) b (.slice a 2 cap) [78, 67] ∧ Wrote b (.slice none 0 0) W (.slice a 2 cap) (W2.setCell ⟨b, 0, none⟩ (.slice a 2 cap)) := by
  have hbl := hW.lt
  have h2 : W2.heap[b]? = some (.cells #[.slice none 0 0] 70 (0, 0)) := box_grown hW.1 hg (by simp)
  have gs := grownBy_set W2 b 0 (.slice a 2 cap)
  refine ⟨⟨box_set h2, ?_⟩, gs.os.trans hg.os, gs.tape.trans hg.tape, gs.output.trans hg.output, Nat.le_trans hg.size gs.size, ?_, ?_⟩
  · exact own_mono (own_off hown gs hbl) hbl
  · intro k hk hkb _
    exact (gs.block k (by have := hg.size; omega) (by simp; omega)).trans (hg.block k hk (by simp))
  · intro g hgg
    exact .inr (hown.lt g hgg).1

set_option maxRecDepth 100000 in
set_option maxHeartbeats 2000000 in
theorem layConf_any {lo : Nat} (b : Nat) (c : Value) (C : ConfV) (wB w : World) (hW : WAt w b (.slice none 0 0) []) (hC : ConfAt lo wB c C) (hB : wB.heap.size ≤ b) (hbel : Below b wB w) (hlim : (layConf C).length ≤ 1000000) :
    Calls Tryd.prog 30 #[.pointer (some ⟨b, 0, none⟩), c] w fun e w' => e = .returned (.tuple #[]) ∧ ∃ v', WAt w' b v' (layConf C) ∧ Wrote b (.slice none 0 0) w v' w' := by
  have hmf := hmf
  obtain ⟨vp, vw, vo, rfl, ⟨qs, hlen, hrow, hel⟩, hww, hoo⟩ := hC
  have HPr := hide (fun W (h : Below b w W) => hrow.below (below_trans hbel h) hB)
  have HPe := hide (fun W (h : Below b w W) (i : Nat) q p (hq : qs[i]? = some q) (hp : C.parts[i]? = some p) => (hel i q p hq hp).kept (keep_below (below_trans hbel h) hB))
  have HWr := hide (fun W (h : Below b w W) => hww.below (below_trans hbel h) hB)
  have HOr := hide (fun W (h : Below b w W) => hoo.below (below_trans hbel h) hB)
  have sp : ∃ a n c, vp = .slice a n c := by obtain ⟨_, a, cap, rfl, _⟩ := hrow; exact ⟨_, _, _, rfl⟩
  have sw : ∃ a n c, vw = .slice a n c := by obtain ⟨_, a, cap, rfl, _⟩ := hww; exact ⟨_, _, _, rfl⟩
  have so : ∃ a n c, vo = .slice a n c := by obtain ⟨_, a, cap, rfl, _⟩ := hoo; exact ⟨_, _, _, rfl⟩
  have HLEN := hide hlen
  obtain ⟨pa, pn, pc, rfl⟩ := sp
  obtain ⟨wa, wn, wc, rfl⟩ := sw
  obtain ⟨oa, on, oc, rfl⟩ := so
  have hlen0 : (layConf C).length = 5 + ((layAll layPart C.parts).length + ((layAll layWin C.wins).length + (layAll layPort C.ports).length)) := by
    simp [layConf, be]; omega
  have HL : Hid (5 + ((layAll layPart C.parts).length + ((layAll layWin C.wins).length + (layAll layPort C.ports).length)) ≤ 1000000) := hide (by omega)
  have HF : Hid (layConf C = ((([78, 67] ++ [C.frame].flatMap (be 2)) ++ [C.quiet].flatMap (be 1)) ++ layAll layPart C.parts) ++ layAll layWin C.wins ++ layAll layPort C.ports) := hide (by simp [layConf, List.append_assoc])
  clear hlen hrow hel hww hoo hbel hlim hlen0
  have HW0 := hide hW
  have HW1 := hide (hW.alloc (.cells #[.int .i64 C.frame, .int .i64 C.quiet, .slice pa pn pc, .slice wa wn wc, .slice oa on oc] 26))
  have hbl := hW.lt
  have hbne : b ≠ w.heap.size := by omega
  have k1 := box_cell hW.1
  have k2 := box_free hW.1
  clear hW
  generalize C.frame = fr at *
  generalize C.quiet = qt at *
  obtain ⟨i0, hi, hz0, hz1, hz2⟩ := info_parts infoU8
  have HI := hide (And.intro hi (And.intro hz0 (And.intro hz1 hz2)))
  clear hi hz0 hz1 hz2
  go_enter Tryd.func30, Tryd.ntmps30
  go_wp2_with (at_builtin; refine Go.Lib.wpList_append_own_string _ rfl _ _ 61 9 rfl (w.heap.size + 1) 5 i0 Tryd.underlying61 Tryd.underlying9 HI.out.1 HI.out.2.1 HI.out.2.2.1 HI.out.2.2.2 (.slice none 0 0) 0 [] rfl ?c0 ⟨#[78, 67]⟩ rfl ?c1 ?c2 ?c3 ?_)
  case c0 => exact World.ownsRow_nil _ _ _ _
  case c1 => decide
  case c2 => decide
  case c3 => simp
  intro v1 w1 hown hgrow _
  obtain ⟨a1, cap1, rfl⟩ := own_form hown
  have hown2 : w1.ownsRow (w.alloc (.cells #[.int .i64 fr, .int .i64 qt, .slice pa pn pc, .slice wa wn wc, .slice oa on oc] 26)).heap.size 5 1 (.slice a1 2 cap1) 2 (bytes1 [78, 67]) := by
    have e : (w.alloc (.cells #[.int .i64 fr, .int .i64 qt, .slice pa pn pc, .slice wa wn wc, .slice oa on oc] 26)).heap.size = w.heap.size + 1 := by simp
    rw [e]; exact hown
  obtain ⟨hms1, hms2⟩ := mark_step HW1.out hown2 hgrow
  have HM1 := hide hms1
  have HR1 := hide hms2
  have hb1 := box_grown HW1.out.1 hgrow (by simp [Value.ownBlock])
  have m1 := box_cell hb1
  have m2 := box_free hb1
  have HG1 := hide hgrow
  clear hown hgrow hown2 hms1 hms2 hb1
  have fb := box_cells (HR1.out.new HW0.out)
  have f10 : (w1.setCell ⟨b, 0, none⟩ (.slice a1 2 cap1)).cell? ⟨w.heap.size, 0, none⟩ = some (.int .i64 fr) := fb 0
  clear fb
  go_wp2_with (first | fail)
  refine (num_2_1 b [78, 67] fr _ _ w1.heap.size (by simp) HM1.out (by decide)).mono ?_; rintro e w2 ⟨rfl, v2, hw, hr⟩
  have HM2 := hide hw
  have HR2 := hide (HR1.out.trans hr)
  clear hw hr
  have fb := box_cells (HR2.out.new HW0.out)
  have f21 : w2.cell? ⟨w.heap.size, 1, none⟩ = some (.int .i64 qt) := fb 1
  have f22 : w2.cell? ⟨w.heap.size, 2, none⟩ = some (.slice pa pn pc) := fb 2
  have f23 : w2.cell? ⟨w.heap.size, 3, none⟩ = some (.slice wa wn wc) := fb 3
  have f24 : w2.cell? ⟨w.heap.size, 4, none⟩ = some (.slice oa on oc) := fb 4
  clear fb
  go_wp2_with (first | fail)
  refine (num_1_1 b _ qt _ _ _ rfl HM2.out (by simp [be])).mono ?_; rintro e w3 ⟨rfl, v3, hw, hr⟩
  have HM3 := hide hw
  have HR3 := hide (HR2.out.trans hr)
  clear hw hr
  have fb := box_cells (HR3.out.new HW0.out)
  have f32 : w3.cell? ⟨w.heap.size, 2, none⟩ = some (.slice pa pn pc) := fb 2
  have f33 : w3.cell? ⟨w.heap.size, 3, none⟩ = some (.slice wa wn wc) := fb 3
  have f34 : w3.cell? ⟨w.heap.size, 4, none⟩ = some (.slice oa on oc) := fb 4
  clear fb
  go_wp2_with (first | fail)
  refine (layAll_P b _ _ qs C.parts HLEN.out _ _ HM3.out (fun W hW => HPr.out W (below_trans (HR3.out.alloc.below HW0.out) hW)) (fun W hW => HPe.out W (below_trans (HR3.out.alloc.below HW0.out) hW)) (by have := HL.out; simp [be]; omega)).mono ?_; rintro e w4 ⟨rfl, v4, hw, hr⟩
  have HM4 := hide hw
  have HR4 := hide (HR3.out.trans hr)
  clear hw hr
  have fb := box_cells (HR4.out.new HW0.out)
  have f43 : w4.cell? ⟨w.heap.size, 3, none⟩ = some (.slice wa wn wc) := fb 3
  have f44 : w4.cell? ⟨w.heap.size, 4, none⟩ = some (.slice oa on oc) := fb 4
  clear fb
  go_wp2_with (first | fail)
  refine (layAll_W b _ _ C.wins _ _ HM4.out (fun W hW => HWr.out W (below_trans (HR4.out.alloc.below HW0.out) hW)) (by have := HL.out; simp [be]; omega)).mono ?_; rintro e w5 ⟨rfl, v5, hw, hr⟩
  have HM5 := hide hw
  have HR5 := hide (HR4.out.trans hr)
  clear hw hr
  have fb := box_cells (HR5.out.new HW0.out)
  have f54 : w5.cell? ⟨w.heap.size, 4, none⟩ = some (.slice oa on oc) := fb 4
  clear fb
  go_wp2_with (first | fail)
  refine (layAll_O b _ _ C.ports _ _ HM5.out (fun W hW => HOr.out W (below_trans (HR5.out.alloc.below HW0.out) hW)) (by have := HL.out; simp [be]; omega)).mono ?_; rintro e w6 ⟨rfl, v6, hw, hr⟩
  have HM6 := hide hw
  have HR6 := hide (HR5.out.trans hr)
  clear hw hr
  go_wp2
  go_end0
  exact ⟨rfl, v6, by rw [HF.out]; exact HM6.out, HR6.out.alloc⟩


#print axioms layConf_any
end Go.Proofs.YtgaegggiehhcpaaDoor

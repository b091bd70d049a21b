/- The contract of package config's Get, proved over the translation. -/
import Derived.Test.YtgaegggiehhcpaaDoorReadD
namespace Go.Proofs.YtgaegggiehhcpaaDoor
open Go.RowKit
attribute [local go_sem] alloc_drewN setCell_drewN

theorem results_row_tmp {P : Program} {fn : Func} {p u : Tmp} {ty : TypeId} (h : fn.results = #[.cell p ty, .tmp u]) (tmps : Array Value) (w : World) (g : Nat) (t : TypeId) (cs : Array Value) (fr : Nat × Nat) (d : TypeDesc)
    (hp : tmps.getD p undef = .pointer (some ⟨g, 0, none⟩)) (hg : w.heap[g]? = some (.cells cs t fr))
    (hu : P.underlying ty = some d) (hd : (match d with | .struct _ | .array _ _ => true | _ => false) = true) (hi : (P.info? ty).map (·.size) = some cs.size) :
    (results fn tmps).run P w = .ok (.tuple #[.agg cs, tmps.getD u undef]) w := by
  have hp' : tmps[p]?.getD undef = .pointer (some ⟨g, 0, none⟩) := by simpa using hp
  simp [results, h, hp', asAddr, run_loadVar_row w g t ty cs fr d hg hu hd hi]
/-- Did the text hold just what was read? -/
def doneR (st : St) : Bool := !st.2 && st.1.isEmpty
set_option maxRecDepth 100000 in
set_option maxHeartbeats 1000000 in
theorem done_any (b : Nat) (st : St) (w : World) (h : RAt w b st) :
    Calls Tryd.prog 34 #[.pointer (some ⟨b, 0, none⟩)] w fun e w' => e = .returned (.bool (doneR st)) ∧ w' = w := by
  obtain ⟨l, sh⟩ := st
  obtain ⟨-, s, h1, h2⟩ := h
  dsimp only at h1 h2
  have c0 := two_cell0 h2
  have c1 := two_cell1 h2
  clear h2
  unfold doneR
  dsimp only
  cases sh with
  | true =>
    go_enter Tryd.func34, Tryd.ntmps34
    go_wp2
    go_ret
    exact ⟨rfl, rfl⟩
  | false =>
    have he : s.toList.isEmpty = l.isEmpty := by
      rw [ByteArray.toList_eq, ← h1]
      unfold nums
      cases s.data.toList <;> rfl
    clear h1
    generalize l.isEmpty = m at *
    go_enter Tryd.func34, Tryd.ntmps34
    go_wp2
    go_ret
    exact ⟨rfl, rfl⟩

/-- What Get answers. -/
def getE (s : ByteArray) : Int := if 65536 < s.size then 500 else if doneR (confR (nums s, false)).2 = false then 500 else checkN (confR (nums s, false)).1
def cz : ConfV := ⟨0, 0, [], [], []⟩
def getC (s : ByteArray) : ConfV := if getE s = 0 then (confR (nums s, false)).1 else cz
theorem confOwn_zero (base : Nat) (W : World) : ConfOwn base W (.agg #[.int .i64 0, .int .i64 0, .slice none 0 0, .slice none 0 0, .slice none 0 0]) cz := ⟨_, _, _, rfl, ⟨[], rfl, ⟨rfl, .inl ⟨rfl, rfl⟩⟩, fun i q p hq _ => by simp at hq⟩, ⟨rfl, .inl ⟨rfl, rfl⟩⟩, ⟨rfl, .inl ⟨rfl, rfl⟩⟩⟩

set_option maxRecDepth 100000 in
set_option maxHeartbeats 1000000 in
theorem get_long (s : ByteArray) (hs : 65536 < s.size) (_hs2 : s.size ≤ 9223372036854775807) (w : World) :
    Calls Tryd.prog 13 #[.string s] w fun e w' => ∃ c, e = .returned (.tuple #[c, .int .i64 (getE s)]) ∧ ConfOwn w.heap.size w' c (getC s) ∧ w.grownBy w' none := by
  have hE : getE s = 500 := if_pos hs
  have hC : getC s = cz := if_neg (by rw [hE]; decide)
  rw [hE, hC]
  clear hE hC
  have B0 := hide (heap_alloc_new w (.cells #[.int .i64 0, .int .i64 0, .slice none 0 0, .slice none 0 0, .slice none 0 0] 26))
  go_enter Tryd.func13, Tryd.ntmps13
  go_wp2
  (try simp only [Exit.inBlock, Exit.then])
  refine bodyPost_ret (results_row_tmp rfl _ _ w.heap.size 26 #[.int .i64 0, .int .i64 0, .slice none 0 0, .slice none 0 0, .slice none 0 0] (0, 0) _ rfl B0.out Tryd.underlying26 rfl size26) rfl ?_
  refine ⟨_, rfl, confOwn_zero _ _, ?_⟩
  repeat refine grown_set_new (Nat.le_refl _) ?_
  exact World.grownBy_alloc _ _ _

set_option maxRecDepth 100000 in
set_option maxHeartbeats 2000000 in
theorem get_short (s : ByteArray) (hs : s.size ≤ 65536) (w : World) (hT : Tab w) :
    Calls Tryd.prog 13 #[.string s] w fun e w' => ∃ c, e = .returned (.tuple #[c, .int .i64 (getE s)]) ∧ ConfOwn w.heap.size w' c (getC s) ∧ w.grownBy w' none := by
  have HT := hide hT
  clear hT
  have G0 := hide (grownBy_trans (World.grownBy_alloc w (.cells #[.int .i64 0, .int .i64 0, .slice none 0 0, .slice none 0 0, .slice none 0 0] 26) none) (World.grownBy_alloc (w.alloc (.cells #[.int .i64 0, .int .i64 0, .slice none 0 0, .slice none 0 0, .slice none 0 0] 26)) (.cells #[.string s, .bool false] 76) none))
  have HR0 := hide (show RAt ((w.alloc (.cells #[.int .i64 0, .int .i64 0, .slice none 0 0, .slice none 0 0, .slice none 0 0] 26)).alloc (.cells #[.string s, .bool false] 76)) (w.heap.size + 1) (nums s, false) from ⟨by rw [nums_length]; exact hs, s, rfl, heap_alloc2_new w _ _⟩)
  have B0 := hide (heap_alloc2_old w (.cells #[.int .i64 0, .int .i64 0, .slice none 0 0, .slice none 0 0, .slice none 0 0] 26) (.cells #[.string s, .bool false] 76))
  have HSZ := hide (show ((w.alloc (.cells #[.int .i64 0, .int .i64 0, .slice none 0 0, .slice none 0 0, .slice none 0 0] 26)).alloc (.cells #[.string s, .bool false] 76)).heap.size = w.heap.size + 2 by simp)
  have CR := hide (readConf_any (w.heap.size + 1) (nums s, false) _ HR0.out)
  have HE1 := hide (fun h : doneR (confR (nums s, false)).2 = false => show getE s = 500 by unfold getE; rw [if_neg (by omega), if_pos h])
  have HE2 := hide (fun h : doneR (confR (nums s, false)).2 = true => show getE s = checkN (confR (nums s, false)).1 by unfold getE; rw [if_neg (by omega), if_neg (by rw [h]; decide)])
  have HC1 := hide (fun h : getE s ≠ 0 => show getC s = cz from if_neg h)
  have HC2 := hide (fun h : getE s = 0 => show getC s = (confR (nums s, false)).1 from if_pos h)
  have CD := hide (fun W (h : RAt W (w.heap.size + 1) (confR (nums s, false)).2) => done_any (w.heap.size + 1) _ W h)
  have CK := hide (fun lo c W (h1 : Tab W) (h2 : ConfAt lo W c (confR (nums s, false)).1) => check_any c _ W h1 h2)
  generalize confR (nums s, false) = r at *
  obtain ⟨C, st⟩ := r
  dsimp only at CR HE1 HE2 HC2 CD CK
  generalize checkN C = ck at *
  go_enter Tryd.func13, Tryd.ntmps13
  go_wp2_with (first | fail)
  refine CR.out.mono ?_; rintro e w3 ⟨c, rfl, ho, hr, hg⟩
  have HO3 := hide (ho.mono (show w.heap.size + 2 ≤ _ from Nat.le_of_eq HSZ.out.symm))
  have HR3 := hide hr
  have G3 := hide (grown_spoil G0.out (show w.heap.size ≤ w.heap.size + 1 by omega) hg)
  have B3 := hide ((hg.block w.heap.size (by have := HSZ.out; omega) (by simp)).trans B0.out)
  clear ho hr hg CR
  obtain ⟨vp, vw, vo, rfl, hp, hw, hoo⟩ := HO3.out
  obtain ⟨pa, pn, pc, rfl⟩ : ∃ a n c, vp = .slice a n c := by obtain ⟨_, _, h, _⟩ := hp; obtain ⟨a, cap, rfl⟩ := own_form h; exact ⟨_, _, _, rfl⟩
  obtain ⟨wa, wc, rfl⟩ := own_form hw
  obtain ⟨oa, oc, rfl⟩ := own_form hoo
  clear hp hw hoo
  have hbl := box_lt B3.out
  have hRn : w.heap.size ≠ w3.heap.size := by omega
  have G4 := hide (World.grownBy_alloc w3 (.cells #[.int .i64 C.frame, .int .i64 C.quiet, .slice pa pn pc, .slice wa C.wins.length wc, .slice oa C.ports.length oc] 26) none)
  have KEEP : Hid (∀ W, (w3.alloc (.cells #[.int .i64 C.frame, .int .i64 C.quiet, .slice pa pn pc, .slice wa C.wins.length wc, .slice oa C.ports.length oc] 26)).grownBy W none → W.cell? ⟨w3.heap.size, 0, none⟩ = some (.int .i64 C.frame) ∧ W.cell? ⟨w3.heap.size, 1, none⟩ = some (.int .i64 C.quiet) ∧ W.cell? ⟨w3.heap.size, 2, none⟩ = some (.slice pa pn pc) ∧ W.cell? ⟨w3.heap.size, 3, none⟩ = some (.slice wa C.wins.length wc) ∧ W.cell? ⟨w3.heap.size, 4, none⟩ = some (.slice oa C.ports.length oc)) := by
    intro W hW
    have b := fun k => World.cell?_of_block (a := ⟨w3.heap.size, k, none⟩) (hW.block w3.heap.size (by simp) (by simp))
    exact ⟨(b 0).trans (by simp), (b 1).trans (by simp), (b 2).trans (by simp), (b 3).trans (by simp), (b 4).trans (by simp)⟩
  have CD4 := hide (CD.out _ (HR3.out.grown G4.out))
  have CK4 := hide (CK.out _ _ _ (HT.out.grown (grownBy_trans G3.out G4.out)) (HO3.out.at.grown G4.out))
  have B4 := hide ((G4.out.block w.heap.size hbl (by simp)).trans B3.out)
  clear CD CK
  generalize C.frame = fr at *
  generalize C.quiet = qt at *
  generalize C.wins.length = n1 at *
  generalize C.ports.length = n2 at *
  cases hd : doneR st with
  | false =>
    rw [hd] at CD4
    have HE := hide (HE1.out hd)
    have HC := hide (HC1.out (by rw [HE.out]; decide))
    clear hd HE1 HE2 HC1 HC2 CK4
    go_wp2_with (first | fail)
    refine CD4.out.mono ?_; rintro e w5 ⟨rfl, hw5⟩
    have B5 := hide ((congrArg (fun W : World => W.heap[w.heap.size]?) hw5).trans B4.out)
    have G5 := hide (show w.grownBy w5 none by rw [hw5]; exact grownBy_trans G3.out G4.out)
    clear hw5
    have kf := blk_free B5.out
    have j0 : w5.cell? ⟨w.heap.size, 0, none⟩ = some (.int .i64 0) := blk_cell B5.out 0
    have j1 : w5.cell? ⟨w.heap.size, 1, none⟩ = some (.int .i64 0) := blk_cell B5.out 1
    have j2 : w5.cell? ⟨w.heap.size, 2, none⟩ = some (.slice none 0 0) := blk_cell B5.out 2
    have j3 : w5.cell? ⟨w.heap.size, 3, none⟩ = some (.slice none 0 0) := blk_cell B5.out 3
    have j4 : w5.cell? ⟨w.heap.size, 4, none⟩ = some (.slice none 0 0) := blk_cell B5.out 4
    go_wp2
    (try simp only [Exit.inBlock, Exit.then])
    refine bodyPost_ret (results_row_tmp rfl _ _ w.heap.size 26 #[.int .i64 0, .int .i64 0, .slice none 0 0, .slice none 0 0, .slice none 0 0] (0, 0) _ rfl ?hg Tryd.underlying26 rfl size26) rfl ?_
    case hg => simp [World.setCell, Array.getElem?_modify, B5.out]
    refine ⟨_, by rw [HE.out]; rfl, by rw [HC.out]; exact confOwn_zero _ _, ?_⟩
    repeat refine grown_set_new (Nat.le_refl _) ?_
    exact G5.out
  | true =>
    rw [hd] at CD4
    have HE := hide (HE2.out hd)
    clear hd HE1 HE2
    go_wp2_with (first | fail)
    refine CD4.out.mono ?_; rintro e w4 ⟨rfl, rfl⟩
    go_wp2_with (first | fail)
    refine CK4.out.mono ?_; rintro e w5 ⟨rfl, hg⟩
    have G5 := hide (grownBy_trans G3.out (grownBy_trans G4.out hg))
    have B5 := hide ((hg.block w.heap.size (box_lt B4.out) (by simp)).trans B4.out)
    have HO5 := hide ((HO3.out.grown G4.out).grown hg)
    obtain ⟨f0, f1, f2, f3, f4⟩ := KEEP.out w5 hg
    clear hg CK4 CD4
    have kf := blk_free B5.out
    have j0 : w5.cell? ⟨w.heap.size, 0, none⟩ = some (.int .i64 0) := blk_cell B5.out 0
    have j1 : w5.cell? ⟨w.heap.size, 1, none⟩ = some (.int .i64 0) := blk_cell B5.out 1
    have j2 : w5.cell? ⟨w.heap.size, 2, none⟩ = some (.slice none 0 0) := blk_cell B5.out 2
    have j3 : w5.cell? ⟨w.heap.size, 3, none⟩ = some (.slice none 0 0) := blk_cell B5.out 3
    have j4 : w5.cell? ⟨w.heap.size, 4, none⟩ = some (.slice none 0 0) := blk_cell B5.out 4
    by_cases hk : ck = 0
    · have HC := hide (HC2.out (by rw [HE.out]; exact hk))
      subst hk
      clear HC1 HC2
      go_wp2
      (try simp only [Exit.inBlock, Exit.then])
      refine bodyPost_ret (results_row_tmp rfl _ _ w.heap.size 26 #[.int .i64 fr, .int .i64 qt, .slice pa pn pc, .slice wa n1 wc, .slice oa n2 oc] (0, 0) _ rfl (by simp [World.setCell, Array.getElem?_modify, B5.out]) Tryd.underlying26 rfl size26) rfl ?_
      refine ⟨_, by rw [HE.out]; rfl, ?_, ?_⟩
      · rw [HC.out]
        refine ConfOwn.mono (base' := w.heap.size + 2) ?_ (by omega)
        repeat refine ConfOwn.off ?_ (grownBy_set _ w.heap.size _ _) (by omega)
        exact HO5.out
      · repeat refine grown_set_new (Nat.le_refl _) ?_
        exact G5.out
    · have HC := hide (HC1.out (by rw [HE.out]; exact hk))
      clear HC1 HC2
      go_wp2
      (try simp only [Exit.inBlock, Exit.then])
      refine bodyPost_ret (results_row_tmp rfl _ _ w.heap.size 26 #[.int .i64 0, .int .i64 0, .slice none 0 0, .slice none 0 0, .slice none 0 0] (0, 0) _ rfl (by simp [World.setCell, Array.getElem?_modify, B5.out]) Tryd.underlying26 rfl size26) rfl ?_
      refine ⟨_, by rw [HE.out]; rfl, by rw [HC.out]; exact confOwn_zero _ _, ?_⟩
      repeat refine grown_set_new (Nat.le_refl _) ?_
      exact G5.out

theorem get_any (s : ByteArray) (hs : s.size ≤ 9223372036854775807) (w : World) (hT : Tab w) :
    Calls Tryd.prog 13 #[.string s] w fun e w' => ∃ c, e = .returned (.tuple #[c, .int .i64 (getE s)]) ∧ ConfOwn w.heap.size w' c (getC s) ∧ w.grownBy w' none := by
  by_cases h : 65536 < s.size
  · exact get_long s h hs w
  · exact get_short s (by omega) w hT

#print axioms get_any
end Go.Proofs.YtgaegggiehhcpaaDoor

/- Contracts of package pvm's methods for Zero, In, Out, Get and Halt, of the table of methods and of do, proved over the translation. -/
import Derived.Test.YthdpdnibgmjdaaaDoorSbox
namespace Go.Proofs.YthdpdnibgmjdaaaDoor
open Go.RowKit
attribute [local go_sem] alloc_drewN setCell_drewN

theorem set2_by (W : World) (B i j : Nat) (u v : Value) : W.grownBy ((W.setCell ⟨B, i, none⟩ u).setCell ⟨B, j, none⟩ v) (some B) := grownBy_trans (grownBy_set _ _ _ _) (grownBy_set _ _ _ _)
set_option maxRecDepth 100000 in
set_option maxHeartbeats 2000000 in
theorem m_fail (B : Nat) (pc acc : Int) (m : Nat → Int) (inn outs : Int) (gv : Value) (w : World) (h : SB w B ⟨pc, acc, m⟩ quietE inn outs gv) :
    Calls Tryd.prog 54 #[.pointer (some ⟨B, 0, none⟩)] w fun e w' => e = .returned (.tuple #[]) ∧ SB w' B ⟨0, 0, m⟩ faultE inn outs gv ∧ w.grownBy w' (some B) := by
  have HS := hide h
  have c0 : w.cell? ⟨B, 0, none⟩ = some (.int .i64 pc) := h.cell 0 _ rfl
  have c1 : w.cell? ⟨B, 1, none⟩ = some (.int .i64 acc) := h.cell 1 _ rfl
  have c2 : w.cell? ⟨B, 22, none⟩ = some (.bool false) := h.cell 22 _ rfl
  have t0 := h.free 0
  have t1 := h.free 1
  have t2 := h.free 22
  clear h
  go_enter Tryd.func54, Tryd.ntmps54
  go_wp2
  go_end0
  refine ⟨rfl, ?_, grownBy_trans (set2_by _ _ _ _ _ _) (grownBy_set _ _ _ _)⟩
  exact SB.put (v := ⟨0, 0, m⟩) (f := quietE) (SB.put (v := ⟨0, acc, m⟩) (HS.out.put _ _ rfl) _ _ rfl) _ _ rfl

set_option maxRecDepth 100000 in
set_option maxHeartbeats 2000000 in
theorem m_halt (B : Nat) (pc acc : Int) (m : Nat → Int) (inn outs : Int) (gv : Value) (n : Nat) (w : World) (h : SB w B ⟨pc, acc, m⟩ quietE inn outs gv) :
    Calls Tryd.prog 52 #[.pointer (some ⟨B, 0, none⟩), .int .i64 n] w fun e w' => e = .returned (.tuple #[]) ∧ SB w' B ⟨0, acc, m⟩ quietE inn outs gv ∧ w.grownBy w' (some B) := by
  have HS := hide h
  have c0 : w.cell? ⟨B, 0, none⟩ = some (.int .i64 pc) := h.cell 0 _ rfl
  have t0 : w.frozen? ⟨B, 0, none⟩ = false := h.free 0
  clear h
  go_enter Tryd.func52, Tryd.ntmps52
  go_wp2
  go_end0
  exact ⟨rfl, HS.out.put _ _ rfl, grownBy_set _ _ _ _⟩

set_option maxRecDepth 100000 in
set_option maxHeartbeats 2000000 in
theorem m_input (B : Nat) (pc acc : Int) (m : Nat → Int) (inn outs : Int) (gv : Value) (n : Nat) (w : World) (h : SB w B ⟨pc, acc, m⟩ quietE inn outs gv) :
    Calls Tryd.prog 49 #[.pointer (some ⟨B, 0, none⟩), .int .i64 n] w fun e w' => e = .returned (.tuple #[]) ∧ SB w' B ⟨pc, inn, m⟩ ⟨true, -1, -1, 0, false⟩ inn outs gv ∧ w.grownBy w' (some B) := by
  have HS := hide h
  have c1 : w.cell? ⟨B, 1, none⟩ = some (.int .i64 acc) := h.cell 1 _ rfl
  have t1 : w.frozen? ⟨B, 1, none⟩ = false := h.free 1
  have c18 : w.cell? ⟨B, 18, none⟩ = some (.bool false) := h.cell 18 _ rfl
  have t18 : w.frozen? ⟨B, 18, none⟩ = false := h.free 18
  have c23 : w.cell? ⟨B, 23, none⟩ = some (.int .i64 inn) := h.cell 23 _ rfl
  clear h
  go_enter Tryd.func49, Tryd.ntmps49
  go_wp2
  go_end0
  exact ⟨rfl, SB.put (v := ⟨pc, inn, m⟩) (f := quietE) (HS.out.put _ _ rfl) _ _ rfl, set2_by _ _ _ _ _ _⟩

set_option maxRecDepth 100000 in
set_option maxHeartbeats 2000000 in
theorem m_zero (B : Nat) (pc acc : Int) (m : Nat → Int) (inn outs : Int) (gv : Value) (n : Nat) (w : World) (h : SB w B ⟨pc, acc, m⟩ quietE inn outs gv) :
    Calls Tryd.prog 48 #[.pointer (some ⟨B, 0, none⟩), .int .i64 n] w fun e w' => e = .returned (.tuple #[]) ∧ SB w' B (if acc = 0 then ⟨n, acc, m⟩ else ⟨pc, acc, m⟩) quietE inn outs gv ∧ w.grownBy w' (some B) := by
  have c1 : w.cell? ⟨B, 1, none⟩ = some (.int .i64 acc) := h.cell 1 _ rfl
  by_cases h0 : acc = 0
  · subst h0
    rw [if_pos rfl]
    have CJ := hide (m_jump B pc 0 m inn outs gv n w h)
    clear h
    go_enter Tryd.func48, Tryd.ntmps48
    go_wp2_with (first | fail)
    refine CJ.out.mono ?_; rintro e w' ⟨rfl, hs, hg⟩
    have HS := hide hs
    have HG := hide hg
    clear hs hg CJ c1
    go_wp2
    go_end0
    exact ⟨rfl, HS.out, HG.out⟩
  · rw [if_neg h0]
    have hne : (acc == 0) = false := by simpa using h0
    have HS := hide h
    clear h
    go_enter Tryd.func48, Tryd.ntmps48
    go_wp2
    go_end0
    exact ⟨rfl, HS.out, grownBy_refl _ _⟩

set_option maxRecDepth 100000 in
set_option maxHeartbeats 2000000 in
theorem m_output (B : Nat) (pc acc : Int) (m : Nat → Int) (inn outs : Int) (gv : Value) (n : Nat) (hn : n < 8) (w : World) (h : SB w B ⟨pc, acc, m⟩ quietE inn outs gv) :
    Calls Tryd.prog 50 #[.pointer (some ⟨B, 0, none⟩), .int .i64 n] w fun e w' => e = .returned (.tuple #[]) ∧ SB w' B (if bitB outs n = true then (⟨pc, acc, m⟩, (⟨false, n, -1, acc, false⟩ : EfS)) else failS ⟨pc, acc, m⟩).1 (if bitB outs n = true then ((⟨pc, acc, m⟩ : VmS), ⟨false, n, -1, acc, false⟩) else failS ⟨pc, acc, m⟩).2 inn outs gv ∧ w.grownBy w' (some B) := by
  have c1 : w.cell? ⟨B, 1, none⟩ = some (.int .i64 acc) := h.cell 1 _ rfl
  have c2 : w.cell? ⟨B, 24, none⟩ = some (.int .i64 outs) := h.cell 24 _ rfl
  have hmin : min n 64 = n := by omega
  have hb := bit_low (outs / 2 ^ n)
  cases hB : bitB outs n with
  | true =>
    rw [if_pos rfl]
    have h1 : outs / 2 ^ n % 2 = 1 := by unfold bitB at hB; simpa using hB
    rw [h1] at hb
    have c3 : w.cell? ⟨B, 19, none⟩ = some (.int .i64 (-1)) := h.cell 19 _ rfl
    have c4 : w.cell? ⟨B, 21, none⟩ = some (.int .i64 0) := h.cell 21 _ rfl
    have t3 := h.free 19
    have t4 := h.free 21
    have HS := hide h
    clear h h1 hB
    generalize hq : outs / 2 ^ n = q at *
    go_enter Tryd.func50, Tryd.ntmps50
    go_wp2
    go_end0
    exact ⟨rfl, SB.put (v := ⟨pc, acc, m⟩) (f := ⟨false, n, -1, 0, false⟩) (HS.out.put _ _ rfl) _ _ rfl, set2_by _ _ _ _ _ _⟩
  | false =>
    rw [if_neg (by decide)]
    have h1 : outs / 2 ^ n % 2 = 0 := by
      have h2 : ¬ outs / 2 ^ n % 2 = 1 := by unfold bitB at hB; simpa using hB
      omega
    rw [h1] at hb
    have CF := hide (m_fail B pc acc m inn outs gv w h)
    clear h h1 hB
    generalize hq : outs / 2 ^ n = q at *
    go_enter Tryd.func50, Tryd.ntmps50
    go_wp2_with (first | fail)
    refine CF.out.mono ?_; rintro e w' ⟨rfl, hs, hg⟩
    have HS := hide hs
    have HG := hide hg
    clear hs hg CF c1 c2
    go_wp2
    refine bodyPost_ret (results_none Tryd.results50 _ _ _) rfl ?_
    exact ⟨rfl, HS.out, HG.out⟩

set_option maxRecDepth 100000 in
set_option maxHeartbeats 2000000 in
theorem m_get {lo : Nat} (B : Nat) (pc acc : Int) (m : Nat → Int) (inn outs : Int) (gv : Value) (gs : List Int) (n : Nat) (w : World) (h : SB w B ⟨pc, acc, m⟩ quietE inn outs gv) (hv : RowAt shN lo w gv gs) :
    Calls Tryd.prog 51 #[.pointer (some ⟨B, 0, none⟩), .int .i64 n] w fun e w' => e = .returned (.tuple #[]) ∧ SB w' B (match gotO gs n with | none => failS ⟨pc, acc, m⟩ | some g => (⟨pc, g, m⟩, ⟨false, -1, n, 0, false⟩)).1 (match gotO gs n with | none => failS ⟨pc, acc, m⟩ | some g => (⟨pc, g, m⟩, ⟨false, -1, n, 0, false⟩)).2 inn outs gv ∧ w.grownBy w' (some B) := by
  obtain ⟨hl, a, cap, rfl, ha⟩ := hv
  have c1 : w.cell? ⟨B, 1, none⟩ = some (.int .i64 acc) := h.cell 1 _ rfl
  have c5 : w.cell? ⟨B, 25, none⟩ = some (.slice a gs.length cap) := h.cell 25 _ rfl
  have CF := hide (m_fail B pc acc m inn outs (.slice a gs.length cap) w h)
  by_cases hlt : n < gs.length
  · obtain ⟨g, o, rfl, -, hc⟩ := ha (by omega)
    have cg : w.cell? ⟨g, o + n * 1, none⟩ = some (.int .i64 gs[n]) := hc n _ (List.getElem?_eq_getElem hlt) 0 _ rfl
    rw [Nat.mul_one] at cg
    clear hc
    by_cases h1 : gs[n] = -1
    · have hgo : gotO gs n = none := by unfold gotO; rw [List.getElem?_eq_getElem hlt]; simp [h1]
      rw [hgo]
      rw [h1] at cg
      clear h hgo h1 ha
      generalize gs.length = N at *
      go_enter Tryd.func51, Tryd.ntmps51
      go_wp2_with (first | fail)
      refine CF.out.mono ?_; rintro e w' ⟨rfl, hs, hg⟩
      have HS := hide hs
      have HG := hide hg
      clear hs hg CF c1 c5
      go_wp2
      refine bodyPost_ret (results_none Tryd.results51 _ _ _) rfl ?_
      exact ⟨rfl, HS.out, HG.out⟩
    · have hgo : gotO gs n = some gs[n] := by unfold gotO; rw [List.getElem?_eq_getElem hlt]; simp [h1]
      rw [hgo]
      dsimp only
      have hne : (gs[n] == -1) = false := by simpa using h1
      have c3 : w.cell? ⟨B, 20, none⟩ = some (.int .i64 (-1)) := h.cell 20 _ rfl
      have t1 := h.free 1
      have t3 := h.free 20
      have HS := hide h
      clear h hgo h1 ha CF
      generalize gs[n] = x at *
      generalize gs.length = N at *
      go_enter Tryd.func51, Tryd.ntmps51
      go_wp2
      go_end0
      exact ⟨rfl, SB.put (v := ⟨pc, x, m⟩) (f := quietE) (HS.out.put _ _ rfl) _ _ rfl, set2_by _ _ _ _ _ _⟩
  · have hgo : gotO gs n = none := by unfold gotO; rw [List.getElem?_eq_none (by omega)]
    rw [hgo]
    clear h hgo ha
    generalize gs.length = N at *
    go_enter Tryd.func51, Tryd.ntmps51
    go_wp2_with (first | fail)
    refine CF.out.mono ?_; rintro e w' ⟨rfl, hs, hg⟩
    have HS := hide hs
    have HG := hide hg
    clear hs hg CF c1 c5
    go_wp2
    refine bodyPost_ret (results_none Tryd.results51 _ _ _) rfl ?_
    exact ⟨rfl, HS.out, HG.out⟩

/-- What an instruction may be, for what is done. -/
structure Able (op n : Nat) (v : VmS) : Prop where
  is : op < 12
  word : op = 2 ∨ op = 3 ∨ op = 4 ∨ op = 5 → n < 16
  port : op = 9 ∨ op = 10 → n < 8
  acc : 0 ≤ v.acc ∧ v.acc < 4294967296
  mem : ∀ i, i < 16 → 0 ≤ v.mem i ∧ v.mem i < 4294967296

/-- The method of each Op. -/
theorem m_any {lo : Nat} (op n : Nat) (B : Nat) (v : VmS) (inn outs : Int) (gv : Value) (gs : List Int) (w : World) (hA : Able op n v) (h : SB w B v quietE inn outs gv) (hv : RowAt shN lo w gv gs) :
    Calls Tryd.prog (41 + op) #[.pointer (some ⟨B, 0, none⟩), .int .i64 n] w fun e w' => e = .returned (.tuple #[]) ∧ SB w' B (doS op n v inn outs gs).1 (doS op n v inn outs gs).2 inn outs gv ∧ w.grownBy w' (some B) := by
  obtain ⟨pc, acc, m⟩ := v
  have h1 := hA.is
  have : op = 0 ∨ op = 1 ∨ op = 2 ∨ op = 3 ∨ op = 4 ∨ op = 5 ∨ op = 6 ∨ op = 7 ∨ op = 8 ∨ op = 9 ∨ op = 10 ∨ op = 11 := by omega
  clear h1
  rcases this with rfl | rfl | rfl | rfl | rfl | rfl | rfl | rfl | rfl | rfl | rfl | rfl
  · exact m_nop B pc acc m inn outs gv n w h
  · exact m_constant B pc acc m inn outs gv n w h
  · exact m_load B pc acc m inn outs gv n (hA.word (by simp)) w h
  · exact m_store B pc acc m inn outs gv n (hA.word (by simp)) w h
  · exact m_add B pc acc m inn outs gv n (hA.word (by simp)) hA.acc (hA.mem n (hA.word (by simp))) w h
  · exact m_sub B pc acc m inn outs gv n (hA.word (by simp)) hA.acc (hA.mem n (hA.word (by simp))) w h
  · exact m_jump B pc acc m inn outs gv n w h
  · refine (m_zero B pc acc m inn outs gv n w h).mono fun e w' ⟨e1, e2, e3⟩ => ⟨e1, ?_, e3⟩
    show SB w' B (if acc = 0 then (_, quietE) else (_, quietE)).1 (if acc = 0 then (_, quietE) else (_, quietE)).2 inn outs gv
    by_cases h0 : acc = 0
    · rw [if_pos h0] at e2 ⊢; exact e2
    · rw [if_neg h0] at e2 ⊢; exact e2
  · exact m_input B pc acc m inn outs gv n w h
  · exact m_output B pc acc m inn outs gv n (hA.port (by simp)) w h
  · exact m_get B pc acc m inn outs gv gs n w h hv
  · exact m_halt B pc acc m inn outs gv n w h
#print axioms m_any
end Go.Proofs.YthdpdnibgmjdaaaDoor

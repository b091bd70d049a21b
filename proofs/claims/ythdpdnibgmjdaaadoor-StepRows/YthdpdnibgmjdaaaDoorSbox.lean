/- What one instruction does, and contracts of package pvm's methods for each, proved over the translation: a box of the machine, the effect and what may be asked for is written, and nothing else. -/
import Derived.Test.YthdpdnibgmjdaaaDoorVdat
import Derived.BigRegion
namespace Go.Proofs.YthdpdnibgmjdaaaDoor
open Go.RowKit
attribute [local go_sem] alloc_drewN setCell_drewN

theorem blk_cell {W : World} {b t : Nat} {cs : Array Value} (h : W.heap[b]? = some (.cells cs t (0, 0))) (j : Nat) : W.cell? ⟨b, j, none⟩ = cs[j]? := by simp [World.cell?, h]
theorem blk_free {W : World} {b t : Nat} {cs : Array Value} (h : W.heap[b]? = some (.cells cs t (0, 0))) (j : Nat) : W.frozen? ⟨b, j, none⟩ = false := by simp [World.frozen?, h]
theorem blk_set {W : World} {b t j : Nat} {u : Value} {cs cs' : Array Value} (h : W.heap[b]? = some (.cells cs t (0, 0))) (e : cs.setIfInBounds j u = cs') : (W.setCell ⟨b, j, none⟩ u).heap[b]? = some (.cells cs' t (0, 0)) := by
  subst e
  simp [World.setCell, Array.getElem?_modify, h]
theorem box_lt {W : World} {b : Nat} {o : Obj} (h : W.heap[b]? = some o) : b < W.heap.size := by
  rcases Nat.lt_or_ge b W.heap.size with h' | h'
  · exact h'
  · rw [Array.getElem?_eq_none h'] at h; cases h
theorem box_grown {W W2 : World} {b : Nat} {o : Obj} {r : Option Nat} (h : W.heap[b]? = some o) (hg : W.grownBy W2 r) (hr : r ≠ some b) : W2.heap[b]? = some o := (hg.block b (box_lt h) (fun e => hr e.symm)).trans h

/-! What is done. -/
def upd (m : Nat → Int) (k : Nat) (x : Int) : Nat → Int := fun i => if i = k then x else m i
def quietE : EfS := ⟨false, -1, -1, 0, false⟩
def faultE : EfS := ⟨false, -1, -1, 0, true⟩
def failS (v : VmS) : VmS × EfS := (⟨0, 0, v.mem⟩, faultE)
/-- A port's bit. -/
def bitB (outs : Int) (n : Nat) : Bool := decide (outs / 2 ^ n % 2 = 1)
/-- What there is to get. -/
def gotO (gs : List Int) (n : Nat) : Option Int := match gs[n]? with
  | none => none
  | some g => if g = -1 then none else some g
def doS (op arg : Nat) (v : VmS) (inn outs : Int) (gs : List Int) : VmS × EfS :=
  match op with
  | 0 => (v, quietE)
  | 1 => (⟨v.pc, arg, v.mem⟩, quietE)
  | 2 => (⟨v.pc, v.mem arg, v.mem⟩, quietE)
  | 3 => (⟨v.pc, v.acc, upd v.mem arg v.acc⟩, quietE)
  | 4 => (⟨v.pc, (v.acc + v.mem arg) % 4294967296, v.mem⟩, quietE)
  | 5 => (⟨v.pc, (v.acc + 4294967296 - v.mem arg) % 4294967296, v.mem⟩, quietE)
  | 6 => (⟨arg, v.acc, v.mem⟩, quietE)
  | 7 => if v.acc = 0 then (⟨arg, v.acc, v.mem⟩, quietE) else (v, quietE)
  | 8 => (⟨v.pc, inn, v.mem⟩, ⟨true, -1, -1, 0, false⟩)
  | 9 => if bitB outs arg = true then (v, ⟨false, arg, -1, v.acc, false⟩) else failS v
  | 10 => match gotO gs arg with
    | none => failS v
    | some g => (⟨v.pc, g, v.mem⟩, ⟨false, -1, arg, 0, false⟩)
  | _ => (⟨0, v.acc, v.mem⟩, quietE)

/-- The cells of package pvm's box of a step. -/
abbrev sbC (v : VmS) (f : EfS) (inn outs : Int) (gv : Value) : Array Value := #[.int .i64 v.pc, .int .i64 v.acc, .int .i64 (v.mem 0), .int .i64 (v.mem 1), .int .i64 (v.mem 2), .int .i64 (v.mem 3), .int .i64 (v.mem 4), .int .i64 (v.mem 5), .int .i64 (v.mem 6), .int .i64 (v.mem 7), .int .i64 (v.mem 8), .int .i64 (v.mem 9), .int .i64 (v.mem 10), .int .i64 (v.mem 11), .int .i64 (v.mem 12), .int .i64 (v.mem 13), .int .i64 (v.mem 14), .int .i64 (v.mem 15), .bool f.took, .int .i64 f.wr, .int .i64 f.gt, .int .i64 f.val, .bool f.fault, .int .i64 inn, .int .i64 outs, gv]
def SB (W : World) (B : Nat) (v : VmS) (f : EfS) (inn outs : Int) (gv : Value) : Prop := W.heap[B]? = some (.cells (sbC v f inn outs gv) 53 (0, 0))
theorem SB.cell {W : World} {B : Nat} {v : VmS} {f : EfS} {inn outs : Int} {gv : Value} (h : SB W B v f inn outs gv) (j : Nat) (u : Value) (hu : (sbC v f inn outs gv)[j]? = some u) : W.cell? ⟨B, j, none⟩ = some u := (blk_cell h j).trans hu
theorem SB.free {W : World} {B : Nat} {v : VmS} {f : EfS} {inn outs : Int} {gv : Value} (h : SB W B v f inn outs gv) (j : Nat) : W.frozen? ⟨B, j, none⟩ = false := blk_free h j
theorem SB.word {W : World} {B : Nat} {v : VmS} {f : EfS} {inn outs : Int} {gv : Value} (h : SB W B v f inn outs gv) (n : Nat) (hn : n < 16) : W.cell? ⟨B, 2 + n, none⟩ = some (.int .i64 (v.mem n)) := by
  have : n = 0 ∨ n = 1 ∨ n = 2 ∨ n = 3 ∨ n = 4 ∨ n = 5 ∨ n = 6 ∨ n = 7 ∨ n = 8 ∨ n = 9 ∨ n = 10 ∨ n = 11 ∨ n = 12 ∨ n = 13 ∨ n = 14 ∨ n = 15 := by omega
  rcases this with rfl | rfl | rfl | rfl | rfl | rfl | rfl | rfl | rfl | rfl | rfl | rfl | rfl | rfl | rfl | rfl
  all_goals exact h.cell _ _ rfl
theorem SB.put {W : World} {B : Nat} {v v' : VmS} {f f' : EfS} {inn outs : Int} {gv : Value} (h : SB W B v f inn outs gv) (j : Nat) (u : Value) (e : (sbC v f inn outs gv).setIfInBounds j u = sbC v' f' inn outs gv) : SB (W.setCell ⟨B, j, none⟩ u) B v' f' inn outs gv := blk_set h e
theorem SB.store {W : World} {B : Nat} {v : VmS} {f : EfS} {inn outs : Int} {gv : Value} (h : SB W B v f inn outs gv) (n : Nat) (hn : n < 16) (x : Int) : SB (W.setCell ⟨B, 2 + n, none⟩ (.int .i64 x)) B ⟨v.pc, v.acc, upd v.mem n x⟩ f inn outs gv := by
  refine h.put _ _ ?_
  have : n = 0 ∨ n = 1 ∨ n = 2 ∨ n = 3 ∨ n = 4 ∨ n = 5 ∨ n = 6 ∨ n = 7 ∨ n = 8 ∨ n = 9 ∨ n = 10 ∨ n = 11 ∨ n = 12 ∨ n = 13 ∨ n = 14 ∨ n = 15 := by omega
  rcases this with rfl | rfl | rfl | rfl | rfl | rfl | rfl | rfl | rfl | rfl | rfl | rfl | rfl | rfl | rfl | rfl
  all_goals rfl
theorem SB.draws {W : World} {B : Nat} {v : VmS} {f : EfS} {inn outs : Int} {gv : Value} (h : SB W B v f inn outs gv) (n : Nat) : SB (W.drewN n) B v f inn outs gv := h
theorem SB.grown {W W' : World} {B : Nat} {v : VmS} {f : EfS} {inn outs : Int} {gv : Value} (h : SB W B v f inn outs gv) (hg : W.grownBy W' none) : SB W' B v f inn outs gv := box_grown h hg (by simp)

theorem bit_low (q : Int) : bits .and .i64 q 1 = q % 2 := by
  have key : (BitVec.ofInt 64 q &&& BitVec.ofInt 64 1).toNat = (q % ((2 ^ 64 : Nat) : Int)).toNat % 2 ^ 1 := by
    rw [BitVec.toNat_and, BitVec.toNat_ofInt, show (BitVec.ofInt 64 1).toNat = 2 ^ 1 - 1 from by decide, Nat.and_two_pow_sub_one_eq_mod]
  show IntKind.i64.wrap ((BitVec.ofInt 64 q &&& BitVec.ofInt 64 1).toNat : Nat) = q % 2
  rw [key, IntKind.wrap_i64]
  omega

set_option maxRecDepth 100000 in
set_option maxHeartbeats 2000000 in
theorem m_nop (B : Nat) (pc acc : Int) (m : Nat → Int) (inn outs : Int) (gv : Value) (n : Nat) (w : World) (h : SB w B ⟨pc, acc, m⟩ quietE inn outs gv) :
    Calls Tryd.prog 41 #[.pointer (some ⟨B, 0, none⟩), .int .i64 n] w fun e w' => e = .returned (.tuple #[]) ∧ SB w' B ⟨pc, acc, m⟩ quietE inn outs gv ∧ w.grownBy w' (some B) := by
  have HS := hide h
  clear h
  go_enter Tryd.func41, Tryd.ntmps41
  go_wp2
  go_end0
  exact ⟨rfl, HS.out, grownBy_refl _ _⟩

set_option maxRecDepth 100000 in
set_option maxHeartbeats 2000000 in
theorem m_constant (B : Nat) (pc acc : Int) (m : Nat → Int) (inn outs : Int) (gv : Value) (n : Nat) (w : World) (h : SB w B ⟨pc, acc, m⟩ quietE inn outs gv) :
    Calls Tryd.prog 42 #[.pointer (some ⟨B, 0, none⟩), .int .i64 n] w fun e w' => e = .returned (.tuple #[]) ∧ SB w' B ⟨pc, n, m⟩ quietE inn outs gv ∧ w.grownBy w' (some B) := by
  have HS := hide h
  have c1 : w.cell? ⟨B, 1, none⟩ = some (.int .i64 acc) := h.cell 1 _ rfl
  have t1 : w.frozen? ⟨B, 1, none⟩ = false := h.free 1
  clear h
  go_enter Tryd.func42, Tryd.ntmps42
  go_wp2
  go_end0
  exact ⟨rfl, HS.out.put _ _ rfl, grownBy_set _ _ _ _⟩

set_option maxRecDepth 100000 in
set_option maxHeartbeats 2000000 in
theorem m_load (B : Nat) (pc acc : Int) (m : Nat → Int) (inn outs : Int) (gv : Value) (n : Nat) (hn : n < 16) (w : World) (h : SB w B ⟨pc, acc, m⟩ quietE inn outs gv) :
    Calls Tryd.prog 43 #[.pointer (some ⟨B, 0, none⟩), .int .i64 n] w fun e w' => e = .returned (.tuple #[]) ∧ SB w' B ⟨pc, m n, m⟩ quietE inn outs gv ∧ w.grownBy w' (some B) := by
  have HS := hide h
  have c1 : w.cell? ⟨B, 1, none⟩ = some (.int .i64 acc) := h.cell 1 _ rfl
  have t1 : w.frozen? ⟨B, 1, none⟩ = false := h.free 1
  have cm : w.cell? ⟨B, 2 + n, none⟩ = some (.int .i64 (m n)) := h.word n hn
  clear h
  go_enter Tryd.func43, Tryd.ntmps43
  go_wp2
  go_end0
  exact ⟨rfl, HS.out.put _ _ rfl, grownBy_set _ _ _ _⟩

set_option maxRecDepth 100000 in
set_option maxHeartbeats 2000000 in
theorem m_store (B : Nat) (pc acc : Int) (m : Nat → Int) (inn outs : Int) (gv : Value) (n : Nat) (hn : n < 16) (w : World) (h : SB w B ⟨pc, acc, m⟩ quietE inn outs gv) :
    Calls Tryd.prog 44 #[.pointer (some ⟨B, 0, none⟩), .int .i64 n] w fun e w' => e = .returned (.tuple #[]) ∧ SB w' B ⟨pc, acc, upd m n acc⟩ quietE inn outs gv ∧ w.grownBy w' (some B) := by
  have HS := hide h
  have c1 : w.cell? ⟨B, 1, none⟩ = some (.int .i64 acc) := h.cell 1 _ rfl
  have cm : w.cell? ⟨B, 2 + n, none⟩ = some (.int .i64 (m n)) := h.word n hn
  have t2 : w.frozen? ⟨B, 2 + n, none⟩ = false := h.free (2 + n)
  clear h
  go_enter Tryd.func44, Tryd.ntmps44
  go_wp2
  go_region
  all_goals go_wp2
  all_goals go_end0
  all_goals exact ⟨rfl, (HS.out.store n hn acc).draws _, grownBy_trans (grownBy_set _ _ _ _) (grownBy_draws _ _ _)⟩

set_option maxRecDepth 100000 in
set_option maxHeartbeats 2000000 in
theorem m_add (B : Nat) (pc acc : Int) (m : Nat → Int) (inn outs : Int) (gv : Value) (n : Nat) (hn : n < 16) (ha : 0 ≤ acc ∧ acc < 4294967296) (hm : 0 ≤ m n ∧ m n < 4294967296) (w : World) (h : SB w B ⟨pc, acc, m⟩ quietE inn outs gv) :
    Calls Tryd.prog 45 #[.pointer (some ⟨B, 0, none⟩), .int .i64 n] w fun e w' => e = .returned (.tuple #[]) ∧ SB w' B ⟨pc, (acc + m n) % 4294967296, m⟩ quietE inn outs gv ∧ w.grownBy w' (some B) := by
  have HS := hide h
  have c1 : w.cell? ⟨B, 1, none⟩ = some (.int .i64 acc) := h.cell 1 _ rfl
  have t1 : w.frozen? ⟨B, 1, none⟩ = false := h.free 1
  have cm : w.cell? ⟨B, 2 + n, none⟩ = some (.int .i64 (m n)) := h.word n hn
  clear h
  have HE : (acc + m n).tmod 4294967296 = (acc + m n) % 4294967296 := Int.tmod_eq_emod_of_nonneg (by omega)
  go_enter Tryd.func45, Tryd.ntmps45
  go_wp2
  go_region
  all_goals go_wp2
  all_goals go_end0
  all_goals exact ⟨rfl, (HS.out.put _ _ rfl).draws _, grownBy_trans (grownBy_set _ _ _ _) (grownBy_draws _ _ _)⟩

set_option maxRecDepth 100000 in
set_option maxHeartbeats 2000000 in
theorem m_sub (B : Nat) (pc acc : Int) (m : Nat → Int) (inn outs : Int) (gv : Value) (n : Nat) (hn : n < 16) (ha : 0 ≤ acc ∧ acc < 4294967296) (hm : 0 ≤ m n ∧ m n < 4294967296) (w : World) (h : SB w B ⟨pc, acc, m⟩ quietE inn outs gv) :
    Calls Tryd.prog 46 #[.pointer (some ⟨B, 0, none⟩), .int .i64 n] w fun e w' => e = .returned (.tuple #[]) ∧ SB w' B ⟨pc, (acc + 4294967296 - m n) % 4294967296, m⟩ quietE inn outs gv ∧ w.grownBy w' (some B) := by
  have HS := hide h
  have c1 : w.cell? ⟨B, 1, none⟩ = some (.int .i64 acc) := h.cell 1 _ rfl
  have t1 : w.frozen? ⟨B, 1, none⟩ = false := h.free 1
  have cm : w.cell? ⟨B, 2 + n, none⟩ = some (.int .i64 (m n)) := h.word n hn
  clear h
  have HE : (acc + 4294967296 - m n).tmod 4294967296 = (acc + 4294967296 - m n) % 4294967296 := Int.tmod_eq_emod_of_nonneg (by omega)
  go_enter Tryd.func46, Tryd.ntmps46
  go_wp2
  go_region
  all_goals go_wp2
  all_goals go_end0
  all_goals exact ⟨rfl, (HS.out.put _ _ rfl).draws _, grownBy_trans (grownBy_set _ _ _ _) (grownBy_draws _ _ _)⟩

set_option maxRecDepth 100000 in
set_option maxHeartbeats 2000000 in
theorem m_jump (B : Nat) (pc acc : Int) (m : Nat → Int) (inn outs : Int) (gv : Value) (n : Nat) (w : World) (h : SB w B ⟨pc, acc, m⟩ quietE inn outs gv) :
    Calls Tryd.prog 47 #[.pointer (some ⟨B, 0, none⟩), .int .i64 n] w fun e w' => e = .returned (.tuple #[]) ∧ SB w' B ⟨n, acc, m⟩ quietE inn outs gv ∧ w.grownBy w' (some B) := by
  have HS := hide h
  have c0 : w.cell? ⟨B, 0, none⟩ = some (.int .i64 pc) := h.cell 0 _ rfl
  have t0 : w.frozen? ⟨B, 0, none⟩ = false := h.free 0
  clear h
  go_enter Tryd.func47, Tryd.ntmps47
  go_wp2
  go_end0
  exact ⟨rfl, HS.out.put _ _ rfl, grownBy_set _ _ _ _⟩

#print axioms m_jump
end Go.Proofs.YthdpdnibgmjdaaaDoor

/- What a configuration is in memory, and what it is: plain lists and numbers; nothing of the program's functions. -/
import Derived.Test.YtlppfocoonnpjaaGreatDoorCommon
namespace Go.Proofs.YtlppfocoonnpjaaGreatDoor
open Go.RowKit

abbrev Ins := Int × Int
structure TaskV where
  kind : Int
  period : Int
  deadline : Int
  clow : Int
  chigh : Int
  prio : Int
structure PartV where
  level : Int
  tasks : List TaskV
  code : List Ins
structure WinV where
  fr : Int
  til : Int
  part : Int
structure PortV where
  kind : Int
  fr : Int
  til : Int
  size : Int
structure ConfV where
  frame : Int
  quiet : Int
  parts : List PartV
  wins : List WinV
  ports : List PortV
/-- A part as its row in memory holds it: its Level, and where its two lists lie. -/
structure PartM where
  level : Int
  ta : Option Addr
  tn : Nat
  tc : Nat
  ca : Option Addr
  cn : Nat
  cc : Nat
def PartM.tasks (q : PartM) : Value := .slice q.ta q.tn q.tc
def PartM.code (q : PartM) : Value := .slice q.ca q.cn q.cc

def insC (x : Ins) : List Value := [.int .i64 x.1, .int .i64 x.2]
def taskC (t : TaskV) : List Value := [.int .i64 t.kind, .int .i64 t.period, .int .i64 t.deadline, .int .i64 t.clow, .int .i64 t.chigh, .int .i64 t.prio]
def winC (x : WinV) : List Value := [.int .i64 x.fr, .int .i64 x.til, .int .i64 x.part]
def portC (x : PortV) : List Value := [.int .i64 x.kind, .int .i64 x.fr, .int .i64 x.til, .int .i64 x.size]
def partC (q : PartM) : List Value := [.int .i64 q.level, .slice q.ta q.tn q.tc, .slice q.ca q.cn q.cc]
def shI : Shape Ins := ⟨2, insC, fun _ => rfl, by decide, fun x u h => by simp [insC] at h; rcases h with rfl | rfl <;> rfl⟩
def shT : Shape TaskV := ⟨6, taskC, fun _ => rfl, by decide, fun x u h => by simp [taskC] at h; rcases h with rfl | rfl | rfl | rfl | rfl | rfl <;> rfl⟩
def shW : Shape WinV := ⟨3, winC, fun _ => rfl, by decide, fun x u h => by simp [winC] at h; rcases h with rfl | rfl | rfl <;> rfl⟩
def shO : Shape PortV := ⟨4, portC, fun _ => rfl, by decide, fun x u h => by simp [portC] at h; rcases h with rfl | rfl | rfl | rfl <;> rfl⟩
def shP : Shape PartM := ⟨3, partC, fun _ => rfl, by decide, fun x u h => by simp [partC] at h; rcases h with rfl | rfl | rfl <;> rfl⟩

/-- A part in memory reads as this part. -/
def PartIs (lo : Nat) (W : World) (q : PartM) (p : PartV) : Prop := q.level = p.level ∧ RowAt shT lo W q.tasks p.tasks ∧ RowAt shI lo W q.code p.code
theorem PartIs.kept {lo : Nat} {w W : World} {q : PartM} {p : PartV} (h : PartIs lo w q p) (hk : ∀ g, lo ≤ g → g < w.heap.size → W.heap[g]? = w.heap[g]?) : PartIs lo W q p := ⟨h.1, h.2.1.kept hk, h.2.2.kept hk⟩
/-- A list of parts. -/
def PartsAt (lo : Nat) (W : World) (v : Value) (ps : List PartV) : Prop := ∃ qs : List PartM, qs.length = ps.length ∧ RowAt shP lo W v qs ∧ ∀ (i : Nat) q p, qs[i]? = some q → ps[i]? = some p → PartIs lo W q p
theorem PartsAt.kept {lo : Nat} {w W : World} {v : Value} {ps : List PartV} (h : PartsAt lo w v ps) (hk : ∀ g, lo ≤ g → g < w.heap.size → W.heap[g]? = w.heap[g]?) : PartsAt lo W v ps := by
  obtain ⟨qs, h1, h2, h3⟩ := h
  exact ⟨qs, h1, h2.kept hk, fun i q p hq hp => (h3 i q p hq hp).kept hk⟩
/-- The value is a configuration that reads as C. -/
def ConfAt (lo : Nat) (W : World) (c : Value) (C : ConfV) : Prop := ∃ vp vw vo, c = .agg #[.int .i64 C.frame, .int .i64 C.quiet, vp, vw, vo] ∧ PartsAt lo W vp C.parts ∧ RowAt shW lo W vw C.wins ∧ RowAt shO lo W vo C.ports
theorem ConfAt.kept {lo : Nat} {w W : World} {c : Value} {C : ConfV} (h : ConfAt lo w c C) (hk : ∀ g, lo ≤ g → g < w.heap.size → W.heap[g]? = w.heap[g]?) : ConfAt lo W c C := by
  obtain ⟨vp, vw, vo, rfl, h1, h2, h3⟩ := h
  exact ⟨vp, vw, vo, rfl, h1.kept hk, h2.kept hk, h3.kept hk⟩
theorem keep_grown {lo : Nat} {w W : World} (hg : w.grownBy W none) : ∀ g, lo ≤ g → g < w.heap.size → W.heap[g]? = w.heap[g]? := fun g _ hlt => hg.block g hlt (by simp)
theorem keep_below {lo B : Nat} {w W : World} (hg : Below B w W) (hB : w.heap.size ≤ B) : ∀ g, lo ≤ g → g < w.heap.size → W.heap[g]? = w.heap[g]? := fun g _ hlt => hg.block g (by omega)
theorem PartsAt.grown {lo : Nat} {w W : World} {v : Value} {ps : List PartV} (h : PartsAt lo w v ps) (hg : w.grownBy W none) : PartsAt lo W v ps := h.kept (keep_grown hg)
theorem ConfAt.grown {lo : Nat} {w W : World} {v : Value} {C : ConfV} (h : ConfAt lo w v C) (hg : w.grownBy W none) : ConfAt lo W v C := h.kept (keep_grown hg)
theorem PartIs.mono {lo lo' : Nat} {w : World} {q : PartM} {p : PartV} (h : PartIs lo w q p) (hle : lo' ≤ lo) : PartIs lo' w q p := ⟨h.1, h.2.1.mono hle, h.2.2.mono hle⟩
theorem PartsAt.mono {lo lo' : Nat} {w : World} {v : Value} {ps : List PartV} (h : PartsAt lo w v ps) (hle : lo' ≤ lo) : PartsAt lo' w v ps := by
  obtain ⟨qs, h1, h2, h3⟩ := h
  exact ⟨qs, h1, h2.mono hle, fun i q p hq hp => (h3 i q p hq hp).mono hle⟩
theorem ConfAt.mono {lo lo' : Nat} {w : World} {v : Value} {C : ConfV} (h : ConfAt lo w v C) (hle : lo' ≤ lo) : ConfAt lo' w v C := by
  obtain ⟨vp, vw, vo, rfl, h1, h2, h3⟩ := h
  exact ⟨vp, vw, vo, rfl, h1.mono hle, h2.mono hle, h3.mono hle⟩

/-! Instructions, in the form of the round before. -/
def PReads (W : World) (v : Value) (zs : List Ins) : Prop :=
  ∃ a cap, v = .slice a zs.length cap ∧ (0 < zs.length → ∃ g o, a = some ⟨g, o, none⟩ ∧ ∀ i, i < zs.length → W.cell? ⟨g, o + i * 2, none⟩ = some (.int .i64 (zs[i]?.getD (0, 0)).1) ∧ W.cell? ⟨g, o + i * 2 + 1, none⟩ = some (.int .i64 (zs[i]?.getD (0, 0)).2))
theorem PReads.draws {W : World} {v : Value} {zs : List Ins} (h : PReads W v zs) (n : Nat) : PReads (W.drewN n) v zs := h
theorem PReads.grown {w W : World} {v : Value} {zs : List Ins} (h : PReads w v zs) (hg : w.grownBy W none) : PReads W v zs := by
  obtain ⟨a, cap, rfl, ha⟩ := h
  refine ⟨a, cap, rfl, fun hl => ?_⟩
  obtain ⟨g, o, rfl, hc⟩ := ha hl
  refine ⟨g, o, rfl, fun i hi => ?_⟩
  have hlt : g < w.heap.size := World.block_lt_of_cell? w ⟨g, o + i * 2, none⟩ (hc i hi).1
  have e := hg.block g hlt (by simp)
  exact ⟨(World.cell?_of_block (a := ⟨g, o + i * 2, none⟩) e).trans (hc i hi).1, (World.cell?_of_block (a := ⟨g, o + i * 2 + 1, none⟩) e).trans (hc i hi).2⟩
theorem preads_row {lo : Nat} {W : World} {v : Value} {zs : List Ins} (h : RowAt shI lo W v zs) : PReads W v zs := by
  obtain ⟨hl, a, cap, rfl, ha⟩ := h
  refine ⟨a, cap, rfl, fun h0 => ?_⟩
  obtain ⟨g, o, rfl, _, hc⟩ := ha h0
  refine ⟨g, o, rfl, fun i hi => ?_⟩
  have hx : zs[i]? = some zs[i] := List.getElem?_eq_getElem hi
  rw [hx]
  exact ⟨hc i _ hx 0 _ rfl, hc i _ hx 1 _ rfl⟩

/-! All of so many. -/
def allB (n : Nat) (f : Nat → Bool) : Bool := (List.range n).all f
theorem allB_true {n : Nat} {f : Nat → Bool} (h : ∀ i, i < n → f i = true) : allB n f = true := by
  unfold allB; rw [List.all_eq_true]; intro i hi; exact h i (List.mem_range.1 hi)
theorem allB_false {n : Nat} {f : Nat → Bool} {i : Nat} (hi : i < n) (h : f i = false) : allB n f = false := by
  unfold allB; rw [List.all_eq_false]; exact ⟨i, List.mem_range.2 hi, by rw [h]; simp⟩
theorem allB_of {n : Nat} {f : Nat → Bool} (h : allB n f = true) (i : Nat) (hi : i < n) : f i = true := by
  unfold allB at h; exact List.all_eq_true.1 h i (List.mem_range.2 hi)
theorem allB_congr {n : Nat} {f g : Nat → Bool} (h : ∀ i, i < n → f i = g i) : allB n f = allB n g := by
  cases hf : allB n f with
  | true => exact (allB_true (fun i hi => by rw [← h i hi]; exact allB_of hf i hi)).symm
  | false =>
    unfold allB at hf
    obtain ⟨i, hi, h2⟩ := List.all_eq_false.1 hf
    have hi := List.mem_range.1 hi
    exact (allB_false hi (by rw [← h i hi]; simpa using h2)).symm
#print axioms allB_congr
end Go.Proofs.YtlppfocoonnpjaaGreatDoor

/- What the program's own schedule is in memory, and what a call leaves of it. -/
import Derived.Test.YtlppfocoonnpjaaGreatDoorQc
namespace Go.Proofs.YtlppfocoonnpjaaGreatDoor.L
open Go.RowKit
open Go.Proofs.YtlppfocoonnpjaaGreatDoor.J (JobV jobAt jobMay rowMay shJ TypeAt own_type box_type type_box type_own own_mono Far far_new far_nil blk_cell blk_free blk_set box_lt box_grown row_drop)
open Go.Proofs.YtlppfocoonnpjaaGreatDoor.U (TurnsV)

structure RunM where
  t : TaskV
  last : Int
  pa : Option Addr
  pn : Nat
  pc : Nat
  came : Int
def RunM.picks (m : RunM) : Value := .slice m.pa m.pn m.pc
def runC (m : RunM) : List Value := [.int .i64 m.t.kind, .int .i64 m.t.period, .int .i64 m.t.deadline, .int .i64 m.t.clow, .int .i64 m.t.chigh, .int .i64 m.t.prio, .int .i64 m.last, .slice m.pa m.pn m.pc, .int .i64 m.came]
def shRn : Shape RunM := ⟨9, runC, fun _ => rfl, by decide, fun x u h => by simp [runC] at h; rcases h with rfl | rfl | rfl | rfl | rfl | rfl | rfl | rfl | rfl <;> rfl⟩
def OwnRn (lo : Nat) (W : World) (v : Value) (ms : List RunM) : Prop := W.ownsRow lo 98 9 v ms.length (shRn.cells ms)
/-- The program's row of jobs: what stands behind the first ones of a row of its own. -/
def OwnP (lo : Nat) (W : World) (v : Value) (js : List JobV) : Prop :=
  (js = [] ∧ ∃ a c, v = .slice a 0 c ∧ ∀ k, v.ownBlock = some k → k < W.heap.size) ∨
  ∃ g n cap p ks, W.ownsRow lo 70 7 (.slice (some ⟨g, 0, none⟩) n cap) n (shJ.cells ks) ∧ ks.length = n ∧ p < n ∧ js = ks.drop p ∧ v = .slice (some ⟨g, p * 7, none⟩) (n - p) (cap - p)
theorem OwnP.row {lo : Nat} {W : World} {v : Value} {js : List JobV} (h : OwnP lo W v js) : RowAt shJ lo W v js := by
  rcases h with ⟨rfl, a, c, rfl, -⟩ | ⟨g, n, cap, p, ks, ho, hn, hp, rfl, rfl⟩
  · exact rowAt_nil _ _ _ _
  · subst hn
    have h1 := row_drop (p := p) (rowAt_own (S := shJ) ho) (Nat.le_of_lt hp)
    rw [Nat.zero_add] at h1
    exact h1
theorem OwnP.map {lo : Nat} {W W' : World} {v : Value} {js : List JobV} (h : OwnP lo W v js) (hs : W.heap.size ≤ W'.heap.size) (f : ∀ (u : Value) n xs, u.ownBlock = v.ownBlock → W.ownsRow lo 70 7 u n xs → W'.ownsRow lo 70 7 u n xs) : OwnP lo W' v js := by
  rcases h with ⟨rfl, a, c, rfl, h1⟩ | ⟨g, n, cap, p, ks, ho, hn, hp, rfl, rfl⟩
  · exact .inl ⟨rfl, a, c, rfl, fun k hk => Nat.lt_of_lt_of_le (h1 k hk) hs⟩
  · exact .inr ⟨g, n, cap, p, ks, f _ _ _ rfl ho, hn, hp, rfl, rfl⟩
theorem OwnP.grown {lo : Nat} {W W' : World} {v : Value} {js : List JobV} (h : OwnP lo W v js) (hg : W.grownBy W' none) : OwnP lo W' v js := h.map hg.size fun _ _ _ _ h1 => own_kept h1 hg
theorem OwnP.type {lo g t : Nat} {W W' : World} {v : Value} {js : List JobV} (h : OwnP lo W v js) (hg : W.grownBy W' (some g)) (ht : TypeAt W g t) (hne : t ≠ 70) : OwnP lo W' v js := h.map hg.size fun _ _ _ _ h1 => own_type h1 hg ht hne
theorem ownP_of {lo : Nat} {W : World} {v : Value} {js : List JobV} (h : J.Own lo W v js) : OwnP lo W v js := by
  rcases Nat.eq_zero_or_pos js.length with h0 | h0
  · obtain ⟨a, c, rfl⟩ := h.form
    have : js = [] := List.length_eq_zero_iff.1 h0
    subst this
    refine .inl ⟨rfl, a, c, rfl, fun k hk => (World.ownsRow.lt h k hk).2⟩
  · obtain ⟨g, cap, rfl, -⟩ := own_at h h0
    exact .inr ⟨g, js.length, cap, 0, js, h, rfl, h0, rfl, by rw [Nat.zero_mul]; rfl⟩
theorem OwnP.lt {lo : Nat} {W : World} {v : Value} {js : List JobV} (h : OwnP lo W v js) : ∀ k, v.ownBlock = some k → k < W.heap.size := by
  rcases h with ⟨rfl, a, c, rfl, h1⟩ | ⟨g, n, cap, p, ks, ho, hn, hp, rfl, rfl⟩
  · exact h1
  · intro k hk
    exact (World.ownsRow.lt ho k hk).2
/-- The schedule's box and its rows; its picks lie apart from a row q. -/
structure PLoc (lo : Nat) (q : Value) (W : World) (b : Nat) (vr vj : Value) (ms : List RunM) (L : LocV) : Prop where
  hb : lo ≤ b
  box : W.heap[b]? = some (.cells #[.int .i64 L.idx, .int .i64 L.level, vr, vj] 84 (0, 0))
  runs : OwnRn lo W vr ms
  mlen : ms.length = L.tasks.length
  each : ∀ (i : Nat) m, ms[i]? = some m → m.t = L.taskAt i ∧ m.last = (L.turnAt i).last ∧ m.came = L.seqAt i ∧ U.Own lo W m.picks (L.turnAt i).picks ∧ Far m.picks q
  jobs : OwnP lo W vj L.jobs
section
variable {lo b : Nat} {q : Value} {W W' : World} {vr vj : Value} {ms : List RunM} {L : LocV}
theorem PLoc.grown (h : PLoc lo q W b vr vj ms L) (hg : W.grownBy W' none) : PLoc lo q W' b vr vj ms L :=
  ⟨h.hb, box_grown h.box hg (by simp), own_kept h.runs hg, h.mlen, fun i m hm => ⟨(h.each i m hm).1, (h.each i m hm).2.1, (h.each i m hm).2.2.1, (h.each i m hm).2.2.2.1.grown hg, (h.each i m hm).2.2.2.2⟩, h.jobs.grown hg⟩
/-- A write into a block of another type. -/
theorem PLoc.off {g t : Nat} (h : PLoc lo q W b vr vj ms L) (hg : W.grownBy W' (some g)) (ht : TypeAt W g t) (h1 : t ≠ 84) (h2 : t ≠ 98) (h3 : t ≠ 70) (h4 : t ≠ 3) : PLoc lo q W' b vr vj ms L :=
  ⟨h.hb, box_type h.box hg ht h1, own_type h.runs hg ht h2, h.mlen, fun i m hm => ⟨(h.each i m hm).1, (h.each i m hm).2.1, (h.each i m hm).2.2.1, own_type (h.each i m hm).2.2.2.1 hg ht h4, (h.each i m hm).2.2.2.2⟩, h.jobs.type hg ht h3⟩
/-- A new row of jobs. -/
theorem PLoc.put (h : PLoc lo q W b vr vj ms L) {v : Value} {js : List JobV} (hj : OwnP lo W v js) : PLoc lo q (W.setCell ⟨b, 3, none⟩ v) b vr v ms { L with jobs := js } := by
  have hg := grownBy_set W b 3 v
  have ht := type_box h.box
  exact ⟨h.hb, blk_set (j := 3) (u := v) h.box rfl, own_type h.runs hg ht (by decide), h.mlen,
    fun i m hm => ⟨(h.each i m hm).1, (h.each i m hm).2.1, (h.each i m hm).2.2.1, own_type (h.each i m hm).2.2.2.1 hg ht (by decide), (h.each i m hm).2.2.2.2⟩, hj.type hg ht (by decide)⟩
/-- The cells of a task that runs. -/
theorem PLoc.cell {g n c : Nat} (h : PLoc lo q W b (.slice (some ⟨g, 0, none⟩) n c) vj ms L) {i : Nat} {m : RunM} (hm : ms[i]? = some m) {k : Nat} {u : Value} (hu : (runC m)[k]? = some u) : W.cell? ⟨g, i * 9 + k, none⟩ = some u := by
  have h1 := h.runs
  unfold OwnRn at h1
  have hn : ms.length = n := by
    obtain ⟨-, a2, c2, e, -⟩ := rowAt_own (S := shRn) h.runs
    simp only [Value.slice.injEq] at e
    exact e.2.1.symm
  rw [hn] at h1
  exact own_cell (S := shRn) h1 hm (i := k) hu
theorem PLoc.len {g n c : Nat} (h : PLoc lo q W b (.slice (some ⟨g, 0, none⟩) n c) vj ms L) : ms.length = n := by
  obtain ⟨-, a2, c2, e, -⟩ := rowAt_own (S := shRn) h.runs
  simp only [Value.slice.injEq] at e
  exact e.2.1.symm
theorem PLoc.at {g n c : Nat} (h : PLoc lo q W b (.slice (some ⟨g, 0, none⟩) n c) vj ms L) : W.ownsRow lo 98 9 (.slice (some ⟨g, 0, none⟩) n c) n (shRn.cells ms) := by
  have h1 := h.runs
  unfold OwnRn at h1
  rwa [h.len] at h1
/-- A task's turns written. -/
theorem PLoc.turn {g n c : Nat} (h : PLoc lo q W b (.slice (some ⟨g, 0, none⟩) n c) vj ms L) (hlen : L.turns.length = L.tasks.length) {i : Nat} {PL : Int} {pa : Option Addr} {pn pc : Nat} {PZ : List Int} {m : RunM} (hm : ms[i]? = some m) (hP : U.Own lo W (.slice pa pn pc) PZ) (hF : Far (.slice pa pn pc) q) :
    PLoc lo q ((W.setCell ⟨g, i * 9 + 6, none⟩ (.int .i64 PL)).setCell ⟨g, i * 9 + 7, none⟩ (.slice pa pn pc)) b (.slice (some ⟨g, 0, none⟩) n c) vj (ms.set i { m with last := PL, pa := pa, pn := pn, pc := pc }) { L with turns := L.turns.set i ⟨PL, PZ⟩ } ∧ W.grownBy ((W.setCell ⟨g, i * 9 + 6, none⟩ (.int .i64 PL)).setCell ⟨g, i * 9 + 7, none⟩ (.slice pa pn pc)) (some g) := by
  have hi := (List.getElem?_eq_some_iff.1 hm).1
  have hT := h.at
  have ht : TypeAt W g 98 := type_own hT
  have hg : W.grownBy ((W.setCell ⟨g, i * 9 + 6, none⟩ (.int .i64 PL)).setCell ⟨g, i * 9 + 7, none⟩ (.slice pa pn pc)) (some g) := grownBy_trans (grownBy_set _ _ _ _) (grownBy_set _ _ _ _)
  refine ⟨⟨h.hb, box_type h.box hg ht (by decide), ?_, by rw [List.length_set]; exact h.mlen, fun k m' hk => ?_, h.jobs.type hg ht (by decide)⟩, hg⟩
  · have h1 := own_set (S := shRn) hT hm (i := 6) (by decide) (u := .int .i64 PL) (x' := { m with last := PL }) rfl
    have h2 := own_set (S := shRn) h1 (j := i) (x := { m with last := PL }) (by simp [hi]) (i := 7) (by decide) (u := .slice pa pn pc) (x' := { m with last := PL, pa := pa, pn := pn, pc := pc }) rfl
    rw [List.set_set] at h2
    unfold OwnRn
    rw [List.length_set, h.len]
    exact h2
  · rw [List.getElem?_set] at hk
    split at hk
    · rename_i e
      subst e
      cases hk
      have e2 : ({ L with turns := L.turns.set i ⟨PL, PZ⟩ } : LocV).turnAt i = ⟨PL, PZ⟩ := by
        unfold LocV.turnAt
        rw [getD_set, if_pos ⟨rfl, by rw [hlen, ← h.mlen]; exact hi⟩]
      rw [e2]
      exact ⟨(h.each i m hm).1, rfl, (h.each i m hm).2.2.1, own_type hP hg ht (by decide), hF⟩
    · rename_i e
      have e2 : ({ L with turns := L.turns.set i ⟨PL, PZ⟩ } : LocV).turnAt k = L.turnAt k := by
        unfold LocV.turnAt
        rw [getD_set, if_neg (fun h => e h.1)]
      rw [e2]
      exact ⟨(h.each k m' hk).1, (h.each k m' hk).2.1, (h.each k m' hk).2.2.1, own_type (h.each k m' hk).2.2.2.1 hg ht (by decide), (h.each k m' hk).2.2.2.2⟩
/-- One more job counted. -/
theorem PLoc.count {g n c : Nat} (h : PLoc lo q W b (.slice (some ⟨g, 0, none⟩) n c) vj ms L) (hlen : L.seqs.length = L.tasks.length) {i : Nat} {m : RunM} (hm : ms[i]? = some m) (x : Int) :
    PLoc lo q (W.setCell ⟨g, i * 9 + 8, none⟩ (.int .i64 x)) b (.slice (some ⟨g, 0, none⟩) n c) vj (ms.set i { m with came := x }) { L with seqs := L.seqs.set i x } := by
  have hi := (List.getElem?_eq_some_iff.1 hm).1
  have hT := h.at
  have ht : TypeAt W g 98 := type_own hT
  have hg := grownBy_set W g (i * 9 + 8) (.int .i64 x)
  refine ⟨h.hb, box_type h.box hg ht (by decide), ?_, by rw [List.length_set]; exact h.mlen, fun k m' hk => ?_, h.jobs.type hg ht (by decide)⟩
  · have h1 := own_set (S := shRn) hT hm (i := 8) (by decide) (u := .int .i64 x) (x' := { m with came := x }) rfl
    unfold OwnRn
    rw [List.length_set, h.len]
    exact h1
  · rw [List.getElem?_set] at hk
    split at hk
    · rename_i e
      subst e
      cases hk
      have e2 : ({ L with seqs := L.seqs.set i x } : LocV).seqAt i = x := by
        unfold LocV.seqAt
        rw [getD_set, if_pos ⟨rfl, by rw [hlen, ← h.mlen]; exact hi⟩]
      rw [e2]
      exact ⟨(h.each i m hm).1, (h.each i m hm).2.1, rfl, own_type (h.each i m hm).2.2.2.1 hg ht (by decide), (h.each i m hm).2.2.2.2⟩
    · rename_i e
      have e2 : ({ L with seqs := L.seqs.set i x } : LocV).seqAt k = L.seqAt k := by
        unfold LocV.seqAt
        rw [getD_set, if_neg (fun h => e h.1)]
      rw [e2]
      exact ⟨(h.each k m' hk).1, (h.each k m' hk).2.1, (h.each k m' hk).2.2.1, own_type (h.each k m' hk).2.2.2.1 hg ht (by decide), (h.each k m' hk).2.2.2.2⟩
end
#print axioms PLoc.count
end Go.Proofs.YtlppfocoonnpjaaGreatDoor.L

/- A schedule beside a row of whole numbers that grows: proved over the translation. -/
import Derived.Test.YtlppfocoonnpjabGreatDoorAw14
import Derived.Test.YtlppfocoonnpjabGreatDoorKmath
namespace Go.Proofs.YtlppfocoonnpjabGreatDoor.L
open Go.RowKit
open Go.Proofs.YtlppfocoonnpjabGreatDoor.J (JobV blk_cell box_lt box_grown type_box type_own own_type own_mono Far)
attribute [local go_sem] alloc_drewN setCell_drewN

theorem infoI : (Tryz.prog.info? 3).map (fun i => (i.zero, i.size, i.bytes)) = some (some (.int .i64 0), 1, 8) := by kernel_rfl
/-- A schedule whose picks lie apart from a row. -/
structure PXq (w V : World) (b : Nat) (L : LocV) (m : Nat) (q : Value) : Prop where
  out : ∃ vr vj ms, PLoc w.heap.size q V b vr vj ms L
  fine : Fine L m
  lt : ∀ k, q.ownBlock = some k → k < V.heap.size
theorem PXq.px {w V : World} {b m : Nat} {L : LocV} {q : Value} (h : PXq w V b L m q) : PX w V b L m := by
  obtain ⟨⟨vr, vj, ms, h1⟩, h2, -⟩ := h
  exact ⟨⟨vr, vj, ms, h1.hb, h1.box, h1.runs, h1.mlen, fun i m hm => ⟨(h1.each i m hm).1, (h1.each i m hm).2.1, (h1.each i m hm).2.2.1, (h1.each i m hm).2.2.2.1, fun g h h' => by cases h'⟩, h1.jobs⟩, h2⟩
theorem PX.nil {w V : World} {b m : Nat} {L : LocV} (h : PX w V b L m) : PXq w V b L m (.slice none 0 0) := by
  obtain ⟨⟨vr, vj, ms, h1⟩, h2⟩ := h
  exact ⟨⟨vr, vj, ms, h1⟩, h2, fun k hk => by cases hk⟩
theorem PXq.grown {w V V' : World} {b m : Nat} {L : LocV} {q : Value} (h : PXq w V b L m q) (hg : V.grownBy V' none) : PXq w V' b L m q := by
  obtain ⟨⟨vr, vj, ms, h1⟩, h2, h3⟩ := h
  exact ⟨⟨vr, vj, ms, h1.grown hg⟩, h2, fun k hk => Nat.lt_of_lt_of_le (h3 k hk) hg.size⟩
theorem PXq.app {w V V' : World} {b m base n : Nat} {L : LocV} {q q' : Value} {xs : List Value} (h : PXq w V b L m q) (hv : V.ownsRow base 3 1 q n xs) (hg : V.grownBy V' q.ownBlock) (hq : q'.ownBlock = q.ownBlock ∨ q'.ownBlock = some V.heap.size) (hlt : ∀ k, q'.ownBlock = some k → k < V'.heap.size) : PXq w V' b L m q' := by
  obtain ⟨⟨vr, vj, ms, h1⟩, h2, h3⟩ := h
  refine ⟨⟨vr, vj, ms, h1.hb, J.box_app h1.box hv hg (by decide), J.own_app h1.runs hv hg (by decide), h1.mlen, fun i m hm => ⟨(h1.each i m hm).1, (h1.each i m hm).2.1, (h1.each i m hm).2.2.1, ?_, ?_⟩, ?_⟩, h2, hlt⟩
  · have ho := (h1.each i m hm).2.2.2.1
    have hf := (h1.each i m hm).2.2.2.2
    refine World.ownsRow.kept ho hg ?_
    cases hu : m.picks.ownBlock with
    | none => exact .inl rfl
    | some k => exact .inr fun e => hf k hu e.symm
  · intro g h4 h5
    rcases hq with e | e
    · exact (h1.each i m hm).2.2.2.2 g h4 (by rw [← e]; exact h5)
    · rw [e] at h5
      have := (World.ownsRow.lt (h1.each i m hm).2.2.2.1 g h4).2
      simp only [Option.some.injEq] at h5
      omega
  · exact h1.jobs.map hg.size fun u n xs _ h4 => J.own_app h4 hv hg (by decide)
theorem lpickq {w V : World} {b m ln : Nat} {L L' : LocV} {N : Int} {es : List EvV} {q : Value} {base nq : Nat} {xs : List Value} (i d now : Int) (hg : w.grownBy V none) (h : PXq w V b L m q) (hqr : V.ownsRow base 3 1 q nq xs) (hN : pickN L i d now = N) (hL : pickL L i d now = L') (hV : pickV L i d now = es) (hl : es.length = ln) :
    Calls Tryz.prog 7 #[.pointer (some ⟨b, 0, none⟩), .int .i64 i, .int .i64 d, .int .i64 now] V fun e w' => ∃ a c, e = .returned (.tuple #[.slice a ln c, .int .i64 N]) ∧ PXq w w' b L' m q ∧ w'.ownsRow base 3 1 q nq xs ∧ w.grownBy w' none := by
  obtain ⟨⟨vr, vj, ms, h1⟩, h2, h3⟩ := h
  have hf := pick_fine h2 i d now
  refine (pick_all i d now w V hg (Nat.le_refl _) h1 h2 h3).mono ?_
  rintro e w' ⟨v, ms', rfl, h4, h5, h6, h7, h8⟩
  rw [hN, hL, hV] at *
  obtain ⟨a, c, rfl⟩ := own_form h5
  rw [hl] at *
  have hk := keeps_of h1 fun k hk hb hr _ => h8 k hk hb hr
  exact ⟨a, c, rfl, ⟨⟨vr, vj, ms', h4⟩, hf, fun k hk => Nat.lt_of_lt_of_le (h3 k hk) h7⟩, hk.row hqr (by decide) (by decide) (by decide), h6⟩
#print axioms lpickq
end Go.Proofs.YtlppfocoonnpjabGreatDoor.L

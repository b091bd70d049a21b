/- The program's calls of a schedule as a law asks them: proved over the translation. -/
import Derived.Test.YtlppfocoonnpjaaGreatDoorPRun
import Derived.Test.YtlppfocoonnpjaaGreatDoorPBegin
import Derived.Test.YtlppfocoonnpjaaGreatDoorPNewt
import Derived.Test.YtlppfocoonnpjaaGreatDoorLendE
namespace Go.Proofs.YtlppfocoonnpjaaGreatDoor.L
open Go.RowKit
open Go.Proofs.YtlppfocoonnpjaaGreatDoor.J (JobV blk_cell box_lt box_grown type_box type_own own_type own_mono)
attribute [local go_sem] alloc_drewN setCell_drewN

theorem num_any (e : Int) (w : World) : Calls Tryz.prog 13 #[.int .i64 e] w fun r w' => r = .returned (.int .i64 e) ∧ w = w' := by
  go_enter Tryz.func13, Tryz.ntmps13
  go_wp2
  go_ret
  exact ⟨rfl, rfl⟩
/-- A schedule that lies behind the law's first world. -/
structure PX (w V : World) (b : Nat) (L : LocV) (m : Nat) : Prop where
  out : ∃ vr vj ms, PLoc w.heap.size (.slice none 0 0) V b vr vj ms L
  fine : Fine L m
theorem PX.grown {w V V' : World} {b m : Nat} {L : LocV} (h : PX w V b L m) (hg : V.grownBy V' none) : PX w V' b L m := by
  obtain ⟨⟨vr, vj, ms, h1⟩, h2⟩ := h
  exact ⟨⟨vr, vj, ms, h1.grown hg⟩, h2⟩
theorem PX.mono {w V : World} {b m k : Nat} {L : LocV} (h : PX w V b L m) (hk : m ≤ k) : PX w V b L k := ⟨h.out, h.fine.mono hk⟩
theorem PX.off {w V V' : World} {b m g t : Nat} {L : LocV} (h : PX w V b L m) (hg : V.grownBy V' (some g)) (ht : J.TypeAt V g t) (h1 : t ≠ 84) (h2 : t ≠ 98) (h3 : t ≠ 70) (h4 : t ≠ 3) : PX w V' b L m := by
  obtain ⟨⟨vr, vj, ms, h5⟩, h6⟩ := h
  exact ⟨⟨vr, vj, ms, h5.off hg ht h1 h2 h3 h4⟩, h6⟩
theorem PX.app {w V V' : World} {b m base s n : Nat} {L : LocV} {v : Value} {xs : List Value} (h : PX w V b L m) (hv : V.ownsRow base 68 s v n xs) (hg : V.grownBy V' v.ownBlock) : PX w V' b L m := by
  obtain ⟨⟨vr, vj, ms, h5⟩, h6⟩ := h
  exact ⟨⟨vr, vj, ms, h5.app hv hg⟩, h6⟩
/-- A row that lies ahead of another one. -/
theorem own_apart {V V' : World} {b1 e1 s1 n1 B e2 s2 n2 : Nat} {u v : Value} {xs ys : List Value} (h : V.ownsRow b1 e1 s1 u n1 xs) (hv : V.ownsRow B e2 s2 v n2 ys) (hlt : ∀ k, u.ownBlock = some k → k < B) (hg : V.grownBy V' v.ownBlock) : V'.ownsRow b1 e1 s1 u n1 xs := by
  refine World.ownsRow.kept h hg ?_
  cases hu : u.ownBlock with
  | none => exact .inl rfl
  | some k => exact .inr fun e => absurd (hlt k hu) (Nat.not_lt_of_le (World.ownsRow.lt hv k e.symm).1)
/-- What a call of a schedule leaves as it was. -/
structure Keeps (V V' : World) : Prop where
  row : ∀ {base e s n : Nat} {u : Value} {xs : List Value}, V.ownsRow base e s u n xs → e ≠ 84 → e ≠ 98 → e ≠ 70 → V'.ownsRow base e s u n xs
  box : ∀ {k t : Nat} {cs : Array Value} {fr : Nat × Nat}, V.heap[k]? = some (.cells cs t fr) → t ≠ 84 → t ≠ 98 → t ≠ 70 → V'.heap[k]? = some (.cells cs t fr)
theorem type_one {V : World} {k t t' : Nat} (h : J.TypeAt V k t) (h' : J.TypeAt V k t') : t = t' := by
  obtain ⟨cs, fr, h1⟩ := h
  obtain ⟨cs', fr', h2⟩ := h'
  rw [h1] at h2
  simp only [Option.some.injEq, Obj.cells.injEq] at h2
  exact h2.2.1
theorem own_typeAt {V : World} {base e s n k : Nat} {v : Value} {xs : List Value} (h : V.ownsRow base e s v n xs) (hk : v.ownBlock = some k) : J.TypeAt V k e := by
  rcases h.2 with ⟨rfl, _⟩ | ⟨g, cap, cur, rfl, _, hc, _⟩
  · cases hk
  · simp only [Value.ownBlock, Option.some.injEq] at hk
    subst hk
    exact ⟨_, _, hc⟩
theorem ownP_typeAt {lo k : Nat} {V : World} {v : Value} {js : List JobV} (h : OwnP lo V v js) (hn : js ≠ []) (hk : v.ownBlock = some k) : J.TypeAt V k 70 := by
  obtain ⟨g, o, cap, rfl, -, -, -, ht⟩ := ownP_at h hn
  simp only [Value.ownBlock, Option.some.injEq] at hk
  subst hk
  exact ht
theorem keeps_of {lo b : Nat} {q vr vj : Value} {V V' : World} {ms : List RunM} {L : LocV} (h : PLoc lo q V b vr vj ms L) (hk : ∀ k, k < V.heap.size → k ≠ b → vr.ownBlock ≠ some k → (L.jobs ≠ [] → vj.ownBlock ≠ some k) → V'.heap[k]? = V.heap[k]?) : Keeps V V' := by
  have key : ∀ {k t : Nat}, J.TypeAt V k t → k < V.heap.size → t ≠ 84 → t ≠ 98 → t ≠ 70 → V'.heap[k]? = V.heap[k]? := fun ht hlt h1 h2 h3 =>
    hk _ hlt (fun e => h1 (type_one ht (by rw [e]; exact type_box h.box))) (fun e => h2 (type_one ht (own_typeAt h.runs e))) (fun hn e => h3 (type_one ht (ownP_typeAt h.jobs hn e)))
  refine ⟨fun hr h1 h2 h3 => hr.same fun k hk => key (own_typeAt hr hk) (World.ownsRow.lt hr k hk).2 h1 h2 h3, fun hb h1 h2 h3 => ?_⟩
  rw [key ⟨_, _, hb⟩ (box_lt hb) h1 h2 h3]
  exact hb
theorem Keeps.of_grown {V V' : World} (hg : V.grownBy V' none) : Keeps V V' := ⟨fun h _ _ _ => own_kept h hg, fun h _ _ _ => box_grown h hg (by simp)⟩

section
variable {w V : World} {b m : Nat} {L L' : LocV} {N : Int} {es : List EvV} {ln : Nat}
theorem lnew {q : PartM} {p : PartV} (i : Int) (hg : w.grownBy V none) (hT : Tab V) (hp : PartIs 0 V q p) (hok : newOk i p = true) :
    Calls Tryz.prog 10 #[.int .i64 i, .agg #[.int .i64 q.level, .slice q.ta q.tn q.tc, .slice q.ca q.cn q.cc]] V fun e w' => ∃ b, e = .returned (.tuple #[.pointer (some ⟨b, 0, none⟩), .int .i64 0]) ∧ PX w w' b (newL i p) 0 ∧ w.grownBy w' none ∧ V.grownBy w' none :=
  (new_yes i V hT hp hok).mono fun e w' ⟨b, h1, ⟨vr, ms, h2⟩, h3⟩ => ⟨b, h1, ⟨⟨vr, _, ms, ⟨Nat.le_trans hg.size h2.hb, h2.box, own_mono h2.runs hg.size, h2.mlen, fun i m hm => ⟨(h2.each i m hm).1, (h2.each i m hm).2.1, (h2.each i m hm).2.2.1, own_mono (h2.each i m hm).2.2.2.1 hg.size, (h2.each i m hm).2.2.2.2⟩, .inl ⟨rfl, none, 0, rfl, fun k hk => by cases hk⟩⟩⟩, new_fine hok⟩, grownBy_trans hg h3, h3⟩
theorem lpick (i d now : Int) (hg : w.grownBy V none) (h : PX w V b L m) (hN : pickN L i d now = N) (hL : pickL L i d now = L') (hV : pickV L i d now = es) (hl : es.length = ln) :
    Calls Tryz.prog 16 #[.pointer (some ⟨b, 0, none⟩), .int .i64 i, .int .i64 d, .int .i64 now] V fun e w' => ∃ a c, e = .returned (.tuple #[.slice a ln c, .int .i64 N]) ∧ PX w w' b L' m ∧ OwnE w.heap.size w' (.slice a ln c) es ∧ w.grownBy w' none ∧ Keeps V w' := by
  obtain ⟨⟨vr, vj, ms, h1⟩, h2⟩ := h
  have hf := pick_fine h2 i d now
  refine (pick_all i d now w V hg (Nat.le_refl _) h1 h2 (fun k hk => by cases hk)).mono ?_
  rintro e w' ⟨v, ms', rfl, h3, h4, h5, h6, h7⟩
  rw [hN, hL, hV] at *
  obtain ⟨a, c, rfl⟩ := own_form h4
  rw [hl] at *
  exact ⟨a, c, rfl, ⟨⟨vr, vj, ms', h3⟩, hf⟩, own_mono h4 hg.size, h5, keeps_of h1 fun k hk hb hr _ => h7 k hk hb hr⟩
theorem lbegin (now : Int) (hg : w.grownBy V none) (h : PX w V b L m) (hm : m ≤ 1000000) (hN : beginN now = N) (hL : beginL L now = L') (hV : beginV L now = es) (hl : es.length = ln) :
    Calls Tryz.prog 19 #[.pointer (some ⟨b, 0, none⟩), .int .i64 now] V fun e w' => ∃ a c, e = .returned (.tuple #[.slice a ln c, .int .i64 N]) ∧ PX w w' b L' (m + 6) ∧ OwnE w.heap.size w' (.slice a ln c) es ∧ w.grownBy w' none ∧ Keeps V w' := by
  obtain ⟨⟨vr, vj, ms, h1⟩, h2⟩ := h
  have hf := begin_fine h2 now
  refine (begin_all now w V hg (Nat.le_refl _) h1 h2 hm (fun k hk => by cases hk)).mono ?_
  rintro e w' ⟨v, ms', rfl, ⟨vj', h3, -⟩, h4, h5, h6, h7⟩
  rw [hN, hL, hV] at *
  obtain ⟨a, c, rfl⟩ := own_form h4
  rw [hl] at *
  exact ⟨a, c, rfl, ⟨⟨vr, vj', ms', h3⟩, hf⟩, own_mono h4 hg.size, h5, keeps_of h1 fun k hk hb hr _ => h7 k hk hb hr⟩
theorem lrun {O D K : Bool} (hg : w.grownBy V none) (h : PX w V b L m) (hO : runO L = O) (hD : runD L = D) (hK : runK L = K) (hN : runN L = N) (hL : runL L = L') (hV : runV L = es) (hl : es.length = ln) :
    Calls Tryz.prog 21 #[.pointer (some ⟨b, 0, none⟩)] V fun e w' => ∃ a c, e = .returned (.tuple #[.agg #[.bool O, .bool D, .bool K], .slice a ln c, .int .i64 N]) ∧ PX w w' b L' m ∧ OwnE w.heap.size w' (.slice a ln c) es ∧ w.grownBy w' none ∧ Keeps V w' := by
  obtain ⟨⟨vr, vj, ms, h1⟩, h2⟩ := h
  have hf := run_fine h2
  refine (run_all w V hg (Nat.le_refl _) h1 h2).mono ?_
  rintro e w' ⟨v, rfl, ⟨vj', h3, -⟩, h4, h5, h6, h7⟩
  rw [hO, hD, hK, hN, hL, hV] at *
  obtain ⟨a, c, rfl⟩ := own_form h4
  rw [hl] at *
  exact ⟨a, c, rfl, ⟨⟨vr, vj', ms, h3⟩, hf⟩, own_mono h4 hg.size, h5, keeps_of h1 fun k hk hb _ hj => h7 k hk hb hj⟩
theorem lfail (hg : w.grownBy V none) (h : PX w V b L m) (hN : runN L = N) (hL : failL L = L') (hV : failV L = es) (hl : es.length = ln) :
    Calls Tryz.prog 23 #[.pointer (some ⟨b, 0, none⟩)] V fun e w' => ∃ a c, e = .returned (.tuple #[.slice a ln c, .int .i64 N]) ∧ PX w w' b L' m ∧ OwnE w.heap.size w' (.slice a ln c) es ∧ w.grownBy w' none ∧ Keeps V w' := by
  obtain ⟨⟨vr, vj, ms, h1⟩, h2⟩ := h
  have hf := fail_fine h2
  refine (fail_all w V hg (Nat.le_refl _) h1 h2).mono ?_
  rintro e w' ⟨v, rfl, ⟨vj', h3, -⟩, h4, h5, h6, h7⟩
  rw [hN, hL, hV] at *
  obtain ⟨a, c, rfl⟩ := own_form h4
  rw [hl] at *
  exact ⟨a, c, rfl, ⟨⟨vr, vj', ms, h3⟩, hf⟩, own_mono h4 hg.size, h5, keeps_of h1 fun k hk hb hr _ => h7 k hk hb hr⟩
theorem lready {B : Bool} (h : PX w V b L m) (hB : decide (0 < L.jobs.length) = B) :
    Calls Tryz.prog 27 #[.pointer (some ⟨b, 0, none⟩)] V fun e w' => e = .returned (.bool B) ∧ V = w' := by
  obtain ⟨⟨vr, vj, ms, h1⟩, -⟩ := h
  rw [← hB]
  exact ready_any V h1
theorem ljobs (hg : w.grownBy V none) (h : PX w V b L m) (hl : L.jobs.length = ln) :
    Calls Tryz.prog 25 #[.pointer (some ⟨b, 0, none⟩)] V fun e w' => ∃ a c, e = .returned (.slice a ln c) ∧ J.Own w.heap.size w' (.slice a ln c) L.jobs ∧ PX w w' b L m ∧ w.grownBy w' none ∧ V.grownBy w' none := by
  have hX := h
  obtain ⟨⟨vr, vj, ms, h1⟩, h2⟩ := h
  refine (jobs_any V h1 (J.rowMay_iff.1 h2.row).1).mono ?_
  rintro e w' ⟨v, rfl, h3, h4⟩
  obtain ⟨a, c, rfl⟩ := h3.form
  rw [hl] at *
  exact ⟨a, c, rfl, own_mono h3 hg.size, hX.grown h4, grownBy_trans hg h4, h4⟩
end
theorem lsame {w V : World} {u v : Value} {es : List EvV} (hg : w.grownBy V none) (hu : OwnE w.heap.size V u es) (hv : OwnE w.heap.size V v es) : Calls Tryz.prog 18 #[u, v] V fun e w' => e = .returned (.bool true) ∧ V.grownBy w' none ∧ w.grownBy w' none := by
  refine (Es.same_T u v es V hu.row hv.row).mono ?_
  rintro e w' ⟨rfl, n, rfl⟩
  exact ⟨rfl, grownBy_draws V n none, grownBy_trans hg (grownBy_draws V n none)⟩
#print axioms lsame
end Go.Proofs.YtlppfocoonnpjaaGreatDoor.L

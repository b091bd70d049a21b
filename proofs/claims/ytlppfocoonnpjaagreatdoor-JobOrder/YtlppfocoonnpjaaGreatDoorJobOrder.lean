/- The statement JobOrder: of the jobs that are ready the one of least Prio runs first, and the one that runs runs to its end; for every argument, the table of operations as the program lays it. -/
import Derived.Test.YtlppfocoonnpjaaGreatDoorLOrder
import Derived.Test.YtlppfocoonnpjaaGreatDoorLOpen
import Derived.Test.YtlppfocoonnpjaaGreatDoorCards
import Derived.Test.YtlppfocoonnpjaaGreatDoorTie
import Derived.WalkKit
import Derived.ProofKit
import Derived.OpenShut
import Derived.ShutString
import Derived.ChangeOld
import Derived.Below
import Derived.SizedLaws
import Derived.Deep.DeepHandedRow
namespace Go.Proofs.YtlppfocoonnpjaaGreatDoor.jobOrder
open Go.ChangeShapes Go.WideShapes Go.ChangeAt Go.RowKit
open Go.ChangeMaps (open_string shut_string)
set_option linter.unusedVariables false

theorem own : ownKnob Tryz.prog.godebug = none := by kernel_rfl
theorem laidOut : laidOutB Tryz.prog = true := by kernel_rfl

theorem walk (a0 : Option Addr) (len0 cap0 : Nat) (z0 : List Int) (a1 : Int) (w : World) (w0 : RowAt U.shN 0 w (.slice a0 len0 cap0) z0) (w1 : (Lit.int .i64 a1).wf = true) (hT : Tab w) :
    Calls Tryz.prog 6 #[.slice a0 len0 cap0, .int .i64 a1] w fun e w' => e = .returned (.bool true) ∧ Below w.heap.size w w' := by
  exact (L.order_any (.slice a0 len0 cap0) z0 a1 w w0 hT).mono fun e w' h => ⟨h.1, below_of_grown h.2⟩

set_option maxRecDepth 100000 in
/-- What the walk gives, for every argument and every world that holds the table. -/
theorem contract (H : Type) (enc : TypeId × Value → H) (W : World) (base : Nat) (args : Array Value) (ds gs : List (DataW H)) (before : List MemPlace)
    (hval : ∀ (j : Nat) t v, Tryz.f6.params[j]? = some t → args[j]? = some v → Value.okWide Tryz.prog W .any base t v)
    (hW : DataW.Whole enc Tryz.prog Tryz.f6.params.toList Rows.jobOrderSpec.vars false W args.toList ds gs before)
    (hsz : (DataW.weightsEach Tryz.prog (Tryz.f6.params.toList ++ Rows.jobOrderSpec.plain.varTypes Tryz.prog) (ds ++ gs)).all (· ≤ reachBytes) = true) (hL : laidMetH Tryz.prog Rows.jobOrderRow.laid W) :
    Calls Tryz.prog 6 args W fun e W' => ∃ v, e = .returned v ∧ Rows.jobOrderSpec.post enc Tryz.prog Tryz.f6 false true false false W args v W' := by
  have hW' := hW
  obtain ⟨p, q, hA0, hV, rfl, hfz, hnd⟩ := hW
  have hA : DataW.TrodAll enc Tryz.prog W 0 (fun _ => true) true Tryz.f6.params.toList args.toList ds p := hA0
  rw [Tryz.params6] at hA hval hsz
  obtain ⟨v0, vs0, d0, ds0, p0, q0, hargs, rfl, rfl, h0, r0⟩ := trodAll_cons hA
  obtain ⟨v1, vs1, d1, ds1, p1, q1, rfl, rfl, rfl, h1, r1⟩ := trodAll_cons r0
  obtain ⟨rfl, rfl, rfl⟩ := trodAll_nil r1
  obtain rfl : args = #[v0, v1] := by cases args; simp_all
  obtain ⟨rfl, rfl⟩ := trodVars_none hV
  obtain ⟨a0, len0, cap0, rfl⟩ := okWide_slice Tryz.underlying61 (hval 0 61 v0 rfl rfl)
  have k0 := h0
  have lt0 : ∀ x ∈ p0, x.block < W.heap.size := by obtain ⟨m, hm⟩ := k0; exact DataW.trod_lt m _ _ _ hm
  obtain ⟨z0, w0⟩ : ∃ zs, RowAt U.shN 0 W (.slice a0 len0 cap0) zs := by
    obtain ⟨fuel, hf⟩ := h0
    exact L.ints_open hf
  obtain ⟨a1, rfl, rfl, rfl, w1⟩ := open_int Tryz.underlying3 (hval 1 3 v1 rfl rfl) h1
  clear hA0
  refine (walk a0 len0 cap0 z0 a1 W w0 w1 (tab_of_laid hL)).mono fun e W' ⟨he, bel⟩ => ?_
  subst he
  exact ⟨_, rfl, _, _, _, [], _, [], hW', trodAll_mk1 (shut_bool Tryz.underlying4 _), (trodAll_cons_mk (Below.trod laidOut (by kernel_rfl) (of_decide_eq_true (by kernel_rfl)) k0 bel lt0) (trodAll_cons_mk (shut_int Tryz.underlying3 w1) trodAll_mk0)), rfl, bel.frame _, fun h => by cases h⟩

/- The witness's world, typed out: the settled one, the table holding what its initialiser lays. -/
set_option maxRecDepth 100000 in
theorem laid_met (os : Os) : laidMet Tryz.prog Rows.jobOrderRow.laid (({ World.holding Tryz.prog os ⟨#[], #[], []⟩ with heap := (World.holding Tryz.prog os ⟨#[], #[], []⟩).heap.modify 0 fun | .cells _ t frozen => .cells #[.string ⟨#[110, 111, 112]⟩, .int .i64 (1), .string ⟨#[99, 111, 110, 115, 116]⟩, .int .i64 (256), .string ⟨#[108, 111, 97, 100]⟩, .int .i64 (16), .string ⟨#[115, 116, 111, 114, 101]⟩, .int .i64 (16), .string ⟨#[97, 100, 100]⟩, .int .i64 (16), .string ⟨#[115, 117, 98]⟩, .int .i64 (16), .string ⟨#[106, 117, 109, 112]⟩, .int .i64 (-1), .string ⟨#[122, 101, 114, 111]⟩, .int .i64 (-1), .string ⟨#[105, 110]⟩, .int .i64 (1), .string ⟨#[111, 117, 116]⟩, .int .i64 (8), .string ⟨#[103, 101, 116]⟩, .int .i64 (8), .string ⟨#[104, 97, 108, 116]⟩, .int .i64 (1)] t frozen | o => o } : World).forCall (fun _ _ => 0) ⟨#[], #[.slice none 0 0, .int .i64 0], []⟩).memory :=
  laidMet_of_run' 8 (by kernel_rfl) (by kernel_rfl)
set_option maxRecDepth 100000 in
theorem reads (os : Os) {H : Type} (enc : TypeId × Value → H) : ∃ places, DataW.whole enc Tryz.prog (({ World.holding Tryz.prog os ⟨#[], #[], []⟩ with heap := (World.holding Tryz.prog os ⟨#[], #[], []⟩).heap.modify 0 fun | .cells _ t frozen => .cells #[.string ⟨#[110, 111, 112]⟩, .int .i64 (1), .string ⟨#[99, 111, 110, 115, 116]⟩, .int .i64 (256), .string ⟨#[108, 111, 97, 100]⟩, .int .i64 (16), .string ⟨#[115, 116, 111, 114, 101]⟩, .int .i64 (16), .string ⟨#[97, 100, 100]⟩, .int .i64 (16), .string ⟨#[115, 117, 98]⟩, .int .i64 (16), .string ⟨#[106, 117, 109, 112]⟩, .int .i64 (-1), .string ⟨#[122, 101, 114, 111]⟩, .int .i64 (-1), .string ⟨#[105, 110]⟩, .int .i64 (1), .string ⟨#[111, 117, 116]⟩, .int .i64 (8), .string ⟨#[103, 101, 116]⟩, .int .i64 (8), .string ⟨#[104, 97, 108, 116]⟩, .int .i64 (1)] t frozen | o => o } : World).forCall (fun _ _ => 0) ⟨#[], #[.slice none 0 0, .int .i64 0], []⟩).memory Tryz.f6.params.toList Rows.jobOrderSpec.vars false (#[.slice none 0 0, .int .i64 0] : Array Value).toList 8 = some ([.nil, .lit (.int .i64 0)], [], places) :=
  ⟨[], by kernel_rfl⟩

set_option maxRecDepth 100000 in
theorem lifted (os : Os) (started : os.Started) (H : Type) (enc : TypeId × Value → H) (F : Stop.Interp) :
    ReturnsInHanded {} Tryz.checked os 6 .any ((OpenSpec.ofChange Rows.jobOrderSpec).preRow enc Tryz.prog Tryz.f6 Rows.jobOrderRow.domain false Rows.jobOrderRow.laid) (((OpenSpec.ofChange Rows.jobOrderSpec).at F).post enc Tryz.prog Tryz.f6 false true false false) := by
  obtain ⟨places, hx⟩ := reads os enc
  refine returnsInHanded_of_row (C := Tryz.checked) (s := OpenSpec.ofChange Rows.jobOrderSpec) own started (by kernel_rfl) Tryz.func6
    (witness_row_at (enc := enc) (C := Tryz.checked) false ({ World.holding Tryz.prog os ⟨#[], #[], []⟩ with heap := (World.holding Tryz.prog os ⟨#[], #[], []⟩).heap.modify 0 fun | .cells _ t frozen => .cells #[.string ⟨#[110, 111, 112]⟩, .int .i64 (1), .string ⟨#[99, 111, 110, 115, 116]⟩, .int .i64 (256), .string ⟨#[108, 111, 97, 100]⟩, .int .i64 (16), .string ⟨#[115, 116, 111, 114, 101]⟩, .int .i64 (16), .string ⟨#[97, 100, 100]⟩, .int .i64 (16), .string ⟨#[115, 117, 98]⟩, .int .i64 (16), .string ⟨#[106, 117, 109, 112]⟩, .int .i64 (-1), .string ⟨#[122, 101, 114, 111]⟩, .int .i64 (-1), .string ⟨#[105, 110]⟩, .int .i64 (1), .string ⟨#[111, 117, 116]⟩, .int .i64 (8), .string ⟨#[103, 101, 116]⟩, .int .i64 (8), .string ⟨#[104, 97, 108, 116]⟩, .int .i64 (1)] t frozen | o => o } : World) #[.slice none 0 0, .int .i64 0] rfl (by kernel_rfl) (by kernel_rfl) (by kernel_rfl)
      (OpenSpec.preRow_of_cond 8 hx (by kernel_rfl) (fun k hk => by cases hk) (by kernel_rfl) (laid_met os))) ?_
  intro W base args ds gs before hval hW _ _ hsz hL _ _
  exact contract H enc W base args ds gs before hval hW hsz hL

theorem said : Rows.JobOrderSaid :=
  OpenClaim.holds_of_cond 6 Tryz.f6 rfl rfl rfl rfl rfl rfl rfl ⟨rfl, rfl, rfl, rfl, rfl⟩ rfl rfl rfl rfl rfl (by kernel_rfl) Tryz.func6 (by kernel_rfl)
    (of_decide_eq_true (by kernel_rfl)) (by unfold Func.isWrapper; first | (rw [if_pos (by decide +kernel)]; kernel_rfl) | (rw [if_neg (by decide +kernel)]; exact ⟨rfl, rfl⟩))
    (fun os started H enc _ F => by rw [OpenClaim.pre_eq_preRow]; exact lifted os started H enc F)

/-- No parameter wants a stand-in; the program's own looks are off. -/
theorem plain (f : FuncId) (fn : Func) (hf : Tryz.pinned.checked.prog.funcNamed "nocturn/nocturnlaw14.JobOrder" = some f) (hfn : Tryz.pinned.checked.prog.funcs[f]? = some fn) :
    false = Tryz.pinned.checked.prog.looks [] ∧ ∀ (j : Nat) t, fn.params[j]? = some t → Tryz.pinned.checked.prog.wantsStandIn t = false := by
  obtain rfl : f = 6 := Option.some.inj ((show Tryz.prog.funcNamed "nocturn/nocturnlaw14.JobOrder" = some 6 by kernel_rfl).symm.trans hf) |>.symm
  obtain rfl : fn = Tryz.f6 := (Option.some.inj (Tryz.func6.symm.trans hfn)).symm
  refine ⟨by kernel_rfl, fun j t ht => ?_⟩
  rw [Tryz.params6] at ht
  have hm : t ∈ [61, 3] := by simpa using Array.mem_of_getElem? ht
  have hall : ([61, 3].all fun u => !Tryz.prog.wantsStandIn u) = true := by kernel_rfl
  exact (show Tryz.prog.wantsStandIn t = false by simpa using List.all_eq_true.1 hall t hm)

/-- The card. -/
theorem card : Rows.JobOrderCardSaid :=
  Claim7.holds_tied_plain_at .later [] _ _ _ _ said (fun _ h => by cases h) (by kernel_rfl) (fun _ h => by cases h) jobOrder_row_tie rfl ⟨rfl, rfl⟩ (by kernel_rfl) rfl plain (by kernel_rfl)
end Go.Proofs.YtlppfocoonnpjaaGreatDoor.jobOrder
namespace Go.Proofs.YtlppfocoonnpjaaGreatDoor
theorem jobOrder_holds : Rows.JobOrderCardSaid := jobOrder.card
#print axioms jobOrder_holds
end Go.Proofs.YtlppfocoonnpjaaGreatDoor

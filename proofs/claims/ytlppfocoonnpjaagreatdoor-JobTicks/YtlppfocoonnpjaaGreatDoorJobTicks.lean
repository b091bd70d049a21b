/- The statement JobTicks: tick by tick, each job that comes is done, killed, missed, or still there, and there are never two of one task; for every argument, the table of operations as the program lays it. -/
import Derived.Test.YtlppfocoonnpjaaGreatDoorLTicks
import Derived.Test.YtlppfocoonnpjaaGreatDoorLOpen
import Derived.Test.YtlppfocoonnpjaaGreatDoorCards
import Derived.Test.YtlppfocoonnpjaaGreatDoorTie
import Derived.WalkKit
import Derived.ProofKit
import Derived.OpenShut
import Derived.ShutString
import Derived.ChangeOld
import Derived.Below
import Derived.SizedLaws
import Derived.Deep.DeepHandedRow
namespace Go.Proofs.YtlppfocoonnpjaaGreatDoor.jobTicks
open Go.ChangeShapes Go.WideShapes Go.ChangeAt Go.RowKit
open Go.ChangeMaps (open_string shut_string)
set_option linter.unusedVariables false

theorem own : ownKnob Tryz.prog.godebug = none := by kernel_rfl
theorem laidOut : laidOutB Tryz.prog = true := by kernel_rfl

theorem walk (q0 : PartM) (p0 : PartV) (a1 : Option Addr) (len1 cap1 : Nat) (z1 : List Int) (a2 : Option Addr) (len2 cap2 : Nat) (z2 : List Int) (w : World) (w0 : PartIs 0 w q0 p0 ∧ p0.tasks.length * 48 ≤ reachBytes ∧ p0.code.length * 16 ≤ reachBytes) (w1 : RowAt U.shN 0 w (.slice a1 len1 cap1) z1) (w2 : RowAt U.shN 0 w (.slice a2 len2 cap2) z2) (hT : Tab w) :
    Calls Tryz.prog 4 #[.agg #[.int .i64 q0.level, .slice q0.ta q0.tn q0.tc, .slice q0.ca q0.cn q0.cc], .slice a1 len1 cap1, .slice a2 len2 cap2] w fun e w' => e = .returned (.bool true) ∧ Below w.heap.size w w' := by
  exact (L.ticks_any q0 p0 (.slice a1 len1 cap1) (.slice a2 len2 cap2) z1 z2 w w0.1 w1 w2 hT).mono fun e w' h => ⟨h.1, below_of_grown h.2⟩

set_option maxRecDepth 100000 in
/-- What the walk gives, for every argument and every world that holds the table. -/
theorem contract (H : Type) (enc : TypeId × Value → H) (W : World) (base : Nat) (args : Array Value) (ds gs : List (DataW H)) (before : List MemPlace)
    (hval : ∀ (j : Nat) t v, Tryz.f4.params[j]? = some t → args[j]? = some v → Value.okWide Tryz.prog W .any base t v)
    (hW : DataW.Whole enc Tryz.prog Tryz.f4.params.toList Rows.jobTicksSpec.vars false W args.toList ds gs before)
    (hsz : (DataW.weightsEach Tryz.prog (Tryz.f4.params.toList ++ Rows.jobTicksSpec.plain.varTypes Tryz.prog) (ds ++ gs)).all (· ≤ reachBytes) = true) (hL : laidMetH Tryz.prog Rows.jobTicksRow.laid W) :
    Calls Tryz.prog 4 args W fun e W' => ∃ v, e = .returned v ∧ Rows.jobTicksSpec.post enc Tryz.prog Tryz.f4 false true false false W args v W' := by
  have hW' := hW
  obtain ⟨p, q, hA0, hV, rfl, hfz, hnd⟩ := hW
  have hA : DataW.TrodAll enc Tryz.prog W 0 (fun _ => true) true Tryz.f4.params.toList args.toList ds p := hA0
  rw [Tryz.params4] at hA hval hsz
  obtain ⟨v0, vs0, d0, ds0, p0, q0, hargs, rfl, rfl, h0, r0⟩ := trodAll_cons hA
  obtain ⟨v1, vs1, d1, ds1, p1, q1, rfl, rfl, rfl, h1, r1⟩ := trodAll_cons r0
  obtain ⟨v2, vs2, d2, ds2, p2, q2, rfl, rfl, rfl, h2, r2⟩ := trodAll_cons r1
  obtain ⟨rfl, rfl, rfl⟩ := trodAll_nil r2
  obtain rfl : args = #[v0, v1, v2] := by cases args; simp_all
  obtain ⟨rfl, rfl⟩ := trodVars_none hV
  have k0 := h0
  have lt0 : ∀ x ∈ p0, x.block < W.heap.size := by obtain ⟨m, hm⟩ := k0; exact DataW.trod_lt m _ _ _ hm
  obtain ⟨q0', P0, rfl, w0⟩ : ∃ q P, v0 = .agg #[.int .i64 (q : PartM).level, .slice q.ta q.tn q.tc, .slice q.ca q.cn q.cc] ∧ PartIs 0 W q P ∧ P.tasks.length * 48 ≤ reachBytes ∧ P.code.length * 16 ≤ reachBytes := by
    obtain ⟨fuel, hf⟩ := h0
    exact L.part_open (hval 0 25 v0 rfl rfl) hf (small_of hsz (j := 0) rfl rfl)
  obtain ⟨a1, len1, cap1, rfl⟩ := okWide_slice Tryz.underlying61 (hval 1 61 v1 rfl rfl)
  have k1 := h1
  have lt1 : ∀ x ∈ p1, x.block < W.heap.size := by obtain ⟨m, hm⟩ := k1; exact DataW.trod_lt m _ _ _ hm
  obtain ⟨z1, w1⟩ : ∃ zs, RowAt U.shN 0 W (.slice a1 len1 cap1) zs := by
    obtain ⟨fuel, hf⟩ := h1
    exact L.ints_open hf
  obtain ⟨a2, len2, cap2, rfl⟩ := okWide_slice Tryz.underlying61 (hval 2 61 v2 rfl rfl)
  have k2 := h2
  have lt2 : ∀ x ∈ p2, x.block < W.heap.size := by obtain ⟨m, hm⟩ := k2; exact DataW.trod_lt m _ _ _ hm
  obtain ⟨z2, w2⟩ : ∃ zs, RowAt U.shN 0 W (.slice a2 len2 cap2) zs := by
    obtain ⟨fuel, hf⟩ := h2
    exact L.ints_open hf
  clear hA0
  refine (walk q0' P0 a1 len1 cap1 z1 a2 len2 cap2 z2 W w0 w1 w2 (tab_of_laid hL)).mono fun e W' ⟨he, bel⟩ => ?_
  subst he
  exact ⟨_, rfl, _, _, _, [], _, [], hW', trodAll_mk1 (shut_bool Tryz.underlying4 _), (trodAll_cons_mk (Below.trod laidOut (by kernel_rfl) (of_decide_eq_true (by kernel_rfl)) k0 bel lt0) (trodAll_cons_mk (Below.trod laidOut (by kernel_rfl) (of_decide_eq_true (by kernel_rfl)) k1 bel lt1) (trodAll_cons_mk (Below.trod laidOut (by kernel_rfl) (of_decide_eq_true (by kernel_rfl)) k2 bel lt2) trodAll_mk0))), rfl, bel.frame _, fun h => by cases h⟩

/- The witness's world, typed out: the settled one, the table holding what its initialiser lays. -/
set_option maxRecDepth 100000 in
theorem laid_met (os : Os) : laidMet Tryz.prog Rows.jobTicksRow.laid (({ World.holding Tryz.prog os ⟨#[], #[], []⟩ with heap := (World.holding Tryz.prog os ⟨#[], #[], []⟩).heap.modify 0 fun | .cells _ t frozen => .cells #[.string ⟨#[110, 111, 112]⟩, .int .i64 (1), .string ⟨#[99, 111, 110, 115, 116]⟩, .int .i64 (256), .string ⟨#[108, 111, 97, 100]⟩, .int .i64 (16), .string ⟨#[115, 116, 111, 114, 101]⟩, .int .i64 (16), .string ⟨#[97, 100, 100]⟩, .int .i64 (16), .string ⟨#[115, 117, 98]⟩, .int .i64 (16), .string ⟨#[106, 117, 109, 112]⟩, .int .i64 (-1), .string ⟨#[122, 101, 114, 111]⟩, .int .i64 (-1), .string ⟨#[105, 110]⟩, .int .i64 (1), .string ⟨#[111, 117, 116]⟩, .int .i64 (8), .string ⟨#[103, 101, 116]⟩, .int .i64 (8), .string ⟨#[104, 97, 108, 116]⟩, .int .i64 (1)] t frozen | o => o } : World).forCall (fun _ _ => 0) ⟨#[], #[.agg #[.int .i64 0, .slice none 0 0, .slice none 0 0], .slice none 0 0, .slice none 0 0], []⟩).memory :=
  laidMet_of_run' 8 (by kernel_rfl) (by kernel_rfl)
set_option maxRecDepth 100000 in
theorem reads (os : Os) {H : Type} (enc : TypeId × Value → H) : ∃ places, DataW.whole enc Tryz.prog (({ World.holding Tryz.prog os ⟨#[], #[], []⟩ with heap := (World.holding Tryz.prog os ⟨#[], #[], []⟩).heap.modify 0 fun | .cells _ t frozen => .cells #[.string ⟨#[110, 111, 112]⟩, .int .i64 (1), .string ⟨#[99, 111, 110, 115, 116]⟩, .int .i64 (256), .string ⟨#[108, 111, 97, 100]⟩, .int .i64 (16), .string ⟨#[115, 116, 111, 114, 101]⟩, .int .i64 (16), .string ⟨#[97, 100, 100]⟩, .int .i64 (16), .string ⟨#[115, 117, 98]⟩, .int .i64 (16), .string ⟨#[106, 117, 109, 112]⟩, .int .i64 (-1), .string ⟨#[122, 101, 114, 111]⟩, .int .i64 (-1), .string ⟨#[105, 110]⟩, .int .i64 (1), .string ⟨#[111, 117, 116]⟩, .int .i64 (8), .string ⟨#[103, 101, 116]⟩, .int .i64 (8), .string ⟨#[104, 97, 108, 116]⟩, .int .i64 (1)] t frozen | o => o } : World).forCall (fun _ _ => 0) ⟨#[], #[.agg #[.int .i64 0, .slice none 0 0, .slice none 0 0], .slice none 0 0, .slice none 0 0], []⟩).memory Tryz.f4.params.toList Rows.jobTicksSpec.vars false (#[.agg #[.int .i64 0, .slice none 0 0, .slice none 0 0], .slice none 0 0, .slice none 0 0] : Array Value).toList 8 = some ([.agg [.lit (.int .i64 0), .nil, .nil], .nil, .nil], [], places) :=
  ⟨[], by kernel_rfl⟩

set_option maxRecDepth 100000 in
theorem lifted (os : Os) (started : os.Started) (H : Type) (enc : TypeId × Value → H) (F : Stop.Interp) :
    ReturnsInHanded {} Tryz.checked os 4 .any ((OpenSpec.ofChange Rows.jobTicksSpec).preRow enc Tryz.prog Tryz.f4 Rows.jobTicksRow.domain false Rows.jobTicksRow.laid) (((OpenSpec.ofChange Rows.jobTicksSpec).at F).post enc Tryz.prog Tryz.f4 false true false false) := by
  obtain ⟨places, hx⟩ := reads os enc
  refine returnsInHanded_of_row (C := Tryz.checked) (s := OpenSpec.ofChange Rows.jobTicksSpec) own started (by kernel_rfl) Tryz.func4
    (witness_row_at (enc := enc) (C := Tryz.checked) false ({ World.holding Tryz.prog os ⟨#[], #[], []⟩ with heap := (World.holding Tryz.prog os ⟨#[], #[], []⟩).heap.modify 0 fun | .cells _ t frozen => .cells #[.string ⟨#[110, 111, 112]⟩, .int .i64 (1), .string ⟨#[99, 111, 110, 115, 116]⟩, .int .i64 (256), .string ⟨#[108, 111, 97, 100]⟩, .int .i64 (16), .string ⟨#[115, 116, 111, 114, 101]⟩, .int .i64 (16), .string ⟨#[97, 100, 100]⟩, .int .i64 (16), .string ⟨#[115, 117, 98]⟩, .int .i64 (16), .string ⟨#[106, 117, 109, 112]⟩, .int .i64 (-1), .string ⟨#[122, 101, 114, 111]⟩, .int .i64 (-1), .string ⟨#[105, 110]⟩, .int .i64 (1), .string ⟨#[111, 117, 116]⟩, .int .i64 (8), .string ⟨#[103, 101, 116]⟩, .int .i64 (8), .string ⟨#[104, 97, 108, 116]⟩, .int .i64 (1)] t frozen | o => o } : World) #[.agg #[.int .i64 0, .slice none 0 0, .slice none 0 0], .slice none 0 0, .slice none 0 0] rfl (by kernel_rfl) (by kernel_rfl) (by kernel_rfl)
      (OpenSpec.preRow_of_cond 8 hx (by kernel_rfl) (fun k hk => by cases hk) (by kernel_rfl) (laid_met os))) ?_
  intro W base args ds gs before hval hW _ _ hsz hL _ _
  exact contract H enc W base args ds gs before hval hW hsz hL

theorem said : Rows.JobTicksSaid :=
  OpenClaim.holds_of_cond 4 Tryz.f4 rfl rfl rfl rfl rfl rfl rfl ⟨rfl, rfl, rfl, rfl, rfl⟩ rfl rfl rfl rfl rfl (by kernel_rfl) Tryz.func4 (by kernel_rfl)
    (of_decide_eq_true (by kernel_rfl)) (by unfold Func.isWrapper; first | (rw [if_pos (by decide +kernel)]; kernel_rfl) | (rw [if_neg (by decide +kernel)]; exact ⟨rfl, rfl⟩))
    (fun os started H enc _ F => by rw [OpenClaim.pre_eq_preRow]; exact lifted os started H enc F)

/-- No parameter wants a stand-in; the program's own looks are off. -/
theorem plain (f : FuncId) (fn : Func) (hf : Tryz.pinned.checked.prog.funcNamed "nocturn/nocturnlaw14.JobTicks" = some f) (hfn : Tryz.pinned.checked.prog.funcs[f]? = some fn) :
    false = Tryz.pinned.checked.prog.looks [] ∧ ∀ (j : Nat) t, fn.params[j]? = some t → Tryz.pinned.checked.prog.wantsStandIn t = false := by
  obtain rfl : f = 4 := Option.some.inj ((show Tryz.prog.funcNamed "nocturn/nocturnlaw14.JobTicks" = some 4 by kernel_rfl).symm.trans hf) |>.symm
  obtain rfl : fn = Tryz.f4 := (Option.some.inj (Tryz.func4.symm.trans hfn)).symm
  refine ⟨by kernel_rfl, fun j t ht => ?_⟩
  rw [Tryz.params4] at ht
  have hm : t ∈ [25, 61, 61] := by simpa using Array.mem_of_getElem? ht
  have hall : ([25, 61, 61].all fun u => !Tryz.prog.wantsStandIn u) = true := by kernel_rfl
  exact (show Tryz.prog.wantsStandIn t = false by simpa using List.all_eq_true.1 hall t hm)

/-- The card. -/
theorem card : Rows.JobTicksCardSaid :=
  Claim7.holds_tied_plain_at .later [] _ _ _ _ said (fun _ h => by cases h) (by kernel_rfl) (fun _ h => by cases h) jobTicks_row_tie rfl ⟨rfl, rfl⟩ (by kernel_rfl) rfl plain (by kernel_rfl)
end Go.Proofs.YtlppfocoonnpjaaGreatDoor.jobTicks
namespace Go.Proofs.YtlppfocoonnpjaaGreatDoor
theorem jobTicks_holds : Rows.JobTicksCardSaid := jobTicks.card
#print axioms jobTicks_holds
end Go.Proofs.YtlppfocoonnpjaaGreatDoor

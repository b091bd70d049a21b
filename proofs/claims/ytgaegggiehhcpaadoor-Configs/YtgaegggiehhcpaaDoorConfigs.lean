/- The statement Configs, proved whole: Check, Put and Get answer as the document's, for any configuration and any text; what Get answers is its caller's. -/
import Derived.Test.YtgaegggiehhcpaaDoorLConf
import Derived.Test.YtgaegggiehhcpaaDoorOpen
import Derived.Test.YtgaegggiehhcpaaDoorCards
import Derived.Test.YtgaegggiehhcpaaDoorTie
import Derived.WalkKit
import Derived.ProofKit
import Derived.OpenShut
import Derived.ShutString
import Derived.ChangeOld
import Derived.Below
import Derived.SizedLaws
import Derived.Deep.DeepHandedRow
namespace Go.Proofs.YtgaegggiehhcpaaDoor.configs
open Go.ChangeShapes Go.WideShapes Go.ChangeAt Go.RowKit
open Go.ChangeMaps (open_string shut_string)
set_option linter.unusedVariables false

theorem own : ownKnob Tryd.prog.godebug = none := by kernel_rfl
theorem laidOut : laidOutB Tryd.prog = true := by kernel_rfl

theorem walk (v0 : Value) (C0 : ConfV) (a1 : ByteArray) (w : World) (w0 : ConfAt 0 w v0 C0 ∧ Big C0) (w1 : a1.size ≤ 9223372036854775807) (hT : Tab w) :
    Calls Tryd.prog 3 #[v0, .string a1] w fun e w' => e = .returned (.bool true) ∧ Below w.heap.size w w' := by
  exact (R5.configs_any v0 C0 w0.2 a1 (by omega) w hT w0.1).mono fun e w' h => ⟨h.1, below_of_grown h.2⟩

set_option maxRecDepth 100000 in
/-- What the walk gives, for every argument and every world that holds the table. -/
theorem contract (H : Type) (enc : TypeId × Value → H) (W : World) (base : Nat) (args : Array Value) (ds gs : List (DataW H)) (before : List MemPlace)
    (hval : ∀ (j : Nat) t v, Tryd.f3.params[j]? = some t → args[j]? = some v → Value.okWide Tryd.prog W .any base t v)
    (hW : DataW.Whole enc Tryd.prog Tryd.f3.params.toList Rows.configsSpec.vars false W args.toList ds gs before)
    (hsz : (DataW.weightsEach Tryd.prog (Tryd.f3.params.toList ++ Rows.configsSpec.plain.varTypes Tryd.prog) (ds ++ gs)).all (· ≤ reachBytes) = true) (hL : laidMetH Tryd.prog Rows.configsRow.laid W) :
    Calls Tryd.prog 3 args W fun e W' => ∃ v, e = .returned v ∧ Rows.configsSpec.post enc Tryd.prog Tryd.f3 false true false false W args v W' := by
  have hW' := hW
  obtain ⟨p, q, hA0, hV, rfl, hfz, hnd⟩ := hW
  have hA : DataW.TrodAll enc Tryd.prog W 0 (fun _ => true) true Tryd.f3.params.toList args.toList ds p := hA0
  rw [Tryd.params3] at hA hval hsz
  obtain ⟨v0, vs0, d0, ds0, p0, q0, hargs, rfl, rfl, h0, r0⟩ := trodAll_cons hA
  obtain ⟨v1, vs1, d1, ds1, p1, q1, rfl, rfl, rfl, h1, r1⟩ := trodAll_cons r0
  obtain ⟨rfl, rfl, rfl⟩ := trodAll_nil r1
  obtain rfl : args = #[v0, v1] := by cases args; simp_all
  obtain ⟨rfl, rfl⟩ := trodVars_none hV
  have k0 := h0
  have lt0 : ∀ x ∈ p0, x.block < W.heap.size := by obtain ⟨m, hm⟩ := k0; exact DataW.trod_lt m _ _ _ hm
  obtain ⟨C0, w0⟩ : ∃ C, ConfAt 0 W v0 C ∧ Big C := by
    obtain ⟨fuel, hf⟩ := h0
    exact conf_open (hval 0 26 v0 rfl rfl) hf (small_of hsz (j := 0) rfl rfl)
  obtain ⟨a1, rfl, rfl, rfl, w1⟩ := open_string Tryd.underlying9 (hval 1 9 v1 rfl rfl) h1
  have u1 : a1.size ≤ 9223372036854775807 := by have := w1; unfold maxLen at this; omega
  clear hA0
  refine (walk v0 C0 a1 W w0 u1 (tab_of_laid hL)).mono fun e W' ⟨he, bel⟩ => ?_
  subst he
  exact ⟨_, rfl, _, _, _, [], _, [], hW', trodAll_mk1 (shut_bool Tryd.underlying4 _), (trodAll_cons_mk (Below.trod laidOut (by kernel_rfl) (of_decide_eq_true (by kernel_rfl)) k0 bel lt0) (trodAll_cons_mk (shut_string Tryd.underlying9 w1) trodAll_mk0)), rfl, bel.frame _, fun h => by cases h⟩

/- The witness's world, typed out: the settled one, the table holding what its initialiser lays. -/
set_option maxRecDepth 100000 in
theorem laid_met (os : Os) : laidMet Tryd.prog Rows.configsRow.laid (({ World.holding Tryd.prog os ⟨#[], #[], []⟩ with heap := (World.holding Tryd.prog os ⟨#[], #[], []⟩).heap.modify 0 fun | .cells _ t frozen => .cells #[.string ⟨#[110, 111, 112]⟩, .int .i64 (1), .string ⟨#[99, 111, 110, 115, 116]⟩, .int .i64 (256), .string ⟨#[108, 111, 97, 100]⟩, .int .i64 (16), .string ⟨#[115, 116, 111, 114, 101]⟩, .int .i64 (16), .string ⟨#[97, 100, 100]⟩, .int .i64 (16), .string ⟨#[115, 117, 98]⟩, .int .i64 (16), .string ⟨#[106, 117, 109, 112]⟩, .int .i64 (-1), .string ⟨#[122, 101, 114, 111]⟩, .int .i64 (-1), .string ⟨#[105, 110]⟩, .int .i64 (1), .string ⟨#[111, 117, 116]⟩, .int .i64 (8), .string ⟨#[103, 101, 116]⟩, .int .i64 (8), .string ⟨#[104, 97, 108, 116]⟩, .int .i64 (1)] t frozen | o => o } : World).forCall (fun _ _ => 0) ⟨#[], #[.agg #[.int .i64 0, .int .i64 0, .slice none 0 0, .slice none 0 0, .slice none 0 0], .string ⟨#[]⟩], []⟩).memory :=
  laidMet_of_run' 8 (by kernel_rfl) (by kernel_rfl)
set_option maxRecDepth 100000 in
theorem reads (os : Os) {H : Type} (enc : TypeId × Value → H) : ∃ places, DataW.whole enc Tryd.prog (({ World.holding Tryd.prog os ⟨#[], #[], []⟩ with heap := (World.holding Tryd.prog os ⟨#[], #[], []⟩).heap.modify 0 fun | .cells _ t frozen => .cells #[.string ⟨#[110, 111, 112]⟩, .int .i64 (1), .string ⟨#[99, 111, 110, 115, 116]⟩, .int .i64 (256), .string ⟨#[108, 111, 97, 100]⟩, .int .i64 (16), .string ⟨#[115, 116, 111, 114, 101]⟩, .int .i64 (16), .string ⟨#[97, 100, 100]⟩, .int .i64 (16), .string ⟨#[115, 117, 98]⟩, .int .i64 (16), .string ⟨#[106, 117, 109, 112]⟩, .int .i64 (-1), .string ⟨#[122, 101, 114, 111]⟩, .int .i64 (-1), .string ⟨#[105, 110]⟩, .int .i64 (1), .string ⟨#[111, 117, 116]⟩, .int .i64 (8), .string ⟨#[103, 101, 116]⟩, .int .i64 (8), .string ⟨#[104, 97, 108, 116]⟩, .int .i64 (1)] t frozen | o => o } : World).forCall (fun _ _ => 0) ⟨#[], #[.agg #[.int .i64 0, .int .i64 0, .slice none 0 0, .slice none 0 0, .slice none 0 0], .string ⟨#[]⟩], []⟩).memory Tryd.f3.params.toList Rows.configsSpec.vars false (#[.agg #[.int .i64 0, .int .i64 0, .slice none 0 0, .slice none 0 0, .slice none 0 0], .string ⟨#[]⟩] : Array Value).toList 8 = some ([.agg [.lit (.int .i64 0), .lit (.int .i64 0), .nil, .nil, .nil], .lit (.string [])], [], places) :=
  ⟨[], by kernel_rfl⟩

set_option maxRecDepth 100000 in
theorem lifted (os : Os) (started : os.Started) (H : Type) (enc : TypeId × Value → H) (F : Stop.Interp) :
    ReturnsInHanded {} Tryd.checked os 3 .any ((OpenSpec.ofChange Rows.configsSpec).preRow enc Tryd.prog Tryd.f3 Rows.configsRow.domain false Rows.configsRow.laid) (((OpenSpec.ofChange Rows.configsSpec).at F).post enc Tryd.prog Tryd.f3 false true false false) := by
  obtain ⟨places, hx⟩ := reads os enc
  refine returnsInHanded_of_row (C := Tryd.checked) (s := OpenSpec.ofChange Rows.configsSpec) own started (by kernel_rfl) Tryd.func3
    (witness_row_at (enc := enc) (C := Tryd.checked) false ({ World.holding Tryd.prog os ⟨#[], #[], []⟩ with heap := (World.holding Tryd.prog os ⟨#[], #[], []⟩).heap.modify 0 fun | .cells _ t frozen => .cells #[.string ⟨#[110, 111, 112]⟩, .int .i64 (1), .string ⟨#[99, 111, 110, 115, 116]⟩, .int .i64 (256), .string ⟨#[108, 111, 97, 100]⟩, .int .i64 (16), .string ⟨#[115, 116, 111, 114, 101]⟩, .int .i64 (16), .string ⟨#[97, 100, 100]⟩, .int .i64 (16), .string ⟨#[115, 117, 98]⟩, .int .i64 (16), .string ⟨#[106, 117, 109, 112]⟩, .int .i64 (-1), .string ⟨#[122, 101, 114, 111]⟩, .int .i64 (-1), .string ⟨#[105, 110]⟩, .int .i64 (1), .string ⟨#[111, 117, 116]⟩, .int .i64 (8), .string ⟨#[103, 101, 116]⟩, .int .i64 (8), .string ⟨#[104, 97, 108, 116]⟩, .int .i64 (1)] t frozen | o => o } : World) #[.agg #[.int .i64 0, .int .i64 0, .slice none 0 0, .slice none 0 0, .slice none 0 0], .string ⟨#[]⟩] rfl (by kernel_rfl) (by kernel_rfl) (by kernel_rfl)
      (OpenSpec.preRow_of_cond 8 hx (by kernel_rfl) (fun k hk => by cases hk) (by kernel_rfl) (laid_met os))) ?_
  intro W base args ds gs before hval hW _ _ hsz hL _ _
  exact contract H enc W base args ds gs before hval hW hsz hL

theorem said : Rows.ConfigsSaid :=
  OpenClaim.holds_of_cond 3 Tryd.f3 rfl rfl rfl rfl rfl rfl rfl ⟨rfl, rfl, rfl, rfl, rfl⟩ rfl rfl rfl rfl rfl (by kernel_rfl) Tryd.func3 (by kernel_rfl)
    (of_decide_eq_true (by kernel_rfl)) (by unfold Func.isWrapper; first | (rw [if_pos (by decide +kernel)]; kernel_rfl) | (rw [if_neg (by decide +kernel)]; exact ⟨rfl, rfl⟩))
    (fun os started H enc _ F => by rw [OpenClaim.pre_eq_preRow]; exact lifted os started H enc F)

/-- No parameter wants a stand-in; the program's own looks are off. -/
theorem plain (f : FuncId) (fn : Func) (hf : Tryd.pinned.checked.prog.funcNamed "nocturn/nocturnlaw5.Configs" = some f) (hfn : Tryd.pinned.checked.prog.funcs[f]? = some fn) :
    false = Tryd.pinned.checked.prog.looks [] ∧ ∀ (j : Nat) t, fn.params[j]? = some t → Tryd.pinned.checked.prog.wantsStandIn t = false := by
  obtain rfl : f = 3 := Option.some.inj ((show Tryd.prog.funcNamed "nocturn/nocturnlaw5.Configs" = some 3 by kernel_rfl).symm.trans hf) |>.symm
  obtain rfl : fn = Tryd.f3 := (Option.some.inj (Tryd.func3.symm.trans hfn)).symm
  refine ⟨by kernel_rfl, fun j t ht => ?_⟩
  rw [Tryd.params3] at ht
  have hm : t ∈ [26, 9] := by simpa using Array.mem_of_getElem? ht
  have hall : ([26, 9].all fun u => !Tryd.prog.wantsStandIn u) = true := by kernel_rfl
  exact (show Tryd.prog.wantsStandIn t = false by simpa using List.all_eq_true.1 hall t hm)

/-- The card. -/
theorem card : Rows.ConfigsCardSaid :=
  Claim7.holds_tied_plain_at .later [] _ _ _ _ said (fun _ h => by cases h) (by kernel_rfl) (fun _ h => by cases h) configs_row_tie rfl ⟨rfl, rfl⟩ (by kernel_rfl) rfl plain (by kernel_rfl)
end Go.Proofs.YtgaegggiehhcpaaDoor.configs
namespace Go.Proofs.YtgaegggiehhcpaaDoor
theorem configs_holds : Rows.ConfigsCardSaid := configs.card
#print axioms configs_holds
end Go.Proofs.YtgaegggiehhcpaaDoor

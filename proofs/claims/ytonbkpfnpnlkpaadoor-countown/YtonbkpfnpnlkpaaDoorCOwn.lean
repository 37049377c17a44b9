import Derived.Test.YtonbkpfnpnlkpaaDoorCards
import Derived.Test.YtonbkpfnpnlkpaaDoorTie
import Derived.WalkKit
import Derived.ProofKit
import Derived.OpenShut
import Derived.Below
import Derived.Deep.DeepHandedRow
import Derived.Deep.DeepWitnessRowRef
import Derived.SizedLaws
import Derived.Test.YtonbkpfnpnlkpaaDoorZo
import Derived.Test.YtonbkpfnpnlkpaaDoorOb
import Derived.Test.YtonbkpfnpnlkpaaDoorSi
namespace Go.Proofs.YtonbkpfnpnlkpaaDoor.countOwn
open Go.ChangeShapes Go.WideShapes Go.ChangeAt Go.RowKit
set_option linter.unusedVariables false

theorem laidOut : laidOutB Tryd.prog = true := by kernel_rfl
theorem own : ownKnob Tryd.prog.godebug = none := by kernel_rfl

set_option maxRecDepth 100000 in
theorem contract (H : Type) (enc : TypeId × Value → H) (W : World) (base : Nat) (args : Array Value) (ds gs : List (DataW H)) (before : List MemPlace) (hval0 : ∀ (j : Nat) t v, Tryd.f9.params[j]? = some t → args[j]? = some v → Value.okWide Tryd.prog W .any base t v)
    (hW : DataW.Whole enc Tryd.prog Tryd.f9.params.toList Rows.countOwnSpec.vars false W args.toList ds gs before) (hL : laidMetH Tryd.prog Rows.countOwnRow.laid W) (hsz : (DataW.weightsEach Tryd.prog (Tryd.f9.params.toList ++ (OpenSpec.ofChange Rows.countOwnSpec).bare.plain.varTypes Tryd.prog) (ds ++ gs)).all (· ≤ reachBytes) = true) :
    Calls Tryd.prog 9 args W fun e W' => ∃ v, e = .returned v ∧ Rows.countOwnSpec.post enc Tryd.prog Tryd.f9 false true false false W args v W' := by
  have hval := hval0
  have hW' := hW
  obtain ⟨p, q, hA0, hV, rfl, hfz, hnd⟩ := hW
  have hA : DataW.TrodAll enc Tryd.prog W 0 (fun _ => true) true Tryd.f9.params.toList args.toList ds p := hA0
  rw [Tryd.params9] at hA hval
  obtain ⟨v0, vs0, d0, ds0, p0, q0, hargs0, rfl, rfl, h0, r0⟩ := trodAll_cons hA
  obtain ⟨rfl, rfl, rfl⟩ := trodAll_nil r0
  obtain rfl : args = #[v0] := by cases args; simp_all
  have k0 := h0
  have lt0 : ∀ x ∈ p0, x.block < W.heap.size := by obtain ⟨m, hm⟩ := k0; exact DataW.trod_lt m _ _ _ hm
  obtain ⟨rfl, rfl⟩ := trodVars_none hV
  have hwt : ∀ k ∈ d0.weights Tryd.prog 50, k ≤ 140737488351232 := by
    intro k hk
    have hz := hsz
    rw [Tryd.params9] at hz
    have := List.all_eq_true.1 hz k (DataW.weights_mem_each (j := 0) (t := 50) rfl rfl k hk)
    exact of_decide_eq_true this
  obtain ⟨l, hO⟩ := open_outs (hval 0 50 v0 rfl rfl) h0 hwt
  clear hA0 hval0
  refine (own_9 v0 l W (wo_of hL) hO).mono fun e W' ⟨he, hg⟩ => ?_
  subst he
  have bel : Below W.heap.size W W' := ⟨hg.os, hg.tape, hg.output, hg.size, fun k hk => hg.block k hk (by simp)⟩
  exact ⟨_, rfl, _, _, _, [], _, [], hW', trodAll_mk1 (shut_bool Tryd.underlying4 _), (trodAll_cons_mk (Below.trod laidOut (by kernel_rfl) (of_decide_eq_true (by kernel_rfl)) k0 bel lt0) trodAll_mk0), rfl, bel.frame _, fun h => by cases h⟩
def cellsPut (c : Array Value) : Obj → Obj
  | .cells _ t fr => .cells c t fr
  | o => o
set_option maxRecDepth 100000 in
theorem laid_met (os : Os) : laidMet Tryd.prog Rows.countOwnRow.laid (({ World.holding Tryd.prog os ⟨#[], #[], []⟩ with heap := ((World.holding Tryd.prog os ⟨#[], #[], []⟩).heap.modify 0 (cellsPut #[.string ⟨#[]⟩, .string ⟨#[99, 109, 100, 95, 103, 101, 116]⟩, .string ⟨#[99, 109, 100, 95, 115, 101, 116]⟩, .string ⟨#[99, 109, 100, 95, 116, 111, 117, 99, 104]⟩, .string ⟨#[99, 109, 100, 95, 102, 108, 117, 115, 104]⟩, .string ⟨#[99, 109, 100, 95, 109, 101, 116, 97]⟩, .string ⟨#[103, 101, 116, 95, 104, 105, 116, 115]⟩, .string ⟨#[103, 101, 116, 95, 109, 105, 115, 115, 101, 115]⟩, .string ⟨#[103, 101, 116, 95, 101, 120, 112, 105, 114, 101, 100]⟩, .string ⟨#[103, 101, 116, 95, 102, 108, 117, 115, 104, 101, 100]⟩, .string ⟨#[100, 101, 108, 101, 116, 101, 95, 104, 105, 116, 115]⟩, .string ⟨#[100, 101, 108, 101, 116, 101, 95, 109, 105, 115, 115, 101, 115]⟩, .string ⟨#[105, 110, 99, 114, 95, 104, 105, 116, 115]⟩, .string ⟨#[105, 110, 99, 114, 95, 109, 105, 115, 115, 101, 115]⟩, .string ⟨#[100, 101, 99, 114, 95, 104, 105, 116, 115]⟩, .string ⟨#[100, 101, 99, 114, 95, 109, 105, 115, 115, 101, 115]⟩, .string ⟨#[99, 97, 115, 95, 104, 105, 116, 115]⟩, .string ⟨#[99, 97, 115, 95, 98, 97, 100, 118, 97, 108]⟩, .string ⟨#[99, 97, 115, 95, 109, 105, 115, 115, 101, 115]⟩, .string ⟨#[116, 111, 117, 99, 104, 95, 104, 105, 116, 115]⟩, .string ⟨#[116, 111, 117, 99, 104, 95, 109, 105, 115, 115, 101, 115]⟩, .string ⟨#[101, 118, 105, 99, 116, 105, 111, 110, 115]⟩, .string ⟨#[114, 101, 99, 108, 97, 105, 109, 101, 100]⟩, .string ⟨#[114, 101, 102, 117, 115, 101, 100]⟩, .string ⟨#[116, 111, 116, 97, 108, 95, 105, 116, 101, 109, 115]⟩, .string ⟨#[99, 117, 114, 114, 95, 105, 116, 101, 109, 115]⟩, .string ⟨#[98, 121, 116, 101, 115]⟩, .string ⟨#[116, 111, 116, 97, 108, 95, 99, 111, 110, 110, 101, 99, 116, 105, 111, 110, 115]⟩, .string ⟨#[99, 117, 114, 114, 95, 99, 111, 110, 110, 101, 99, 116, 105, 111, 110, 115]⟩, .string ⟨#[99, 114, 97, 119, 108, 101, 100]⟩, .string ⟨#[98, 97, 100, 95, 108, 105, 110, 101, 115]⟩])) } : World).forCall (fun _ _ => 0) ⟨#[], #[.slice none 0 0], []⟩).memory :=
  laidMet_of_run' 8 (by kernel_rfl) (by kernel_rfl)
theorem reads (os : Os) {H : Type} (enc : TypeId × Value → H) : ∃ places, DataW.whole enc Tryd.prog (({ World.holding Tryd.prog os ⟨#[], #[], []⟩ with heap := ((World.holding Tryd.prog os ⟨#[], #[], []⟩).heap.modify 0 (cellsPut #[.string ⟨#[]⟩, .string ⟨#[99, 109, 100, 95, 103, 101, 116]⟩, .string ⟨#[99, 109, 100, 95, 115, 101, 116]⟩, .string ⟨#[99, 109, 100, 95, 116, 111, 117, 99, 104]⟩, .string ⟨#[99, 109, 100, 95, 102, 108, 117, 115, 104]⟩, .string ⟨#[99, 109, 100, 95, 109, 101, 116, 97]⟩, .string ⟨#[103, 101, 116, 95, 104, 105, 116, 115]⟩, .string ⟨#[103, 101, 116, 95, 109, 105, 115, 115, 101, 115]⟩, .string ⟨#[103, 101, 116, 95, 101, 120, 112, 105, 114, 101, 100]⟩, .string ⟨#[103, 101, 116, 95, 102, 108, 117, 115, 104, 101, 100]⟩, .string ⟨#[100, 101, 108, 101, 116, 101, 95, 104, 105, 116, 115]⟩, .string ⟨#[100, 101, 108, 101, 116, 101, 95, 109, 105, 115, 115, 101, 115]⟩, .string ⟨#[105, 110, 99, 114, 95, 104, 105, 116, 115]⟩, .string ⟨#[105, 110, 99, 114, 95, 109, 105, 115, 115, 101, 115]⟩, .string ⟨#[100, 101, 99, 114, 95, 104, 105, 116, 115]⟩, .string ⟨#[100, 101, 99, 114, 95, 109, 105, 115, 115, 101, 115]⟩, .string ⟨#[99, 97, 115, 95, 104, 105, 116, 115]⟩, .string ⟨#[99, 97, 115, 95, 98, 97, 100, 118, 97, 108]⟩, .string ⟨#[99, 97, 115, 95, 109, 105, 115, 115, 101, 115]⟩, .string ⟨#[116, 111, 117, 99, 104, 95, 104, 105, 116, 115]⟩, .string ⟨#[116, 111, 117, 99, 104, 95, 109, 105, 115, 115, 101, 115]⟩, .string ⟨#[101, 118, 105, 99, 116, 105, 111, 110, 115]⟩, .string ⟨#[114, 101, 99, 108, 97, 105, 109, 101, 100]⟩, .string ⟨#[114, 101, 102, 117, 115, 101, 100]⟩, .string ⟨#[116, 111, 116, 97, 108, 95, 105, 116, 101, 109, 115]⟩, .string ⟨#[99, 117, 114, 114, 95, 105, 116, 101, 109, 115]⟩, .string ⟨#[98, 121, 116, 101, 115]⟩, .string ⟨#[116, 111, 116, 97, 108, 95, 99, 111, 110, 110, 101, 99, 116, 105, 111, 110, 115]⟩, .string ⟨#[99, 117, 114, 114, 95, 99, 111, 110, 110, 101, 99, 116, 105, 111, 110, 115]⟩, .string ⟨#[99, 114, 97, 119, 108, 101, 100]⟩, .string ⟨#[98, 97, 100, 95, 108, 105, 110, 101, 115]⟩])) } : World).forCall (fun _ _ => 0) ⟨#[], #[.slice none 0 0], []⟩).memory Tryd.f9.params.toList Rows.countOwnSpec.vars false (#[.slice none 0 0] : Array Value).toList 8 = some ([.nil], [], places) :=
  ⟨[], by kernel_rfl⟩
set_option maxRecDepth 100000 in
theorem lifted (os : Os) (started : os.Started) (H : Type) (enc : TypeId × Value → H) (F : Stop.Interp) :
    ReturnsInHanded {} Tryd.checked os 9 .any ((OpenSpec.ofChange Rows.countOwnSpec).preRow enc Tryd.prog Tryd.f9 Rows.countOwnRow.domain false Rows.countOwnRow.laid) (((OpenSpec.ofChange Rows.countOwnSpec).at F).post enc Tryd.prog Tryd.f9 false true false false) := by
  obtain ⟨places, hx⟩ := reads os enc
  refine returnsInHanded_of_row (C := Tryd.checked) (s := OpenSpec.ofChange Rows.countOwnSpec) own started (by kernel_rfl) Tryd.func9
    (witness_row_atRef (enc := enc) (C := Tryd.checked) false ({ World.holding Tryd.prog os ⟨#[], #[], []⟩ with heap := ((World.holding Tryd.prog os ⟨#[], #[], []⟩).heap.modify 0 (cellsPut #[.string ⟨#[]⟩, .string ⟨#[99, 109, 100, 95, 103, 101, 116]⟩, .string ⟨#[99, 109, 100, 95, 115, 101, 116]⟩, .string ⟨#[99, 109, 100, 95, 116, 111, 117, 99, 104]⟩, .string ⟨#[99, 109, 100, 95, 102, 108, 117, 115, 104]⟩, .string ⟨#[99, 109, 100, 95, 109, 101, 116, 97]⟩, .string ⟨#[103, 101, 116, 95, 104, 105, 116, 115]⟩, .string ⟨#[103, 101, 116, 95, 109, 105, 115, 115, 101, 115]⟩, .string ⟨#[103, 101, 116, 95, 101, 120, 112, 105, 114, 101, 100]⟩, .string ⟨#[103, 101, 116, 95, 102, 108, 117, 115, 104, 101, 100]⟩, .string ⟨#[100, 101, 108, 101, 116, 101, 95, 104, 105, 116, 115]⟩, .string ⟨#[100, 101, 108, 101, 116, 101, 95, 109, 105, 115, 115, 101, 115]⟩, .string ⟨#[105, 110, 99, 114, 95, 104, 105, 116, 115]⟩, .string ⟨#[105, 110, 99, 114, 95, 109, 105, 115, 115, 101, 115]⟩, .string ⟨#[100, 101, 99, 114, 95, 104, 105, 116, 115]⟩, .string ⟨#[100, 101, 99, 114, 95, 109, 105, 115, 115, 101, 115]⟩, .string ⟨#[99, 97, 115, 95, 104, 105, 116, 115]⟩, .string ⟨#[99, 97, 115, 95, 98, 97, 100, 118, 97, 108]⟩, .string ⟨#[99, 97, 115, 95, 109, 105, 115, 115, 101, 115]⟩, .string ⟨#[116, 111, 117, 99, 104, 95, 104, 105, 116, 115]⟩, .string ⟨#[116, 111, 117, 99, 104, 95, 109, 105, 115, 115, 101, 115]⟩, .string ⟨#[101, 118, 105, 99, 116, 105, 111, 110, 115]⟩, .string ⟨#[114, 101, 99, 108, 97, 105, 109, 101, 100]⟩, .string ⟨#[114, 101, 102, 117, 115, 101, 100]⟩, .string ⟨#[116, 111, 116, 97, 108, 95, 105, 116, 101, 109, 115]⟩, .string ⟨#[99, 117, 114, 114, 95, 105, 116, 101, 109, 115]⟩, .string ⟨#[98, 121, 116, 101, 115]⟩, .string ⟨#[116, 111, 116, 97, 108, 95, 99, 111, 110, 110, 101, 99, 116, 105, 111, 110, 115]⟩, .string ⟨#[99, 117, 114, 114, 95, 99, 111, 110, 110, 101, 99, 116, 105, 111, 110, 115]⟩, .string ⟨#[99, 114, 97, 119, 108, 101, 100]⟩, .string ⟨#[98, 97, 100, 95, 108, 105, 110, 101, 115]⟩])) } : World) #[.slice none 0 0] rfl (by kernel_rfl) (by kernel_rfl) (by kernel_rfl)
      (OpenSpec.preRow_of_cond 8 hx (by kernel_rfl) (fun k hk => by cases hk) (by kernel_rfl) (laid_met os))) ?_
  intro W base args ds gs before hval hW _ _ hsz hL _ _
  exact contract H enc W base args ds gs before hval hW hL hsz
theorem said : Rows.CountOwnSaid :=
  OpenClaim.holds_of_cond 9 Tryd.f9 rfl rfl rfl rfl rfl rfl rfl ⟨rfl, rfl, rfl, rfl, rfl⟩ rfl rfl rfl rfl rfl (by kernel_rfl) Tryd.func9 (by kernel_rfl)
    (of_decide_eq_true (by kernel_rfl)) (by unfold Func.isWrapper; first | (rw [if_pos (by decide +kernel)]; kernel_rfl) | (rw [if_neg (by decide +kernel)]; exact ⟨rfl, rfl⟩))
    (fun os started H enc _ F => by rw [OpenClaim.pre_eq_preRow]; exact lifted os started H enc F)
theorem plain (f : FuncId) (fn : Func) (hf : Tryd.pinned.checked.prog.funcNamed Tryd.f9.name = some f) (hfn : Tryd.pinned.checked.prog.funcs[f]? = some fn) :
    false = Tryd.pinned.checked.prog.looks [] ∧ ∀ (j : Nat) t, fn.params[j]? = some t → Tryd.pinned.checked.prog.wantsStandIn t = false := by
  obtain rfl : f = 9 := Option.some.inj ((show Tryd.prog.funcNamed Tryd.f9.name = some 9 by kernel_rfl).symm.trans hf) |>.symm
  obtain rfl : fn = Tryd.f9 := (Option.some.inj (Tryd.func9.symm.trans hfn)).symm
  refine ⟨by kernel_rfl, fun j t ht => ?_⟩
  rw [Tryd.params9] at ht
  rcases j with _ | j
  · simp at ht
    subst ht
    kernel_rfl
  simp at ht
theorem card : Rows.CountOwnCardSaid :=
  Claim7.holds_tied_plain_at .later [] _ _ _ _ said (fun _ h => by cases h) (by kernel_rfl) (fun _ h => by cases h) countOwn_row_tie rfl ⟨rfl, rfl⟩ (by kernel_rfl) rfl plain (by kernel_rfl)
end Go.Proofs.YtonbkpfnpnlkpaaDoor.countOwn
namespace Go.Proofs.YtonbkpfnpnlkpaaDoor
theorem countOwn_card : Rows.CountOwnCardSaid := countOwn.card
#print axioms countOwn_card
end Go.Proofs.YtonbkpfnpnlkpaaDoor

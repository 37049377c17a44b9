import Derived.Test.YtonbkpfnpnlkpaaDoorCards
import Derived.Test.YtonbkpfnpnlkpaaDoorTie
import Derived.WalkKit
import Derived.ProofKit
import Derived.OpenShut
import Derived.Below
import Derived.Deep.DeepHandedRow
import Derived.Deep.DeepWitnessRowRef
import Derived.Test.YtonbkpfnpnlkpaaDoorTs
import Derived.Test.YtonbkpfnpnlkpaaDoorOa
import Derived.Test.YtonbkpfnpnlkpaaDoorSi
namespace Go.Proofs.YtonbkpfnpnlkpaaDoor.countTop
open Go.ChangeShapes Go.WideShapes Go.ChangeAt Go.RowKit
set_option linter.unusedVariables false

theorem laidOut : laidOutB Tryd.prog = true := by kernel_rfl
theorem own : ownKnob Tryd.prog.godebug = none := by kernel_rfl

set_option maxRecDepth 100000 in
theorem contract (H : Type) (enc : TypeId × Value → H) (W : World) (base : Nat) (args : Array Value) (ds gs : List (DataW H)) (before : List MemPlace) (hval0 : ∀ (j : Nat) t v, Tryd.f7.params[j]? = some t → args[j]? = some v → Value.okWide Tryd.prog W .any base t v)
    (hW : DataW.Whole enc Tryd.prog Tryd.f7.params.toList Rows.countTopSpec.vars false W args.toList ds gs before) (hL : laidMetH Tryd.prog Rows.countTopRow.laid W) :
    Calls Tryd.prog 7 args W fun e W' => ∃ v, e = .returned v ∧ Rows.countTopSpec.post enc Tryd.prog Tryd.f7 false true false false W args v W' := by
  have hval := hval0
  have hW' := hW
  obtain ⟨p, q, hA0, hV, rfl, hfz, hnd⟩ := hW
  have hA : DataW.TrodAll enc Tryd.prog W 0 (fun _ => true) true Tryd.f7.params.toList args.toList ds p := hA0
  rw [Tryd.params7] at hA hval
  obtain ⟨v0, vs0, d0, ds0, p0, q0, hargs0, rfl, rfl, h0, r0⟩ := trodAll_cons hA
  obtain ⟨v1, vs1, d1, ds1, p1, q1, hargs1, rfl, rfl, h1, r1⟩ := trodAll_cons r0
  obtain ⟨v2, vs2, d2, ds2, p2, q2, hargs2, rfl, rfl, h2, r2⟩ := trodAll_cons r1
  obtain ⟨rfl, rfl, rfl⟩ := trodAll_nil r2
  obtain rfl : args = #[v0, v1, v2] := by cases args; simp_all
  have k0 := h0
  have lt0 : ∀ x ∈ p0, x.block < W.heap.size := by obtain ⟨m, hm⟩ := k0; exact DataW.trod_lt m _ _ _ hm
  have k1 := h1
  have lt1 : ∀ x ∈ p1, x.block < W.heap.size := by obtain ⟨m, hm⟩ := k1; exact DataW.trod_lt m _ _ _ hm
  have k2 := h2
  have lt2 : ∀ x ∈ p2, x.block < W.heap.size := by obtain ⟨m, hm⟩ := k2; exact DataW.trod_lt m _ _ _ hm
  obtain ⟨rfl, rfl⟩ := trodVars_none hV
  obtain ⟨n, rfl, rfl, rfl, wn⟩ := open_int Tryd.underlying3 (hval 0 3 v0 rfl rfl) h0
  obtain ⟨f, rfl, rfl, rfl, wf⟩ := open_int Tryd.underlying30 (hval 1 30 v1 rfl rfl) h1
  obtain ⟨sa, sn, sc, rfl⟩ := okWide_slice Tryd.underlying58 (hval 2 58 v2 rfl rfl)
  obtain ⟨fuel, hfu⟩ := h2
  have hfu' : DataW.trod enc Tryd.prog W 0 (fun _ => true) true fuel 58 [.slice sa sn sc] = some (d2, p2) := by simpa [Value.cells] using hfu
  obtain ⟨v, l, hv, hus⟩ := open_us hfu'
  obtain rfl : v = .slice sa sn sc := by simpa using hv.symm
  have bn := bounds_i64 wn
  have bf := bounds_u64 wf
  obtain ⟨fn, rfl⟩ : ∃ fn : Nat, f = fn := ⟨f.toNat, by omega⟩
  clear hA0 hval0
  refine (top_7 n fn _ l W (wo_of hL) bn (by omega) hus).mono fun e W' ⟨he, hg⟩ => ?_
  subst he
  have bel : Below W.heap.size W W' := ⟨hg.os, hg.tape, hg.output, hg.size, fun k hk => hg.block k hk (by simp)⟩
  exact ⟨_, rfl, _, _, _, [], _, [], hW', trodAll_mk1 (shut_bool Tryd.underlying4 _), (trodAll_cons_mk (Below.trod laidOut (by kernel_rfl) (of_decide_eq_true (by kernel_rfl)) k0 bel lt0) (trodAll_cons_mk (Below.trod laidOut (by kernel_rfl) (of_decide_eq_true (by kernel_rfl)) k1 bel lt1) (trodAll_cons_mk (Below.trod laidOut (by kernel_rfl) (of_decide_eq_true (by kernel_rfl)) k2 bel lt2) trodAll_mk0))), rfl, bel.frame _, fun h => by cases h⟩
def cellsPut (c : Array Value) : Obj → Obj
  | .cells _ t fr => .cells c t fr
  | o => o
set_option maxRecDepth 100000 in
theorem laid_met (os : Os) : laidMet Tryd.prog Rows.countTopRow.laid (({ World.holding Tryd.prog os ⟨#[], #[], []⟩ with heap := ((World.holding Tryd.prog os ⟨#[], #[], []⟩).heap.modify 0 (cellsPut #[.string ⟨#[]⟩, .string ⟨#[99, 109, 100, 95, 103, 101, 116]⟩, .string ⟨#[99, 109, 100, 95, 115, 101, 116]⟩, .string ⟨#[99, 109, 100, 95, 116, 111, 117, 99, 104]⟩, .string ⟨#[99, 109, 100, 95, 102, 108, 117, 115, 104]⟩, .string ⟨#[99, 109, 100, 95, 109, 101, 116, 97]⟩, .string ⟨#[103, 101, 116, 95, 104, 105, 116, 115]⟩, .string ⟨#[103, 101, 116, 95, 109, 105, 115, 115, 101, 115]⟩, .string ⟨#[103, 101, 116, 95, 101, 120, 112, 105, 114, 101, 100]⟩, .string ⟨#[103, 101, 116, 95, 102, 108, 117, 115, 104, 101, 100]⟩, .string ⟨#[100, 101, 108, 101, 116, 101, 95, 104, 105, 116, 115]⟩, .string ⟨#[100, 101, 108, 101, 116, 101, 95, 109, 105, 115, 115, 101, 115]⟩, .string ⟨#[105, 110, 99, 114, 95, 104, 105, 116, 115]⟩, .string ⟨#[105, 110, 99, 114, 95, 109, 105, 115, 115, 101, 115]⟩, .string ⟨#[100, 101, 99, 114, 95, 104, 105, 116, 115]⟩, .string ⟨#[100, 101, 99, 114, 95, 109, 105, 115, 115, 101, 115]⟩, .string ⟨#[99, 97, 115, 95, 104, 105, 116, 115]⟩, .string ⟨#[99, 97, 115, 95, 98, 97, 100, 118, 97, 108]⟩, .string ⟨#[99, 97, 115, 95, 109, 105, 115, 115, 101, 115]⟩, .string ⟨#[116, 111, 117, 99, 104, 95, 104, 105, 116, 115]⟩, .string ⟨#[116, 111, 117, 99, 104, 95, 109, 105, 115, 115, 101, 115]⟩, .string ⟨#[101, 118, 105, 99, 116, 105, 111, 110, 115]⟩, .string ⟨#[114, 101, 99, 108, 97, 105, 109, 101, 100]⟩, .string ⟨#[114, 101, 102, 117, 115, 101, 100]⟩, .string ⟨#[116, 111, 116, 97, 108, 95, 105, 116, 101, 109, 115]⟩, .string ⟨#[99, 117, 114, 114, 95, 105, 116, 101, 109, 115]⟩, .string ⟨#[98, 121, 116, 101, 115]⟩, .string ⟨#[116, 111, 116, 97, 108, 95, 99, 111, 110, 110, 101, 99, 116, 105, 111, 110, 115]⟩, .string ⟨#[99, 117, 114, 114, 95, 99, 111, 110, 110, 101, 99, 116, 105, 111, 110, 115]⟩, .string ⟨#[99, 114, 97, 119, 108, 101, 100]⟩, .string ⟨#[98, 97, 100, 95, 108, 105, 110, 101, 115]⟩])) } : World).forCall (fun _ _ => 0) ⟨#[], #[.int .i64 0, .int .u64 0, .slice none 0 0], []⟩).memory :=
  laidMet_of_run' 8 (by kernel_rfl) (by kernel_rfl)
theorem reads (os : Os) {H : Type} (enc : TypeId × Value → H) : ∃ places, DataW.whole enc Tryd.prog (({ World.holding Tryd.prog os ⟨#[], #[], []⟩ with heap := ((World.holding Tryd.prog os ⟨#[], #[], []⟩).heap.modify 0 (cellsPut #[.string ⟨#[]⟩, .string ⟨#[99, 109, 100, 95, 103, 101, 116]⟩, .string ⟨#[99, 109, 100, 95, 115, 101, 116]⟩, .string ⟨#[99, 109, 100, 95, 116, 111, 117, 99, 104]⟩, .string ⟨#[99, 109, 100, 95, 102, 108, 117, 115, 104]⟩, .string ⟨#[99, 109, 100, 95, 109, 101, 116, 97]⟩, .string ⟨#[103, 101, 116, 95, 104, 105, 116, 115]⟩, .string ⟨#[103, 101, 116, 95, 109, 105, 115, 115, 101, 115]⟩, .string ⟨#[103, 101, 116, 95, 101, 120, 112, 105, 114, 101, 100]⟩, .string ⟨#[103, 101, 116, 95, 102, 108, 117, 115, 104, 101, 100]⟩, .string ⟨#[100, 101, 108, 101, 116, 101, 95, 104, 105, 116, 115]⟩, .string ⟨#[100, 101, 108, 101, 116, 101, 95, 109, 105, 115, 115, 101, 115]⟩, .string ⟨#[105, 110, 99, 114, 95, 104, 105, 116, 115]⟩, .string ⟨#[105, 110, 99, 114, 95, 109, 105, 115, 115, 101, 115]⟩, .string ⟨#[100, 101, 99, 114, 95, 104, 105, 116, 115]⟩, .string ⟨#[100, 101, 99, 114, 95, 109, 105, 115, 115, 101, 115]⟩, .string ⟨#[99, 97, 115, 95, 104, 105, 116, 115]⟩, .string ⟨#[99, 97, 115, 95, 98, 97, 100, 118, 97, 108]⟩, .string ⟨#[99, 97, 115, 95, 109, 105, 115, 115, 101, 115]⟩, .string ⟨#[116, 111, 117, 99, 104, 95, 104, 105, 116, 115]⟩, .string ⟨#[116, 111, 117, 99, 104, 95, 109, 105, 115, 115, 101, 115]⟩, .string ⟨#[101, 118, 105, 99, 116, 105, 111, 110, 115]⟩, .string ⟨#[114, 101, 99, 108, 97, 105, 109, 101, 100]⟩, .string ⟨#[114, 101, 102, 117, 115, 101, 100]⟩, .string ⟨#[116, 111, 116, 97, 108, 95, 105, 116, 101, 109, 115]⟩, .string ⟨#[99, 117, 114, 114, 95, 105, 116, 101, 109, 115]⟩, .string ⟨#[98, 121, 116, 101, 115]⟩, .string ⟨#[116, 111, 116, 97, 108, 95, 99, 111, 110, 110, 101, 99, 116, 105, 111, 110, 115]⟩, .string ⟨#[99, 117, 114, 114, 95, 99, 111, 110, 110, 101, 99, 116, 105, 111, 110, 115]⟩, .string ⟨#[99, 114, 97, 119, 108, 101, 100]⟩, .string ⟨#[98, 97, 100, 95, 108, 105, 110, 101, 115]⟩])) } : World).forCall (fun _ _ => 0) ⟨#[], #[.int .i64 0, .int .u64 0, .slice none 0 0], []⟩).memory Tryd.f7.params.toList Rows.countTopSpec.vars false (#[.int .i64 0, .int .u64 0, .slice none 0 0] : Array Value).toList 8 = some ([.lit (.int .i64 0), .lit (.int .u64 0), .nil], [], places) :=
  ⟨[], by kernel_rfl⟩
set_option maxRecDepth 100000 in
theorem lifted (os : Os) (started : os.Started) (H : Type) (enc : TypeId × Value → H) (F : Stop.Interp) :
    ReturnsInHanded {} Tryd.checked os 7 .any ((OpenSpec.ofChange Rows.countTopSpec).preRow enc Tryd.prog Tryd.f7 Rows.countTopRow.domain false Rows.countTopRow.laid) (((OpenSpec.ofChange Rows.countTopSpec).at F).post enc Tryd.prog Tryd.f7 false true false false) := by
  obtain ⟨places, hx⟩ := reads os enc
  refine returnsInHanded_of_row (C := Tryd.checked) (s := OpenSpec.ofChange Rows.countTopSpec) own started (by kernel_rfl) Tryd.func7
    (witness_row_atRef (enc := enc) (C := Tryd.checked) false ({ World.holding Tryd.prog os ⟨#[], #[], []⟩ with heap := ((World.holding Tryd.prog os ⟨#[], #[], []⟩).heap.modify 0 (cellsPut #[.string ⟨#[]⟩, .string ⟨#[99, 109, 100, 95, 103, 101, 116]⟩, .string ⟨#[99, 109, 100, 95, 115, 101, 116]⟩, .string ⟨#[99, 109, 100, 95, 116, 111, 117, 99, 104]⟩, .string ⟨#[99, 109, 100, 95, 102, 108, 117, 115, 104]⟩, .string ⟨#[99, 109, 100, 95, 109, 101, 116, 97]⟩, .string ⟨#[103, 101, 116, 95, 104, 105, 116, 115]⟩, .string ⟨#[103, 101, 116, 95, 109, 105, 115, 115, 101, 115]⟩, .string ⟨#[103, 101, 116, 95, 101, 120, 112, 105, 114, 101, 100]⟩, .string ⟨#[103, 101, 116, 95, 102, 108, 117, 115, 104, 101, 100]⟩, .string ⟨#[100, 101, 108, 101, 116, 101, 95, 104, 105, 116, 115]⟩, .string ⟨#[100, 101, 108, 101, 116, 101, 95, 109, 105, 115, 115, 101, 115]⟩, .string ⟨#[105, 110, 99, 114, 95, 104, 105, 116, 115]⟩, .string ⟨#[105, 110, 99, 114, 95, 109, 105, 115, 115, 101, 115]⟩, .string ⟨#[100, 101, 99, 114, 95, 104, 105, 116, 115]⟩, .string ⟨#[100, 101, 99, 114, 95, 109, 105, 115, 115, 101, 115]⟩, .string ⟨#[99, 97, 115, 95, 104, 105, 116, 115]⟩, .string ⟨#[99, 97, 115, 95, 98, 97, 100, 118, 97, 108]⟩, .string ⟨#[99, 97, 115, 95, 109, 105, 115, 115, 101, 115]⟩, .string ⟨#[116, 111, 117, 99, 104, 95, 104, 105, 116, 115]⟩, .string ⟨#[116, 111, 117, 99, 104, 95, 109, 105, 115, 115, 101, 115]⟩, .string ⟨#[101, 118, 105, 99, 116, 105, 111, 110, 115]⟩, .string ⟨#[114, 101, 99, 108, 97, 105, 109, 101, 100]⟩, .string ⟨#[114, 101, 102, 117, 115, 101, 100]⟩, .string ⟨#[116, 111, 116, 97, 108, 95, 105, 116, 101, 109, 115]⟩, .string ⟨#[99, 117, 114, 114, 95, 105, 116, 101, 109, 115]⟩, .string ⟨#[98, 121, 116, 101, 115]⟩, .string ⟨#[116, 111, 116, 97, 108, 95, 99, 111, 110, 110, 101, 99, 116, 105, 111, 110, 115]⟩, .string ⟨#[99, 117, 114, 114, 95, 99, 111, 110, 110, 101, 99, 116, 105, 111, 110, 115]⟩, .string ⟨#[99, 114, 97, 119, 108, 101, 100]⟩, .string ⟨#[98, 97, 100, 95, 108, 105, 110, 101, 115]⟩])) } : World) #[.int .i64 0, .int .u64 0, .slice none 0 0] rfl (by kernel_rfl) (by kernel_rfl) (by kernel_rfl)
      (OpenSpec.preRow_of_cond 8 hx (by kernel_rfl) (fun k hk => by cases hk) (by kernel_rfl) (laid_met os))) ?_
  intro W base args ds gs before hval hW _ _ _ hL _ _
  exact contract H enc W base args ds gs before hval hW hL
theorem said : Rows.CountTopSaid :=
  OpenClaim.holds_of_cond 7 Tryd.f7 rfl rfl rfl rfl rfl rfl rfl ⟨rfl, rfl, rfl, rfl, rfl⟩ rfl rfl rfl rfl rfl (by kernel_rfl) Tryd.func7 (by kernel_rfl)
    (of_decide_eq_true (by kernel_rfl)) (by unfold Func.isWrapper; first | (rw [if_pos (by decide +kernel)]; kernel_rfl) | (rw [if_neg (by decide +kernel)]; exact ⟨rfl, rfl⟩))
    (fun os started H enc _ F => by rw [OpenClaim.pre_eq_preRow]; exact lifted os started H enc F)
theorem plain (f : FuncId) (fn : Func) (hf : Tryd.pinned.checked.prog.funcNamed Tryd.f7.name = some f) (hfn : Tryd.pinned.checked.prog.funcs[f]? = some fn) :
    false = Tryd.pinned.checked.prog.looks [] ∧ ∀ (j : Nat) t, fn.params[j]? = some t → Tryd.pinned.checked.prog.wantsStandIn t = false := by
  obtain rfl : f = 7 := Option.some.inj ((show Tryd.prog.funcNamed Tryd.f7.name = some 7 by kernel_rfl).symm.trans hf) |>.symm
  obtain rfl : fn = Tryd.f7 := (Option.some.inj (Tryd.func7.symm.trans hfn)).symm
  refine ⟨by kernel_rfl, fun j t ht => ?_⟩
  rw [Tryd.params7] at ht
  rcases j with _ | j
  · simp at ht
    subst ht
    kernel_rfl
  rcases j with _ | j
  · simp at ht
    subst ht
    kernel_rfl
  rcases j with _ | j
  · simp at ht
    subst ht
    kernel_rfl
  simp at ht
theorem card : Rows.CountTopCardSaid :=
  Claim7.holds_tied_plain_at .later [] _ _ _ _ said (fun _ h => by cases h) (by kernel_rfl) (fun _ h => by cases h) countTop_row_tie rfl ⟨rfl, rfl⟩ (by kernel_rfl) rfl plain (by kernel_rfl)
end Go.Proofs.YtonbkpfnpnlkpaaDoor.countTop
namespace Go.Proofs.YtonbkpfnpnlkpaaDoor
theorem countTop_card : Rows.CountTopCardSaid := countTop.card
#print axioms countTop_card
end Go.Proofs.YtonbkpfnpnlkpaaDoor

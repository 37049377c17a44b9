import Derived.Test.YtoomnhclaofgaaaGreatRows
import Derived.WalkKit
import Derived.ProofKit
import Derived.OpenShut
import Derived.ShutString
import Derived.ChangeOld
import Derived.Below
import Derived.SizedLaws
import Derived.Test.YtoomnhclaofgaaaGreatJa
import Derived.Test.YtoomnhclaofgaaaGreatXd
/-
  ItemApart, handed in.
-/
namespace Go.Proofs.YtoomnhclaofgaaaGreat.itemApart
open Go.ChangeShapes Go.WideShapes Go.ChangeAt Go.RowKit
set_option linter.unusedVariables false

theorem own : ownKnob Tryz.prog.godebug = none := by kernel_rfl
theorem laidOut : laidOutB Tryz.prog = true := by kernel_rfl

set_option maxRecDepth 100000 in
theorem lifted (os : Os) (started : os.Started) (H : Type) (enc : TypeId × Value → H) :
    ReturnsInHanded {} Tryz.checked os 3 .any (Rows.itemApartSpec.pre6 enc Tryz.prog Tryz.f3 Rows.itemApartRow.domain false) (Rows.itemApartSpec.post enc Tryz.prog Tryz.f3 false true false false) := by
  refine returnsInHanded_of_change_sized (C := Tryz.checked) own started (by kernel_rfl) Tryz.func3
    (ChangeSpec.witness6 (enc := enc) (C := Tryz.checked) false ⟨#[], #[.agg #[.int .i64 0, .int .i64 0, .slice none 0 0, .slice none 0 0, .slice none 0 0, .int .u64 0, .int .u64 0, .int .i64 0, .int .i64 0, .int .i64 0, .int .i64 0]], []⟩ 8 (by kernel_rfl) (by kernel_rfl) (by kernel_rfl) (by kernel_rfl)) ?_
  intro W base args ds gs before hval0 hW hcnd hsz _
  have hval : ∀ (j : Nat) t v, Tryz.f3.params[j]? = some t → args[j]? = some v → Value.okWide Tryz.prog W .any base t v := hval0
  have hW' := hW
  obtain ⟨p, q, hA0, hV, rfl, hfz, hnd⟩ := hW
  have hA : DataW.TrodAll enc Tryz.prog W 0 (fun _ => true) true Tryz.f3.params.toList args.toList ds p := hA0
  rw [Tryz.params3] at hA hval
  obtain ⟨v0, vs0, d0, ds0, p0, q0, hargs, rfl, rfl, h0, r0⟩ := trodAll_cons hA
  obtain ⟨rfl, rfl, rfl⟩ := trodAll_nil r0
  obtain rfl : args = #[v0] := by cases args; simp_all
  have k0 := h0
  have lt0 : ∀ x ∈ p0, x.block < W.heap.size := by obtain ⟨m, hm⟩ := k0; exact DataW.trod_lt m _ _ _ hm
  have hwt : ∀ k ∈ d0.weights Tryz.prog 25, k ≤ 140737488351232 := by
    intro k hk
    have hz : (DataW.weightsEach Tryz.prog (Tryz.f3.params.toList ++ Rows.itemApartSpec.plain.varTypes Tryz.prog) ([d0] ++ gs)).all (· ≤ reachBytes) = true := hsz
    rw [Tryz.params3] at hz
    have := List.all_eq_true.1 hz k (DataW.weights_mem_each (j := 0) (t := 25) rfl rfl k hk)
    exact of_decide_eq_true this
  obtain ⟨cf, cs, ka, kn, kc, va, vn, vc, na, nn, nc, fl, tk, ex, to, st, mk, ys, vs, us, rfl, hy, hv, hu, hyb, hvb, hub, hkn, hvn, hnn, hfl, htk, bka, bva, bna⟩ := open_laid (hval 0 25 v0 rfl rfl) h0 hwt
  obtain ⟨rfl, rfl⟩ := trodVars_none hV
  clear hA0 hval0
  have hb := apart_any cf cs ka kn kc va vn vc na nn nc fl tk ex to st mk ys hy hyb hkn hfl htk
  unfold laidV at hb
  refine hb.mono fun e W' ⟨he, hg⟩ => ?_
  subst he
  have bel : Below W.heap.size W W' := ⟨hg.os, hg.tape, hg.output, hg.size, fun k hk => hg.block k hk (by simp)⟩
  exact ⟨_, rfl, _, _, _, [], _, [], hW', trodAll_mk1 (shut_bool Tryz.underlying4 _), (trodAll_cons_mk (Below.trod laidOut (by kernel_rfl) (of_decide_eq_true (by kernel_rfl)) k0 bel lt0) trodAll_mk0), rfl, bel.frame _, fun h => by cases h⟩

theorem over : Rows.itemApartRow.holds Tryz.pinned (OpenSpec.ofChange Rows.itemApartSpec) :=
  OpenClaim.holds_of_wide 3 Tryz.f3 rfl rfl rfl rfl rfl rfl rfl ⟨rfl, rfl, rfl, rfl, rfl⟩ rfl rfl rfl rfl rfl (by kernel_rfl) Tryz.func3 (by kernel_rfl)
    (of_decide_eq_true (by kernel_rfl)) (by unfold Func.isWrapper; first | (rw [if_pos (by decide +kernel)]; kernel_rfl) | (rw [if_neg (by decide +kernel)]; exact ⟨rfl, rfl⟩))
    (fun os started H enc _ => lifted os started H enc)

end Go.Proofs.YtoomnhclaofgaaaGreat.itemApart
namespace Go.Proofs.YtoomnhclaofgaaaGreat
theorem itemApart_holds : Rows.ItemApartSaid := itemApart.over
#print axioms itemApart_holds
end Go.Proofs.YtoomnhclaofgaaaGreat

import Derived.Test.YtjkdflnnpdionaaGreatQl
import Derived.Deep.RegionHeld3
/-
  A region that draws its order, inside a range's round: by the plain walk.
-/
namespace Go.Proofs.YtjkdflnnpdionaaGreat
open Go.RowKit Go.Shelf
set_option linter.unusedVariables false

section
variable {P : Program} {ops : Array Oper} {R : Act → World → Prop} {l n : Nat}
theorem rows_round {row : String} {args : Array Value} {w : World} {Q Q' : Value → World → Prop} (h : Rows P row args w Q) (hq : ∀ v w', Q v w' → Q' v w') : RowsIn (Fence.wide.inRound l) n P row args w Q' := fun c cs _ =>
  let ⟨v, w', r, s⟩ := h c cs
  ⟨v, w', hq _ _ r, (stepsIn_wide.2 s : StepsIn (Machine.fenced P Fence.wide) P _ _)⟩
theorem ops_round (hdf : ∀ (i : Nat) o, ops[i]? = some o → ∀ c, o.op ≠ .defer c) : ∀ (is : List Nat) (a : Act) (w : World), wpOps P ops (fun e a' w' => e = .normal ∧ R a' w') is a w → wpOpsIn (Fence.wide.inRound l) n P ops (fun e a' w' => e = .normal ∧ R a' w') is a w
  | [], a, w, h => h
  | i :: is, a, w, h => by
    have ih := ops_round hdf is
    unfold wpOps at h
    unfold wpOpsIn
    cases ho : ops[i]? with
    | none =>
      rw [ho] at h
      exact ih a w h
    | some o =>
      rw [ho] at h
      simp only at h ⊢
      by_cases hw : Region.wanted o (yielded ops a.tmps) = true
      · rw [if_pos hw] at h ⊢
        rcases h with h | ⟨_, a', w', h, _⟩
        · refine ⟨fun _ _ => trivial, ?_⟩
          rw [Oper.semAt_plain _ _ _ (hdf i o ho)]
          unfold Oper.wp at h
          revert h
          generalize (execOp a.eval o).run P w = r
          intro h
          rcases r with ⟨x, w'⟩ | ⟨x, w'⟩
          · cases x with
            | value v => exact ih _ _ h
            | skip => exact ih _ _ h
            | defer d => exact ih _ _ h
            | enter f args =>
              refine ⟨fun hd => (by cases hd), CallsIn.inRound l (callsIn_wide.2 (Calls.mono h ?_))⟩
              intro e w'' hh
              cases e
              · exact ih _ _ hh
              · exact hh
              · exact hh
            | row row args => exact ⟨fun hd => (by cases hd), rows_round h (fun v w'' hh => ih _ _ hh)⟩
            | _ => exact (show False from h).elim
          · cases x <;> first | exact h.elim | exact h
        · cases h
      · rw [if_neg hw] at h ⊢
        exact ⟨fun _ _ => trivial, ih _ _ h⟩
def noDef (o : Oper) : Bool := match o.op with
  | .defer _ => false
  | _ => true
theorem hdf_of (h : ops.all noDef = true) : ∀ (i : Nat) o, ops[i]? = some o → ∀ c, o.op ≠ .defer c := fun i o ho c hc => by
  have h1 := (Array.all_eq_true.1 h) i (Array.getElem?_eq_some_iff.1 ho).1
  rw [(Array.getElem?_eq_some_iff.1 ho).2] at h1
  unfold noDef at h1
  rw [hc] at h1
  cases h1
theorem region_round {S : World → Prop} {id : Nat} {a : Act} {w : World} (hm : P.follows .mixedOrders = true) (hdf : ∀ (i : Nat) o, ops[i]? = some o → ∀ c, o.op ≠ .defer c) (hS : S w.drew) (h : S w.drew → wpAnyH P .any ops (fun e a' w' => e = .normal ∧ R a' w') S ops.size (Array.replicate ops.size false) a w.drew) : (Code.region id ops true).wpIn (Fence.wide.inRound l) n P (fun e a' w' => e = .normal ∧ R a' w') a w :=
  wpIn_region_draw fun t => by
    simp only [Region.schedule, hm, Bool.true_or, if_true]
    exact ops_round hdf _ _ _ (wpAny_sound ops.size t _ a _ (wpAny_of_held _ _ _ _ (h hS)))
end
end Go.Proofs.YtjkdflnnpdionaaGreat

import Derived.RangeFuncNested
import Derived.RangeFuncBound
import Derived.RangeFuncCalls
import Derived.RangeFuncLeaves
import Derived.Shelf.Abstract
import Derived.Shelf.RegionOpen
import Derived.WalkKit
import Derived.OwnWalkIn
import Derived.TacticsInMore
import Derived.LoopNIn
import Derived.LoopIn
import Derived.Maps.AppendAt
import Derived.Test.YtbbocbdoiealoaaGreatDoorRI
set_option linter.unusedVariables false
set_option linter.unusedSimpArgs false
namespace Go.Proofs.YtbbocbdoiealoaaGreatDoor
open Go.RowKit Go.Shelf
section
variable {F : Fence} {n : Nat} {P : Program}
theorem range_turns {α : Type} {g : Operand} {ps : Array Tmp} {assign body : Code} {Q : Exit → Act → World → Prop} {a : Act} {w : World}
    (hro : F.round = none) (h1 : 1 ≤ n) {gf : Nat} {lb : Array Value} (hg : a.eval g = .func (.func gf) #[] lb) (hFg : F.fn gf) (eg : ∀ args w, (callFunc gf args).run P w = .ok (.enter gf args) w)
    (encs : α → Array Value) (hps : ∀ x, (encs x).size = ps.size) (X Kp : World → World → Prop) (I : List α → World → Prop) (S : List α → Prop) (N : Nat) (a₁ : α → Act)
    (hIX : ∀ pre W W', I pre W → X W W' → I pre W') (hX : ∀ W W', X W W' → KeepsFrom w.heap.size W W')
    (hIp : ∀ pre W l o o', I pre W → w.heap.size ≤ l → W.heap[l]? = some o → o.isCells = false → I pre (W.putObj l o'))
    (hKt : ∀ {A B C : World}, Kp A B → Kp B C → Kp A C) (hKb : ∀ (W : World) (l : Nat) (o o' : Obj), w.heap.size ≤ l → W.heap[l]? = some o → o.isCells = false → Kp W (W.putObj l o'))
    (hI0 : ∀ o, I [] ((w.alloc (.deferred (some []))).alloc o))
    (hit : ∀ (l : Nat) (o : Obj) (J : List α → World → Prop), (∀ pre W W', J pre W → X W W' → J pre W') →
      (∀ pre x W1, J pre W1 → pre.length < N → YieldAt F (n - 1 - 1) P l (encs x) W1 fun e W' => e = .returned (.bool true) ∧ J (pre ++ [x]) W' ∧ Kp W1 W') → J [] ((w.alloc (.deferred (some []))).alloc o) →
      CallsIn F (n - 1) P gf (#[.func (.yield l) #[] #[]] ++ lb) ((w.alloc (.deferred (some []))).alloc o) fun e W' => (∃ v, e = .returned v) ∧ ∃ xs, S xs ∧ J xs W')
    (hassign : ∀ (l : Nat) (x : α) (W : World) (K : Act → World → Prop), K (a₁ x) W →
      assign.wpIn (F.inRound l) (n - 1 - 1) P (Exit.then K (fun _ _ _ => False)) { tmps := (ps.zip (encs x)).foldl (fun t (p, v) => t.setIfInBounds p v) a.tmps, defers := [] } W)
    (hbody : ∀ (l : Nat) (pre : List α) (x : α) (W : World), I pre W → pre.length < N → body.wpIn (F.inRound l) (n - 1 - 1) P (fun e _ W' => e = .normal ∧ KeepsFrom w.heap.size W W' ∧ Kp W W' ∧ I (pre ++ [x]) W') (a₁ x) W)
    (hdone : ∀ (D : Nat) (xs : List α) (W : World), w.heap.size ≤ D → S xs → I xs W → W.heap[D]? = some (.deferred (some [])) → Q .normal { a with defers := { target := .collected D, args := #[] } :: a.defers } W) :
    (Code.rangeFunc g ps assign body).wpIn F n P Q a w := by
  refine wpIn_rangeFunc fun fn hfn => ?_
  rw [hro]
  have hen := run_enterLoop_outer (P := P) (w := w) fn a.tmps ps assign body
  obtain ⟨rd, hrd⟩ : ∃ rd : Loop, rd = { state := .ready, pending := none, fn, tmps := a.tmps, params := ps, assign, body, defers := w.heap.size } := ⟨_, rfl⟩
  rw [← hrd] at hen
  refine ⟨_, _, _, { target := .fn (.func gf) lb, args := #[.func (.yield (w.heap.size + 1)) #[] #[]] }, (w.alloc (.deferred (some []))).alloc (.loop rd), gf, #[.func (.yield (w.heap.size + 1)) #[] #[]] ++ lb, (w.alloc (.deferred (some []))).alloc (.loop rd), hen, ?_, ?_, ?_, fun _ => h1, ?_⟩
  · simp only [resolve, hg]; simp [go_sem]
  · intro f' hf'; simp [Target.leads] at hf'; subst hf'; exact hFg
  · simp [invoke, go_sem, eg]
  have hL : ((w.alloc (.deferred (some []))).alloc (.loop rd)).heap[w.heap.size + 1]? = some (.loop rd) := by
    have := World.alloc_heap_new (w.alloc (.deferred (some []))) (.loop rd); rwa [World.size_alloc] at this
  have hD : ((w.alloc (.deferred (some []))).alloc (.loop rd)).heap[w.heap.size]? = some (.deferred (some [])) := (Below.heap_alloc _ _ _ (by simp)).trans (World.alloc_heap_new w _)
  refine (hit (w.heap.size + 1) (.loop rd) (fun pre W => I pre W ∧ W.heap[w.heap.size + 1]? = some (.loop rd) ∧ W.heap[w.heap.size]? = some (.deferred (some []))) ?_ ?_ ⟨hI0 _, hL, hD⟩).mono ?_
  · rintro pre W W' ⟨a1, a2, a3⟩ hx
    exact ⟨hIX _ _ _ a1 hx, (hX _ _ hx).same _ _ (by omega) a2 rfl, (hX _ _ hx).same _ _ (Nat.le_refl _) a3 rfl⟩
  · rintro pre x W ⟨a1, a2, a3⟩ hlN
    have hy := run_yield (P := P) (args := encs x) a2 (by rw [hrd]; exact hps x)
    have hb := run_beginRound (P := P) a2 (by rw [hrd])
    have hlt : w.heap.size + 1 < W.heap.size := (Array.getElem?_eq_some_iff.1 a2).1
    have ef : rd.fn = fn := by rw [hrd]
    have et : rd.tmps = a.tmps := by rw [hrd]
    have ep : rd.params = ps := by rw [hrd]
    have ea : rd.assign = assign := by rw [hrd]
    have eb : rd.body = body := by rw [hrd]
    have es : rd.state = .ready := by rw [hrd]
    have eq : rd.pending = none := by rw [hrd]
    rw [ef, et, ep, ea, eb] at hy
    refine ⟨fn, _, assign, body, hy, roundIn_of_wpIn hfn (hassign _ x W _ ⟨_, hb, ?_⟩)⟩
    obtain ⟨W2, hW2⟩ : ∃ W2, W.putObj (w.heap.size + 1) (.loop { rd with state := .busy }) = W2 := ⟨_, rfl⟩
    have b2 : W2.heap[w.heap.size + 1]? = some (.loop { rd with state := .busy }) := by rw [← hW2]; exact World.putObj_heap_same hlt
    have b3 : W2.heap[w.heap.size]? = some (.deferred (some [])) := by rw [← hW2]; exact (World.putObj_heap_other (by omega)).trans a3
    have b1 : I pre W2 := by rw [← hW2]; exact hIp _ _ _ _ _ a1 (by omega) a2 rfl
    have bk : Kp W W2 := by rw [← hW2]; exact hKb _ _ _ _ (by omega) a2 rfl
    rw [hW2]
    refine wpIn_mono (hbody _ pre x W2 b1 hlN) ?_
    rintro e a3' W3 ⟨rfl, hk3, hkp3, hi3⟩
    have c2 := hk3.same _ _ (by omega) b2 rfl
    have c3 := hk3.same _ _ (Nat.le_refl _) b3 rfl
    have he := run_endRound (P := P) none c2
    refine ⟨_, _, he, rfl, ⟨hIp _ _ _ _ _ hi3 (by omega) c2 rfl, ?_, (World.putObj_heap_other (by omega)).trans c3⟩, hKt (hKt bk hkp3) (hKb _ _ _ _ (by omega) c2 rfl)⟩
    rw [World.putObj_heap_same (Array.getElem?_eq_some_iff.1 c2).1]
    simp only [Option.isNone_none, if_true]
    congr 2
    cases rd
    simp_all
  · rintro e W2 ⟨⟨v, rfl⟩, xs, hS, a1, a2, a3⟩
    have he := run_endLoop (P := P) a2 (by rw [hrd]; simp)
    have eq : rd.pending = none := by rw [hrd]
    rw [eq] at he
    exact ⟨none, _, he, hdone _ xs _ (Nat.le_refl _) hS (hIp _ _ _ _ _ a1 (by omega) a2 rfl) ((World.putObj_heap_other (by omega)).trans a3)⟩
end
end Go.Proofs.YtbbocbdoiealoaaGreatDoor

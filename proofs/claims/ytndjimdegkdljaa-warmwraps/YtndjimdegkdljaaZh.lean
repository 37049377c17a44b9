/-
  maps.Clone of the names.
-/
import Derived.Test.YtndjimdegkdljaaZg
import Derived.Laws.Externs
namespace Go.Proofs.Ytndjimdegkdljaa
open Go.RowKit Go.MapKept
set_option linter.unusedVariables false
set_option linter.unusedSimpArgs false
attribute [local go_sem] Oper.semAt_some

theorem as71 (v : Value) (w : World) : (Instr.typeAssert (.iface 71 v) 20 71 false).run Try.prog w = .ok v w := by kernel_rfl
theorem eq71 (b : Nat) (w : World) : (binOp .eql 71 (.map (some b)) (.map none)).run Try.prog w = .ok (.bool false) w := by kernel_rfl
theorem call77 {w : World} {b : Nat} {es : Array MapEntry} {cl : Nat} (h : w.heap[b]? = some (.map es cl)) :
    (callFunc 77 #[.iface 71 (.map (some b))]).run Try.prog w = .ok (Next.value (.iface 71 (.map (some w.heap.size)))) (w.alloc (.map es cl)) := by
  rw [run_callFunc_extern (fn := Try.f77) (by kernel_rfl) (by kernel_rfl) (by kernel_rfl) (by kernel_rfl) (e := Extern.MapsClone.clone) (by kernel_rfl)]
  obtain ⟨z, e2⟩ : ∃ z, Extern.MapsClone.clone #[.iface 71 (.map (some b))] = (getObj b >>= fun o => match o with
      | .map entries clock => (newObj (.map entries clock) >>= fun n => pure (.iface 71 (.map (some n))))
      | _ => stuck z) := ⟨_, rfl⟩
  rw [e2]
  simp [Go.MapKept.run_getObj_map h, Result.andThen]
set_option maxRecDepth 100000 in
set_option maxHeartbeats 4000000 in
theorem clone_47 {w : World} {b : Nat} {fb : Nat → Nat} {m : NS} (h : NmM w b fb m) :
    Calls Try.prog 47 #[.map (some b)] w fun e w' => e = .returned (.map (some w.heap.size)) ∧ NmM w' w.heap.size fb m ∧ w.grownBy w' none := by
  obtain ⟨es, cl, hb, hs, hr⟩ := h
  have h1 := fun v W => as71 v W
  have h2 := fun b W => eq71 b W
  have h3 := call77 hb
  have HE := Lib.hid (show NmM (w.alloc (.map es cl)) w.heap.size fb m ∧ w.grownBy (w.alloc (.map es cl)) none from ⟨⟨es, cl, heap_alloc_new w _, hs, hr⟩, gb_alloc (gb_refl w none) _⟩)
  clear hb hs hr
  go_enter Try.func47, Try.ntmps47
  go_wp2_with fail
  go_ret
  exact ⟨rfl, HE.out⟩
end Go.Proofs.Ytndjimdegkdljaa

import Derived.Test.YtohneboimmcocaaGreatGa
import Derived.Test.YtohneboimmcocaaGreatWj
/-
  Pick with a function that tells who is dead.
-/
namespace Go.Proofs.YtohneboimmcocaaGreat
open Go.RowKit Go.Shelf
set_option linter.unusedVariables false
attribute [local go_sem] Oper.semAt_some

/-- Pick, till a dead one is met. -/
def pd (own : Nat) (looks : Int) (mk : Nat → Nat) (dd : Nat → Bool) : PS → List Nat → PS × Bool
  | s, [] => (s, false)
  | s, x :: l => if x = own then pd own looks mk dd s l else if looks ≤ (s.lk : Int) then (s, false) else if dd x = true then (⟨x, s.sp, s.lk + 1⟩, true) else pd own looks mk dd (pst own looks mk s x) l
def PDq (own : Nat) (looks : Int) (mk : Nat → Nat) (dd : Nat → Bool) (pre : List Nat) (s : PS) : Prop := ∀ l, pd own looks mk dd ⟨0, false, 0⟩ (pre ++ l) = pd own looks mk dd s l
def PDf (own : Nat) (looks : Int) (mk : Nat → Nat) (dd : Nat → Bool) (pre : List Nat) (s : PS) (b : Bool) : Prop := ∀ l, pd own looks mk dd ⟨0, false, 0⟩ (pre ++ l) = (s, b)
section
variable {own : Nat} {looks : Int} {mk : Nat → Nat} {dd : Nat → Bool} {pre : List Nat} {s : PS} {x : Nat}
theorem PDq.skip (h : PDq own looks mk dd pre s) (hx : x = own) : PDq own looks mk dd (pre ++ [x]) s := fun l => by
  rw [List.append_assoc, h ([x] ++ l)]
  show pd own looks mk dd s (x :: l) = _
  rw [pd, if_pos hx]
theorem PDq.next (h : PDq own looks mk dd pre s) (hx : ¬ x = own) (hf : ¬ looks ≤ (s.lk : Int)) (hd : dd x = false) : PDq own looks mk dd (pre ++ [x]) (pst own looks mk s x) := fun l => by
  rw [List.append_assoc, h ([x] ++ l)]
  show pd own looks mk dd s (x :: l) = _
  rw [pd, if_neg hx, if_neg hf, if_neg (by rw [hd]; decide)]
theorem PDq.full (h : PDq own looks mk dd pre s) (hx : ¬ x = own) (hf : looks ≤ (s.lk : Int)) : PDf own looks mk dd (pre ++ [x]) s false := fun l => by
  rw [List.append_assoc, h ([x] ++ l)]
  show pd own looks mk dd s (x :: l) = _
  rw [pd, if_neg hx, if_pos hf]
theorem PDq.dead (h : PDq own looks mk dd pre s) (hx : ¬ x = own) (hf : ¬ looks ≤ (s.lk : Int)) (hd : dd x = true) : PDf own looks mk dd (pre ++ [x]) ⟨x, s.sp, s.lk + 1⟩ true := fun l => by
  rw [List.append_assoc, h ([x] ++ l)]
  show pd own looks mk dd s (x :: l) = _
  rw [pd, if_neg hx, if_neg hf, if_pos hd]
end
end Go.Proofs.YtohneboimmcocaaGreat

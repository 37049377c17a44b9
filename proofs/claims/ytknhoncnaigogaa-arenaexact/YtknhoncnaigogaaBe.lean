/-
  own, marked; append of one cell to a row of the call's own: it fits, or it grows.
-/
import Derived.Test.YtknhoncnaigogaaBd
import Derived.ArgAppend
import Derived.OwnWalk
namespace Go.Proofs.Ytknhoncnaigogaa
open Go.RowKit
set_option linter.unusedVariables false

def ownB (i k : Nat) : Int := if k % 2 = 0 then ((i % 256 : Nat) : Int) else (((i + k + 100) % 256 : Nat) : Int)
def ownTo (i n : Nat) : List Int := (List.range n).map (ownB i)
theorem ownTo_succ (i n : Nat) : ownTo i (n + 1) = ownTo i n ++ [ownB i n] := by simp [ownTo, List.range_succ]
theorem length_ownTo (i n : Nat) : (ownTo i n).length = n := by simp [ownTo]
theorem getD_ownTo (i n k : Nat) (h : k < n) : (ownTo i n).getD k 0 = ownB i k := by simp [ownTo, List.getD, h]

theorem own_any (i k : Nat) (hi : i < 1000) (hk : k ≤ 1000000000000) (w : World) : Calls Try.prog 50 #[.int .i64 i, .int .i64 k] w fun e w' => e = .returned (.int .u8 (ownB i k)) ∧ w' = w := by
  have e0 : (k : Int).tmod 2 = ((k % 2 : Nat) : Int) := by rw [Int.tmod_eq_emod_of_nonneg (by omega)]; omega
  by_cases h2 : k % 2 = 0
  · have e1 : ownB i k = ((i % 256 : Nat) : Int) := by simp [ownB, h2]
    have e2 : IntKind.u8.wrap (i : Int) = ((i % 256 : Nat) : Int) := by rw [IntKind.wrap_u8]; omega
    rw [h2] at e0
    rw [e1]
    go_enter Try.func50, Try.ntmps50
    go_wp2
    go_ret
    exact ⟨rfl, rfl⟩
  · have e1 : ownB i k = (((i + k + 100) % 256 : Nat) : Int) := by simp [ownB, h2]
    have e2 : IntKind.u8.wrap ((i : Int) + k + 100) = (((i + k + 100) % 256 : Nat) : Int) := by rw [IntKind.wrap_u8]; omega
    have h3 : k % 2 = 1 := by omega
    rw [h3] at e0
    rw [e1]
    go_enter Try.func50, Try.ntmps50
    go_wp2
    go_ret
    exact ⟨rfl, rfl⟩

set_option maxHeartbeats 1000000 in
theorem marked_any {w : World} {a : Option Addr} {n : Nat} (i : Nat) (hi : i < 1000) (h : Has w a n (ownTo i n)) (c : Nat) (hn : n ≤ 1000000000000) :
    Calls Try.prog 51 #[.slice a n c, .int .i64 i] w fun e w' => e = .returned (.bool true) ∧ w.grownBy w' none := by
  go_enter Try.func51, Try.ntmps51
  go_wp2
  go_loopw [5] (fun c wr => ∃ (k : Nat), k ≤ n ∧ c = .int .i64 k ∧ w.grownBy wr none) (fun c _ => n - (intOf c).toNat)
  case atStart => exact ⟨0, by omega, rfl, gb_refl _ _⟩
  case round =>
    obtain ⟨k, hk, rfl, hF⟩ := hrel
    by_cases hlt : k < n
    · obtain ⟨b, o, rfl, hc⟩ := h.2 (by omega)
      have hc1 := hc k hlt
      rw [getD_ownTo i n k hlt] at hc1
      have hc2 := gb_cellN hF hc1
      have hd : decide ((k : Int) < n) = true := by simp; omega
      clear hc hc1
      go_wp2
      go_quiet ((go_at_call 50; exact Calls.quiet_of_same (own_any _ _ (by omega) (by omega) _)))
      go_wp2
      go_roundw
      case rel => exact ⟨k + 1, by omega, by go_num, gb_drewN hF _⟩
      case measure => simp [intOf]; omega
    · go_wp2
      go_ret
      exact ⟨rfl, hF⟩

section
variable {w : World} {ops : Array Oper} {rest : List Oper} {o : Oper} {a : Act} {Q : Exit → Act → World → Prop}

/-- What append of one cell leaves of a row's value v. -/
def Pushed (w w' : World) (v : Value) (n : Nat) (v' : Value) : Prop :=
  (∃ g cap, v = .slice (some ⟨g, 0, none⟩) n cap ∧ n + 1 ≤ cap ∧ v' = .slice (some ⟨g, 0, none⟩) (n + 1) cap ∧ w.grownBy w' (some g)) ∨
  (∃ g cap, v' = .slice (some ⟨g, 0, none⟩) (n + 1) cap ∧ w.heap.size ≤ g ∧ w.grownBy w' none)

theorem row_base {B B' : Nat} {e : TypeId} {s : Nat} {v : Value} {n : Nat} {xs : List Value} (h : w.ownsRow B e s v n xs) (hB : B' ≤ B) : w.ownsRow B' e s v n xs := by
  refine ⟨h.1, ?_⟩
  rcases h.2 with h1 | ⟨g, c, cur, h1, h2, h3⟩
  · exact .inl h1
  · exact .inr ⟨g, c, cur, h1, Nat.le_trans hB h2, h3⟩

theorem wpList_push1 {P : Program} (hgd : o.guard = none) (s x : Operand) (t : TypeId) (ho : o.op = .call { callee := .builtin .append, args := #[s, x], argTypes := #[t, t] }) (e : TypeId) (i : TypeInfo) (z : Value) (bytes : Nat)
    (ht : P.underlying t = some (.slice e)) (hi : P.info? e = some i) (hz : i.zero = some z) (hsize : i.size = 1) (hby : i.bytes = bytes) (hzs : z.cells.size = 1) (hb : bytes ≤ 1000)
    (B : Nat) (v : Value) (n : Nat) (xs : List Value) (hs : a.eval s = v) (hown : w.ownsRow B e 1 v n xs) (u : Value) (hu : u.oneCell' = true) (hx : a.eval x = .slice (some ⟨w.heap.size, 0, none⟩) 1 1) (hn : n ≤ 100000000000) (hB : B ≤ w.heap.size)
    (h : ∀ v' w', w'.ownsRow B e 1 v' (n + 1) (xs ++ [u]) → Pushed w w' v n v' → wpList P ops Q rest (a.put o.dst v') w') : wpList P ops Q (o :: rest) a (w.alloc (.cells #[u] e)) := by
  have hc : ∀ (j : Nat) (u' : Value), [u][j]? = some u' → (w.alloc (.cells #[u] e)).cell? ((⟨w.heap.size, 0, none⟩ : Addr).add j) = some u' := by
    intro j u' hj
    match j, hj with
    | 0, hj => simp at hj; subst hj; simp [Addr.add]
  have hown1 := World.ownsRow.alloc hown (.cells #[u] e)
  have hal := World.grownBy_alloc w (.cells #[u] e) none
  have hbb : (n + 1) * bytes ≤ 140737488355328 := Nat.le_trans (Nat.mul_le_mul (Nat.succ_le_succ hn) hb) (by omega)
  rcases hown.2 with ⟨rfl, h0⟩ | ⟨g, cap, cur, rfl, h2, h3, h4, h5, h6, h7⟩
  · subst h0
    have hxs : xs = [] := List.eq_nil_of_length_eq_zero (by have := hown.1; omega)
    subst hxs
    refine wpList_append_grows _ hgd s x t ho e i z 1 bytes ht hi hz hsize hby hzs (by omega) none 0 0 [] hs (fun _ => ⟨rfl, rfl⟩) rfl (by simp) _ 1 1 [u] hx rfl hc (by simpa using hu) (by omega) (by unfold maxLen; omega) hbb ?_
    intro v' w' ho' hg'
    have ho2 : w'.ownsRow B e 1 v' (0 + 1) ([] ++ [u]) := row_base ho' (by simp; omega)
    refine h v' w' ho2 (.inr ?_)
    rcases ho'.2 with ⟨_, h8⟩ | ⟨g, cap, cur, h8, h9, _⟩
    · omega
    · exact ⟨g, cap, h8, by simp at h9; omega, gb_trans hal hg'⟩
  · by_cases hf : n + 1 ≤ cap
    · refine wpList_append_fits _ hgd s x t ho B e i 1 ht hi hsize g n cap xs hs hown1 _ 1 1 [u] hx rfl hc (by simpa using hu) hf ?_
      intro w' ho' hg'
      exact h _ w' ho' (.inl ⟨g, cap, rfl, hf, rfl, gb_trans (World.grownBy_alloc w _ _) hg'⟩)
    · refine wpList_append_grows _ hgd s x t ho e i z 1 bytes ht hi hz hsize hby hzs (by omega) _ n cap xs hs (by simp) hown.1 (fun b hb j u' hj => ?_) _ 1 1 [u] hx rfl hc (by simpa using hu) (by omega) (by unfold maxLen; omega) hbb ?_
      · cases hb
        exact hown1.cells rfl j u' hj
      · intro v' w' ho' hg'
        refine h v' w' (row_base ho' (by simp; omega)) (.inr ?_)
        rcases ho'.2 with ⟨_, h8⟩ | ⟨g', cap', cur', h8, h9, _⟩
        · omega
        · exact ⟨g', cap', h8, by simp at h9; omega, gb_trans hal hg'⟩
end

end Go.Proofs.Ytknhoncnaigogaa

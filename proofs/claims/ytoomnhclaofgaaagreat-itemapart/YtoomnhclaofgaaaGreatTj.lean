import Derived.Test.YtoomnhclaofgaaaGreatTi
import Derived.Test.YtoomnhclaofgaaaGreatTd
import Derived.Test.YtoomnhclaofgaaaGreatSx
/-
  ClassFills' walk: words.
-/
namespace Go.Proofs.YtoomnhclaofgaaaGreat
open Go.RowKit
set_option linter.unusedVariables false

theorem tmod_add (i n : Int) (h : 0 < n) : (i.tmod n + n) % n = i % n := by
  rw [Int.add_emod_right, Int.tmod_eq_emod]
  split
  · simp
  · have : ((n.natAbs : Nat) : Int) = n := by omega
    rw [this, Int.sub_emod_right, Int.emod_emod]
theorem within_any (i n : Int) (h1 : 1 ≤ n) (h2 : n ≤ 1099511627776) (w : World) : Calls Tryz.prog 21 #[.int .i64 i, .int .i64 n] w fun e w' => e = .returned (.int .i64 (i % n)) ∧ w = w' := by
  obtain ⟨r, hr⟩ : ∃ r, i.tmod n = r := ⟨_, rfl⟩
  have h3 : -n < r := by rw [← hr]; exact Int.lt_tmod_of_pos _ (by omega)
  have h4 : r < n := by rw [← hr]; exact Int.tmod_lt_of_pos _ (by omega)
  have h5 : Hid ((r + n) % n = i % n) := by rw [← hr]; exact tmod_add i n (by omega)
  go_enter Tryz.func21, Tryz.ntmps21
  go_wp2
  go_ret
  refine ⟨?_, rfl⟩
  rw [← h5.out]
  rfl
theorem within_nat (i : Int) (n : Nat) (h1 : 1 ≤ n) (h2 : n ≤ 1099511627776) : ∃ k : Nat, k < n ∧ ∀ w, Calls Tryz.prog 21 #[.int .i64 i, .int .i64 n] w fun e w' => e = .returned (.int .i64 k) ∧ w = w' := by
  have h3 := Int.emod_nonneg i (show (n : Int) ≠ 0 by omega)
  have h4 := Int.emod_lt_of_pos i (show (0 : Int) < n by omega)
  refine ⟨(i % n).toNat, by omega, fun w => ?_⟩
  have := within_any i n (by omega) (by omega) w
  rwa [show i % (n : Int) = (((i % n).toNat : Nat) : Int) by omega] at this

theorem Tryz.info35 : (Tryz.prog.info? 35).map (fun i => (i.zero, i.size, i.bytes)) = some (some (.int .u64 0), 1, 8) := by kernel_rfl
section
variable {w : World} {ops : Array Oper} {rest : List Oper} {o : Oper} {a : Act} {Q : Exit → Act → World → Prop}
end

theorem plN_lt {A : Ab} (hA : Szs A) {k : Nat} (hk : k < A.n) (i : Nat) : plN A k i < plN A k (i + 1) := by
  obtain ⟨e1, e2, e3⟩ := hA.each hk
  have hlo := hA.lo k hk
  have hps := hA.ps0
  have hdm := Nat.div_add_mod i (A.each k)
  have hm : i % A.each k < A.each k := Nat.mod_lt _ (by omega)
  rw [Nat.mul_comm] at hdm
  unfold plN
  rcases Nat.lt_or_ge (i % A.each k + 1) (A.each k) with h | h
  · obtain ⟨d1, d2⟩ := divmod (A.each k) (i / A.each k) (i % A.each k + 1) h
    rw [show i + 1 = i / A.each k * A.each k + (i % A.each k + 1) by omega, d1, d2, Nat.add_mul (i % A.each k), Nat.one_mul]
    omega
  · obtain ⟨d1, d2⟩ := divmod (A.each k) (i / A.each k + 1) 0 (by omega)
    rw [show i + 1 = (i / A.each k + 1) * A.each k + 0 by rw [Nat.add_mul, Nat.one_mul]; omega, d1, d2]
    have h1 : (i % A.each k + 1) * A.sz k ≤ A.each k * A.sz k := Nat.mul_le_mul_right _ (by omega)
    rw [Nat.add_mul, Nat.one_mul] at h1 ⊢
    omega

/-- The handles so far. -/
def hsL (A : Ab) (k i : Nat) : List Value := (List.range i).map fun l => Value.int .u64 (hN A k l : Int)
theorem hsL_succ (A : Ab) (k i : Nat) : hsL A k (i + 1) = hsL A k i ++ [.int .u64 (hN A k i : Int)] := by simp [hsL, List.range_succ]
theorem hsL_get (A : Ab) (k i l : Nat) (h : l < i) : (hsL A k i)[l]? = some (.int .u64 (hN A k l : Int)) := by simp [hsL, h]

/-- The state of the first loop. -/
structure FilS (w0 wr : World) (sb : Nat) (b c d e f g : Int) (A0 : Ab) (k i : Nat) (av : Value) (F : Nat → Prop) (B : Bl) (A : Ab) (zs : List Int) (fr : Nat) : Prop where
  is : IsS wr sb F B b c d e f g A zs
  fil : Fil A0 A k i fr
  row : wr.ownsRow 0 35 1 av i (hsL A0 k i)
  ap : ∀ x, av.ownBlock = some x → ¬ F x ∧ w0.heap.size ≤ x
  lo : ∀ x, F x → w0.heap.size ≤ x
  gr : w0.grownBy wr none

/-- Kept where nothing that lay there has turned. -/
theorem FilS.step {w0 wr w' : World} {sb : Nat} {b c d e f g : Int} {A0 : Ab} {k i : Nat} {av : Value} {F : Nat → Prop} {B : Bl} {A : Ab} {zs : List Int} {fr : Nat} (h : FilS w0 wr sb b c d e f g A0 k i av F B A zs fr) (hf : wr.grownBy w' none) : FilS w0 w' sb b c d e f g A0 k i av F B A zs fr :=
  ⟨h.is.kept0 hf, h.fil, row_kept h.row hf (by simp), h.ap, h.lo, gb_trans h.gr hf⟩

/-- Take in the first loop. -/
theorem FilS.take {w0 wr : World} {sb : Nat} {b c d e f g : Int} {A0 : Ab} {k i : Nat} {av : Value} {F : Nat → Prop} {B : Bl} {A : Ab} {zs : List Int} {fr : Nat} (h : FilS w0 wr sb b c d e f g A0 k i av F B A zs fr) (hk : k < A.n) (hi : i < A0.m * A0.each k) :
    Calls Tryz.prog 29 #[.pointer (some ⟨sb, 0, none⟩), .int .i64 k] wr fun y w' => y = .returned (.tuple #[.int .u64 (hN A0 k i), .int .i64 0]) ∧ ∃ F' B' zs' A' fr', IsS w' sb F' B' b c d e f g A' zs' ∧ Fil A0 A' k (i + 1) fr' ∧ w'.ownsRow 0 35 1 av i (hsL A0 k i) ∧ (∀ x, av.ownBlock = some x → ¬ F' x ∧ w0.heap.size ≤ x) ∧ (∀ x, F' x → w0.heap.size ≤ x) ∧ w0.grownBy w' none := by
  refine (fil_take h.fil hk h.is (by rw [h.fil.m, h.fil.each k]; exact hi)).mono ?_
  rintro y w' ⟨rfl, hK, F', B', zs', A', fr', hS', hF', hsub⟩
  have hgs := h.gr.size
  refine ⟨rfl, F', B', zs', A', fr', hS', hF', ?_, ?_, ?_, ?_⟩
  · refine row_same h.row fun x hx => ?_
    obtain ⟨cur, hc⟩ := row_block h.row x hx
    exact hK.block x (lt_of_block hc) (h.ap x hx).1
  · intro x hx
    refine ⟨fun hf => ?_, (h.ap x hx).2⟩
    rcases hsub x hf with h1 | h1
    · exact (h.ap x hx).1 h1
    · obtain ⟨cur, hc⟩ := row_block h.row x hx
      have := lt_of_block hc
      omega
  · intro x hx
    rcases hsub x hx with h1 | h1
    · exact h.lo x h1
    · omega
  · exact ((Kp.of (F := fun _ => False) h.gr).trans hK (H := fun _ => False) (fun _ h => h) (fun x hx => .inr (h.lo x hx))).grown (fun _ h => h.elim)

/-- The handle is appended. -/
theorem FilS.more {w0 wr w' : World} {sb : Nat} {b c d e f g : Int} {A0 : Ab} {k i : Nat} {av : Value} {F : Nat → Prop} {B : Bl} {A : Ab} {zs : List Int} {fr : Nat} (hS : IsS wr sb F B b c d e f g A zs) (hF : Fil A0 A k (i + 1) fr) (hr : wr.ownsRow 0 35 1 av i (hsL A0 k i)) (ap : ∀ x, av.ownBlock = some x → ¬ F x ∧ w0.heap.size ≤ x) (lo : ∀ x, F x → w0.heap.size ≤ x) (gr : w0.grownBy wr none)
    {g1 cap1 : Nat} (ho : w'.ownsRow 0 35 1 (.slice (some ⟨g1, 0, none⟩) (i + 1) cap1) (i + 1) (hsL A0 k i ++ [.int .u64 (hN A0 k i : Int)])) (hg : wr.grownBy w' av.ownBlock) (hat : av.ownBlock = some g1 ∨ wr.heap.size ≤ g1) :
    FilS w0 w' sb b c d e f g A0 k (i + 1) (.slice (some ⟨g1, 0, none⟩) (i + 1) cap1) F B A zs fr := by
  refine ⟨?_, hF, by rw [hsL_succ]; exact ho, ?_, lo, ?_⟩
  · refine hS.same hg.size fun x hx => hg.block x (hS.lt x hx) (fun e => (ap x e.symm).1 hx)
  · intro x hx
    simp [Value.ownBlock] at hx
    subst hx
    rcases hat with h1 | h1
    · exact ap _ h1
    · have := gr.size
      exact ⟨fun hf => by have := hS.lt _ hf; omega, by omega⟩
  · exact ((Kp.of (F := fun _ => False) gr).step hg (fun x hx => .inr (ap x hx).2)).grown (fun _ h => h.elim)

end Go.Proofs.YtoomnhclaofgaaaGreat

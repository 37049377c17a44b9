import Derived.Test.YtohneboimmcocaaGreatIh
import Derived.Test.YtohneboimmcocaaGreatSw
/-
  A chunk of a new Set.
-/
namespace Go.Proofs.YtohneboimmcocaaGreat
open Go.RowKit
set_option linter.unusedVariables false

/-- A chunk as it is taken. -/
def hd0 (g : Int) : List Int := List.replicate 12 0 ++ (be 4 g ++ List.replicate 40 0)
theorem hd0_len (g : Int) : (hd0 g).length = 56 := by simp [hd0, be_len]
theorem headZ_lay (zs : List Int) (pl g : Nat) (h : pl + 56 ≤ zs.length) : headZ zs pl g = lay zs pl (hd0 g) := by
  unfold headZ
  have l1 : (lay zs pl (List.replicate 56 0)).length = zs.length := length_lay (by simp; omega)
  rw [putL_lay _ _ _ _ (by rw [l1]; omega), lay_part _ _ _ (by simp; omega) _ _ (by simp [be_len])]
  congr 1
theorem headZ_lies (zs : List Int) (pl g : Nat) (h : pl + 56 ≤ zs.length) : Lies (headZ zs pl g) pl (hd0 g) := by
  rw [headZ_lay zs pl g h]
  exact lies_lay (by rw [hd0_len]; exact h)
theorem lies_gen {zs : List Int} {pl : Nat} {g : Int} (h : Lies zs pl (hd0 g)) : cut zs (pl + 12) 4 = be 4 g := by
  rw [h.cutE 12 4 (by rw [hd0_len]; omega)]
  exact cut_app _ _ _ _ _ (by simp) (by simp [be_len])

/-- A Set with one chunk taken of class i. -/
def one1 (A : Ab) (i : Nat) : Ab := (A.owned i).taken i A.np 0

section
variable {A : Ab} {i : Nat}
theorem one1_inv (h : Inv A) (hi : i < A.n) (hm : A.np < A.m) (hr : A.row i = []) : Inv (one1 A i) := by
  have hA := h.fit
  have hea := (hA.toSzs.each hi).1
  refine (h.own hi hm).take (by rw [owned_n]; exact hi) (by rw [owned_np]; omega) (by rw [owned_own, if_pos rfl]) (by rw [owned_each]; omega) (by rw [owned_tkn, if_pos rfl]) ?_
  rw [owned_row, if_pos rfl, hr, List.nil_append, nums_last A i (by omega), owned_num2]
theorem one1_own : (one1 A i).own A.np = i := by
  show (A.owned i).own A.np = i
  rw [owned_own, if_pos rfl]
theorem one1_sz (j : Nat) : (one1 A i).sz j = A.sz j := by
  show (A.owned i).sz j = _
  rw [owned_sz]
theorem one1_n : (one1 A i).n = A.n := by
  show (A.owned i).n = _
  rw [owned_n]
theorem one1_np : (one1 A i).np = A.np + 1 := by
  show (A.owned i).np = _
  rw [owned_np]
theorem one1_ps : (one1 A i).ps = A.ps := by
  show (A.owned i).ps = _
  rw [owned_ps]
theorem one1_m : (one1 A i).m = A.m := by
  show (A.owned i).m = _
  rw [owned_m]
theorem one1_place : (one1 A i).place A.np 0 = A.np * A.ps := by
  unfold Ab.place
  rw [one1_ps, Nat.zero_mul, Nat.add_zero]
theorem one1_isH (h : Inv A) (hi : i < A.n) : IsH (one1 A i) ((A.owned i).hdl A.np 0) A.np 0 := by
  have hea := (h.fit.toSzs.each hi).1
  refine ⟨by rw [one1_np]; omega, ?_, ?_, rfl⟩
  · rw [one1_own]
    show 0 < (A.owned i).each i
    rw [owned_each]; omega
  · show upd2 _ A.np 0 true A.np 0 = true
    simp [upd2]
theorem own_hdl (h0 : A.np = 0) : (A.owned i).hdl A.np 0 = 1 := by
  unfold Ab.hdl
  rw [owned_gen, if_pos rfl, owned_num2, h0]
  simp
end

section
variable {w : World} {sb : Nat} {G : Nat → Prop} {B : Bl} {b c d e f g : Int} {zs : List Int}
theorem fresh_take {A : Ab} (h : IsS w sb G B b c d e f g A zs) (hI : Inv A) (i : Nat) (hi : i < A.n) (h0 : A.np = 0) (hr : A.row i = []) (hm : 1 ≤ A.m) :
    Calls Tryz.prog 88 #[.pointer (some ⟨sb, 0, none⟩), .int .i64 i] w fun y w' => y = .returned (.tuple #[.int .u64 1, .int .i64 0]) ∧ Kp G w w' ∧ ∃ F' B', IsS w' sb F' B' b c d e f g (one1 A i) (headZ zs 0 0) ∧ (∀ k, F' k → G k ∨ w.heap.size ≤ k) := by
  have := take_page h hI hi hr (by omega)
  rw [own_hdl h0] at this
  refine this.mono ?_
  rintro y w' ⟨rfl, hK, F', B', hS, hF⟩
  rw [owned_gen, if_pos rfl] at hS
  have hp : (A.owned i).place A.np 0 = 0 := by
    unfold Ab.place
    rw [h0]; simp
  rw [hp] at hS
  exact ⟨rfl, hK, F', B', hS, hF⟩
end

end Go.Proofs.YtohneboimmcocaaGreat

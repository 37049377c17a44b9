import Derived.Test.YtoomnhclaofgaaaGreatIh
import Derived.Test.YtoomnhclaofgaaaGreatSw
/-
  A chunk of a new Set.
-/
namespace Go.Proofs.YtoomnhclaofgaaaGreat
open Go.RowKit
set_option linter.unusedVariables false

/-- A chunk as it is taken. -/
def hd0 (g : Int) : List Int := List.replicate 12 0 ++ (be 4 g ++ List.replicate 40 0)
theorem hd0_len (g : Int) : (hd0 g).length = 56 := by simp [hd0, be_len]
theorem headZ_lay (zs : List Int) (pl g : Nat) (h : pl + 56 ≤ zs.length) : headZ zs pl g = lay zs pl (hd0 g) := by
  unfold headZ
  have l1 : (lay zs pl (List.replicate 56 0)).length = zs.length := length_lay (by simp; omega)
  rw [putL_lay _ _ _ _ (by rw [l1]; omega), lay_part _ _ _ (by simp; omega) _ _ (by simp [be_len])]
  congr 1
theorem headZ_lies (zs : List Int) (pl g : Nat) (h : pl + 56 ≤ zs.length) : Lies (headZ zs pl g) pl (hd0 g) := by
  rw [headZ_lay zs pl g h]
  exact lies_lay (by rw [hd0_len]; exact h)
theorem lies_gen {zs : List Int} {pl : Nat} {g : Int} (h : Lies zs pl (hd0 g)) : cut zs (pl + 12) 4 = be 4 g := by
  rw [h.cutE 12 4 (by rw [hd0_len]; omega)]
  exact cut_app _ _ _ _ _ (by simp) (by simp [be_len])

/-- A Set with one chunk taken of class i. -/
def one1 (A : Ab) (i : Nat) : Ab := (A.owned i).taken i A.np 0

section
variable {A : Ab} {i : Nat}
theorem one1_inv (h : Inv A) (hi : i < A.n) (hm : A.np < A.m) (hr : A.row i = []) : Inv (one1 A i) := by
  have hA := h.fit
  have hea := (hA.toSzs.each hi).1
  refine (h.own hi hm).take (by rw [owned_n]; exact hi) (by rw [owned_np]; omega) (by rw [owned_own, if_pos rfl]) (by rw [owned_each]; omega) (by rw [owned_tkn, if_pos rfl]) ?_
  rw [owned_row, if_pos rfl, hr, List.nil_append, nums_last A i (by omega), owned_num2]
theorem one1_own : (one1 A i).own A.np = i := by
  show (A.owned i).own A.np = i
  rw [owned_own, if_pos rfl]
theorem one1_sz (j : Nat) : (one1 A i).sz j = A.sz j := by
  show (A.owned i).sz j = _
  rw [owned_sz]
theorem one1_n : (one1 A i).n = A.n := by
  show (A.owned i).n = _
  rw [owned_n]
theorem one1_np : (one1 A i).np = A.np + 1 := by
  show (A.owned i).np = _
  rw [owned_np]
theorem one1_ps : (one1 A i).ps = A.ps := by
  show (A.owned i).ps = _
  rw [owned_ps]
theorem one1_m : (one1 A i).m = A.m := by
  show (A.owned i).m = _
  rw [owned_m]
theorem one1_place : (one1 A i).place A.np 0 = A.np * A.ps := by
  unfold Ab.place
  rw [one1_ps, Nat.zero_mul, Nat.add_zero]
theorem one1_isH (h : Inv A) (hi : i < A.n) : IsH (one1 A i) ((A.owned i).hdl A.np 0) A.np 0 := by
  have hea := (h.fit.toSzs.each hi).1
  refine ⟨by rw [one1_np]; omega, ?_, ?_, rfl⟩
  · rw [one1_own]
    show 0 < (A.owned i).each i
    rw [owned_each]; omega
  · show upd2 _ A.np 0 true A.np 0 = true
    simp [upd2]
theorem own_hdl (h0 : A.np = 0) : (A.owned i).hdl A.np 0 = 1 := by
  unfold Ab.hdl
  rw [owned_gen, if_pos rfl, owned_num2, h0]
  simp
end

section
variable {w : World} {sb : Nat} {G : Nat → Prop} {B : Bl} {b c d e f g : Int} {zs : List Int}
theorem fresh_take {A : Ab} (h : IsS w sb G B b c d e f g A zs) (hI : Inv A) (i : Nat) (hi : i < A.n) (h0 : A.np = 0) (hr : A.row i = []) (hm : 1 ≤ A.m) :
    Calls Tryz.prog 29 #[.pointer (some ⟨sb, 0, none⟩), .int .i64 i] w fun y w' => y = .returned (.tuple #[.int .u64 1, .int .i64 0]) ∧ Kp G w w' ∧ ∃ F' B', IsS w' sb F' B' b c d e f g (one1 A i) (headZ zs 0 0) ∧ (∀ k, F' k → G k ∨ w.heap.size ≤ k) := by
  have := take_page h hI hi hr (by omega)
  rw [own_hdl h0] at this
  refine this.mono ?_
  rintro y w' ⟨rfl, hK, F', B', hS, hF⟩
  rw [owned_gen, if_pos rfl] at hS
  have hp : (A.owned i).place A.np 0 = 0 := by
    unfold Ab.place
    rw [h0]; simp
  rw [hp] at hS
  exact ⟨rfl, hK, F', B', hS, hF⟩
end

set_option maxRecDepth 100000 in
set_option maxHeartbeats 1000000 in
theorem isame_yes {w : World} {sb : Nat} {F : Nat → Prop} {B : Bl} {b c d e f g : Int} {A : Ab} {zs : List Int} (h : IsS w sb F B b c d e f g A zs) (hA : Fit2 A) {H p k : Nat} (hH : IsH A H p k) (t : It) (hI : IsI zs (A.place p k) t) (a : Option Addr) (n cp : Nat) (ys : List Int) (hy : Has w a n ys) (hyt : ys = t.key) (hsz : 58 + t.key.length + t.val.length ≤ A.sz (A.own p)) :
    Calls Tryz.prog 31 #[.pointer (some ⟨sb, 0, none⟩), .int .u64 H, .slice a n cp] w fun y w' => y = .returned (.bool true) ∧ w.grownBy w' none := by
  have hP := pl_of h hA.toFit1 hH.hp hH.hk
  have h64 := hA.lo _ (hA.on p hH.hp)
  have hk1 := hI.k1
  have hn : n = t.key.length := by rw [← hy.1, hyt]
  have hop := openItem_yes h hA hH t.key.length hI.kl (by omega)
  have hkl := fun w1 (hf : w.grownBy w1 none) => keyLength_any ((h.kept0 hf).ar) (A.place p k) (A.own p) (A.sz (A.own p)) hP.hb.1 (hP.th 44 1 (by omega)) t.key.length hI.kl (by omega)
  have hsm := fun w1 (hf : w.grownBy w1 none) => same_yes ((h.kept0 hf).ar) ((A.place p k + 56 : Nat) : Int) a n cp ys (hy.kept0 hf) (by rw [hyt]; exact hI.kb) (by omega) (hP.th 56 n (by omega))
  rw [show ((A.place p k + 56 : Nat) : Int).toNat = A.place p k + 56 by omega, hn, hI.key, hyt, decide_eq_true rfl, show ((A.place p k + 56 : Nat) : Int) = (A.place p k : Int) + 56 by omega] at hsm
  rw [hn]
  clear hn hyt hy h hI hH
  have hPb := hP.hb
  clear hP
  generalize t.key.length = kl at *
  unfold chV at *
  generalize A.place p k = pl at *
  generalize A.sz (A.own p) = s at *
  generalize A.own p = op at *
  generalize B.ab = ab at *
  go_enter Tryz.func31, Tryz.ntmps31
  go_wp2_with (first | (go_at_call 61; go_must (refine hop.mono ?_); rintro y w1 ⟨rfl, hf1⟩; (have hf2 : w.grownBy (w1.alloc (.cells #[.pointer (some ⟨ab, 0, none⟩), .int .i64 pl, .int .i64 op, .int .i64 s] 84)) none := gb_alloc hf1 _); (have hc2 := Box.new w1 84 #[.pointer (some ⟨ab, 0, none⟩), .int .i64 pl, .int .i64 op, .int .i64 s])) | (go_at_call 55; go_must (refine (hkl _ hf2).mono ?_); rintro y w3 ⟨rfl, hf3⟩; (have hc3 := hc2.kept hf3 (by simp)); (have z0 := hc3.cell 0); (have z1 := hc3.cell 1); (have z2 := hc3.cell 2); (have z3 := hc3.cell 3); simp at z0 z1 z2 z3) | (go_at_call 77; go_must (refine (hsm _ (gb_trans hf2 hf3)).mono ?_); rintro y w4 ⟨rfl, hf4⟩) | fail)
  go_ret
  exact ⟨rfl, gb_trans (gb_trans hf2 hf3) hf4⟩

end Go.Proofs.YtoomnhclaofgaaaGreat

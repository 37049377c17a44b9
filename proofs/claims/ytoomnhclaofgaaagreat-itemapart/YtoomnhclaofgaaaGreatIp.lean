import Derived.Test.YtoomnhclaofgaaaGreatIk
import Derived.Test.YtoomnhclaofgaaaGreatIj
/-
  Value, what is refused, a chunk's bytes.
-/
namespace Go.Proofs.YtoomnhclaofgaaaGreat
open Go.RowKit
set_option linter.unusedVariables false

theorem Lies.pre {zs : List Int} {pl : Nat} {a b : List Int} (h : Lies zs pl (a ++ b)) : Lies zs pl a := by
  have h1 := h.cutE 0 a.length (by simp)
  have h2 := h.le
  rw [Nat.add_zero] at h1
  refine ⟨?_, by simp at h2; omega⟩
  rw [h1]
  simp [cut]
theorem lies_append {zs : List Int} {pl : Nat} {a b : List Int} (h : Lies zs pl a) (k : Lies zs (pl + a.length) b) : Lies zs pl (a ++ b) := by
  have hl := k.le
  refine ⟨?_, by simp; omega⟩
  have e1 := h.eq
  have e2 := k.eq
  simp only [cut] at e1 e2 ⊢
  rw [List.length_append, List.take_add, e1, List.drop_drop, e2]
theorem lies_cut (zs : List Int) (x n : Nat) (h : x + n ≤ zs.length) : Lies zs x (cut zs x n) := by
  have l : (cut zs x n).length = n := length_cut h
  exact ⟨by rw [l], by rw [l]; exact h⟩

section
variable {w : World} {sb : Nat} {F : Nat → Prop} {B : Bl} {b c d e f g : Int} {A : Ab} {zs : List Int}

set_option maxRecDepth 100000 in
set_option maxHeartbeats 4000000 in
theorem lay_long (h : IsS w sb F B b c d e f g A zs) (hA : Fit2 A) {H p k : Nat} (hH : IsH A H p k) (ka : Option Addr) (kn kc : Nat) (va : Option Addr) (vn vc : Nat) (fl ex to tk st mk : Int) (key : List Int) (hk : Has w ka kn key)
    (hl : LegalP key) (hfit : A.sz (A.own p) < 58 + kn + vn) (hvn : vn ≤ 140737488351232) :
    Calls Tryz.prog 11 #[.pointer (some ⟨sb, 0, none⟩), .int .u64 H, itV ka kn kc va vn vc fl ex to tk st mk] w fun y w' => y = .returned (.int .i64 6) ∧ w.grownBy w' none := by
  have hP := pl_of h hA.toFit1 hH.hp hH.hk
  have hPb := hP.hb
  have hkn := hk.1
  have hk250 : kn ≤ 250 := by have := hl.2.1; omega
  have hal := World.grownBy_alloc w (.cells #[.slice ka kn kc, .slice va vn vc, .int .u64 fl, .int .i64 ex, .int .i64 to, .int .u64 tk, .int .i64 st, .int .i64 mk] 40) none
  have hop := (open_yes (h.kept0 hal) hA hH).mono (R' := fun y w' => y = .returned (.tuple #[chV B.ab (A.place p k) (A.own p) (A.sz (A.own p)), .int .i64 0]) ∧ w.grownBy w' none ∧ Box w' 40 w.heap.size #[.slice ka kn kc, .slice va vn vc, .int .u64 fl, .int .i64 ex, .int .i64 to, .int .u64 tk, .int .i64 st, .int .i64 mk]) (by
    rintro y w' ⟨rfl, hf⟩
    exact ⟨rfl, gb_trans hal hf, (Box.new _ _ _).kept hf (by simp)⟩)
  have hsz := size_84 kn vn (by omega) (by omega)
  have hlg := fun W (hW : w.grownBy W none) => legal_yes (hk.kept0 hW) hl kc
  have hag := h.lt _ h.fa.2
  clear hP h hH hkn
  have hsb : A.sz (A.own p) ≤ 1048576 := hPb.2
  have hpb : A.place p k ≤ 1073741824 := hPb.1
  unfold chV at *
  generalize A.place p k = pl at *
  generalize A.sz (A.own p) = s at *
  generalize A.own p = op at *
  generalize B.ab = ab at *
  generalize B.ag = ag at *
  have hdf : decide ((s : Int) < ((58 + kn + vn : Nat) : Int)) = true := by simp; omega
  have hdf2 : decide (s < 58 + kn + vn) = true := by simp; omega
  have hdf3 : decide ((s : Int) < 58 + (kn : Int) + vn) = true := by simp; omega
  unfold itV at *
  go_enter Tryz.func11, Tryz.ntmps11
  go_wp2_with (first | (go_at_call 33; go_must (refine hop.mono ?_); rintro y w1 ⟨rfl, hf1, hbi1⟩; (have hs1 := hf1.size); (have hbl := hbi1.lt); (have hf2 : w.grownBy (w1.alloc (.cells #[.pointer (some ⟨ab, 0, none⟩), .int .i64 pl, .int .i64 op, .int .i64 s] 84)) none := gb_alloc hf1 _); (have hW : LW w w.heap.size w1.heap.size ab ag pl op s #[.slice ka kn kc, .slice va vn vc, .int .u64 fl, .int .i64 ex, .int .i64 to, .int .u64 tk, .int .i64 st, .int .i64 mk] (w1.alloc (.cells #[.pointer (some ⟨ab, 0, none⟩), .int .i64 pl, .int .i64 op, .int .i64 s] 84)) := ⟨gb_none _ hf2, hbi1.kept (World.grownBy_alloc _ _ none) (by simp), Box.new _ _ _, by omega, by omega⟩); (obtain ⟨c0, c1, c2, c3⟩ := hW.cc); (obtain ⟨i0, i1, i2, i3, i4, i5, i6, i7⟩ := hW.ic)) | (go_at_call 34; go_must (refine (hlg _ hf2).mono ?_); rintro y w' ⟨rfl, rfl⟩) | fail)
  generalize w1.alloc (.cells #[.pointer (some ⟨ab, 0, none⟩), .int .i64 pl, .int .i64 op, .int .i64 s] 84) = W1 at *
  generalize w1.heap.size = cb at *
  clear hop hbi1 hf1 hlg hs1 hbl
  first | (go_quiet ((go_at_call 35; with_reducible exact Calls.quiet_of_same (hsz _)))) | fail
  go_wp2
  go_ret
  exact ⟨rfl, gb_drewN hf2 nq⟩

/-- Another value. -/
def It.withVal (t : It) (ys : List Int) : It := { t with val := ys }

set_option maxRecDepth 100000 in
theorem chunkOf_52 (h : IsS w sb F B b c d e f g A zs) (hA : Fit2 A) {H p k : Nat} (hH : IsH A H p k) :
    Calls Tryz.prog 12 #[.pointer (some ⟨sb, 0, none⟩), .int .u64 H] w fun y w' => ∃ gg, y = .returned (.slice (some ⟨gg, 0, none⟩) (A.sz (A.own p)) (A.sz (A.own p))) ∧ w.heap.size ≤ gg ∧ w.grownBy w' none ∧ w'.heap[gg]? = some (.cells (vals (cut zs (A.place p k) (A.sz (A.own p)))) 5 (0, 0)) := by
  have hP := pl_of h hA.toFit1 hH.hp hH.hk
  have hPb := hP.hb
  have ho := hA.on p hH.hp
  have h1 := at_yes h hA hH
  have h2 := fun w1 (hf : w.grownBy w1 none) => arena_39 (h.kept0 hf)
  have h3 := fun w1 (hf : w.grownBy w1 none) => chunk_yes (h.kept0 hf) hA.toSzs (A.own p) ho
  have h4 := fun w1 (hf : w.grownBy w1 none) => (read_yes ((h.kept0 hf).ar) ((A.place p k : Nat) : Int) ((A.sz (A.own p) : Nat) : Int) (by have := hP.th 0 (A.sz (A.own p)) (by omega); simpa using this)).mono (R' := fun y w' => ∃ gg, y = .returned (.tuple #[.slice (some ⟨gg, 0, none⟩) (A.sz (A.own p)) (A.sz (A.own p)), .int .i64 0]) ∧ w.heap.size ≤ gg ∧ w1.grownBy w' none ∧ w'.heap[gg]? = some (.cells (vals (cut zs (A.place p k) (A.sz (A.own p)))) 5 (0, 0))) (by
    rintro y w' ⟨rfl, hf2, hc⟩
    rw [Int.toNat_natCast, Int.toNat_natCast] at hc
    exact ⟨_, rfl, hf.size, hf2, hc⟩)
  clear h hH hP
  generalize cut zs (A.place p k) (A.sz (A.own p)) = us at *
  generalize A.place p k = pl at *
  generalize A.sz (A.own p) = s at *
  generalize A.own p = op at *
  generalize B.ab = ab at *
  go_enter Tryz.func12, Tryz.ntmps12
  go_wp2_with (first | (go_at_call 43; go_must (refine h1.mono ?_); rintro y w1 ⟨rfl, hf1⟩) | (go_at_call 6; go_must (refine (num_45 _ _).mono ?_); rintro y w' ⟨rfl, rfl⟩) | (go_at_call 44; go_must (refine (h2 _ hf1).mono ?_); rintro y w' ⟨rfl, rfl⟩) | (go_at_call 46; go_must (refine (h3 _ hf1).mono ?_); rintro y w2 ⟨rfl, hf2⟩) | (go_at_call 45; go_must (refine (h4 _ (gb_trans hf1 hf2)).mono ?_); rintro y w3 ⟨gg, rfl, hgg, hf3, hc3⟩) | fail)
  go_ret
  exact ⟨gg, rfl, hgg, gb_trans (gb_trans hf1 hf2) hf3, hc3⟩
end

end Go.Proofs.YtoomnhclaofgaaaGreat

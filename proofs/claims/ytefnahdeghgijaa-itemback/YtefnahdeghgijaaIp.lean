import Derived.Test.YtefnahdeghgijaaIk
import Derived.Test.YtefnahdeghgijaaIj
/-
  Value, what is refused, a chunk's bytes.
-/
namespace Go.Proofs.Ytefnahdeghgijaa
open Go.RowKit
set_option linter.unusedVariables false

theorem Lies.pre {zs : List Int} {pl : Nat} {a b : List Int} (h : Lies zs pl (a ++ b)) : Lies zs pl a := by
  have h1 := h.cutE 0 a.length (by simp)
  have h2 := h.le
  rw [Nat.add_zero] at h1
  refine ⟨?_, by simp at h2; omega⟩
  rw [h1]
  simp [cut]
theorem lies_append {zs : List Int} {pl : Nat} {a b : List Int} (h : Lies zs pl a) (k : Lies zs (pl + a.length) b) : Lies zs pl (a ++ b) := by
  have hl := k.le
  refine ⟨?_, by simp; omega⟩
  have e1 := h.eq
  have e2 := k.eq
  simp only [cut] at e1 e2 ⊢
  rw [List.length_append, List.take_add, e1, List.drop_drop, e2]
theorem lies_cut (zs : List Int) (x n : Nat) (h : x + n ≤ zs.length) : Lies zs x (cut zs x n) := by
  have l : (cut zs x n).length = n := length_cut h
  exact ⟨by rw [l], by rw [l]; exact h⟩

section
variable {w : World} {sb : Nat} {F : Nat → Prop} {B : Bl} {b c d e f g : Int} {A : Ab} {zs : List Int}

set_option maxRecDepth 100000 in
set_option maxHeartbeats 4000000 in
theorem lay_long (h : IsS w sb F B b c d e f g A zs) (hA : Fit2 A) {H p k : Nat} (hH : IsH A H p k) (ka : Option Addr) (kn kc : Nat) (va : Option Addr) (vn vc : Nat) (fl ex to tk st mk : Int) (key : List Int) (hk : Has w ka kn key)
    (hl : LegalP key) (hfit : A.sz (A.own p) < 58 + kn + vn) (hvn : vn ≤ 140737488351232) :
    Calls Try.prog 14 #[.pointer (some ⟨sb, 0, none⟩), .int .u64 H, itV ka kn kc va vn vc fl ex to tk st mk] w fun y w' => y = .returned (.int .i64 6) ∧ w.grownBy w' none := by
  have hP := pl_of h hA.toFit1 hH.hp hH.hk
  have hPb := hP.hb
  have hkn := hk.1
  have hk250 : kn ≤ 250 := by have := hl.2.1; omega
  have hal := World.grownBy_alloc w (.cells #[.slice ka kn kc, .slice va vn vc, .int .u64 fl, .int .i64 ex, .int .i64 to, .int .u64 tk, .int .i64 st, .int .i64 mk] 41) none
  have hop := (open_yes (h.kept0 hal) hA hH).mono (R' := fun y w' => y = .returned (.tuple #[chV B.ab (A.place p k) (A.own p) (A.sz (A.own p)), .int .i64 0]) ∧ w.grownBy w' none ∧ Box w' 41 w.heap.size #[.slice ka kn kc, .slice va vn vc, .int .u64 fl, .int .i64 ex, .int .i64 to, .int .u64 tk, .int .i64 st, .int .i64 mk]) (by
    rintro y w' ⟨rfl, hf⟩
    exact ⟨rfl, gb_trans hal hf, (Box.new _ _ _).kept hf (by simp)⟩)
  have hsz := size_84 kn vn (by omega) (by omega)
  have hlg := fun W (hW : w.grownBy W none) => legal_yes (hk.kept0 hW) hl kc
  have hag := h.lt _ h.fa.2
  clear hP h hH hkn
  have hsb : A.sz (A.own p) ≤ 1048576 := hPb.2
  have hpb : A.place p k ≤ 1073741824 := hPb.1
  unfold chV at *
  generalize A.place p k = pl at *
  generalize A.sz (A.own p) = s at *
  generalize A.own p = op at *
  generalize B.ab = ab at *
  generalize B.ag = ag at *
  have hdf : decide ((s : Int) < ((58 + kn + vn : Nat) : Int)) = true := by simp; omega
  have hdf2 : decide (s < 58 + kn + vn) = true := by simp; omega
  have hdf3 : decide ((s : Int) < 58 + (kn : Int) + vn) = true := by simp; omega
  unfold itV at *
  go_enter Try.func14, Try.ntmps14
  go_wp2_with (first | (go_at_call 39; go_must (refine hop.mono ?_); rintro y w1 ⟨rfl, hf1, hbi1⟩; (have hs1 := hf1.size); (have hbl := hbi1.lt); (have hf2 : w.grownBy (w1.alloc (.cells #[.pointer (some ⟨ab, 0, none⟩), .int .i64 pl, .int .i64 op, .int .i64 s] 100)) none := gb_alloc hf1 _); (have hW : LW w w.heap.size w1.heap.size ab ag pl op s #[.slice ka kn kc, .slice va vn vc, .int .u64 fl, .int .i64 ex, .int .i64 to, .int .u64 tk, .int .i64 st, .int .i64 mk] (w1.alloc (.cells #[.pointer (some ⟨ab, 0, none⟩), .int .i64 pl, .int .i64 op, .int .i64 s] 100)) := ⟨gb_none _ hf2, hbi1.kept (World.grownBy_alloc _ _ none) (by simp), Box.new _ _ _, by omega, by omega⟩); (obtain ⟨c0, c1, c2, c3⟩ := hW.cc); (obtain ⟨i0, i1, i2, i3, i4, i5, i6, i7⟩ := hW.ic)) | (go_at_call 40; go_must (refine (hlg _ hf2).mono ?_); rintro y w' ⟨rfl, rfl⟩) | fail)
  generalize w1.alloc (.cells #[.pointer (some ⟨ab, 0, none⟩), .int .i64 pl, .int .i64 op, .int .i64 s] 100) = W1 at *
  generalize w1.heap.size = cb at *
  clear hop hbi1 hf1 hlg hs1 hbl
  first | (go_quiet ((go_at_call 41; with_reducible exact Calls.quiet_of_same (hsz _)))) | fail
  go_wp2
  go_ret
  exact ⟨rfl, gb_drewN hf2 nq⟩

/-- Another value. -/
def It.withVal (t : It) (ys : List Int) : It := { t with val := ys }

set_option maxRecDepth 100000 in
set_option maxHeartbeats 4000000 in
theorem value_yes (h : IsS w sb F B b c d e f g A zs) (hA : Fit2 A) {H p k : Nat} (hH : IsH A H p k) (t : It) (hI : IsI zs (A.place p k) t) (a : Option Addr) (n cp : Nat) (ys : List Int) (hy : Has w a n ys) (hyb : isBytes ys) (ha : ∀ x, a.map (·.block) = some x → x ≠ B.ag) (hfit : 58 + t.key.length + n ≤ A.sz (A.own p)) :
    Calls Try.prog 15 #[.pointer (some ⟨sb, 0, none⟩), .int .u64 H, .slice a n cp] w fun y w' => y = .returned (.int .i64 0) ∧ IsS w' sb F B b c d e f g A (lay zs (A.place p k) (t.withVal ys).L.flatten) ∧ w.grownBy w' (some B.ag) := by
  have hP := pl_of h hA.toFit1 hH.hp hH.hk
  have h64 := hA.lo _ (hA.on p hH.hp)
  have hPb := hP.hb
  have hPle := hP.le
  have hk1 := hI.k1
  have hyn := hy.1
  have hop := openItem_yes h hA hH t.key.length hI.kl (by omega)
  have hkl := fun w1 (hf : w.grownBy w1 none) => keyLength_any ((h.kept0 hf).ar) (A.place p k) (A.own p) (A.sz (A.own p)) hP.hb.1 (hP.th 44 1 (by omega)) t.key.length hI.kl (by omega)
  have hsz := size_84 t.key.length n (by omega) (by omega)
  have hag := h.lt _ h.fa.2
  have HFIN : Hid (∀ W', w.grownBy W' (some B.ag) → IsA W' B.ab B.ag A.ps A.m (lay zs (A.place p k) (t.withVal ys).L.flatten) → IsS W' sb F B b c d e f g A (lay zs (A.place p k) (t.withVal ys).L.flatten)) := fun W' h1 h2 => (h.bytes h1 h2).1
  have hAr := h.ar
  obtain ⟨r1, r2, hL0, hz0⟩ : ∃ r1 r2, lens [be 4 t.l0, be 4 t.l1, be 4 t.l2, be 4 t.gn, be 8 t.ex, be 8 t.to, be 8 t.tk, be 4 t.fl, be 1 t.key.length, be 1 t.st, be 1 t.ms, be 1 t.cl, be 4 t.val.length, be 4 0, t.key, r1, r2] = ns t.key.length n ∧ lay zs (A.place p k) [be 4 t.l0, be 4 t.l1, be 4 t.l2, be 4 t.gn, be 8 t.ex, be 8 t.to, be 8 t.tk, be 4 t.fl, be 1 t.key.length, be 1 t.st, be 1 t.ms, be 1 t.cl, be 4 t.val.length, be 4 0, t.key, r1, r2].flatten = zs := by
    obtain ⟨Q, hQ⟩ : ∃ Q, Q = [be 4 t.l0, be 4 t.l1, be 4 t.l2, be 4 t.gn, be 8 t.ex, be 8 t.to, be 8 t.tk, be 4 t.fl, be 1 t.key.length, be 1 t.st, be 1 t.ms, be 1 t.cl, be 4 t.val.length, be 4 0, t.key].flatten := ⟨_, rfl⟩
    have hQl : Q.length = 56 + t.key.length := by rw [hQ]; simp [be_len]; omega
    have hl1 : Lies zs (A.place p k) Q := by
      have := hI.lies
      have e : t.L.flatten = Q ++ (t.val ++ be 2 3338) := by rw [hQ]; simp [It.L]
      rw [e] at this
      exact this.pre
    have hl2 := lies_cut zs (A.place p k + Q.length) n (by omega)
    have hn2 : (cut zs (A.place p k + Q.length) n).length = n := length_cut (by omega)
    have hl3 := lies_cut zs (A.place p k + Q.length + n) 2 (by omega)
    have hl4 := lies_append hl1 (lies_append hl2 (by rw [hn2]; exact hl3))
    refine ⟨cut zs (A.place p k + Q.length) n, cut zs (A.place p k + Q.length + n) 2, ?_, ?_⟩
    · have hn3 : (cut zs (A.place p k + Q.length + n) 2).length = 2 := length_cut (by omega)
      simp [lens, ns, be_len, hn2, hn3]
    · have e : [be 4 t.l0, be 4 t.l1, be 4 t.l2, be 4 t.gn, be 8 t.ex, be 8 t.to, be 8 t.tk, be 4 t.fl, be 1 t.key.length, be 1 t.st, be 1 t.ms, be 1 t.cl, be 4 t.val.length, be 4 0, t.key, cut zs (A.place p k + Q.length) n, cut zs (A.place p k + Q.length + n) 2].flatten = Q ++ (cut zs (A.place p k + Q.length) n ++ cut zs (A.place p k + Q.length + n) 2) := by rw [hQ]; simp
      rw [e]
      exact lay_same hl4
  have hlv := fun W (hW : IsA W B.ab B.ag A.ps A.m zs) (hh : Has W a n ys) => layValue_99 (v := n) hP hfit hL0 (by rw [hz0]; exact hW) (A.own p) (A.sz (A.own p)) a cp ys hh hyb ha
  simp only [List.set_cons_succ, List.set_cons_zero] at hlv
  have hfin : [be 4 t.l0, be 4 t.l1, be 4 t.l2, be 4 t.gn, be 8 t.ex, be 8 t.to, be 8 t.tk, be 4 t.fl, be 1 (t.key.length : Int), be 1 t.st, be 1 t.ms, be 1 t.cl, be 4 (n : Int), be 4 0, t.key, ys, be 2 3338] = (t.withVal ys).L := by simp [It.L, It.withVal, hyn]
  rw [hfin] at hlv
  clear hfin hL0 hz0 hI h hH hP
  generalize t.key.length = kl at *
  generalize lay zs (A.place p k) (t.withVal ys).L.flatten = zF at *
  unfold chV at *
  have hsb : A.sz (A.own p) ≤ 1048576 := hPb.2
  have hpb : A.place p k ≤ 1073741824 := hPb.1
  generalize A.place p k = pl at *
  generalize A.sz (A.own p) = s at *
  generalize A.own p = op at *
  generalize B.ab = ab at *
  generalize B.ag = ag at *
  have hdf : decide ((s : Int) < ((58 + kl + n : Nat) : Int)) = false := by simp; omega
  have hdf2 : decide (s < 58 + kl + n) = false := by simp; omega
  have hdf3 : decide ((s : Int) < 58 + (kl : Int) + n) = false := by simp; omega
  go_enter Try.func15, Try.ntmps15
  go_wp2_with (first | (go_at_call 49; go_must (refine hop.mono ?_); rintro y w1 ⟨rfl, hf1⟩; (have hf2 : w.grownBy (w1.alloc (.cells #[.pointer (some ⟨ab, 0, none⟩), .int .i64 pl, .int .i64 op, .int .i64 s] 100)) none := gb_alloc hf1 _); (have hc2 := Box.new w1 100 #[.pointer (some ⟨ab, 0, none⟩), .int .i64 pl, .int .i64 op, .int .i64 s])) | (go_at_call 50; go_must (refine (hkl _ hf2).mono ?_); rintro y w3 ⟨rfl, hf3⟩; (have hc3 := hc2.kept hf3 (by simp)); (have z0 := hc3.cell 0); (have z1 := hc3.cell 1); (have z2 := hc3.cell 2); (have z3 := hc3.cell 3); simp at z0 z1 z2 z3) | fail)
  have hF3 := gb_trans hf2 hf3
  first | (go_quiet ((go_at_call 41; with_reducible exact Calls.quiet_of_same (hsz _)))) | fail
  have hF4 := gb_drewN hF3 nq
  have hc4 := hc3.kept (gb_drewN (gb_refl _ none) nq) (by simp)
  generalize w3.drewN nq = w4 at *
  have q0 := hc4.cell 0
  have q1 := hc4.cell 1
  have q2 := hc4.cell 2
  have q3 := hc4.cell 3
  simp at q0 q1 q2 q3
  clear z0 z1 z2 z3
  go_wp2_with (first | (go_at_call 48; go_must (refine (hlv _ (hAr.kept0 hF4) (hy.kept0 hF4)).mono ?_); rintro y w5 ⟨rfl, hf5, hA5⟩) | fail)
  go_ret
  have hF5 := gb_trans (gb_none (some ag) hF4) hf5
  exact ⟨rfl, HFIN.out _ hF5 hA5, hF5⟩

set_option maxRecDepth 100000 in
set_option maxHeartbeats 4000000 in
theorem value_long (h : IsS w sb F B b c d e f g A zs) (hA : Fit2 A) {H p k : Nat} (hH : IsH A H p k) (t : It) (hI : IsI zs (A.place p k) t) (a : Option Addr) (n cp : Nat) (hn : n ≤ 140737488351232) (hfit : A.sz (A.own p) < 58 + t.key.length + n) :
    Calls Try.prog 15 #[.pointer (some ⟨sb, 0, none⟩), .int .u64 H, .slice a n cp] w fun y w' => y = .returned (.int .i64 6) ∧ w.grownBy w' none := by
  have hP := pl_of h hA.toFit1 hH.hp hH.hk
  have h64 := hA.lo _ (hA.on p hH.hp)
  have hPb := hP.hb
  have hk1 := hI.k1
  have hop := openItem_yes h hA hH t.key.length hI.kl (by omega)
  have hkl := fun w1 (hf : w.grownBy w1 none) => keyLength_any ((h.kept0 hf).ar) (A.place p k) (A.own p) (A.sz (A.own p)) hP.hb.1 (hP.th 44 1 (by omega)) t.key.length hI.kl (by omega)
  have hsz := size_84 t.key.length n (by omega) (by omega)
  clear hI h hH hP
  generalize t.key.length = kl at *
  unfold chV at *
  have hsb : A.sz (A.own p) ≤ 1048576 := hPb.2
  have hpb : A.place p k ≤ 1073741824 := hPb.1
  generalize A.place p k = pl at *
  generalize A.sz (A.own p) = s at *
  generalize A.own p = op at *
  generalize B.ab = ab at *
  have hdf : decide ((s : Int) < ((58 + kl + n : Nat) : Int)) = true := by simp; omega
  have hdf2 : decide (s < 58 + kl + n) = true := by simp; omega
  have hdf3 : decide ((s : Int) < 58 + (kl : Int) + n) = true := by simp; omega
  go_enter Try.func15, Try.ntmps15
  go_wp2_with (first | (go_at_call 49; go_must (refine hop.mono ?_); rintro y w1 ⟨rfl, hf1⟩; (have hf2 : w.grownBy (w1.alloc (.cells #[.pointer (some ⟨ab, 0, none⟩), .int .i64 pl, .int .i64 op, .int .i64 s] 100)) none := gb_alloc hf1 _); (have hc2 := Box.new w1 100 #[.pointer (some ⟨ab, 0, none⟩), .int .i64 pl, .int .i64 op, .int .i64 s])) | (go_at_call 50; go_must (refine (hkl _ hf2).mono ?_); rintro y w3 ⟨rfl, hf3⟩; (have hc3 := hc2.kept hf3 (by simp)); (have z0 := hc3.cell 0); (have z1 := hc3.cell 1); (have z2 := hc3.cell 2); (have z3 := hc3.cell 3); simp at z0 z1 z2 z3) | fail)
  have hF3 := gb_trans hf2 hf3
  first | (go_quiet ((go_at_call 41; with_reducible exact Calls.quiet_of_same (hsz _)))) | fail
  go_wp2
  go_ret
  exact ⟨rfl, gb_drewN hF3 nq⟩

set_option maxRecDepth 100000 in
theorem chunkOf_52 (h : IsS w sb F B b c d e f g A zs) (hA : Fit2 A) {H p k : Nat} (hH : IsH A H p k) :
    Calls Try.prog 13 #[.pointer (some ⟨sb, 0, none⟩), .int .u64 H] w fun y w' => ∃ gg, y = .returned (.slice (some ⟨gg, 0, none⟩) (A.sz (A.own p)) (A.sz (A.own p))) ∧ w.heap.size ≤ gg ∧ w.grownBy w' none ∧ w'.heap[gg]? = some (.cells (vals (cut zs (A.place p k) (A.sz (A.own p)))) 5 (0, 0)) := by
  have hP := pl_of h hA.toFit1 hH.hp hH.hk
  have hPb := hP.hb
  have ho := hA.on p hH.hp
  have h1 := at_yes h hA hH
  have h2 := fun w1 (hf : w.grownBy w1 none) => arena_39 (h.kept0 hf)
  have h3 := fun w1 (hf : w.grownBy w1 none) => chunk_yes (h.kept0 hf) hA.toSzs (A.own p) ho
  have h4 := fun w1 (hf : w.grownBy w1 none) => (read_yes ((h.kept0 hf).ar) ((A.place p k : Nat) : Int) ((A.sz (A.own p) : Nat) : Int) (by have := hP.th 0 (A.sz (A.own p)) (by omega); simpa using this)).mono (R' := fun y w' => ∃ gg, y = .returned (.tuple #[.slice (some ⟨gg, 0, none⟩) (A.sz (A.own p)) (A.sz (A.own p)), .int .i64 0]) ∧ w.heap.size ≤ gg ∧ w1.grownBy w' none ∧ w'.heap[gg]? = some (.cells (vals (cut zs (A.place p k) (A.sz (A.own p)))) 5 (0, 0))) (by
    rintro y w' ⟨rfl, hf2, hc⟩
    rw [Int.toNat_natCast, Int.toNat_natCast] at hc
    exact ⟨_, rfl, hf.size, hf2, hc⟩)
  clear h hH hP
  generalize cut zs (A.place p k) (A.sz (A.own p)) = us at *
  generalize A.place p k = pl at *
  generalize A.sz (A.own p) = s at *
  generalize A.own p = op at *
  generalize B.ab = ab at *
  go_enter Try.func13, Try.ntmps13
  go_wp2_with (first | (go_at_call 36; go_must (refine h1.mono ?_); rintro y w1 ⟨rfl, hf1⟩) | (go_at_call 6; go_must (refine (num_45 _ _).mono ?_); rintro y w' ⟨rfl, rfl⟩) | (go_at_call 37; go_must (refine (h2 _ hf1).mono ?_); rintro y w' ⟨rfl, rfl⟩) | (go_at_call 12; go_must (refine (h3 _ hf1).mono ?_); rintro y w2 ⟨rfl, hf2⟩) | (go_at_call 38; go_must (refine (h4 _ (gb_trans hf1 hf2)).mono ?_); rintro y w3 ⟨gg, rfl, hgg, hf3, hc3⟩) | fail)
  go_ret
  exact ⟨gg, rfl, hgg, gb_trans (gb_trans hf1 hf2) hf3, hc3⟩
end

end Go.Proofs.Ytefnahdeghgijaa

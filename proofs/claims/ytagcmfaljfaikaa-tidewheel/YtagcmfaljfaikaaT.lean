/-
  Two clocks of the program's and the document's.
-/
import Derived.Test.YtagcmfaljfaikaaR
namespace Go.Proofs.Ytagcmfaljfaikaa
open Go.RowKit
set_option linter.unusedVariables false

theorem i64_and1 (n : Int) : bits .and .i64 n 1 = n % 2 := by
  have h1 : (BitVec.ofInt 64 1).toNat = 2 ^ 1 - 1 := by decide
  have key : (BitVec.ofInt 64 n &&& BitVec.ofInt 64 1).toNat = (n % ((2 ^ 64 : Nat) : Int)).toNat % 2 ^ 1 := by
    rw [BitVec.toNat_and, BitVec.toNat_ofInt, h1, Nat.and_two_pow_sub_one_eq_mod]
  show IntKind.i64.wrap ((BitVec.ofInt 64 n &&& BitVec.ofInt 64 1).toNat : Nat) = n % 2
  rw [key, IntKind.wrap_i64]
  omega

def mvE (k : Ck) (t : Int) : Int := if t < 1 then 1 else if t > 1099511627776 - k.n then 4 else 0
def mvK (k : Ck) (t i : Int) : Ck := if t < 1 then k else if t > 1099511627776 - k.n then k else k.moved t i
theorem mvK_ok {k : Ck} (h : CkOk k) (t i : Int) : CkOk (mvK k t i) := by
  unfold mvK
  by_cases h1 : t < 1
  · rw [if_pos h1]; exact h
  · rw [if_neg h1]
    by_cases h2 : t > 1099511627776 - k.n
    · rw [if_pos h2]; exact h
    · rw [if_neg h2]; exact h.moved t i h1 h2
theorem mv_15 {w : World} {b : Nat} {k : Ck} (h : Box w 102 b (ckA k)) (ho : CkOk k) (t i : Int) : Calls Try.prog 15 #[.pointer (some ⟨b, 0, none⟩), .int .i64 t, .int .u64 i] w fun y w' => y = .returned (.int .i64 (mvE k t)) ∧ w.grownBy w' (some b) ∧ Box w' 102 b (ckA (mvK k t i)) := by
  unfold mvE mvK
  by_cases h1 : t < 1
  · simp only [if_pos h1]
    refine (move_15_arg h t i h1).mono ?_
    rintro y w' ⟨rfl, rfl⟩
    exact ⟨rfl, gb_refl _ _, h⟩
  · simp only [if_neg h1]
    by_cases h2 : t > 1099511627776 - k.n
    · simp only [if_pos h2]
      refine (move_15_clock h ho t i h1 h2).mono ?_
      rintro y w' ⟨rfl, rfl⟩
      exact ⟨rfl, gb_refl _ _, h⟩
    · simp only [if_neg h2]
      exact move_15 h ho t i h1 h2
theorem mv_17 {w : World} {b : Nat} {k : Ck} (h : Box w 105 b (ckA k)) (ho : CkOk k) (t i : Int) : Calls Try.prog 17 #[.pointer (some ⟨b, 0, none⟩), .int .i64 t, .int .u64 i] w fun y w' => y = .returned (.int .i64 (mvE k t)) ∧ w.grownBy w' (some b) ∧ Box w' 105 b (ckA (mvK k t i)) := by
  unfold mvE mvK
  by_cases h1 : t < 1
  · simp only [if_pos h1]
    refine (move_17_arg h t i h1).mono ?_
    rintro y w' ⟨rfl, rfl⟩
    exact ⟨rfl, gb_refl _ _, h⟩
  · simp only [if_neg h1]
    by_cases h2 : t > 1099511627776 - k.n
    · simp only [if_pos h2]
      refine (move_17_clock h ho t i h1 h2).mono ?_
      rintro y w' ⟨rfl, rfl⟩
      exact ⟨rfl, gb_refl _ _, h⟩
    · simp only [if_neg h2]
      exact move_17 h ho t i h1 h2

def tkA (p0 p1 q0 q1 : Option Addr) : Array Value := #[.pointer p0, .pointer p1, .pointer q0, .pointer q1]
def at0 (b : Nat) : Option Addr := some ⟨b, 0, none⟩
section
variable {w : World} {tb : Nat} {p0 p1 q0 q1 : Option Addr}
theorem begin_no (h : Box w 37 tb (tkA p0 p1 q0 q1)) (j n c p : Int) (hb : badNew n p) :
    Calls Try.prog 14 #[.pointer (some ⟨tb, 0, none⟩), .int .i64 j, .int .i64 n, .int .u64 c, .int .i64 p] w fun y w' => y = .returned (.bool true) ∧ w' = w := by
  have h25 := fun W => new_25_no n c p hb W
  have h36 := fun W => new_36_no n c p hb W
  go_enter Try.func14, Try.ntmps14
  go_wp2_with (first | (go_at_call 25; go_must (refine (h25 _).mono ?_); rintro y w' ⟨rfl, rfl⟩) | (go_at_call 36; go_must (refine (h36 _).mono ?_); rintro y w' ⟨rfl, rfl⟩) | (go_at_call 16; go_must (refine (num_16 _ _).mono ?_); rintro y w' ⟨rfl, rfl⟩) | fail)
  go_ret
  exact ⟨rfl, rfl⟩
set_option maxRecDepth 100000 in
set_option maxHeartbeats 4000000 in
theorem begin_yes0 (h : Box w 37 tb (tkA p0 p1 q0 q1)) (n c p : Int) (hb : ¬ badNew n p) :
    Calls Try.prog 14 #[.pointer (some ⟨tb, 0, none⟩), .int .i64 0, .int .i64 n, .int .u64 c, .int .i64 p] w fun y w' => y = .returned (.bool true) ∧ w.grownBy w' (some tb) ∧ Box w' 37 tb (tkA (at0 w.heap.size) p1 (at0 (w.heap.size + 1)) q1) ∧ Box w' 102 w.heap.size (ckA ⟨n, c, p⟩) ∧ Box w' 105 (w.heap.size + 1) (ckA ⟨n, c, p⟩) := by
  have h25 := new_25 n c p hb w
  have h36 := new_36 n c p hb (w.alloc (.cells (ckA ⟨n, c, p⟩) 102))
  have hs1 : (w.alloc (.cells (ckA ⟨n, c, p⟩) 102)).heap.size = w.heap.size + 1 := by simp
  rw [hs1] at h36
  have hB1 : Box (w.alloc (.cells (ckA ⟨n, c, p⟩) 102)) 102 w.heap.size (ckA ⟨n, c, p⟩) := Box.new _ _ _
  have hB2 : Box ((w.alloc (.cells (ckA ⟨n, c, p⟩) 102)).alloc (.cells (ckA ⟨n, c, p⟩) 105)) 105 (w.alloc (.cells (ckA ⟨n, c, p⟩) 102)).heap.size (ckA ⟨n, c, p⟩) := Box.new _ _ _
  rw [hs1] at hB2
  have hB3 := hB1.kept (World.grownBy_alloc _ (.cells (ckA ⟨n, c, p⟩) 105) none) (by simp)
  have hg : w.grownBy ((w.alloc (.cells (ckA ⟨n, c, p⟩) 102)).alloc (.cells (ckA ⟨n, c, p⟩) 105)) none := gb_alloc (gb_alloc (gb_refl _ _) _) _
  have htb := h.lt
  clear hs1 hB1
  go_enter Try.func14, Try.ntmps14
  go_wp2_with fail
  refine h25.mono ?_
  rintro y w' ⟨rfl, rfl⟩
  go_wp2_with fail
  refine h36.mono ?_
  rintro y V ⟨rfl, hV⟩
  rw [← hV] at hB2 hB3 hg
  clear hV h25 h36
  have hT := h.kept hg (by simp)
  have ft0 := hT.fz 0
  have k0 : V.cell? ⟨tb, 0, none⟩ = some (.pointer p0) := hT.cell 0
  have hT1 := hT.set 0 (.pointer (at0 w.heap.size))
  have ft2 := hT1.fz 2
  have k2 : World.cell? _ ⟨tb, 2, none⟩ = some (.pointer q0) := hT1.cell 2
  have hT2 := hT1.set 2 (.pointer (at0 (w.heap.size + 1)))
  have hgs : V.grownBy ((V.setCell ⟨tb, 0, none⟩ (.pointer (at0 w.heap.size))).setCell ⟨tb, 2, none⟩ (.pointer (at0 (w.heap.size + 1)))) (some tb) := gb_setCell (gb_setCell (gb_refl _ _) _) _
  unfold at0 at hT1 hT2 ft2 k2 hgs
  have hX := hB3.kept hgs (by simp; omega)
  have hY := hB2.kept hgs (by simp; omega)
  go_wp2_with (first | (go_at_call 16; go_must (refine (num_16 _ _).mono ?_); rintro y w' ⟨rfl, rfl⟩) | fail)
  go_ret
  exact ⟨rfl, gb_trans (gb_none _ hg) hgs, hT2, hX, hY⟩
set_option maxRecDepth 100000 in
set_option maxHeartbeats 4000000 in
theorem begin_yes1 (h : Box w 37 tb (tkA p0 p1 q0 q1)) (n c p : Int) (hb : ¬ badNew n p) :
    Calls Try.prog 14 #[.pointer (some ⟨tb, 0, none⟩), .int .i64 1, .int .i64 n, .int .u64 c, .int .i64 p] w fun y w' => y = .returned (.bool true) ∧ w.grownBy w' (some tb) ∧ Box w' 37 tb (tkA p0 (at0 w.heap.size) q0 (at0 (w.heap.size + 1))) ∧ Box w' 102 w.heap.size (ckA ⟨n, c, p⟩) ∧ Box w' 105 (w.heap.size + 1) (ckA ⟨n, c, p⟩) := by
  have h25 := new_25 n c p hb w
  have h36 := new_36 n c p hb (w.alloc (.cells (ckA ⟨n, c, p⟩) 102))
  have hs1 : (w.alloc (.cells (ckA ⟨n, c, p⟩) 102)).heap.size = w.heap.size + 1 := by simp
  rw [hs1] at h36
  have hB1 : Box (w.alloc (.cells (ckA ⟨n, c, p⟩) 102)) 102 w.heap.size (ckA ⟨n, c, p⟩) := Box.new _ _ _
  have hB2 : Box ((w.alloc (.cells (ckA ⟨n, c, p⟩) 102)).alloc (.cells (ckA ⟨n, c, p⟩) 105)) 105 (w.alloc (.cells (ckA ⟨n, c, p⟩) 102)).heap.size (ckA ⟨n, c, p⟩) := Box.new _ _ _
  rw [hs1] at hB2
  have hB3 := hB1.kept (World.grownBy_alloc _ (.cells (ckA ⟨n, c, p⟩) 105) none) (by simp)
  have hg : w.grownBy ((w.alloc (.cells (ckA ⟨n, c, p⟩) 102)).alloc (.cells (ckA ⟨n, c, p⟩) 105)) none := gb_alloc (gb_alloc (gb_refl _ _) _) _
  have htb := h.lt
  clear hs1 hB1
  go_enter Try.func14, Try.ntmps14
  go_wp2_with fail
  refine h25.mono ?_
  rintro y w' ⟨rfl, rfl⟩
  go_wp2_with fail
  refine h36.mono ?_
  rintro y V ⟨rfl, hV⟩
  rw [← hV] at hB2 hB3 hg
  clear hV h25 h36
  have hT := h.kept hg (by simp)
  have ft0 := hT.fz 1
  have k0 : V.cell? ⟨tb, 1, none⟩ = some (.pointer p1) := hT.cell 1
  have hT1 := hT.set 1 (.pointer (at0 w.heap.size))
  have ft2 := hT1.fz 3
  have k2 : World.cell? _ ⟨tb, 3, none⟩ = some (.pointer q1) := hT1.cell 3
  have hT2 := hT1.set 3 (.pointer (at0 (w.heap.size + 1)))
  have hgs : V.grownBy ((V.setCell ⟨tb, 1, none⟩ (.pointer (at0 w.heap.size))).setCell ⟨tb, 3, none⟩ (.pointer (at0 (w.heap.size + 1)))) (some tb) := gb_setCell (gb_setCell (gb_refl _ _) _) _
  unfold at0 at hT1 hT2 ft2 k2 hgs
  have hX := hB3.kept hgs (by simp; omega)
  have hY := hB2.kept hgs (by simp; omega)
  go_wp2_with (first | (go_at_call 16; go_must (refine (num_16 _ _).mono ?_); rintro y w' ⟨rfl, rfl⟩) | fail)
  go_ret
  exact ⟨rfl, gb_trans (gb_none _ hg) hgs, hT2, hX, hY⟩
end

/-- Two clocks of the program's (c0, c1) and of the document's (d0, d1). -/
structure Cks (w wr : World) (tb a0 a1 b0 b1 : Nat) (c0 c1 d0 d1 : Ck) : Prop where
  box : Box wr 37 tb (tkA (at0 a0) (at0 a1) (at0 b0) (at0 b1))
  x0 : Box wr 102 a0 (ckA c0)
  x1 : Box wr 102 a1 (ckA c1)
  y0 : Box wr 105 b0 (ckA d0)
  y1 : Box wr 105 b1 (ckA d1)
  na : a0 ≠ a1
  nb : b0 ≠ b1
  g : w.grownBy wr none
  lt : w.heap.size ≤ tb
  l0 : w.heap.size ≤ a0
  l1 : w.heap.size ≤ a1
  m0 : w.heap.size ≤ b0
  m1 : w.heap.size ≤ b1
section
variable {w wr w' : World} {tb a0 a1 b0 b1 : Nat} {c0 c1 d0 d1 : Ck}
theorem Cks.kept0 (h : Cks w wr tb a0 a1 b0 b1 c0 c1 d0 d1) (hf : wr.grownBy w' none) : Cks w w' tb a0 a1 b0 b1 c0 c1 d0 d1 :=
  ⟨h.box.kept hf (by simp), h.x0.kept hf (by simp), h.x1.kept hf (by simp), h.y0.kept hf (by simp), h.y1.kept hf (by simp), h.na, h.nb, gb_trans h.g hf, h.lt, h.l0, h.l1, h.m0, h.m1⟩
theorem box_ne {wr : World} {t u : TypeId} {a b : Nat} {x y : Array Value} (h : Box wr t a x) (k : Box wr u b y) (hn : t ≠ u) : some a ≠ some b := fun e => ne_of_type h k hn (Option.some.inj e)
theorem some_ne {a b : Nat} (h : a ≠ b) : some a ≠ some b := fun e => h (Option.some.inj e)
theorem Cks.setx0 (h : Cks w wr tb a0 a1 b0 b1 c0 c1 d0 d1) {c : Ck} (hf : wr.grownBy w' (some a0)) (hb : Box w' 102 a0 (ckA c)) : Cks w w' tb a0 a1 b0 b1 c c1 d0 d1 :=
  ⟨h.box.kept hf (box_ne h.box h.x0 (by decide)), hb, h.x1.kept hf (some_ne h.na.symm), h.y0.kept hf (box_ne h.y0 h.x0 (by decide)), h.y1.kept hf (box_ne h.y1 h.x0 (by decide)), h.na, h.nb, gb_mine h.g hf h.l0, h.lt, h.l0, h.l1, h.m0, h.m1⟩
theorem Cks.setx1 (h : Cks w wr tb a0 a1 b0 b1 c0 c1 d0 d1) {c : Ck} (hf : wr.grownBy w' (some a1)) (hb : Box w' 102 a1 (ckA c)) : Cks w w' tb a0 a1 b0 b1 c0 c d0 d1 :=
  ⟨h.box.kept hf (box_ne h.box h.x1 (by decide)), h.x0.kept hf (some_ne h.na), hb, h.y0.kept hf (box_ne h.y0 h.x1 (by decide)), h.y1.kept hf (box_ne h.y1 h.x1 (by decide)), h.na, h.nb, gb_mine h.g hf h.l1, h.lt, h.l0, h.l1, h.m0, h.m1⟩
theorem Cks.sety0 (h : Cks w wr tb a0 a1 b0 b1 c0 c1 d0 d1) {c : Ck} (hf : wr.grownBy w' (some b0)) (hb : Box w' 105 b0 (ckA c)) : Cks w w' tb a0 a1 b0 b1 c0 c1 c d1 :=
  ⟨h.box.kept hf (box_ne h.box h.y0 (by decide)), h.x0.kept hf (box_ne h.x0 h.y0 (by decide)), h.x1.kept hf (box_ne h.x1 h.y0 (by decide)), hb, h.y1.kept hf (some_ne h.nb.symm), h.na, h.nb, gb_mine h.g hf h.m0, h.lt, h.l0, h.l1, h.m0, h.m1⟩
theorem Cks.sety1 (h : Cks w wr tb a0 a1 b0 b1 c0 c1 d0 d1) {c : Ck} (hf : wr.grownBy w' (some b1)) (hb : Box w' 105 b1 (ckA c)) : Cks w w' tb a0 a1 b0 b1 c0 c1 d0 c :=
  ⟨h.box.kept hf (box_ne h.box h.y1 (by decide)), h.x0.kept hf (box_ne h.x0 h.y1 (by decide)), h.x1.kept hf (box_ne h.x1 h.y1 (by decide)), h.y0.kept hf (some_ne h.nb), hb, h.na, h.nb, gb_mine h.g hf h.m1, h.lt, h.l0, h.l1, h.m0, h.m1⟩
theorem Cks.new0 (h : Cks w wr tb a0 a1 b0 b1 c0 c1 d0 d1) {c : Ck} (hf : wr.grownBy w' (some tb)) (hb : Box w' 37 tb (tkA (at0 wr.heap.size) (at0 a1) (at0 (wr.heap.size + 1)) (at0 b1))) (hx : Box w' 102 wr.heap.size (ckA c)) (hy : Box w' 105 (wr.heap.size + 1) (ckA c)) : Cks w w' tb wr.heap.size a1 (wr.heap.size + 1) b1 c c1 c d1 :=
  ⟨hb, hx, h.x1.kept hf (box_ne h.x1 h.box (by decide)), hy, h.y1.kept hf (box_ne h.y1 h.box (by decide)), by have := h.x1.lt; omega, by have := h.y1.lt; omega, gb_mine h.g hf h.lt, h.lt, h.g.size, h.l1, by have := h.g.size; omega, h.m1⟩
theorem Cks.new1 (h : Cks w wr tb a0 a1 b0 b1 c0 c1 d0 d1) {c : Ck} (hf : wr.grownBy w' (some tb)) (hb : Box w' 37 tb (tkA (at0 a0) (at0 wr.heap.size) (at0 b0) (at0 (wr.heap.size + 1)))) (hx : Box w' 102 wr.heap.size (ckA c)) (hy : Box w' 105 (wr.heap.size + 1) (ckA c)) : Cks w w' tb a0 wr.heap.size b0 (wr.heap.size + 1) c0 c d0 c :=
  ⟨hb, h.x0.kept hf (box_ne h.x0 h.box (by decide)), hx, h.y0.kept hf (box_ne h.y0 h.box (by decide)), hy, by have := h.x0.lt; omega, by have := h.y0.lt; omega, gb_mine h.g hf h.lt, h.lt, h.l0, h.g.size, h.m0, by have := h.g.size; omega⟩
theorem Cks.tc (h : Cks w wr tb a0 a1 b0 b1 c0 c1 d0 d1) : wr.cell? ⟨tb, 0, none⟩ = some (.pointer (some ⟨a0, 0, none⟩)) ∧ wr.cell? ⟨tb, 1, none⟩ = some (.pointer (some ⟨a1, 0, none⟩)) ∧ wr.cell? ⟨tb, 2, none⟩ = some (.pointer (some ⟨b0, 0, none⟩)) ∧ wr.cell? ⟨tb, 3, none⟩ = some (.pointer (some ⟨b1, 0, none⟩)) := ⟨h.box.cell 0, h.box.cell 1, h.box.cell 2, h.box.cell 3⟩

set_option maxRecDepth 100000 in
set_option maxHeartbeats 8000000 in
theorem same_20 {wz : World} (h : Cks w wz tb a0 a1 b0 b1 c0 c1 c0 c1) : Calls Try.prog 20 #[.pointer (some ⟨tb, 0, none⟩)] wz fun y w' => y = .returned (.bool true) ∧ wz.grownBy w' none := by
  go_enter Try.func20, Try.ntmps20
  go_wp2
  go_loopw [3] (fun v wq => ∃ k : Nat, k ≤ 2 ∧ v = .int .i64 k ∧ wz.grownBy wq none) (fun v _ => 2 - (intOf v).toNat)
  case atStart => exact ⟨0, by omega, rfl, gb_refl _ _⟩
  case round =>
    obtain ⟨k, hk, rfl, hg⟩ := hrel
    by_cases hk2 : k = 2
    · subst hk2
      clear h
      go_wp2
      go_ret
      exact ⟨rfl, hg⟩
    · rcases (show k = 0 ∨ k = 1 by omega) with rfl | rfl
      · have hz := h.kept0 hg
        obtain ⟨t0, t1, t2, t3⟩ := hz.tc
        have h27 := fun nq => now_27 (w := wr.drewN nq) (b := a0) (k := c0) hz.x0
        have h28 := fun nq => cut_28 (w := wr.drewN nq) (b := a0) (k := c0) hz.x0
        have h40 := fun nq => pending_40 (w := wr.drewN nq) (b := a0) (k := c0) hz.x0
        obtain ⟨e0, e1, e2⟩ := ck_cells hz.y0
        clear h hz
        go_wp2
        go_quiet ((first | (go_at_call 27; with_reducible exact Calls.quiet_of_same (h27 _)) | (go_at_call 28; with_reducible exact Calls.quiet_of_same (h28 _)) | (go_at_call 40; with_reducible exact Calls.quiet_of_same (h40 _))))
        go_wp2
        exact ⟨⟨1, by omega, rfl, gb_drewN hg _⟩, by simp [intOf]⟩
      · have hz := h.kept0 hg
        obtain ⟨t0, t1, t2, t3⟩ := hz.tc
        have h27 := fun nq => now_27 (w := wr.drewN nq) (b := a1) (k := c1) hz.x1
        have h28 := fun nq => cut_28 (w := wr.drewN nq) (b := a1) (k := c1) hz.x1
        have h40 := fun nq => pending_40 (w := wr.drewN nq) (b := a1) (k := c1) hz.x1
        obtain ⟨e0, e1, e2⟩ := ck_cells hz.y1
        clear h hz
        go_wp2
        go_quiet ((first | (go_at_call 27; with_reducible exact Calls.quiet_of_same (h27 _)) | (go_at_call 28; with_reducible exact Calls.quiet_of_same (h28 _)) | (go_at_call 40; with_reducible exact Calls.quiet_of_same (h40 _))))
        go_wp2
        exact ⟨⟨2, by omega, rfl, gb_drewN hg _⟩, by simp [intOf]⟩
end

end Go.Proofs.Ytagcmfaljfaikaa

import Derived.Test.YtndjimdegkdljaaMb
/-
  An act on which a fault bears.
-/
namespace Go.Proofs.Ytndjimdegkdljaa
open Go.RowKit Go.MapKept
set_option linter.unusedVariables false
set_option linter.unusedSimpArgs false
attribute [local go_sem] Oper.semAt_some

def Md.down (M : Md) : Md := { M with dark := true }
theorem Md.Ok.down {M : Md} (h : M.Ok) : M.down.Ok := ⟨h.s0, h.s1, h.sf, h.cf, h.cs, h.fl, h.nf, h.nc, h.na, h.nb⟩
/-- What an act answers, and leaves, on which a fault of kind k bears: c, M2: what the act itself answers and leaves. -/
def bearR (k : Int) (c : Int) (M M2 : Md) : Int × Md :=
  if M.dark then (184, M) else if k = 1 then (180, M) else if k = 3 then (180, M) else if k = 4 then (181, M) else if k = 5 then (184, M.down) else if k = 6 then (184, M2.down) else if k = 2 then (if c = 0 then (180, M2) else (c, M2)) else (c, M2)
theorem RP.down {w : World} {p : Pl} {M : Md} (h : RP w p M) : RP (w.setCell ⟨p.d, 3, none⟩ (.bool false)) p M.down ∧ Aft w (w.setCell ⟨p.d, 3, none⟩ (.bool false)) p p := by
  have hk : Kp (fun b => b = p.d) w (w.setCell ⟨p.d, 3, none⟩ (.bool false)) := (Kp.refl _ w).step (gb_setCell (gb_refl w (some p.d)) _) (fun i hi => .inl (Option.some.inj hi).symm)
  refine ⟨h.turn (h.box.set 3 _) hk rfl rfl rfl rfl h.ok.down, hk.mono (fun b hb => .inl ?_), rfl, fun _ _ h => h⟩
  rw [hb, h.cd]; decide
set_option maxRecDepth 100000 in
set_option maxHeartbeats 4000000 in
theorem bear_52 {w : World} {p : Pl} {M M2 : Md} (h : RP w p M) (f : Flt) (caps : Array Value) (c : Int)
    (hdo : ∀ W, w.grownBy W none → Calls Try.prog 52 caps W fun e w' => e = .returned (.int .i64 c) ∧ ∃ p', RP w' p' M2 ∧ Aft W w' p p') :
    Calls Try.prog 63 #[pv p.d, fvl f, .func (.func 52) #[] caps] w fun e w' => e = .returned (.int .i64 (bearR f.kind c M M2).1) ∧ ∃ p', RP w' p' (bearR f.kind c M M2).2 ∧ Aft w w' p p' := by
  obtain ⟨st, k, pt⟩ := f
  have g0 := gb_alloc (gb_refl w none) (.cells #[.int .i64 st, .int .i64 k, .int .i64 pt] 117)
  have h0 := h.gb g0
  have hA0 : Aft w (w.alloc (.cells #[.int .i64 st, .int .i64 k, .int .i64 pt] 117)) p p := Aft.of g0
  have hd0 := hdo _ g0
  have q1 : (w.alloc (.cells #[.int .i64 st, .int .i64 k, .int .i64 pt] 117)).cell? ⟨w.heap.size, 1, none⟩ = some (.int .i64 k) := by rw [Box.cell (Box.new w 117 _)]; rfl
  have c3 := h0.box.cell 3
  have f3 := h0.box.fz 3
  obtain ⟨W, hW⟩ : ∃ W, w.alloc (.cells #[.int .i64 st, .int .i64 k, .int .i64 pt] 117) = W := ⟨_, rfl⟩
  rw [hW] at h0 hA0 hd0 q1 c3 f3
  have c3' : W.cell? ⟨p.d, 3, none⟩ = some (.bool (!M.dark)) := c3
  have H0 := Lib.hid (And.intro h0 hA0)
  clear c3 h hdo g0 h0 hA0
  unfold bearR
  cases hdk : M.dark with
  | true =>
    rw [hdk] at c3'
    simp only [if_true]
    go_enter Try.func63, Try.ntmps63
    go_wp2
    go_ret
    exact ⟨rfl, p, H0.out⟩
  | false =>
    rw [hdk] at c3'
    simp only [Bool.false_eq_true, if_false]
    by_cases k1 : k = 1
    · subst k1
      go_enter Try.func63, Try.ntmps63
      go_wp2
      go_ret
      exact ⟨rfl, p, H0.out⟩
    by_cases k3 : k = 3
    · subst k3
      go_enter Try.func63, Try.ntmps63
      go_wp2
      go_ret
      exact ⟨rfl, p, H0.out⟩
    by_cases k4 : k = 4
    · subst k4
      go_enter Try.func63, Try.ntmps63
      go_wp2
      go_ret
      exact ⟨rfl, p, H0.out⟩
    by_cases k5 : k = 5
    · subst k5
      go_enter Try.func63, Try.ntmps63
      go_wp2
      go_ret
      have := H0.out.1.down
      exact ⟨rfl, p, this.1, H0.out.2.trans this.2⟩
    by_cases k6 : k = 6
    · subst k6
      go_enter Try.func63, Try.ntmps63
      go_wp2_with (go_at_call 52; go_must (refine hd0.mono ?_); rintro e w2 ⟨rfl, p2, hp2, ha2⟩; (have s3 : w2.cell? ⟨p.d, 3, none⟩ = some (.bool (!M2.dark)) := by rw [← ha2.d]; exact hp2.box.cell 3); (have f3 : w2.frozen? ⟨p.d, 3, none⟩ = false := by rw [← ha2.d]; exact hp2.box.fz 3); (have HP := Lib.hid (And.intro hp2 ha2)); clear hp2 ha2)
      go_ret
      have := HP.out.1.down
      rw [HP.out.2.d] at this
      exact ⟨rfl, p2, this.1, (H0.out.2.trans HP.out.2).trans this.2⟩
    by_cases k2 : k = 2
    · subst k2
      by_cases hc : c = 0
      · subst hc
        go_enter Try.func63, Try.ntmps63
        go_wp2_with (go_at_call 52; go_must (refine hd0.mono ?_); rintro e w2 ⟨rfl, p2, hp2, ha2⟩; (have s3 : w2.cell? ⟨p.d, 3, none⟩ = some (.bool (!M2.dark)) := by rw [← ha2.d]; exact hp2.box.cell 3); (have f3 : w2.frozen? ⟨p.d, 3, none⟩ = false := by rw [← ha2.d]; exact hp2.box.fz 3); (have HP := Lib.hid (And.intro hp2 ha2)); clear hp2 ha2)
        go_ret
        exact ⟨rfl, p2, HP.out.1, H0.out.2.trans HP.out.2⟩
      · have dc : (c == 0) = false := by simp [hc]
        simp only [hc, if_false]
        go_enter Try.func63, Try.ntmps63
        go_wp2_with (go_at_call 52; go_must (refine hd0.mono ?_); rintro e w2 ⟨rfl, p2, hp2, ha2⟩; (have s3 : w2.cell? ⟨p.d, 3, none⟩ = some (.bool (!M2.dark)) := by rw [← ha2.d]; exact hp2.box.cell 3); (have f3 : w2.frozen? ⟨p.d, 3, none⟩ = false := by rw [← ha2.d]; exact hp2.box.fz 3); (have HP := Lib.hid (And.intro hp2 ha2)); clear hp2 ha2)
        go_ret
        exact ⟨rfl, p2, HP.out.1, H0.out.2.trans HP.out.2⟩
    have d1 : (k == 1) = false := by simp [k1]
    have d2 : (k == 2) = false := by simp [k2]
    have d3 : (k == 3) = false := by simp [k3]
    have d4 : (k == 4) = false := by simp [k4]
    have d5 : (k == 5) = false := by simp [k5]
    have d6 : (k == 6) = false := by simp [k6]
    simp only [k1, k2, k3, k4, k5, k6, if_false]
    go_enter Try.func63, Try.ntmps63
    go_wp2_with (go_at_call 52; go_must (refine hd0.mono ?_); rintro e w2 ⟨rfl, p2, hp2, ha2⟩; (have s3 : w2.cell? ⟨p.d, 3, none⟩ = some (.bool (!M2.dark)) := by rw [← ha2.d]; exact hp2.box.cell 3); (have f3 : w2.frozen? ⟨p.d, 3, none⟩ = false := by rw [← ha2.d]; exact hp2.box.fz 3); (have HP := Lib.hid (And.intro hp2 ha2)); clear hp2 ha2)
    go_ret
    exact ⟨rfl, p2, HP.out.1, H0.out.2.trans HP.out.2⟩
set_option maxRecDepth 100000 in
set_option maxHeartbeats 4000000 in
theorem bear_55 {w : World} {p : Pl} {M M2 : Md} (h : RP w p M) (f : Flt) (caps : Array Value) (c : Int)
    (hdo : ∀ W, w.grownBy W none → Calls Try.prog 55 caps W fun e w' => e = .returned (.int .i64 c) ∧ ∃ p', RP w' p' M2 ∧ Aft W w' p p') :
    Calls Try.prog 63 #[pv p.d, fvl f, .func (.func 55) #[] caps] w fun e w' => e = .returned (.int .i64 (bearR f.kind c M M2).1) ∧ ∃ p', RP w' p' (bearR f.kind c M M2).2 ∧ Aft w w' p p' := by
  obtain ⟨st, k, pt⟩ := f
  have g0 := gb_alloc (gb_refl w none) (.cells #[.int .i64 st, .int .i64 k, .int .i64 pt] 117)
  have h0 := h.gb g0
  have hA0 : Aft w (w.alloc (.cells #[.int .i64 st, .int .i64 k, .int .i64 pt] 117)) p p := Aft.of g0
  have hd0 := hdo _ g0
  have q1 : (w.alloc (.cells #[.int .i64 st, .int .i64 k, .int .i64 pt] 117)).cell? ⟨w.heap.size, 1, none⟩ = some (.int .i64 k) := by rw [Box.cell (Box.new w 117 _)]; rfl
  have c3 := h0.box.cell 3
  have f3 := h0.box.fz 3
  obtain ⟨W, hW⟩ : ∃ W, w.alloc (.cells #[.int .i64 st, .int .i64 k, .int .i64 pt] 117) = W := ⟨_, rfl⟩
  rw [hW] at h0 hA0 hd0 q1 c3 f3
  have c3' : W.cell? ⟨p.d, 3, none⟩ = some (.bool (!M.dark)) := c3
  have H0 := Lib.hid (And.intro h0 hA0)
  clear c3 h hdo g0 h0 hA0
  unfold bearR
  cases hdk : M.dark with
  | true =>
    rw [hdk] at c3'
    simp only [if_true]
    go_enter Try.func63, Try.ntmps63
    go_wp2
    go_ret
    exact ⟨rfl, p, H0.out⟩
  | false =>
    rw [hdk] at c3'
    simp only [Bool.false_eq_true, if_false]
    by_cases k1 : k = 1
    · subst k1
      go_enter Try.func63, Try.ntmps63
      go_wp2
      go_ret
      exact ⟨rfl, p, H0.out⟩
    by_cases k3 : k = 3
    · subst k3
      go_enter Try.func63, Try.ntmps63
      go_wp2
      go_ret
      exact ⟨rfl, p, H0.out⟩
    by_cases k4 : k = 4
    · subst k4
      go_enter Try.func63, Try.ntmps63
      go_wp2
      go_ret
      exact ⟨rfl, p, H0.out⟩
    by_cases k5 : k = 5
    · subst k5
      go_enter Try.func63, Try.ntmps63
      go_wp2
      go_ret
      have := H0.out.1.down
      exact ⟨rfl, p, this.1, H0.out.2.trans this.2⟩
    by_cases k6 : k = 6
    · subst k6
      go_enter Try.func63, Try.ntmps63
      go_wp2_with (go_at_call 55; go_must (refine hd0.mono ?_); rintro e w2 ⟨rfl, p2, hp2, ha2⟩; (have s3 : w2.cell? ⟨p.d, 3, none⟩ = some (.bool (!M2.dark)) := by rw [← ha2.d]; exact hp2.box.cell 3); (have f3 : w2.frozen? ⟨p.d, 3, none⟩ = false := by rw [← ha2.d]; exact hp2.box.fz 3); (have HP := Lib.hid (And.intro hp2 ha2)); clear hp2 ha2)
      go_ret
      have := HP.out.1.down
      rw [HP.out.2.d] at this
      exact ⟨rfl, p2, this.1, (H0.out.2.trans HP.out.2).trans this.2⟩
    by_cases k2 : k = 2
    · subst k2
      by_cases hc : c = 0
      · subst hc
        go_enter Try.func63, Try.ntmps63
        go_wp2_with (go_at_call 55; go_must (refine hd0.mono ?_); rintro e w2 ⟨rfl, p2, hp2, ha2⟩; (have s3 : w2.cell? ⟨p.d, 3, none⟩ = some (.bool (!M2.dark)) := by rw [← ha2.d]; exact hp2.box.cell 3); (have f3 : w2.frozen? ⟨p.d, 3, none⟩ = false := by rw [← ha2.d]; exact hp2.box.fz 3); (have HP := Lib.hid (And.intro hp2 ha2)); clear hp2 ha2)
        go_ret
        exact ⟨rfl, p2, HP.out.1, H0.out.2.trans HP.out.2⟩
      · have dc : (c == 0) = false := by simp [hc]
        simp only [hc, if_false]
        go_enter Try.func63, Try.ntmps63
        go_wp2_with (go_at_call 55; go_must (refine hd0.mono ?_); rintro e w2 ⟨rfl, p2, hp2, ha2⟩; (have s3 : w2.cell? ⟨p.d, 3, none⟩ = some (.bool (!M2.dark)) := by rw [← ha2.d]; exact hp2.box.cell 3); (have f3 : w2.frozen? ⟨p.d, 3, none⟩ = false := by rw [← ha2.d]; exact hp2.box.fz 3); (have HP := Lib.hid (And.intro hp2 ha2)); clear hp2 ha2)
        go_ret
        exact ⟨rfl, p2, HP.out.1, H0.out.2.trans HP.out.2⟩
    have d1 : (k == 1) = false := by simp [k1]
    have d2 : (k == 2) = false := by simp [k2]
    have d3 : (k == 3) = false := by simp [k3]
    have d4 : (k == 4) = false := by simp [k4]
    have d5 : (k == 5) = false := by simp [k5]
    have d6 : (k == 6) = false := by simp [k6]
    simp only [k1, k2, k3, k4, k5, k6, if_false]
    go_enter Try.func63, Try.ntmps63
    go_wp2_with (go_at_call 55; go_must (refine hd0.mono ?_); rintro e w2 ⟨rfl, p2, hp2, ha2⟩; (have s3 : w2.cell? ⟨p.d, 3, none⟩ = some (.bool (!M2.dark)) := by rw [← ha2.d]; exact hp2.box.cell 3); (have f3 : w2.frozen? ⟨p.d, 3, none⟩ = false := by rw [← ha2.d]; exact hp2.box.fz 3); (have HP := Lib.hid (And.intro hp2 ha2)); clear hp2 ha2)
    go_ret
    exact ⟨rfl, p2, HP.out.1, H0.out.2.trans HP.out.2⟩
set_option maxRecDepth 100000 in
set_option maxHeartbeats 4000000 in
theorem bear_58 {w : World} {p : Pl} {M M2 : Md} (h : RP w p M) (f : Flt) (caps : Array Value) (c : Int)
    (hdo : ∀ W, w.grownBy W none → Calls Try.prog 58 caps W fun e w' => e = .returned (.int .i64 c) ∧ ∃ p', RP w' p' M2 ∧ Aft W w' p p') :
    Calls Try.prog 63 #[pv p.d, fvl f, .func (.func 58) #[] caps] w fun e w' => e = .returned (.int .i64 (bearR f.kind c M M2).1) ∧ ∃ p', RP w' p' (bearR f.kind c M M2).2 ∧ Aft w w' p p' := by
  obtain ⟨st, k, pt⟩ := f
  have g0 := gb_alloc (gb_refl w none) (.cells #[.int .i64 st, .int .i64 k, .int .i64 pt] 117)
  have h0 := h.gb g0
  have hA0 : Aft w (w.alloc (.cells #[.int .i64 st, .int .i64 k, .int .i64 pt] 117)) p p := Aft.of g0
  have hd0 := hdo _ g0
  have q1 : (w.alloc (.cells #[.int .i64 st, .int .i64 k, .int .i64 pt] 117)).cell? ⟨w.heap.size, 1, none⟩ = some (.int .i64 k) := by rw [Box.cell (Box.new w 117 _)]; rfl
  have c3 := h0.box.cell 3
  have f3 := h0.box.fz 3
  obtain ⟨W, hW⟩ : ∃ W, w.alloc (.cells #[.int .i64 st, .int .i64 k, .int .i64 pt] 117) = W := ⟨_, rfl⟩
  rw [hW] at h0 hA0 hd0 q1 c3 f3
  have c3' : W.cell? ⟨p.d, 3, none⟩ = some (.bool (!M.dark)) := c3
  have H0 := Lib.hid (And.intro h0 hA0)
  clear c3 h hdo g0 h0 hA0
  unfold bearR
  cases hdk : M.dark with
  | true =>
    rw [hdk] at c3'
    simp only [if_true]
    go_enter Try.func63, Try.ntmps63
    go_wp2
    go_ret
    exact ⟨rfl, p, H0.out⟩
  | false =>
    rw [hdk] at c3'
    simp only [Bool.false_eq_true, if_false]
    by_cases k1 : k = 1
    · subst k1
      go_enter Try.func63, Try.ntmps63
      go_wp2
      go_ret
      exact ⟨rfl, p, H0.out⟩
    by_cases k3 : k = 3
    · subst k3
      go_enter Try.func63, Try.ntmps63
      go_wp2
      go_ret
      exact ⟨rfl, p, H0.out⟩
    by_cases k4 : k = 4
    · subst k4
      go_enter Try.func63, Try.ntmps63
      go_wp2
      go_ret
      exact ⟨rfl, p, H0.out⟩
    by_cases k5 : k = 5
    · subst k5
      go_enter Try.func63, Try.ntmps63
      go_wp2
      go_ret
      have := H0.out.1.down
      exact ⟨rfl, p, this.1, H0.out.2.trans this.2⟩
    by_cases k6 : k = 6
    · subst k6
      go_enter Try.func63, Try.ntmps63
      go_wp2_with (go_at_call 58; go_must (refine hd0.mono ?_); rintro e w2 ⟨rfl, p2, hp2, ha2⟩; (have s3 : w2.cell? ⟨p.d, 3, none⟩ = some (.bool (!M2.dark)) := by rw [← ha2.d]; exact hp2.box.cell 3); (have f3 : w2.frozen? ⟨p.d, 3, none⟩ = false := by rw [← ha2.d]; exact hp2.box.fz 3); (have HP := Lib.hid (And.intro hp2 ha2)); clear hp2 ha2)
      go_ret
      have := HP.out.1.down
      rw [HP.out.2.d] at this
      exact ⟨rfl, p2, this.1, (H0.out.2.trans HP.out.2).trans this.2⟩
    by_cases k2 : k = 2
    · subst k2
      by_cases hc : c = 0
      · subst hc
        go_enter Try.func63, Try.ntmps63
        go_wp2_with (go_at_call 58; go_must (refine hd0.mono ?_); rintro e w2 ⟨rfl, p2, hp2, ha2⟩; (have s3 : w2.cell? ⟨p.d, 3, none⟩ = some (.bool (!M2.dark)) := by rw [← ha2.d]; exact hp2.box.cell 3); (have f3 : w2.frozen? ⟨p.d, 3, none⟩ = false := by rw [← ha2.d]; exact hp2.box.fz 3); (have HP := Lib.hid (And.intro hp2 ha2)); clear hp2 ha2)
        go_ret
        exact ⟨rfl, p2, HP.out.1, H0.out.2.trans HP.out.2⟩
      · have dc : (c == 0) = false := by simp [hc]
        simp only [hc, if_false]
        go_enter Try.func63, Try.ntmps63
        go_wp2_with (go_at_call 58; go_must (refine hd0.mono ?_); rintro e w2 ⟨rfl, p2, hp2, ha2⟩; (have s3 : w2.cell? ⟨p.d, 3, none⟩ = some (.bool (!M2.dark)) := by rw [← ha2.d]; exact hp2.box.cell 3); (have f3 : w2.frozen? ⟨p.d, 3, none⟩ = false := by rw [← ha2.d]; exact hp2.box.fz 3); (have HP := Lib.hid (And.intro hp2 ha2)); clear hp2 ha2)
        go_ret
        exact ⟨rfl, p2, HP.out.1, H0.out.2.trans HP.out.2⟩
    have d1 : (k == 1) = false := by simp [k1]
    have d2 : (k == 2) = false := by simp [k2]
    have d3 : (k == 3) = false := by simp [k3]
    have d4 : (k == 4) = false := by simp [k4]
    have d5 : (k == 5) = false := by simp [k5]
    have d6 : (k == 6) = false := by simp [k6]
    simp only [k1, k2, k3, k4, k5, k6, if_false]
    go_enter Try.func63, Try.ntmps63
    go_wp2_with (go_at_call 58; go_must (refine hd0.mono ?_); rintro e w2 ⟨rfl, p2, hp2, ha2⟩; (have s3 : w2.cell? ⟨p.d, 3, none⟩ = some (.bool (!M2.dark)) := by rw [← ha2.d]; exact hp2.box.cell 3); (have f3 : w2.frozen? ⟨p.d, 3, none⟩ = false := by rw [← ha2.d]; exact hp2.box.fz 3); (have HP := Lib.hid (And.intro hp2 ha2)); clear hp2 ha2)
    go_ret
    exact ⟨rfl, p2, HP.out.1, H0.out.2.trans HP.out.2⟩
set_option maxRecDepth 100000 in
set_option maxHeartbeats 4000000 in
theorem bear_61 {w : World} {p : Pl} {M M2 : Md} (h : RP w p M) (f : Flt) (caps : Array Value) (c : Int)
    (hdo : ∀ W, w.grownBy W none → Calls Try.prog 61 caps W fun e w' => e = .returned (.int .i64 c) ∧ ∃ p', RP w' p' M2 ∧ Aft W w' p p') :
    Calls Try.prog 63 #[pv p.d, fvl f, .func (.func 61) #[] caps] w fun e w' => e = .returned (.int .i64 (bearR f.kind c M M2).1) ∧ ∃ p', RP w' p' (bearR f.kind c M M2).2 ∧ Aft w w' p p' := by
  obtain ⟨st, k, pt⟩ := f
  have g0 := gb_alloc (gb_refl w none) (.cells #[.int .i64 st, .int .i64 k, .int .i64 pt] 117)
  have h0 := h.gb g0
  have hA0 : Aft w (w.alloc (.cells #[.int .i64 st, .int .i64 k, .int .i64 pt] 117)) p p := Aft.of g0
  have hd0 := hdo _ g0
  have q1 : (w.alloc (.cells #[.int .i64 st, .int .i64 k, .int .i64 pt] 117)).cell? ⟨w.heap.size, 1, none⟩ = some (.int .i64 k) := by rw [Box.cell (Box.new w 117 _)]; rfl
  have c3 := h0.box.cell 3
  have f3 := h0.box.fz 3
  obtain ⟨W, hW⟩ : ∃ W, w.alloc (.cells #[.int .i64 st, .int .i64 k, .int .i64 pt] 117) = W := ⟨_, rfl⟩
  rw [hW] at h0 hA0 hd0 q1 c3 f3
  have c3' : W.cell? ⟨p.d, 3, none⟩ = some (.bool (!M.dark)) := c3
  have H0 := Lib.hid (And.intro h0 hA0)
  clear c3 h hdo g0 h0 hA0
  unfold bearR
  cases hdk : M.dark with
  | true =>
    rw [hdk] at c3'
    simp only [if_true]
    go_enter Try.func63, Try.ntmps63
    go_wp2
    go_ret
    exact ⟨rfl, p, H0.out⟩
  | false =>
    rw [hdk] at c3'
    simp only [Bool.false_eq_true, if_false]
    by_cases k1 : k = 1
    · subst k1
      go_enter Try.func63, Try.ntmps63
      go_wp2
      go_ret
      exact ⟨rfl, p, H0.out⟩
    by_cases k3 : k = 3
    · subst k3
      go_enter Try.func63, Try.ntmps63
      go_wp2
      go_ret
      exact ⟨rfl, p, H0.out⟩
    by_cases k4 : k = 4
    · subst k4
      go_enter Try.func63, Try.ntmps63
      go_wp2
      go_ret
      exact ⟨rfl, p, H0.out⟩
    by_cases k5 : k = 5
    · subst k5
      go_enter Try.func63, Try.ntmps63
      go_wp2
      go_ret
      have := H0.out.1.down
      exact ⟨rfl, p, this.1, H0.out.2.trans this.2⟩
    by_cases k6 : k = 6
    · subst k6
      go_enter Try.func63, Try.ntmps63
      go_wp2_with (go_at_call 61; go_must (refine hd0.mono ?_); rintro e w2 ⟨rfl, p2, hp2, ha2⟩; (have s3 : w2.cell? ⟨p.d, 3, none⟩ = some (.bool (!M2.dark)) := by rw [← ha2.d]; exact hp2.box.cell 3); (have f3 : w2.frozen? ⟨p.d, 3, none⟩ = false := by rw [← ha2.d]; exact hp2.box.fz 3); (have HP := Lib.hid (And.intro hp2 ha2)); clear hp2 ha2)
      go_ret
      have := HP.out.1.down
      rw [HP.out.2.d] at this
      exact ⟨rfl, p2, this.1, (H0.out.2.trans HP.out.2).trans this.2⟩
    by_cases k2 : k = 2
    · subst k2
      by_cases hc : c = 0
      · subst hc
        go_enter Try.func63, Try.ntmps63
        go_wp2_with (go_at_call 61; go_must (refine hd0.mono ?_); rintro e w2 ⟨rfl, p2, hp2, ha2⟩; (have s3 : w2.cell? ⟨p.d, 3, none⟩ = some (.bool (!M2.dark)) := by rw [← ha2.d]; exact hp2.box.cell 3); (have f3 : w2.frozen? ⟨p.d, 3, none⟩ = false := by rw [← ha2.d]; exact hp2.box.fz 3); (have HP := Lib.hid (And.intro hp2 ha2)); clear hp2 ha2)
        go_ret
        exact ⟨rfl, p2, HP.out.1, H0.out.2.trans HP.out.2⟩
      · have dc : (c == 0) = false := by simp [hc]
        simp only [hc, if_false]
        go_enter Try.func63, Try.ntmps63
        go_wp2_with (go_at_call 61; go_must (refine hd0.mono ?_); rintro e w2 ⟨rfl, p2, hp2, ha2⟩; (have s3 : w2.cell? ⟨p.d, 3, none⟩ = some (.bool (!M2.dark)) := by rw [← ha2.d]; exact hp2.box.cell 3); (have f3 : w2.frozen? ⟨p.d, 3, none⟩ = false := by rw [← ha2.d]; exact hp2.box.fz 3); (have HP := Lib.hid (And.intro hp2 ha2)); clear hp2 ha2)
        go_ret
        exact ⟨rfl, p2, HP.out.1, H0.out.2.trans HP.out.2⟩
    have d1 : (k == 1) = false := by simp [k1]
    have d2 : (k == 2) = false := by simp [k2]
    have d3 : (k == 3) = false := by simp [k3]
    have d4 : (k == 4) = false := by simp [k4]
    have d5 : (k == 5) = false := by simp [k5]
    have d6 : (k == 6) = false := by simp [k6]
    simp only [k1, k2, k3, k4, k5, k6, if_false]
    go_enter Try.func63, Try.ntmps63
    go_wp2_with (go_at_call 61; go_must (refine hd0.mono ?_); rintro e w2 ⟨rfl, p2, hp2, ha2⟩; (have s3 : w2.cell? ⟨p.d, 3, none⟩ = some (.bool (!M2.dark)) := by rw [← ha2.d]; exact hp2.box.cell 3); (have f3 : w2.frozen? ⟨p.d, 3, none⟩ = false := by rw [← ha2.d]; exact hp2.box.fz 3); (have HP := Lib.hid (And.intro hp2 ha2)); clear hp2 ha2)
    go_ret
    exact ⟨rfl, p2, HP.out.1, H0.out.2.trans HP.out.2⟩
set_option maxRecDepth 100000 in
set_option maxHeartbeats 4000000 in
theorem bear_64 {w : World} {p : Pl} {M M2 : Md} (h : RP w p M) (f : Flt) (caps : Array Value) (c : Int)
    (hdo : ∀ W, w.grownBy W none → Calls Try.prog 64 caps W fun e w' => e = .returned (.int .i64 c) ∧ ∃ p', RP w' p' M2 ∧ Aft W w' p p') :
    Calls Try.prog 63 #[pv p.d, fvl f, .func (.func 64) #[] caps] w fun e w' => e = .returned (.int .i64 (bearR f.kind c M M2).1) ∧ ∃ p', RP w' p' (bearR f.kind c M M2).2 ∧ Aft w w' p p' := by
  obtain ⟨st, k, pt⟩ := f
  have g0 := gb_alloc (gb_refl w none) (.cells #[.int .i64 st, .int .i64 k, .int .i64 pt] 117)
  have h0 := h.gb g0
  have hA0 : Aft w (w.alloc (.cells #[.int .i64 st, .int .i64 k, .int .i64 pt] 117)) p p := Aft.of g0
  have hd0 := hdo _ g0
  have q1 : (w.alloc (.cells #[.int .i64 st, .int .i64 k, .int .i64 pt] 117)).cell? ⟨w.heap.size, 1, none⟩ = some (.int .i64 k) := by rw [Box.cell (Box.new w 117 _)]; rfl
  have c3 := h0.box.cell 3
  have f3 := h0.box.fz 3
  obtain ⟨W, hW⟩ : ∃ W, w.alloc (.cells #[.int .i64 st, .int .i64 k, .int .i64 pt] 117) = W := ⟨_, rfl⟩
  rw [hW] at h0 hA0 hd0 q1 c3 f3
  have c3' : W.cell? ⟨p.d, 3, none⟩ = some (.bool (!M.dark)) := c3
  have H0 := Lib.hid (And.intro h0 hA0)
  clear c3 h hdo g0 h0 hA0
  unfold bearR
  cases hdk : M.dark with
  | true =>
    rw [hdk] at c3'
    simp only [if_true]
    go_enter Try.func63, Try.ntmps63
    go_wp2
    go_ret
    exact ⟨rfl, p, H0.out⟩
  | false =>
    rw [hdk] at c3'
    simp only [Bool.false_eq_true, if_false]
    by_cases k1 : k = 1
    · subst k1
      go_enter Try.func63, Try.ntmps63
      go_wp2
      go_ret
      exact ⟨rfl, p, H0.out⟩
    by_cases k3 : k = 3
    · subst k3
      go_enter Try.func63, Try.ntmps63
      go_wp2
      go_ret
      exact ⟨rfl, p, H0.out⟩
    by_cases k4 : k = 4
    · subst k4
      go_enter Try.func63, Try.ntmps63
      go_wp2
      go_ret
      exact ⟨rfl, p, H0.out⟩
    by_cases k5 : k = 5
    · subst k5
      go_enter Try.func63, Try.ntmps63
      go_wp2
      go_ret
      have := H0.out.1.down
      exact ⟨rfl, p, this.1, H0.out.2.trans this.2⟩
    by_cases k6 : k = 6
    · subst k6
      go_enter Try.func63, Try.ntmps63
      go_wp2_with (go_at_call 64; go_must (refine hd0.mono ?_); rintro e w2 ⟨rfl, p2, hp2, ha2⟩; (have s3 : w2.cell? ⟨p.d, 3, none⟩ = some (.bool (!M2.dark)) := by rw [← ha2.d]; exact hp2.box.cell 3); (have f3 : w2.frozen? ⟨p.d, 3, none⟩ = false := by rw [← ha2.d]; exact hp2.box.fz 3); (have HP := Lib.hid (And.intro hp2 ha2)); clear hp2 ha2)
      go_ret
      have := HP.out.1.down
      rw [HP.out.2.d] at this
      exact ⟨rfl, p2, this.1, (H0.out.2.trans HP.out.2).trans this.2⟩
    by_cases k2 : k = 2
    · subst k2
      by_cases hc : c = 0
      · subst hc
        go_enter Try.func63, Try.ntmps63
        go_wp2_with (go_at_call 64; go_must (refine hd0.mono ?_); rintro e w2 ⟨rfl, p2, hp2, ha2⟩; (have s3 : w2.cell? ⟨p.d, 3, none⟩ = some (.bool (!M2.dark)) := by rw [← ha2.d]; exact hp2.box.cell 3); (have f3 : w2.frozen? ⟨p.d, 3, none⟩ = false := by rw [← ha2.d]; exact hp2.box.fz 3); (have HP := Lib.hid (And.intro hp2 ha2)); clear hp2 ha2)
        go_ret
        exact ⟨rfl, p2, HP.out.1, H0.out.2.trans HP.out.2⟩
      · have dc : (c == 0) = false := by simp [hc]
        simp only [hc, if_false]
        go_enter Try.func63, Try.ntmps63
        go_wp2_with (go_at_call 64; go_must (refine hd0.mono ?_); rintro e w2 ⟨rfl, p2, hp2, ha2⟩; (have s3 : w2.cell? ⟨p.d, 3, none⟩ = some (.bool (!M2.dark)) := by rw [← ha2.d]; exact hp2.box.cell 3); (have f3 : w2.frozen? ⟨p.d, 3, none⟩ = false := by rw [← ha2.d]; exact hp2.box.fz 3); (have HP := Lib.hid (And.intro hp2 ha2)); clear hp2 ha2)
        go_ret
        exact ⟨rfl, p2, HP.out.1, H0.out.2.trans HP.out.2⟩
    have d1 : (k == 1) = false := by simp [k1]
    have d2 : (k == 2) = false := by simp [k2]
    have d3 : (k == 3) = false := by simp [k3]
    have d4 : (k == 4) = false := by simp [k4]
    have d5 : (k == 5) = false := by simp [k5]
    have d6 : (k == 6) = false := by simp [k6]
    simp only [k1, k2, k3, k4, k5, k6, if_false]
    go_enter Try.func63, Try.ntmps63
    go_wp2_with (go_at_call 64; go_must (refine hd0.mono ?_); rintro e w2 ⟨rfl, p2, hp2, ha2⟩; (have s3 : w2.cell? ⟨p.d, 3, none⟩ = some (.bool (!M2.dark)) := by rw [← ha2.d]; exact hp2.box.cell 3); (have f3 : w2.frozen? ⟨p.d, 3, none⟩ = false := by rw [← ha2.d]; exact hp2.box.fz 3); (have HP := Lib.hid (And.intro hp2 ha2)); clear hp2 ha2)
    go_ret
    exact ⟨rfl, p2, HP.out.1, H0.out.2.trans HP.out.2⟩
set_option maxRecDepth 100000 in
set_option maxHeartbeats 4000000 in
theorem bear_71 {w : World} {p : Pl} {M M2 : Md} (h : RP w p M) (f : Flt) (caps : Array Value) (c : Int)
    (hdo : ∀ W, w.grownBy W none → Calls Try.prog 71 caps W fun e w' => e = .returned (.int .i64 c) ∧ ∃ p', RP w' p' M2 ∧ Aft W w' p p') :
    Calls Try.prog 63 #[pv p.d, fvl f, .func (.func 71) #[] caps] w fun e w' => e = .returned (.int .i64 (bearR f.kind c M M2).1) ∧ ∃ p', RP w' p' (bearR f.kind c M M2).2 ∧ Aft w w' p p' := by
  obtain ⟨st, k, pt⟩ := f
  have g0 := gb_alloc (gb_refl w none) (.cells #[.int .i64 st, .int .i64 k, .int .i64 pt] 117)
  have h0 := h.gb g0
  have hA0 : Aft w (w.alloc (.cells #[.int .i64 st, .int .i64 k, .int .i64 pt] 117)) p p := Aft.of g0
  have hd0 := hdo _ g0
  have q1 : (w.alloc (.cells #[.int .i64 st, .int .i64 k, .int .i64 pt] 117)).cell? ⟨w.heap.size, 1, none⟩ = some (.int .i64 k) := by rw [Box.cell (Box.new w 117 _)]; rfl
  have c3 := h0.box.cell 3
  have f3 := h0.box.fz 3
  obtain ⟨W, hW⟩ : ∃ W, w.alloc (.cells #[.int .i64 st, .int .i64 k, .int .i64 pt] 117) = W := ⟨_, rfl⟩
  rw [hW] at h0 hA0 hd0 q1 c3 f3
  have c3' : W.cell? ⟨p.d, 3, none⟩ = some (.bool (!M.dark)) := c3
  have H0 := Lib.hid (And.intro h0 hA0)
  clear c3 h hdo g0 h0 hA0
  unfold bearR
  cases hdk : M.dark with
  | true =>
    rw [hdk] at c3'
    simp only [if_true]
    go_enter Try.func63, Try.ntmps63
    go_wp2
    go_ret
    exact ⟨rfl, p, H0.out⟩
  | false =>
    rw [hdk] at c3'
    simp only [Bool.false_eq_true, if_false]
    by_cases k1 : k = 1
    · subst k1
      go_enter Try.func63, Try.ntmps63
      go_wp2
      go_ret
      exact ⟨rfl, p, H0.out⟩
    by_cases k3 : k = 3
    · subst k3
      go_enter Try.func63, Try.ntmps63
      go_wp2
      go_ret
      exact ⟨rfl, p, H0.out⟩
    by_cases k4 : k = 4
    · subst k4
      go_enter Try.func63, Try.ntmps63
      go_wp2
      go_ret
      exact ⟨rfl, p, H0.out⟩
    by_cases k5 : k = 5
    · subst k5
      go_enter Try.func63, Try.ntmps63
      go_wp2
      go_ret
      have := H0.out.1.down
      exact ⟨rfl, p, this.1, H0.out.2.trans this.2⟩
    by_cases k6 : k = 6
    · subst k6
      go_enter Try.func63, Try.ntmps63
      go_wp2_with (go_at_call 71; go_must (refine hd0.mono ?_); rintro e w2 ⟨rfl, p2, hp2, ha2⟩; (have s3 : w2.cell? ⟨p.d, 3, none⟩ = some (.bool (!M2.dark)) := by rw [← ha2.d]; exact hp2.box.cell 3); (have f3 : w2.frozen? ⟨p.d, 3, none⟩ = false := by rw [← ha2.d]; exact hp2.box.fz 3); (have HP := Lib.hid (And.intro hp2 ha2)); clear hp2 ha2)
      go_ret
      have := HP.out.1.down
      rw [HP.out.2.d] at this
      exact ⟨rfl, p2, this.1, (H0.out.2.trans HP.out.2).trans this.2⟩
    by_cases k2 : k = 2
    · subst k2
      by_cases hc : c = 0
      · subst hc
        go_enter Try.func63, Try.ntmps63
        go_wp2_with (go_at_call 71; go_must (refine hd0.mono ?_); rintro e w2 ⟨rfl, p2, hp2, ha2⟩; (have s3 : w2.cell? ⟨p.d, 3, none⟩ = some (.bool (!M2.dark)) := by rw [← ha2.d]; exact hp2.box.cell 3); (have f3 : w2.frozen? ⟨p.d, 3, none⟩ = false := by rw [← ha2.d]; exact hp2.box.fz 3); (have HP := Lib.hid (And.intro hp2 ha2)); clear hp2 ha2)
        go_ret
        exact ⟨rfl, p2, HP.out.1, H0.out.2.trans HP.out.2⟩
      · have dc : (c == 0) = false := by simp [hc]
        simp only [hc, if_false]
        go_enter Try.func63, Try.ntmps63
        go_wp2_with (go_at_call 71; go_must (refine hd0.mono ?_); rintro e w2 ⟨rfl, p2, hp2, ha2⟩; (have s3 : w2.cell? ⟨p.d, 3, none⟩ = some (.bool (!M2.dark)) := by rw [← ha2.d]; exact hp2.box.cell 3); (have f3 : w2.frozen? ⟨p.d, 3, none⟩ = false := by rw [← ha2.d]; exact hp2.box.fz 3); (have HP := Lib.hid (And.intro hp2 ha2)); clear hp2 ha2)
        go_ret
        exact ⟨rfl, p2, HP.out.1, H0.out.2.trans HP.out.2⟩
    have d1 : (k == 1) = false := by simp [k1]
    have d2 : (k == 2) = false := by simp [k2]
    have d3 : (k == 3) = false := by simp [k3]
    have d4 : (k == 4) = false := by simp [k4]
    have d5 : (k == 5) = false := by simp [k5]
    have d6 : (k == 6) = false := by simp [k6]
    simp only [k1, k2, k3, k4, k5, k6, if_false]
    go_enter Try.func63, Try.ntmps63
    go_wp2_with (go_at_call 71; go_must (refine hd0.mono ?_); rintro e w2 ⟨rfl, p2, hp2, ha2⟩; (have s3 : w2.cell? ⟨p.d, 3, none⟩ = some (.bool (!M2.dark)) := by rw [← ha2.d]; exact hp2.box.cell 3); (have f3 : w2.frozen? ⟨p.d, 3, none⟩ = false := by rw [← ha2.d]; exact hp2.box.fz 3); (have HP := Lib.hid (And.intro hp2 ha2)); clear hp2 ha2)
    go_ret
    exact ⟨rfl, p2, HP.out.1, H0.out.2.trans HP.out.2⟩
end Go.Proofs.Ytndjimdegkdljaa

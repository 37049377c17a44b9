import Derived.Test.YtoaaaeefcipdcaaSg
/-
  class.New.
-/
namespace Go.Proofs.Ytoaaaeefcipdcaa
open Go.RowKit
set_option linter.unusedVariables false

theorem page9 : ∀ j : Fin 9, pageB ((2 ^ (12 + j.val) : Nat) : Int) = true := by decide +kernel
theorem page_of {a : Int} (h : PageOk a) : pageB a = true := by
  obtain ⟨k, rfl, h1, h2⟩ := h
  have := page9 ⟨k - 12, by omega⟩
  simp only at this
  rwa [show 12 + (k - 12) = k by omega] at this
theorem page_not {a : Int} (h : ¬ PageOk a) : pageB a = false := by
  cases e : pageB a
  · rfl
  · exact absurd (page_pow a e) h

theorem C7.box (w : World) (a b c d e f g : Int) : C7 (w.alloc (.cells #[.int .i64 a, .int .i64 b, .int .i64 c, .int .i64 d, .int .i64 e, .int .i64 f, .int .i64 g] 23)) w.heap.size a b c d e f g := by
  have hb := Box.new w 23 #[.int .i64 a, .int .i64 b, .int .i64 c, .int .i64 d, .int .i64 e, .int .i64 f, .int .i64 g]
  exact ⟨hb.cell 0, hb.cell 1, hb.cell 2, hb.cell 3, hb.cell 4, hb.cell 5, hb.cell 6⟩

theorem new_1 (a b c d e f g : Int) (hI : ¬ InB a c d e) (w : World) : Calls Try.prog 12 #[cfgV a b c d e f g] w fun x w' => x = .returned (.tuple #[.pointer none, .int .i64 1]) ∧ w.grownBy w' none := by
  have hin := fun W => inB_no a b c d e f g hI W
  have hF0 : w.grownBy (w.alloc (.cells #[.int .i64 a, .int .i64 b, .int .i64 c, .int .i64 d, .int .i64 e, .int .i64 f, .int .i64 g] 23)) none := World.grownBy_alloc _ _ _
  clear hI
  unfold cfgV at hin ⊢
  go_enter Try.func12, Try.ntmps12
  go_wp2_with (first | (go_at_call 43; go_must (refine (hin _).mono ?_); rintro x w1 ⟨rfl, hf1⟩) | fail)
  go_ret2
  exact ⟨rfl, gb_trans hF0 hf1⟩

theorem new_2 (a b c d e f g : Int) (hI : InB a c d e) (hP : ¬ (PageOk a ∧ 1 ≤ b ∧ b ≤ 1024)) (w : World) : Calls Try.prog 12 #[cfgV a b c d e f g] w fun x w' => x = .returned (.tuple #[.pointer none, .int .i64 1]) ∧ w.grownBy w' none := by
  have hin := fun W => inB_yes a b c d e f g hI W
  have h7 := C7.box w a b c d e f g
  have hF0 : w.grownBy (w.alloc (.cells #[.int .i64 a, .int .i64 b, .int .i64 c, .int .i64 d, .int .i64 e, .int .i64 f, .int .i64 g] 23)) none := World.grownBy_alloc _ _ _
  have hno := fun W => new_no a b W (by
    by_cases hp : PageOk a
    · have : ¬ (1 ≤ b ∧ b ≤ 1024) := fun h => hP ⟨hp, h⟩
      exact .inr (by omega)
    · exact .inl (page_not hp))
  clear hI hP
  unfold cfgV at hin ⊢
  go_enter Try.func12, Try.ntmps12
  go_wp2_with (first | (go_at_call 43; go_must (refine (hin _).mono ?_); rintro x w1 ⟨rfl, hf1⟩; obtain ⟨k0, k1, k2, k3, k4, k5, k6⟩ := h7.kept hf1) | (go_at_call 44; go_must (refine (hno _).mono ?_); rintro x w2 ⟨rfl, rfl⟩) | fail)
  go_ret2
  exact ⟨rfl, gb_trans hF0 hf1⟩

/-- The numbers of a valid config. -/
structure Cfg (ps m F s0 il : Nat) : Prop where
  pw : ∃ k, ps = 2 ^ k ∧ 12 ≤ k ∧ k ≤ 20
  m1 : 1 ≤ m
  m2 : m ≤ 1024
  good : GoodF F (limOf il) s0
  s512 : s0 ≤ 512
  il0 : s0 ≤ il
  il1 : il ≤ ps
theorem Cfg.bounds {ps m F s0 il : Nat} (h : Cfg ps m F s0 il) : 4096 ≤ ps ∧ ps ≤ 1048576 ∧ ps % 8 = 0 ∧ limOf il ≤ ps := by
  obtain ⟨k, hk⟩ := h.pw
  have h1 : PageOk (ps : Int) := ⟨k, by rw [hk.1], hk.2⟩
  have h2 := h1.bounds
  have h3 := limOf_ge il
  have h4 := limOf_8 il
  have h5 := h.il1
  omega
theorem Cfg.inB {ps m F s0 il : Nat} (h : Cfg ps m F s0 il) : InB ps F s0 il := by
  have h1 := h.good
  obtain ⟨f0, f1, a, b, c, d, e⟩ := h1
  have := h.s512
  have := h.il0
  have := h.il1
  exact ⟨by omega, by omega, by omega, by omega, by omega, by omega, by omega⟩
theorem Valid.cfg {a b c d e : Int} (h : Valid a b c d e) : ∃ ps m F s0 il : Nat, a = ps ∧ b = m ∧ c = F ∧ d = s0 ∧ e = il ∧ Cfg ps m F s0 il := by
  obtain ⟨p1, p2, p3⟩ := h.pg.bounds
  have hg := h.good.1
  obtain ⟨⟨k, hk⟩, b0, b1, c0, c1, d0, d1, d8, e0, e1⟩ := h
  refine ⟨a.toNat, b.toNat, c.toNat, d.toNat, e.toNat, by omega, by omega, by omega, by omega, by omega, ⟨k, by rw [hk.1]; rfl, hk.2⟩, by omega, by omega, hg, by omega, by omega, by omega⟩

set_option maxHeartbeats 1000000 in
theorem new_3 {ps m F s0 il : Nat} (h : Cfg ps m F s0 il) (f g : Int) (hm : ∀ j, j < 62 → chain F (limOf il) s0 j < limOf il) (w : World) : Calls Try.prog 12 #[cfgV ps m F s0 il f g] w fun x w' => x = .returned (.tuple #[.pointer none, .int .i64 2]) ∧ w.grownBy w' none := by
  obtain ⟨bp0, bp1, bp2, bp3⟩ := h.bounds
  have hil := h.il1
  have hin := fun W => inB_yes ps m F s0 il f g h.inB W
  have h7 := C7.box w ps m F s0 il f g
  have hF0 : w.grownBy (w.alloc (.cells #[.int .i64 ps, .int .i64 m, .int .i64 F, .int .i64 s0, .int .i64 il, .int .i64 f, .int .i64 g] 23)) none := World.grownBy_alloc _ _ _
  obtain ⟨kk, hkk⟩ := h.pw
  have hpo : PageOk (ps : Int) := ⟨kk, by rw [hkk.1], hkk.2⟩
  have hyes := fun W => new_yes ps m W ⟨kk, hkk⟩ (page_of hpo) ⟨h.m1, h.m2⟩
  have hsz := fun W => (sizes_any h.good rfl (by omega) ps m f g W).mono (R' := fun e w' => e = .returned (.tuple #[.slice none 0 0, .bool false]) ∧ W.grownBy w' none) (by
    rintro x w' ⟨hf, ⟨n, v, h1, h2, _⟩ | ⟨_, rfl⟩⟩
    · have := hm (n - 1) (by omega)
      have := h2.2.1
      omega
    · exact ⟨rfl, hf⟩)
  clear hkk hm hpo
  unfold cfgV at hin hsz ⊢
  go_enter Try.func12, Try.ntmps12
  go_wp2_with (first | (go_at_call 43; go_must (refine (hin _).mono ?_); rintro x w1 ⟨rfl, hf1⟩; have h71 := h7.kept hf1; have h71' := h71; obtain ⟨k0, k1, k2, k3, k4, k5, k6⟩ := h71') | (go_at_call 44; go_must (refine (hyes _).mono ?_); rintro x w2 ⟨rfl, hf2, hA⟩; obtain ⟨j0, j1, j2, j3, j4, j5, j6⟩ := h71.kept hf2) | (go_at_call 45; go_must (refine (hsz _).mono ?_); rintro x w3 ⟨rfl, hf3⟩) | fail)
  go_ret2
  exact ⟨rfl, gb_trans (gb_trans (gb_trans hF0 hf1) hf2) hf3⟩

set_option maxHeartbeats 1000000 in
theorem new_4 {ps m F s0 il n : Nat} (h : Cfg ps m F s0 il) (f g : Int) (hn : n ≤ 62) (hc : Cls F (limOf il) s0 n) (hmn : m < n) (w : World) : Calls Try.prog 12 #[cfgV ps m F s0 il f g] w fun x w' => x = .returned (.tuple #[.pointer none, .int .i64 3]) ∧ w.grownBy w' none := by
  obtain ⟨bp0, bp1, bp2, bp3⟩ := h.bounds
  have hil := h.il1
  have hin := fun W => inB_yes ps m F s0 il f g h.inB W
  have h7 := C7.box w ps m F s0 il f g
  have hF0 : w.grownBy (w.alloc (.cells #[.int .i64 ps, .int .i64 m, .int .i64 F, .int .i64 s0, .int .i64 il, .int .i64 f, .int .i64 g] 23)) none := World.grownBy_alloc _ _ _
  obtain ⟨kk, hkk⟩ := h.pw
  have hpo : PageOk (ps : Int) := ⟨kk, by rw [hkk.1], hkk.2⟩
  have hyes := fun W => new_yes ps m W ⟨kk, hkk⟩ (page_of hpo) ⟨h.m1, h.m2⟩
  have hsz := fun W => (sizes_any h.good rfl (by omega) ps m f g W).mono (R' := fun e w' => ∃ ao cp, e = .returned (.tuple #[.slice ao n cp, .bool true]) ∧ W.grownBy w' none) (by
    rintro x w' ⟨hf, ⟨n', v, h1, h2, rfl, h3⟩ | ⟨h1, _⟩⟩
    · have := cls_uniq hc h2
      subst this
      obtain ⟨ao, cp, rfl, _⟩ := row_shape h3
      exact ⟨ao, cp, rfl, hf⟩
    · have := h1 (n - 1) (by omega)
      have := hc.2.1
      omega)
  clear hkk hc hpo
  unfold cfgV at hin hsz ⊢
  go_enter Try.func12, Try.ntmps12
  go_wp2_with (first | (go_at_call 43; go_must (refine (hin _).mono ?_); rintro x w1 ⟨rfl, hf1⟩; have h71 := h7.kept hf1; have h71' := h71; obtain ⟨k0, k1, k2, k3, k4, k5, k6⟩ := h71') | (go_at_call 44; go_must (refine (hyes _).mono ?_); rintro x w2 ⟨rfl, hf2, hA⟩; have h72 := h71.kept hf2; have h72' := h72; obtain ⟨j0, j1, j2, j3, j4, j5, j6⟩ := h72') | (go_at_call 45; go_must (refine (hsz _).mono ?_); rintro x w3 ⟨ao, cp, rfl, hf3⟩; obtain ⟨i0, i1, i2, i3, i4, i5, i6⟩ := h72.kept hf3) | fail)
  go_ret2
  exact ⟨rfl, gb_trans (gb_trans (gb_trans hF0 hf1) hf2) hf3⟩

/-- Errors of New. -/
theorem new_err {a b c d e r : Int} (f g : Int) (h : Refd a b c d e r) (h0 : r ≠ 0) (w : World) : Calls Try.prog 12 #[cfgV a b c d e f g] w fun x w' => x = .returned (.tuple #[.pointer none, .int .i64 r]) ∧ w.grownBy w' none := by
  rcases h with ⟨h1, rfl⟩ | ⟨h1, ⟨h2, rfl⟩ | ⟨n, h2, ⟨h3, rfl⟩ | ⟨_, h3⟩⟩⟩
  · by_cases hI : InB a c d e
    · exact new_2 a b c d e f g hI (fun hP => h1 ⟨hP.1, hP.2.1, hP.2.2, hI.c0, hI.c1, hI.d0, hI.d1, hI.d8, hI.e0, hI.e1⟩) w
    · exact new_1 a b c d e f g hI w
  · obtain ⟨ps, m, F, s0, il, rfl, rfl, rfl, rfl, rfl, hc⟩ := h1.cfg
    exact new_3 hc f g (by simpa [Many] using h2) w
  · obtain ⟨ps, m, F, s0, il, rfl, rfl, rfl, rfl, rfl, hc⟩ := h1.cfg
    exact new_4 hc f g h2.1 (by simpa using h2.2) (by omega) w
  · exact absurd h3 h0

end Go.Proofs.Ytoaaaeefcipdcaa

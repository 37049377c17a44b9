/-
  ClassApart's walk, of whatever came in.
-/
import Derived.Test.YtoaaaeefcipdcaaXj
namespace Go.Proofs.Ytoaaaeefcipdcaa
open Go.RowKit
set_option linter.unusedVariables false

/-- What good gives. -/
theorem good_all (x0 x1 x2 x3 x4 x5 x6 : Int) :
    (∀ W, Calls Try.prog 17 #[.agg #[.int .i64 x0, .int .i64 x1, .int .i64 x2, .int .i64 x3, .int .i64 x4, .int .i64 x5, .int .i64 x6]] W fun x w' => x = .returned (.tuple #[.pointer none, .bool true]) ∧ W.grownBy w' none) ∨
    ∃ (b c d e f g : Int) (A : Ab) (zs : List Int), Inv A ∧ ∀ W, Calls Try.prog 17 #[.agg #[.int .i64 x0, .int .i64 x1, .int .i64 x2, .int .i64 x3, .int .i64 x4, .int .i64 x5, .int .i64 x6]] W fun x w' => ∃ sb G B, x = .returned (.tuple #[.pointer (some ⟨sb, 0, none⟩), .bool false]) ∧ W.grownBy w' none ∧ IsS w' sb G B b c d e f g A zs ∧ ∀ k, G k → W.heap.size ≤ k := by
  obtain ⟨r, hr⟩ := refd_ex x0 x1 x2 x3 x4
  by_cases h0 : r ≠ 0 ∨ 2097152 / x0 < x1
  · exact .inl fun W => good_none x5 x6 hr h0 W
  · have h1 : r = 0 := by
      rcases Classical.em (r = 0) with h | h
      · exact h
      · exact absurd (.inl h) h0
    have h2 : ¬ 2097152 / x0 < x1 := fun h => h0 (.inr h)
    subst h1
    obtain ⟨hV, n, hNC, hmn⟩ := refd_zero hr
    obtain ⟨ps, m, F, s0, il, rfl, rfl, rfl, rfl, rfl, hC⟩ := hV.cfg
    obtain ⟨hn62, hcls⟩ := hNC
    simp only [Int.toNat_natCast] at hcls
    exact .inr ⟨_, _, _, _, _, _, _, _, inv_new hC hn62 hcls, fun W => good_some hC x5 x6 hn62 hcls (by omega) hr h2 W⟩

theorem good_weak {cv : Value} {b c d e f g : Int} {A : Ab} {zs : List Int} (h : ∀ W, Calls Try.prog 17 #[cv] W fun x w' => ∃ sb G B, x = .returned (.tuple #[.pointer (some ⟨sb, 0, none⟩), .bool false]) ∧ W.grownBy w' none ∧ IsS w' sb G B b c d e f g A zs ∧ ∀ k, G k → W.heap.size ≤ k) :
    ∀ W, Calls Try.prog 17 #[cv] W fun x w' => ∃ sb, x = .returned (.tuple #[.pointer (some ⟨sb, 0, none⟩), .bool false]) ∧ W.grownBy w' none := by
  intro W
  refine (h W).mono ?_
  rintro y w' ⟨sb, G, B, rfl, hf, _⟩
  exact ⟨sb, rfl, hf⟩

theorem apart_any (x0 x1 x2 x3 x4 x5 x6 y0 y1 y2 y3 y4 y5 y6 : Int) (a : Option Addr) (n cap : Nat) (hn : n ≤ 9223372036854775807) (w : World) (hin : OpsIn w a n) :
    Calls Try.prog 6 #[.agg #[.int .i64 x0, .int .i64 x1, .int .i64 x2, .int .i64 x3, .int .i64 x4, .int .i64 x5, .int .i64 x6], .agg #[.int .i64 y0, .int .i64 y1, .int .i64 y2, .int .i64 y3, .int .i64 y4, .int .i64 y5, .int .i64 y6], .slice a n cap] w fun e w' => e = .returned (.bool true) ∧ w.grownBy w' none := by
  rcases good_all x0 x1 x2 x3 x4 x5 x6 with hc | ⟨b, c, d, e, f, g, A, zs, hI, hc⟩
  · rcases good_all y0 y1 y2 y3 y4 y5 y6 with hd | ⟨b', c', d', e', f', g', U, zu, hIU, hd⟩
    · exact apart_nn a n cap w hc hd
    · exact apart_ns a n cap w hc (good_weak hd)
  · rcases good_all y0 y1 y2 y3 y4 y5 y6 with hd | ⟨b', c', d', e', f', g', U, zu, hIU, hd⟩
    · exact apart_sn a n cap w (good_weak hc) hd
    · exact apart_ss hI hIU a n cap hn w hin hc hd

end Go.Proofs.Ytoaaaeefcipdcaa

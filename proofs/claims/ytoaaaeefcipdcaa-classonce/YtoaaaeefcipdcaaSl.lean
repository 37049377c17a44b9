import Derived.Test.YtoaaaeefcipdcaaSk
/-
  good, At, Of.
-/
namespace Go.Proofs.Ytoaaaeefcipdcaa
open Go.RowKit
set_option linter.unusedVariables false

/-- Generations are below 2^32. -/
structure Fit2 (A : Ab) : Prop extends Fit1 A where
  gn : ∀ p k, A.gen p k < 4294967296

/-- A chunk begins at x. -/
structure IsC (A : Ab) (x : Int) (p k : Nat) : Prop where
  hp : p < A.np
  hk : k < A.each (A.own p)
  hx : x = A.place p k

def Ab.hdl (A : Ab) (p k : Nat) : Nat := A.gen p k * 4294967296 + A.num p k

theorem num_lt {A : Ab} (hA : Fit1 A) {p k : Nat} (hp : p < A.np) (hk : k < A.each (A.own p)) : A.num p k < 4294967296 ∧ 1 ≤ A.num p k ∧ ((A.num p k : Int) - 1) * 8 = A.place p k := by
  obtain ⟨h1, h2⟩ := place_le hA hp hk
  unfold Ab.num
  omega

section
variable {w : World} {sb : Nat} {F : Nat → Prop} {B : Bl} {b c d e f g : Int} {A : Ab} {zs : List Int}

theorem find_yes (h : IsS w sb F B b c d e f g A zs) (hA : Fit1 A) {x : Int} {p k : Nat} (hC : IsC A x p k) :
    Calls Try.prog 61 #[.pointer (some ⟨sb, 0, none⟩), .int .i64 x] w fun y w' => y = .returned (.tuple #[.pointer (some ⟨B.cb p, k * 2, none⟩), .int .i64 (A.own p)]) ∧ w.grownBy w' none := by
  obtain ⟨hp, hk, rfl⟩ := hC
  obtain ⟨h1, h2, h3⟩ := place_div hA hp hk
  have ho := hA.on p hp
  have hl := hA.lo _ ho
  have e1 : k * A.sz (A.own p) % A.sz (A.own p) = 0 := Nat.mul_mod_left _ _
  have e2 : k * A.sz (A.own p) / A.sz (A.own p) = k := Nat.mul_div_cancel _ (by omega)
  refine find_at h hA (A.place p k) (by rw [h1]; exact hp) _ _ (.inl ?_)
  rw [h1, h2, e1, e2]
  exact ⟨rfl, hk, rfl, rfl⟩
theorem find_no (h : IsS w sb F B b c d e f g A zs) (hA : Fit1 A) {x : Int} (hx9 : x ≤ 9223372036854775807) (hC : ∀ p k, ¬ IsC A x p k) :
    Calls Try.prog 61 #[.pointer (some ⟨sb, 0, none⟩), .int .i64 x] w fun y w' => y = .returned (.tuple #[.pointer none, .int .i64 0]) ∧ w.grownBy w' none := by
  by_cases h0 : x < 0
  · exact find_neg h hA x hx9 (.inl h0)
  · obtain ⟨n, rfl⟩ := Int.eq_ofNat_of_zero_le (show 0 ≤ x by omega)
    by_cases h1 : n / A.ps < A.np
    · refine find_at h hA n h1 _ _ (.inr ⟨?_, rfl, rfl⟩)
      rintro ⟨h2, h3⟩
      refine hC _ _ ⟨h1, h3, ?_⟩
      unfold Ab.place
      have e1 := Nat.div_add_mod n A.ps
      have e2 := Nat.div_add_mod (n % A.ps) (A.sz (A.own (n / A.ps)))
      rw [h2] at e2
      rw [Nat.mul_comm] at e1 e2
      omega
    · refine find_neg h hA n hx9 (.inr ⟨by omega, ?_⟩)
      have : ((n / A.ps : Nat) : Int) = (n : Int) / A.ps := Int.natCast_ediv _ _
      rw [← this]
      omega

/-- The good handle of a chunk. -/
structure IsH (A : Ab) (H p k : Nat) : Prop where
  hp : p < A.np
  hk : k < A.each (A.own p)
  ht : A.tkn p k = true
  hH : H = A.hdl p k
theorem IsH.parts {H p k : Nat} (hA : Fit2 A) (h : IsH A H p k) : H % 4294967296 = A.num p k ∧ H / 4294967296 = A.gen p k ∧ H < 18446744073709551616 := by
  obtain ⟨hp, hk, ht, rfl⟩ := h
  have h1 := (num_lt hA.toFit1 hp hk).1
  have h2 := hA.gn p k
  unfold Ab.hdl
  omega

theorem ccell (h : IsS w sb F B b c d e f g A zs) {p k : Nat} (hp : p < A.np) (hk : k < A.each (A.own p)) : w.cell? ⟨B.cb p, k * 2, none⟩ = some (.int .u32 (A.gen p k)) ∧ w.cell? ⟨B.cb p, k * 2 + 1, none⟩ = some (.bool (A.tkn p k)) := by
  have hb := h.chunks p hp
  have e0 := rng_get (chunkC_len A p) hk (j := 0) (by omega)
  have e1 := rng_get (chunkC_len A p) hk (j := 1) (by omega)
  simp only [chunkC, List.getElem?_cons_zero, List.getElem?_cons_succ, Nat.add_zero] at e0 e1
  constructor
  · rw [cell_of_row w _ _ _ _ _ hb]; simpa using e0
  · rw [cell_of_row w _ _ _ _ _ hb]; simpa using e1

set_option maxRecDepth 100000 in
theorem good_yes (h : IsS w sb F B b c d e f g A zs) (hA : Fit2 A) {H p k : Nat} (hH : IsH A H p k) :
    Calls Try.prog 67 #[.pointer (some ⟨sb, 0, none⟩), .int .u64 H] w fun y w' => y = .returned (.tuple #[.pointer (some ⟨B.cb p, k * 2, none⟩), .int .i64 (A.place p k), .int .i64 (A.own p)]) ∧ w.grownBy w' none := by
  obtain ⟨m1, m2, m3⟩ := hH.parts hA
  obtain ⟨hp, hk, ht, hHd⟩ := hH
  obtain ⟨n1, n2, n3⟩ := num_lt hA.toFit1 hp hk
  obtain ⟨l1, l2⟩ := place_le hA.toFit1 hp hk
  have hpl := placeOf_52 (A.num p k) n1
  rw [n3] at hpl
  have hfd := (find_yes h hA.toFit1 (x := A.place p k) (p := p) (k := k) ⟨hp, hk, rfl⟩).mono (R' := fun y w' => y = .returned (.tuple #[.pointer (some ⟨B.cb p, k * 2, none⟩), .int .i64 (A.own p)]) ∧ w.grownBy w' none ∧ w'.cell? ⟨B.cb p, k * 2, none⟩ = some (.int .u32 (A.gen p k)) ∧ w'.cell? ⟨B.cb p, k * 2 + 1, none⟩ = some (.bool true)) (by
    rintro y w' ⟨rfl, hf⟩
    have := ccell (h.kept0 hf) hp hk
    rw [ht] at this
    exact ⟨rfl, hf, this.1, this.2⟩)
  have hgn := hA.gn p k
  have e1 : IntKind.u32.wrap (H : Int) = A.num p k := by rw [IntKind.wrap_u32]; omega
  have e1' : (H : Int) % 4294967296 = A.num p k := by omega
  have e2 : (H : Int) / 4294967296 = A.gen p k := by omega
  clear h
  generalize A.num p k = num at *
  generalize A.gen p k = gen at *
  have e3 : IntKind.u32.wrap (gen : Int) = gen := by rw [IntKind.wrap_u32]; omega
  clear hHd m1 m2 n3
  generalize A.place p k = pl at *
  generalize A.own p = op at *
  go_enter Try.func67, Try.ntmps67
  go_wp2_with (first | (go_at_call 60; go_must (refine (hpl _).mono ?_); rintro y w' ⟨rfl, rfl⟩) | (go_at_call 61; go_must (refine hfd.mono ?_); rintro y w1 ⟨rfl, hf, d0, d1⟩) | fail)
  go_ret3
  exact ⟨rfl, hf⟩

set_option maxRecDepth 100000 in
theorem good_no (h : IsS w sb F B b c d e f g A zs) (hA : Fit2 A) {H : Nat} (h64 : H < 18446744073709551616) (hH : ∀ p k, ¬ IsH A H p k) :
    Calls Try.prog 67 #[.pointer (some ⟨sb, 0, none⟩), .int .u64 H] w fun y w' => y = .returned (.tuple #[.pointer none, .int .i64 0, .int .i64 0]) ∧ w.grownBy w' none := by
  obtain ⟨num, hnum⟩ : ∃ num, num = H % 4294967296 := ⟨_, rfl⟩
  obtain ⟨gen, hgen⟩ : ∃ gen, gen = H / 4294967296 := ⟨_, rfl⟩
  have n1 : num < 4294967296 := by omega
  have g1 : gen < 4294967296 := by omega
  have hpl := placeOf_52 num n1
  obtain ⟨pl, hpl2⟩ : ∃ pl, pl = ((num : Int) - 1) * 8 := ⟨_, rfl⟩
  rw [← hpl2] at hpl
  have l1 : -8 ≤ pl ∧ pl ≤ 34359738368 := by omega
  have e1 : IntKind.u32.wrap (H : Int) = num := by rw [IntKind.wrap_u32]; omega
  have e1' : (H : Int) % 4294967296 = num := by omega
  have e2 : (H : Int) / 4294967296 = gen := by omega
  have e3 : IntKind.u32.wrap (gen : Int) = gen := by rw [IntKind.wrap_u32]; omega
  by_cases hC : ∃ p k, IsC A pl p k
  · obtain ⟨p, k, hC⟩ := hC
    have hp := hC.hp
    have hk := hC.hk
    have hnp : num = A.num p k := by
      have h1 := hC.hx
      have h2 := (num_lt hA.toFit1 hp hk).2.2
      omega
    have hfd := (find_yes h hA.toFit1 hC).mono (R' := fun y w' => y = .returned (.tuple #[.pointer (some ⟨B.cb p, k * 2, none⟩), .int .i64 (A.own p)]) ∧ w.grownBy w' none ∧ w'.cell? ⟨B.cb p, k * 2, none⟩ = some (.int .u32 (A.gen p k)) ∧ w'.cell? ⟨B.cb p, k * 2 + 1, none⟩ = some (.bool (A.tkn p k))) (by
      rintro y w' ⟨rfl, hf⟩
      have := ccell (h.kept0 hf) hp hk
      exact ⟨rfl, hf, this.1, this.2⟩)
    have hgn := hA.gn p k
    have hne : A.tkn p k = true → A.gen p k ≠ gen := by
      intro ht e
      refine hH p k ⟨hp, hk, ht, ?_⟩
      unfold Ab.hdl
      omega
    clear h hC hk hnp hH hnum hgen hpl2
    generalize A.gen p k = gn at *
    generalize A.own p = op at *
    generalize A.tkn p k = tk at *
    cases tk
    · clear hne
      go_enter Try.func67, Try.ntmps67
      go_wp2_with (first | (go_at_call 60; go_must (refine (hpl _).mono ?_); rintro y w' ⟨rfl, rfl⟩) | (go_at_call 61; go_must (refine hfd.mono ?_); rintro y w1 ⟨rfl, hf, d0, d1⟩) | fail)
      go_ret3
      exact ⟨rfl, hf⟩
    · have hne' := hne rfl
      have hd : decide ((gn : Int) = gen) = false := by simp; omega
      have hd2 : decide (gn = gen) = false := by simpa using hne'
      have hd3 : ((gn : Int) == gen) = false := by simp; omega
      clear hne
      go_enter Try.func67, Try.ntmps67
      go_wp2_with (first | (go_at_call 60; go_must (refine (hpl _).mono ?_); rintro y w' ⟨rfl, rfl⟩) | (go_at_call 61; go_must (refine hfd.mono ?_); rintro y w1 ⟨rfl, hf, d0, d1⟩) | fail)
      go_ret3
      exact ⟨rfl, hf⟩
  · have hfd := find_no h hA.toFit1 (x := pl) (by omega) (fun p k hc => hC ⟨p, k, hc⟩)
    clear h hC hH hnum hgen hpl2
    go_enter Try.func67, Try.ntmps67
    go_wp2_with (first | (go_at_call 60; go_must (refine (hpl _).mono ?_); rintro y w' ⟨rfl, rfl⟩) | (go_at_call 61; go_must (refine hfd.mono ?_); rintro y w1 ⟨rfl, hf⟩) | fail)
    go_ret3
    exact ⟨rfl, hf⟩

theorem at_yes (h : IsS w sb F B b c d e f g A zs) (hA : Fit2 A) {H p k : Nat} (hH : IsH A H p k) :
    Calls Try.prog 26 #[.pointer (some ⟨sb, 0, none⟩), .int .u64 H] w fun y w' => y = .returned (.tuple #[.int .i64 (A.place p k), .int .i64 (A.own p), .int .i64 0]) ∧ w.grownBy w' none := by
  have hg := good_yes h hA hH
  go_enter Try.func26, Try.ntmps26
  go_wp2_with (first | (go_at_call 67; go_must (refine hg.mono ?_); rintro y w1 ⟨rfl, hf⟩) | fail)
  go_ret3
  exact ⟨rfl, hf⟩
theorem at_no (h : IsS w sb F B b c d e f g A zs) (hA : Fit2 A) {H : Nat} (h64 : H < 18446744073709551616) (hH : ∀ p k, ¬ IsH A H p k) :
    Calls Try.prog 26 #[.pointer (some ⟨sb, 0, none⟩), .int .u64 H] w fun y w' => y = .returned (.tuple #[.int .i64 0, .int .i64 0, .int .i64 20]) ∧ w.grownBy w' none := by
  have hg := good_no h hA h64 hH
  clear hH
  go_enter Try.func26, Try.ntmps26
  go_wp2_with (first | (go_at_call 67; go_must (refine hg.mono ?_); rintro y w1 ⟨rfl, hf⟩) | fail)
  go_ret3
  exact ⟨rfl, hf⟩

theorem of_yes (h : IsS w sb F B b c d e f g A zs) (hA : Fit2 A) {x : Int} {p k : Nat} (hC : IsC A x p k) (ht : A.tkn p k = true) :
    Calls Try.prog 66 #[.pointer (some ⟨sb, 0, none⟩), .int .i64 x] w fun y w' => y = .returned (.tuple #[.int .u64 (A.hdl p k), .bool true]) ∧ w.grownBy w' none := by
  have hp := hC.hp
  have hk := hC.hk
  have l1 := (place_le hA.toFit1 hp hk).1
  have hgn := hA.gn p k
  have hfd := (find_yes h hA.toFit1 hC).mono (R' := fun y w' => y = .returned (.tuple #[.pointer (some ⟨B.cb p, k * 2, none⟩), .int .i64 (A.own p)]) ∧ w.grownBy w' none ∧ w'.cell? ⟨B.cb p, k * 2, none⟩ = some (.int .u32 (A.gen p k)) ∧ w'.cell? ⟨B.cb p, k * 2 + 1, none⟩ = some (.bool true)) (by
    rintro y w' ⟨rfl, hf⟩
    have := ccell (h.kept0 hf) hp hk
    rw [ht] at this
    exact ⟨rfl, hf, this.1, this.2⟩)
  obtain ⟨_, _, rfl⟩ := hC
  have hh := handleOf_55 (A.place p k) (A.gen p k) (by omega) hgn
  rw [show A.gen p k * 4294967296 + (A.place p k / 8 + 1) = A.hdl p k from rfl] at hh
  clear h hk
  generalize A.hdl p k = hd at *
  generalize A.gen p k = gn at *
  generalize A.own p = op at *
  generalize A.place p k = pl at *
  go_enter Try.func66, Try.ntmps66
  go_wp2_with (first | (go_at_call 61; go_must (refine hfd.mono ?_); rintro y w1 ⟨rfl, hf, d0, d1⟩) | (go_at_call 63; go_must (refine (hh _).mono ?_); rintro y w' ⟨rfl, rfl⟩) | fail)
  go_ret2
  exact ⟨rfl, hf⟩
theorem of_no (h : IsS w sb F B b c d e f g A zs) (hA : Fit2 A) {x : Int} (hx9 : x ≤ 9223372036854775807) (hC : ∀ p k, IsC A x p k → A.tkn p k = false) :
    Calls Try.prog 66 #[.pointer (some ⟨sb, 0, none⟩), .int .i64 x] w fun y w' => y = .returned (.tuple #[.int .u64 0, .bool false]) ∧ w.grownBy w' none := by
  by_cases hex : ∃ p k, IsC A x p k
  · obtain ⟨p, k, hc⟩ := hex
    have hp := hc.hp
    have hk := hc.hk
    have ht := hC p k hc
    have hfd := (find_yes h hA.toFit1 hc).mono (R' := fun y w' => y = .returned (.tuple #[.pointer (some ⟨B.cb p, k * 2, none⟩), .int .i64 (A.own p)]) ∧ w.grownBy w' none ∧ w'.cell? ⟨B.cb p, k * 2, none⟩ = some (.int .u32 (A.gen p k)) ∧ w'.cell? ⟨B.cb p, k * 2 + 1, none⟩ = some (.bool false)) (by
      rintro y w' ⟨rfl, hf⟩
      have := ccell (h.kept0 hf) hp hk
      rw [ht] at this
      exact ⟨rfl, hf, this.1, this.2⟩)
    clear h hk hC hc ht
    generalize A.gen p k = gn at *
    generalize A.own p = op at *
    go_enter Try.func66, Try.ntmps66
    go_wp2_with (first | (go_at_call 61; go_must (refine hfd.mono ?_); rintro y w1 ⟨rfl, hf, d0, d1⟩) | fail)
    go_ret2
    exact ⟨rfl, hf⟩
  · have hfd := find_no h hA.toFit1 hx9 (fun p k hc => hex ⟨p, k, hc⟩)
    clear h hC hex
    go_enter Try.func66, Try.ntmps66
    go_wp2_with (first | (go_at_call 61; go_must (refine hfd.mono ?_); rintro y w1 ⟨rfl, hf⟩) | fail)
    go_ret2
    exact ⟨rfl, hf⟩
end

end Go.Proofs.Ytoaaaeefcipdcaa

import Derived.Test.YtoaaaeefcipdcaaSj
/-
  find, good, At, Of.
-/
namespace Go.Proofs.Ytoaaaeefcipdcaa
open Go.RowKit
set_option linter.unusedVariables false

theorem placeOf_52 (x : Nat) (hx : x < 4294967296) (w : World) : Calls Try.prog 60 #[.int .u32 x] w fun y w' => y = .returned (.int .i64 (((x : Int) - 1) * 8)) ∧ w = w' := by
  go_enter Try.func60, Try.ntmps60
  go_wp2
  go_ret
  exact ⟨rfl, rfl⟩
theorem numberOf_60 (x : Nat) (hx : x ≤ 2147483648) (w : World) : Calls Try.prog 68 #[.int .i64 x] w fun y w' => y = .returned (.int .u32 ((x / 8 + 1 : Nat) : Int)) ∧ w = w' := by
  have e1 : (x : Int).tdiv 8 = ((x / 8 : Nat) : Int) := by rw [Int.tdiv_eq_ediv_of_nonneg (by omega)]; omega
  have h1 : x / 8 ≤ 268435456 := by omega
  generalize x / 8 = q at *
  have e2 : IntKind.u32.wrap ((q : Int) + 1) = q + 1 := by rw [IntKind.wrap_u32]; omega
  go_enter Try.func68, Try.ntmps68
  go_wp2
  go_ret
  exact ⟨by simp, rfl⟩
theorem handleOf_55 (x g : Nat) (hx : x ≤ 2147483648) (hg : g < 4294967296) (w : World) : Calls Try.prog 63 #[.int .i64 x, .int .u32 g] w fun y w' => y = .returned (.int .u64 ((g * 4294967296 + (x / 8 + 1) : Nat) : Int)) ∧ w = w' := by
  have hn := numberOf_60 x hx
  have h1 : x / 8 + 1 < 4294967296 := by omega
  generalize x / 8 + 1 = q at *
  have e3 : bits BinOp.or IntKind.u64 ((g : Int) * 4294967296) q = ((g * 4294967296 + q : Nat) : Int) := by
    rw [u64_or _ _ (by omega) (by omega) (by omega) (by omega), nat_join 32 _ _ (by omega) (by omega)]
    omega
  have e4 : ((g * 4294967296 + q : Nat) : Int) = (g : Int) * 4294967296 + q := by omega
  rw [e4] at e3 ⊢
  go_enter Try.func63, Try.ntmps63
  go_wp2_with (first | (go_at_call 68; go_must (refine (hn _).mono ?_); rintro y w' ⟨rfl, rfl⟩) | fail)
  go_ret
  exact ⟨rfl, rfl⟩

section
variable {w : World} {sb : Nat} {F : Nat → Prop} {B : Bl} {b c d e f g : Int} {A : Ab} {zs : List Int}

/-- Pages are of classes that there are. -/
structure Fit1 (A : Ab) : Prop extends Fit A where
  on : ∀ p, p < A.np → A.own p < A.n

set_option maxRecDepth 100000 in
set_option maxHeartbeats 2000000 in
theorem find_neg (h : IsS w sb F B b c d e f g A zs) (hA : Fit1 A) (x : Int) (hx9 : x ≤ 9223372036854775807) (hx : x < 0 ∨ (0 ≤ x ∧ (A.np : Int) ≤ x / A.ps)) : Calls Try.prog 61 #[.pointer (some ⟨sb, 0, none⟩), .int .i64 x] w fun y w' => y = .returned (.tuple #[.pointer none, .int .i64 0]) ∧ w.grownBy w' none := by
  have c0 := h.sc 0
  have c9 := h.sc 9
  simp [setC] at c0 c9
  obtain ⟨ao, cp, hpv, _, _, _, h4⟩ := row_shape h.pages
  rw [hpv] at c9
  have hp := hA.ps0
  have h3 := hA.nm
  have hm := hA.mm
  clear h hpv
  generalize A.np = np at *
  generalize A.ps = ps at *
  rcases hx with hx | ⟨hx, hy⟩
  · go_enter Try.func61, Try.ntmps61
    go_wp2
    go_quiet (fail)
    go_wp2
    go_ret2
    exact ⟨rfl, gb_drewN (gb_refl _ _) _⟩
  · obtain ⟨pr, hpr⟩ : ∃ pr, pr = np * ps := ⟨_, rfl⟩
    have hpi : (np : Int) * ps = pr := by rw [hpr]; simp
    have hpb : pr ≤ 1024 * 1048576 := by rw [hpr]; exact Nat.mul_le_mul (by omega) (by omega)
    have hle : (pr : Int) ≤ x := by rw [← hpi]; exact (Int.le_ediv_iff_mul_le (by omega)).1 hy
    have hd : decide ((pr : Int) ≤ x) = true := by simpa using hle
    have hwpr : IntKind.i64.wrap (pr : Int) = pr := by rw [IntKind.wrap_i64]; omega
    clear hpr hy
    go_enter Try.func61, Try.ntmps61
    go_wp2
    go_quiet (fail)
    go_wp2
    go_ret2
    exact ⟨rfl, gb_drewN (gb_refl _ _) _⟩

/-- Division of a chunk's place. -/
theorem place_div {A : Ab} (hA : Fit1 A) {p k : Nat} (hp : p < A.np) (hk : k < A.each (A.own p)) : A.place p k / A.ps = p ∧ A.place p k % A.ps = k * A.sz (A.own p) ∧ A.place p k + A.sz (A.own p) ≤ (p + 1) * A.ps := by
  have ho := hA.on p hp
  have h1 := hA.lo _ ho
  have h2 := (hA.toSzs.each ho).2.2
  have h3 : (k + 1) * A.sz (A.own p) ≤ A.each (A.own p) * A.sz (A.own p) := Nat.mul_le_mul_right _ hk
  rw [Nat.add_mul, Nat.one_mul] at h3
  have h4 := hA.ps0
  have h5 : k * A.sz (A.own p) < A.ps := by omega
  unfold Ab.place
  refine ⟨?_, ?_, ?_⟩
  · rw [Nat.mul_comm, Nat.mul_add_div (by omega), Nat.div_eq_of_lt h5]; omega
  · rw [Nat.mul_comm, Nat.mul_add_mod, Nat.mod_eq_of_lt h5]
  · rw [Nat.add_mul, Nat.one_mul]; omega
theorem place_le {A : Ab} (hA : Fit1 A) {p k : Nat} (hp : p < A.np) (hk : k < A.each (A.own p)) : A.place p k ≤ 1073741824 ∧ A.place p k % 8 = 0 := by
  obtain ⟨_, _, h3⟩ := place_div hA hp hk
  have h4 := hA.ps0
  have h5 := hA.nm
  have h6 := hA.mm
  have h7 : (p + 1) * A.ps ≤ 1024 * 1048576 := Nat.mul_le_mul (by omega) (by omega)
  refine ⟨by omega, ?_⟩
  have h8 := hA.m8 _ (hA.on p hp)
  unfold Ab.place
  have e1 : p * A.ps % 8 = 0 := by rw [Nat.mul_mod, h4.2.2]; simp
  have e2 : k * A.sz (A.own p) % 8 = 0 := by rw [Nat.mul_mod, h8]; simp
  omega

theorem Try.zero188 : (Try.prog.info? 188).map (fun i => (i.zero, i.size, i.bytes)) = some (some (.agg #[.int .i64 0, .slice none 0 0]), 2, 32) := by kernel_rfl

set_option maxRecDepth 100000 in
set_option maxHeartbeats 2000000 in
theorem find_at (h : IsS w sb F B b c d e f g A zs) (hA : Fit1 A) (x : Nat) (hx : x / A.ps < A.np) (v : Value) (o : Int)
    (hv : Hid ((x % A.ps % A.sz (A.own (x / A.ps)) = 0 ∧ x % A.ps / A.sz (A.own (x / A.ps)) < A.each (A.own (x / A.ps)) ∧ v = .pointer (some ⟨B.cb (x / A.ps), x % A.ps / A.sz (A.own (x / A.ps)) * 2, none⟩) ∧ o = A.own (x / A.ps)) ∨
      (¬ (x % A.ps % A.sz (A.own (x / A.ps)) = 0 ∧ x % A.ps / A.sz (A.own (x / A.ps)) < A.each (A.own (x / A.ps))) ∧ v = .pointer none ∧ o = 0))) :
    Calls Try.prog 61 #[.pointer (some ⟨sb, 0, none⟩), .int .i64 x] w fun y w' => y = .returned (.tuple #[v, .int .i64 o]) ∧ w.grownBy w' none := by
  have c0 := h.sc 0
  have c8 := h.sc 8
  have c9 := h.sc 9
  simp [setC] at c0 c8 c9
  obtain ⟨p, hpdef⟩ : ∃ p, p = x / A.ps := ⟨_, rfl⟩
  rw [← hpdef] at hx hv
  obtain ⟨pb, cp, hpv, e0⟩ := h.pcell hx (j := 0) (by omega)
  obtain ⟨pb', cp', hpv', e1⟩ := h.pcell hx (j := 1) (by omega)
  rw [hpv] at hpv'
  simp at hpv'
  obtain ⟨rfl, rfl⟩ := hpv'
  rw [hpv] at c9
  simp only [pageC, List.getElem?_cons_zero, List.getElem?_cons_succ, Nat.add_zero] at e0 e1
  have hon := hA.on p hx
  have k0 := h.kcell hon (j := 0) (by omega)
  simp only [kindC, List.getElem?_cons_zero, Nat.add_zero] at k0
  have hp := hA.ps0
  have h3 := hA.nm
  have hm := hA.mm
  have hlo := hA.lo _ hon
  have hn2 := hA.n2
  have hxp : x < A.np * A.ps := by
    have := Nat.div_add_mod x A.ps
    rw [← hpdef] at this
    have h1 := Nat.mod_lt x (show A.ps > 0 by omega)
    have h2 : (p + 1) * A.ps ≤ A.np * A.ps := Nat.mul_le_mul_right _ hx
    rw [Nat.add_mul, Nat.one_mul, Nat.mul_comm] at h2
    omega
  have hxb : A.np * A.ps ≤ 1024 * 1048576 := Nat.mul_le_mul (by omega) (by omega)
  have hdv : (x : Int).tdiv A.ps = p := by rw [Int.tdiv_eq_ediv_of_nonneg (by omega), hpdef]; exact (Int.natCast_ediv _ _).symm
  have hmd : (x : Int).tmod A.ps = (x % A.ps : Nat) := by rw [Int.tmod_eq_emod_of_nonneg (by omega)]; exact (Int.natCast_emod _ _).symm
  have hrl : x % A.ps < A.ps := Nat.mod_lt _ (by omega)
  generalize x % A.ps = r at *
  have hdr : (r : Int).tdiv (A.sz (A.own p)) = (r / A.sz (A.own p) : Nat) := by rw [Int.tdiv_eq_ediv_of_nonneg (by omega)]; exact (Int.natCast_ediv _ _).symm
  have hmr : (r : Int).tmod (A.sz (A.own p)) = (r % A.sz (A.own p) : Nat) := by rw [Int.tmod_eq_emod_of_nonneg (by omega)]; exact (Int.natCast_emod _ _).symm
  have hrq : r / A.sz (A.own p) ≤ r := Nat.div_le_self _ _
  have hea := hA.toSzs.each hon
  generalize hk : r / A.sz (A.own p) = k at *
  generalize hmm : r % A.sz (A.own p) = mr at *
  have hml : mr ≤ r := by rw [← hmm]; exact Nat.mod_le _ _
  obtain ⟨pr, hpr⟩ : ∃ pr, pr = A.np * A.ps := ⟨_, rfl⟩
  have hpi : (A.np : Int) * A.ps = pr := by rw [hpr]; simp
  rw [← hpr] at hxp hxb
  have hwpr : IntKind.i64.wrap (pr : Int) = pr := by rw [IntKind.wrap_i64]; omega
  clear hpr
  clear hpv hpdef hk hmm h
  generalize A.each (A.own p) = ea at *
  generalize A.sz (A.own p) = s at *
  generalize A.own p = op at *
  generalize B.cb p = cb at *
  generalize A.np = np at *
  generalize A.ps = ps at *
  generalize A.n = n at *
  have hs0 : ¬ s = 0 := by omega
  have hp0 : ¬ ps = 0 := by omega
  have hwp : IntKind.i64.wrap (p : Int) = p := by rw [IntKind.wrap_i64]; omega
  have hwr : IntKind.i64.wrap (r : Int) = r := by rw [IntKind.wrap_i64]; omega
  have hwk : IntKind.i64.wrap (k : Int) = k := by rw [IntKind.wrap_i64]; omega
  have hwm : IntKind.i64.wrap (mr : Int) = mr := by rw [IntKind.wrap_i64]; omega
  have hd1 : decide ((np : Int) ≤ p) = false := by simp; omega
  have hd2 : decide (np ≤ p) = false := by simp; omega
  have hdx : decide ((x : Int) < 0) = false := by simp
  have hd8 : decide ((pr : Int) ≤ x) = false := by simp; omega
  have hd9 : decide (pr ≤ x) = false := by simp; omega
  go_enter Try.func61, Try.ntmps61
  go_wp2
  go_quiet (fail)
  have hFV : w.grownBy (w.drewN nq) none := gb_drewN (gb_refl _ _) _
  generalize w.drewN nq = V at *
  replace c0 := gb_cellN hFV c0
  replace c8 := gb_cellN hFV c8
  replace c9 := gb_cellN hFV c9
  replace e0 := gb_cellN hFV e0
  replace e1 := gb_cellN hFV e1
  replace k0 := gb_cellN hFV k0
  have al := fun (o : Obj) (x : Addr) (v : Value) (hv : V.cell? x = some v) => gb_cellN (World.grownBy_alloc V o none) hv
  have a0 := fun o => al o _ _ c0
  have a8 := fun o => al o _ _ c8
  have a9 := fun o => al o _ _ c9
  have a1 := fun o => al o _ _ e0
  have a2 := fun o => al o _ _ e1
  have ak := fun o => al o _ _ k0
  clear al
  go_wp2
  go_region
  have hbV : Box ((V.alloc (.cells #[.int .i64 op, .slice (some ⟨cb, 0, none⟩) ea ea] 188)).drew) 188 V.heap.size #[.int .i64 op, .slice (some ⟨cb, 0, none⟩) ea ea] := (Box.new V 188 _).kept (gb_drew (gb_refl _ none)) (by simp)
  have hFU : w.grownBy ((V.alloc (.cells #[.int .i64 op, .slice (some ⟨cb, 0, none⟩) ea ea] 188)).drew) none := gb_drew (gb_alloc hFV _)
  have hFVU : V.grownBy ((V.alloc (.cells #[.int .i64 op, .slice (some ⟨cb, 0, none⟩) ea ea] 188)).drew) none := gb_drew (gb_alloc (gb_refl _ _) _)
  generalize (V.alloc (.cells #[.int .i64 op, .slice (some ⟨cb, 0, none⟩) ea ea] 188)).drew = U at *
  have u0 := gb_cellN hFVU c0
  have u8 := gb_cellN hFVU c8
  have uk := gb_cellN hFVU k0
  have v0 := hbV.cell 0
  have v1 := hbV.cell 1
  simp at v0 v1
  generalize V.heap.size = vb at *
  clear a0 a8 a9 a1 a2 ak c0 c8 c9 e0 e1 k0 hFVU hFV hbV
  clear V
  go_wp2
  go_quiet (fail)
  have hFX : U.grownBy (U.drewN nq) none := gb_drewN (gb_refl _ _) _
  generalize U.drewN nq = X at *
  replace v0 := gb_cellN hFX v0
  replace v1 := gb_cellN hFX v1
  replace hFX := gb_trans hFU hFX
  clear u0 u8 uk hFU
  clear U
  rcases hv.out with ⟨h1, h2, h3, h4⟩ | ⟨h1, h2, h3⟩
  · subst h1 h3 h4
    have hd5 : decide ((ea : Int) ≤ k) = false := by simp; omega
    have hd6 : decide (ea ≤ k) = false := by simp; omega
    clear hv
    go_wp2
    go_quiet (fail)
    have hFY : w.grownBy (X.drewN nq) none := gb_drewN hFX _
    have y0 : (X.drewN nq).cell? ⟨vb, 0, none⟩ = some (.int .i64 op) := v0
    have y1 : (X.drewN nq).cell? ⟨vb, 1, none⟩ = some (.slice (some ⟨cb, 0, none⟩) ea ea) := v1
    generalize X.drewN nq = Y at *
    clear v0 v1 hFX
    go_wp2
    go_quiet (fail)
    go_wp2
    go_ret2
    exact ⟨rfl, gb_drewN hFY _⟩
  · subst h2 h3
    by_cases h5 : mr = 0
    · have h6 : ea ≤ k := by
        rcases Nat.lt_or_ge k ea with h | h
        · exact absurd ⟨h5, h⟩ h1
        · exact h
      subst h5
      have hd5 : decide ((ea : Int) ≤ k) = true := by simp; omega
      have hd6 : decide (ea ≤ k) = true := by simp; omega
      clear hv h1
      go_wp2
      go_quiet (fail)
      go_wp2
      go_ret2
      exact ⟨rfl, gb_drewN hFX _⟩
    · have hd5 : decide ((mr : Int) = 0) = false := by simp; omega
      have hd6 : decide (mr = 0) = false := by simp; omega
      have hd7 : ((mr : Int) == 0) = false := by simp; omega
      clear hv h1
      go_wp2
      first | go_quiet (fail) | fail
      go_wp2
      go_ret2
      exact ⟨rfl, gb_drewN hFX _⟩
end

end Go.Proofs.Ytoaaaeefcipdcaa

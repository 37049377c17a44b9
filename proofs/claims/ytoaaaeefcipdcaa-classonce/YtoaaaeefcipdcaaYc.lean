/-
  ClassOnce: adds.
-/
import Derived.Test.YtoaaaeefcipdcaaYb
namespace Go.Proofs.Ytoaaaeefcipdcaa
open Go.RowKit
set_option linter.unusedVariables false

theorem wi (x : Int) (h0 : 0 ≤ x) (h1 : x ≤ 4611686018427387904) : IntKind.i64.wrap x = x := by rw [IntKind.wrap_i64]; omega
theorem ww (x : Int) (h0 : 0 ≤ x) (h1 : x ≤ 4611686018427387904) : wrap64 x = x := by unfold wrap64; omega
/-- Who owns a page, as the Set tells it. -/
def Ab.ow (A : Ab) (p : Nat) : Int := if p < A.np then (A.own p : Nat) else -1
/-- How many of the first pages are the class's. -/
def pgc (ow : Nat → Int) (k p : Nat) : Nat := (List.range p).countP fun q => ow q == (k : Int)
theorem pgc_zero (ow : Nat → Int) (k : Nat) : pgc ow k 0 = 0 := rfl
theorem pgc_succ (ow : Nat → Int) (k p : Nat) : pgc ow k (p + 1) = pgc ow k p + if ow p = (k : Int) then 1 else 0 := by
  unfold pgc
  rw [List.range_succ, List.countP_append]
  simp [List.countP_cons]
theorem pgc_le (ow : Nat → Int) (k p : Nat) : pgc ow k p ≤ p := by
  unfold pgc
  exact Nat.le_trans List.countP_le_length (by simp)
theorem pgc_own (A : Ab) (k p : Nat) (hp : A.np ≤ p) : pgc A.ow k p = (List.range A.np).countP fun q => A.own q = k := by
  induction p with
  | zero =>
    obtain h0 : A.np = 0 := by omega
    rw [h0]; rfl
  | succ p ih =>
    by_cases h : A.np ≤ p
    · rw [pgc_succ, ih h, if_neg (by unfold Ab.ow; rw [if_neg (by omega)]; omega)]
      omega
    · obtain h1 : A.np = p + 1 := by omega
      rw [h1]
      unfold pgc
      refine List.countP_congr fun q hq => ?_
      have hq' := List.mem_range.1 hq
      unfold Ab.ow
      rw [if_pos (by omega)]
      simp
      omega

/-- Where adds stands. -/
structure AdS (w : World) (cs : Array Value) (W : World) : Prop where
  gr : w.grownBy W none
  bx : Box W 23 w.heap.size cs
theorem AdS.step {w W W' : World} {cs : Array Value} (h : AdS w cs W) (hf : W.grownBy W' none) : AdS w cs W' := ⟨gb_trans h.gr hf, h.bx.kept hf (by simp)⟩
theorem AdS.drew {w W : World} {cs : Array Value} (h : AdS w cs W) : AdS w cs W.drew := h.step (gb_drew (gb_refl _ _))
theorem AdS.cc {w W : World} {ps : Int} {b c d e f g : Value} (h : AdS w #[.int .i64 ps, b, c, d, e, f, g] W) : W.cell? ⟨w.heap.size, 0, none⟩ = some (.int .i64 ps) := h.bx.cell 0
theorem AdS.c1 {w W : World} {m : Int} {a c d e f g : Value} (h : AdS w #[a, .int .i64 m, c, d, e, f, g] W) : W.cell? ⟨w.heap.size, 1, none⟩ = some (.int .i64 m) := h.bx.cell 1

set_option maxRecDepth 100000 in
set_option maxHeartbeats 4000000 in
theorem adds_27 {w : World} {sb : Nat} {F : Nat → Prop} {B : Bl} {b c d e f g : Int} {A : Ab} {zs : List Int} (h : IsS w sb F B b c d e f g A zs) (hI : Inv A)
    {tv : Value} {T : List (Nat × Nat × Nat)} {B1 : Nat} (hT : w.ownsRow B1 63 3 tv T.length (pcL T)) (hTo : PcOk T) (hc : ∀ i, i < A.n → cnt T (A.sz i) = A.tk i) :
    Calls Try.prog 27 #[.pointer (some ⟨sb, 0, none⟩), cfgV A.ps b c d e f g, tv] w fun y w' => y = .returned (.bool true) ∧ w.grownBy w' none := by
  have hbm : b = (A.m : Nat) := h.bm
  have hfp := fun W (hf : w.grownBy W none) => freePages_21 (h.kept0 hf) hI.fit.toFit
  have hcl := fun W (hf : w.grownBy W none) => classes_20 (h.kept0 hf) hI.toSzs
  have hch := fun W (hf : w.grownBy W none) => chunk_yes (h.kept0 hf) hI.toSzs
  have hct := fun W (hf : w.grownBy W none) i (hi : i < A.n) => count_22 (row_kept hT hf (by simp)) hTo (A.sz i) (Nat.le_trans (hI.hi i hi) (by have := hI.ps0; omega))
  have htk := fun W (hf : w.grownBy W none) => taken_yes (h.kept0 hf) hI.toSzs
  have hfr := fun W (hf : w.grownBy W none) => free_yes (h.kept0 hf) hI.fit.toFit
  have hqu := fun W (hf : w.grownBy W none) => quota_yes (h.kept0 hf) hI.fit.toFit
  have how : ∀ W (hf : w.grownBy W none) (p : Nat), Calls Try.prog 64 #[.pointer (some ⟨sb, 0, none⟩), .int .i64 p] W fun y w' => y = .returned (.int .i64 (A.ow p)) ∧ W = w' := fun W hf p => by
    unfold Ab.ow
    by_cases hp : p < A.np
    · rw [if_pos hp]; exact owner_yes (h.kept0 hf) hI.fit.toFit p hp
    · rw [if_neg hp]; exact owner_no (h.kept0 hf) hI.fit.toFit p (by omega)
  have hps := fun k p => pgc_succ A.ow k p
  have hpl := fun k p => pgc_le A.ow k p
  have hp0 := fun k => pgc_zero A.ow k
  have hsz := fun i (hi : i < A.n) => hI.lo i hi
  have hea := fun i (hi : i < A.n) => hI.toSzs.each hi
  have hdv : ∀ i, A.ps / A.sz i = A.each i := fun i => rfl
  have hnm := hI.nm
  have hmm := hI.mm
  have hn2 := hI.n2
  have hpe : ∀ k, k < A.n → pgc A.ow k A.m * A.each k = (A.row k).length + A.tk k := fun k hk => by rw [pgc_own A k A.m hnm, hI.rl k hk]
  have hqe : ∀ k, k < A.n → (pgc A.ow k A.m + (A.m - A.np)) * A.each k = A.quota k := fun k hk => by rw [Nat.add_mul, hpe k hk]; rfl
  have hps0 := hI.ps0
  have hbt : ∀ k, k < A.n → (A.row k).length + A.tk k ≤ 16777216 := hI.fit.rt
  have hqb : ∀ k, k < A.n → A.quota k ≤ 33554432 := fun k hk => by
    rw [← hqe k hk]
    have h1 := (hea k hk).2.1
    have h2 := hpl k A.m
    exact Nat.le_trans (Nat.mul_le_mul (show _ ≤ 2048 by omega) h1) (by decide)
  subst hbm
  clear h hI hT hTo
  generalize A.ow = ow at *
  generalize A.each = ea at *
  generalize A.quota = qu at *
  generalize A.tk = tk at *
  generalize A.sz = sz at *
  obtain ⟨rl, hrl⟩ : ∃ rl : Nat → Nat, ∀ k, (A.row k).length = rl k := ⟨fun k => (A.row k).length, fun _ => rfl⟩
  simp only [hrl] at hfr hpe hbt
  clear hrl
  obtain ⟨fp, hfpe⟩ : ∃ fp, fp = A.m - A.np := ⟨_, rfl⟩
  rw [← hfpe] at hfp
  simp only [← hfpe] at hqe
  have hfpl : fp ≤ 1024 := by omega
  clear hfpe hnm
  generalize A.ps = ps at *
  generalize A.m = m at *
  generalize A.n = n at *
  have hal := World.grownBy_alloc w (.cells #[.int .i64 (ps : Nat), .int .i64 (m : Nat), .int .i64 c, .int .i64 d, .int .i64 e, .int .i64 f, .int .i64 g] 23) none
  have hb0 : AdS w #[.int .i64 (ps : Nat), .int .i64 (m : Nat), .int .i64 c, .int .i64 d, .int .i64 e, .int .i64 f, .int .i64 g] _ := ⟨hal, Box.new w 23 #[.int .i64 (ps : Nat), .int .i64 (m : Nat), .int .i64 c, .int .i64 d, .int .i64 e, .int .i64 f, .int .i64 g]⟩
  unfold cfgV
  go_enter Try.func27, Try.ntmps27
  go_wp2_with (first | (go_at_call 58; go_must (refine (hfp _ hb0.gr).mono ?_); rintro y w1 ⟨rfl, q, rfl⟩) | fail)
  have hS1 := hb0.step (gb_drewN (gb_refl _ none) q)
  clear hb0 hal hfp
  generalize World.drewN _ q = w1 at *
  go_loopw [8] (fun x wr => ∃ (k : Nat), k ≤ n ∧ x = .int .i64 k ∧ AdS w #[.int .i64 (ps : Nat), .int .i64 (m : Nat), .int .i64 c, .int .i64 d, .int .i64 e, .int .i64 f, .int .i64 g] wr) (fun x _ => n - (intOf x).toNat)
  case atStart => exact ⟨0, by omega, rfl, hS1⟩
  case round =>
    clear hS1
    obtain ⟨k, hk, rfl, hS⟩ := hrel
    have hcl1 := hcl _ hS.gr
    by_cases hlt : k < n
    · have hd : decide ((k : Int) < n) = true := by simp; omega
      have hd3 : decide (k < n) = true := by simp; omega
      have hch1 := fun W hf => hch W hf k hlt
      have hct1 := fun W hf => hct W hf k hlt
      have htk1 := fun W hf => htk W hf k hlt
      have hfr1 := fun W hf => hfr W hf k hlt
      have hqu1 := fun W hf => hqu W hf k hlt
      have hsz1 := hsz k hlt
      have hea1 := hea k hlt
      have hdv1 := hdv k
      have hpe1 := hpe k hlt
      have hqe1 := hqe k hlt
      have hbt1 := hbt k hlt
      have hqb1 := hqb k hlt
      have hc1 := hc k hlt
      have hps1 := hps k
      have hpl1 := hpl k
      have hp01 := hp0 k
      have hszl : sz k ≤ ps := by
        rcases Nat.lt_or_ge ps (sz k) with hh | hh
        · rw [← hdv1, Nat.div_eq_of_lt hh] at hea1; omega
        · exact hh
      clear hps hpl hp0 hsz hea hdv hpe hqe hbt hqb hch hct htk hfr hqu hcl hc
      rw [hc1] at hct1
      clear hc1
      generalize sz k = s at *
      generalize ea k = E at *
      generalize rl k = R at *
      generalize tk k = N at *
      generalize qu k = Q at *
      go_upto_region 5 with (go_at_call 18; go_must (refine hcl1.mono ?_); rintro y w' ⟨rfl, rfl⟩)
      have hSd := hS.drew
      have e0 := hS.cc
      have hz1 : ((s : Int) == 0) = false := by simp; omega
      have hz2 : (s : Int) ≠ 0 := by omega
      have hz3 : ¬ s = 0 := by omega
      have hdvi : Int.tdiv (ps : Int) (s : Int) = (E : Int) := by rw [Int.tdiv_eq_ediv_of_nonneg (by omega), ← hdv1]; simp
      have hdvj : (ps : Int) / (s : Int) = (E : Int) := by rw [← hdv1]; simp
      have hE0 : (0 : Int) ≤ (E : Int) := by omega
      have hE1 : (E : Int) ≤ 4611686018427387904 := by omega
      have hw1 : wrap64 (E : Int) = (E : Int) := ww _ hE0 hE1
      have hw2 : IntKind.i64.wrap (E : Int) = (E : Int) := wi _ hE0 hE1
      have HSd : Hid (AdS w #[.int .i64 (ps : Nat), .int .i64 (m : Nat), .int .i64 c, .int .i64 d, .int .i64 e, .int .i64 f, .int .i64 g] _) := hSd
      go_cut [9] from 21 to 26 (fun x W => x = .int .i64 (E : Nat) ∧ AdS w #[.int .i64 (ps : Nat), .int .i64 (m : Nat), .int .i64 c, .int .i64 d, .int .i64 e, .int .i64 f, .int .i64 g] W)
      case first =>
        go_region_held3 (fun w' => w'.cell? ⟨w.heap.size, 0, none⟩ = some (.int .i64 (ps : Nat))) ((first | with_reducible exact hS4.cc | with_reducible exact hSd.cc | go_keep)) ((first | (go_at_call 19; with_reducible refine (hch1 _ hSd.gr).mono ?_; rintro y w4 ⟨rfl, hf4⟩; (have hS4 := hSd.step hf4))))
        all_goals
          go_wp2_with fail
          go_meet
          exact ⟨rfl, hS4⟩
      case rest =>
      obtain ⟨rfl, hS4⟩ := hcut
      clear e0 hz1 hz2 hz3 hdvi hdvj hw1 hw2 hdv1 HSd hSd hS hcl1
      go_wp2
      go_loopw [10, 11] (fun y x wr => ∃ (p : Nat), p ≤ m ∧ x = .int .i64 p ∧ y = .int .i64 (pgc ow k p : Nat) ∧ AdS w #[.int .i64 (ps : Nat), .int .i64 (m : Nat), .int .i64 c, .int .i64 d, .int .i64 e, .int .i64 f, .int .i64 g] wr) (fun _ x _ => m - (intOf x).toNat)
      case atStart => exact ⟨0, by omega, rfl, by rw [hp01]; rfl, hS4⟩
      case round =>
        clear hS4
        obtain ⟨p, hp, rfl, rfl, hS⟩ := hrel
        have e1 := hS.c1
        by_cases hlt2 : p < m
        · have hd2 : decide ((p : Int) < m) = true := by simp; omega
          have hd4 : decide (p < m) = true := by simp; omega
          have how1 := how _ hS.gr p
          have hq1 := hps1 p
          have hq2 := hpl1 p
          clear hps1 hpl1 hp01 hpe1 hqe1 hct1 htk1 hfr1 hqu1 hch1 how
          generalize pgc ow k p = P at *
          generalize ow p = o at *
          by_cases ho : o = (k : Int)
          · rw [if_pos ho] at hq1
            have HC : Hid (pgc ow k (p + 1) = P + 1) := hq1
            have HS : Hid (AdS w #[.int .i64 (ps : Nat), .int .i64 (m : Nat), .int .i64 c, .int .i64 d, .int .i64 e, .int .i64 f, .int .i64 g] _) := hS
            have hoe : (o == (k : Int)) = true := by simp [ho]
            clear hq1 hS ho
            go_wp2_with (first | (go_at_call 64; go_must (refine how1.mono ?_); rintro y w' ⟨rfl, rfl⟩) | fail)
            go_roundw
            case rel => exact ⟨p + 1, by omega, by go_num, by rw [HC.out]; go_num, HS.out⟩
            case measure => simp [intOf]; omega
          · rw [if_neg ho] at hq1
            have HC : Hid (pgc ow k (p + 1) = P) := hq1
            have HS : Hid (AdS w #[.int .i64 (ps : Nat), .int .i64 (m : Nat), .int .i64 c, .int .i64 d, .int .i64 e, .int .i64 f, .int .i64 g] _) := hS
            have hoe : (o == (k : Int)) = false := by simp [ho]
            clear hq1 hS
            go_wp2_with (first | (go_at_call 64; go_must (refine how1.mono ?_); rintro y w' ⟨rfl, rfl⟩) | fail)
            go_roundw
            case rel => exact ⟨p + 1, by omega, by go_num, by rw [HC.out], HS.out⟩
            case measure => simp [intOf]; omega
        · obtain rfl : p = m := by omega
          have hd2 : decide ((p : Int) < p) = false := by simp
          have hq2 := hpl1 p
          clear hps1 hpl1 hp01 how
          generalize pgc ow k p = P at *
          have hx1 : ((N : Int) != (N : Int)) = false := by simp
          have hx2 : (((R : Int) + N) != ((P : Int) * E)) = false := by rw [show (P : Int) * E = ((P * E : Nat) : Int) by simp, hpe1]; simp
          have hx3 : ((Q : Int) != ((P : Int) + fp) * E) = false := by rw [show ((P : Int) + fp) * E = (((P + fp) * E : Nat) : Int) by simp, hqe1]; simp
          have hx4 : (P : Int) * E = (R : Int) + N := by rw [show (P : Int) * E = ((P * E : Nat) : Int) by simp, hpe1]; simp
          have hx5 : ((P : Int) + fp) * E = (Q : Int) := by rw [show ((P : Int) + fp) * E = (((P + fp) * E : Nat) : Int) by simp, hqe1]
          have hR0 : (0 : Int) ≤ (R : Int) + N := by omega
          have hR1 : (R : Int) + N ≤ 4611686018427387904 := by omega
          have hQ0 : (0 : Int) ≤ (Q : Int) := by omega
          have hQ1 : (Q : Int) ≤ 4611686018427387904 := by omega
          have hPf0 : (0 : Int) ≤ (P : Int) + fp := by omega
          have hPf1 : (P : Int) + fp ≤ 4611686018427387904 := by omega
          have hx6 : wrap64 ((R : Int) + N) = (R : Int) + N := ww _ hR0 hR1
          have hx7 : IntKind.i64.wrap ((R : Int) + N) = (R : Int) + N := wi _ hR0 hR1
          have hx8 : wrap64 (Q : Int) = (Q : Int) := ww _ hQ0 hQ1
          have hx9 : IntKind.i64.wrap (Q : Int) = (Q : Int) := wi _ hQ0 hQ1
          have hxa : wrap64 ((P : Int) + fp) = (P : Int) + fp := ww _ hPf0 hPf1
          have hxb : IntKind.i64.wrap ((P : Int) + fp) = (P : Int) + fp := wi _ hPf0 hPf1
          have hxc : ((P : Int) + fp) * (E : Int) = (Q : Int) := hx5
          clear hpe1 hqe1 hR0 hR1 hQ0 hQ1 hPf0 hPf1
          go_wp2_with (first
            | (go_at_call 19; go_must (refine (hch1 _ hS.gr).mono ?_); rintro y w1 ⟨rfl, f1⟩; (have hS1 := hS.step f1); clear hS)
            | (go_at_call 22; go_must (refine (hct1 _ hS1.gr).mono ?_); rintro y w2 ⟨rfl, f2⟩; (have hS2 := hS1.step f2); clear hS1)
            | (go_at_call 69; go_must (refine (htk1 _ hS2.gr).mono ?_); rintro y w3 ⟨rfl, f3⟩; (have hS3 := hS2.step f3); clear hS2)
            | (go_at_call 70; go_must (refine (hfr1 _ hS3.gr).mono ?_); rintro y w4 ⟨rfl, f4⟩; (have hS4 := hS3.step f4); clear hS3)
            | (go_at_call 71; go_must (refine (hqu1 _ hS4.gr).mono ?_); rintro y w5 ⟨rfl, f5⟩; (have hS5 := hS4.step f5); clear hS4)
            | fail)
          go_roundw
          case rel => exact ⟨k + 1, by clear hx1 hx2 hx3 hx4 hx5 hx6 hx7 hx8 hx9 hxa hxb hxc; omega, by clear hx1 hx2 hx3 hx4 hx5 hx6 hx7 hx8 hx9 hxa hxb hxc; go_num, hS5⟩
          case measure => clear hx1 hx2 hx3 hx4 hx5 hx6 hx7 hx8 hx9 hxa hxb hxc; simp [intOf]; omega
    · have hd : decide ((k : Int) < n) = false := by simp; omega
      clear hps hpl hp0 hsz hea hdv hpe hqe hbt hqb hch hct htk hfr hqu how hcl hc
      go_wp2_with (first | (go_at_call 18; go_must (refine hcl1.mono ?_); rintro y w' ⟨rfl, rfl⟩) | fail)
      go_ret
      exact ⟨rfl, hS.gr⟩

end Go.Proofs.Ytoaaaeefcipdcaa

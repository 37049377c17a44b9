import Derived.Test.YtoaaaeefcipdcaaXf
import Derived.Test.YtoaaaeefcipdcaaXg
/-
  ClassApart: the Sets and their rows of handles, apart.
-/
namespace Go.Proofs.Ytoaaaeefcipdcaa
open Go.RowKit
set_option linter.unusedVariables false

/-- A Set with the handles that it gave; P: the blocks of both. -/
structure Pt (W0 : Nat) (w : World) (sb : Nat) (b c d e f g : Int) (A : Ab) (hs : List Nat) (hv : Value) (P : Nat → Prop) : Prop where
  set : ∃ F B zs, IsS w sb F B b c d e f g A zs ∧ (∀ k, hv.ownBlock = some k → ¬ F k) ∧ ∀ k, F k ∨ hv.ownBlock = some k ↔ P k
  row : w.ownsRow 0 59 1 hv hs.length (hdls hs)
  lo : ∀ k, P k → W0 ≤ k
  inv : Inv A
  hb : ∀ x, x ∈ hs → x < 18446744073709551616

section
variable {W0 : Nat} {w w' : World} {sb : Nat} {b c d e f g : Int} {A A' : Ab} {hs hs' : List Nat} {hv : Value} {P Q : Nat → Prop}

theorem Pt.lt (h : Pt W0 w sb b c d e f g A hs hv P) : ∀ k, P k → k < w.heap.size := by
  intro k hk
  obtain ⟨F, B, zs, h1, h2, h3⟩ := h.set
  rcases (h3 k).2 hk with h4 | h4
  · exact h1.lt k h4
  · obtain ⟨cur, hc⟩ := row_block h.row k h4
    exact lt_of_block hc

theorem Pt.other (h : Pt W0 w sb b c d e f g A hs hv P) (hK : Kp Q w w') (hd : ∀ k, P k → ¬ Q k) : Pt W0 w' sb b c d e f g A hs hv P := by
  obtain ⟨F, B, zs, h1, h2, h3⟩ := h.set
  exact ⟨⟨F, B, zs, h1.kept hK (fun k hk => hd k ((h3 k).1 (.inl hk))), h2, h3⟩, row_same h.row (fun k hk => hK.block k (h.lt k ((h3 k).1 (.inr hk))) (hd k ((h3 k).1 (.inr hk)))), h.lo, h.inv, h.hb⟩

theorem Pt.kept0 (h : Pt W0 w sb b c d e f g A hs hv P) (hf : w.grownBy w' none) : Pt W0 w' sb b c d e f g A hs hv P :=
  h.other (Kp.of (F := fun _ => False) hf) (fun _ _ h => h)

theorem Pt.one (h : Pt W0 w sb b c d e f g A hs hv P) (h0 : W0 ≤ w.heap.size) {dn an bn : Int} {H : Nat} {raw : Bool} {o : List Int} (hI : Inv A') (hb : ∀ x, x ∈ hs' → x < 18446744073709551616) (hO : OneC A A' dn an bn H raw hs hs' o) (vv : Value) :
    Calls Try.prog 28 #[.pointer (some ⟨sb, 0, none⟩), .agg (opC dn an bn H raw vv), hv] w fun y w' => ∃ ov hv' P', y = .returned (.tuple #[ov, hv']) ∧ w'.ownsRow w.heap.size 3 1 ov o.length (iL o) ∧ Pt W0 w' sb b c d e f g A' hs' hv' P' ∧ Kp P w w' ∧ ∀ k, P' k → P k ∨ w.heap.size ≤ k := by
  obtain ⟨F, B, zs, h1, h2, h3⟩ := h.set
  refine (hO vv h1 h.row h2).mono ?_
  rintro y w' ⟨ov, hv', F', B', zs', rfl, ho, hr, hS, hK, hF', hv2⟩
  have hsub : ∀ k, F' k ∨ hv'.ownBlock = some k → P k ∨ w.heap.size ≤ k := by
    rintro k (hk | hk)
    · exact (hF' k hk).imp (fun hh => (h3 k).1 (.inl hh)) id
    · exact (hv2 k hk).1.imp (fun hh => (h3 k).1 (.inr hh)) id
  refine ⟨ov, hv', fun k => F' k ∨ hv'.ownBlock = some k, rfl, ho, ⟨⟨F', B', zs', hS, fun k hk => (hv2 k hk).2, fun k => Iff.rfl⟩, hr, fun k hk => ?_, hI, hb⟩, hK.mono (fun k hk => .inl ((h3 k).1 hk)), hsub⟩
  rcases hsub k hk with h4 | h4
  · exact h.lo k h4
  · omega
end

/-- The three of them. -/
structure Three (w0 wr : World) (sb tb ub : Nat) (b c d e f g b' c' d' e' f' g' : Int) (A U : Ab) (hs xs : List Nat) (av bv xv : Value) (P Q R : Nat → Prop) : Prop where
  s : Pt w0.heap.size wr sb b c d e f g A hs av P
  t : Pt w0.heap.size wr tb b c d e f g A hs bv Q
  u : Pt w0.heap.size wr ub b' c' d' e' f' g' U xs xv R
  pq : ∀ k, P k → ¬ Q k
  pr : ∀ k, P k → ¬ R k
  qr : ∀ k, Q k → ¬ R k
  gr : w0.grownBy wr none

theorem grown_on {w0 w w' : World} {P : Nat → Prop} (h : w0.grownBy w none) (hK : Kp P w w') (hl : ∀ k, P k → w0.heap.size ≤ k) : w0.grownBy w' none :=
  ((Kp.of (F := fun _ => False) h).trans hK (H := fun _ => False) (fun _ h => h) (fun x hx => .inr (hl x hx))).grown (fun _ h => h.elim)

section
variable {w0 w : World} {sb tb ub : Nat} {b c d e f g b' c' d' e' f' g' : Int} {A A' U U' : Ab} {hs hs' xs xs' : List Nat} {av bv xv : Value} {P Q R : Nat → Prop} {dn an bn : Int} {H : Nat} {raw : Bool} {o : List Int}
theorem Three.kept0 {w' : World} (h : Three w0 w sb tb ub b c d e f g b' c' d' e' f' g' A U hs xs av bv xv P Q R) (hf : w.grownBy w' none) : Three w0 w' sb tb ub b c d e f g b' c' d' e' f' g' A U hs xs av bv xv P Q R :=
  ⟨h.s.kept0 hf, h.t.kept0 hf, h.u.kept0 hf, h.pq, h.pr, h.qr, gb_trans h.gr hf⟩

/-- s has stepped, t not yet. -/
structure Half (w0 wr : World) (sb tb ub : Nat) (b c d e f g b' c' d' e' f' g' : Int) (A A' U : Ab) (hs hs' xs : List Nat) (av bv xv : Value) (P Q R : Nat → Prop) (o : List Int) (ov : Value) : Prop where
  s : Pt w0.heap.size wr sb b c d e f g A' hs' av P
  t : Pt w0.heap.size wr tb b c d e f g A hs bv Q
  u : Pt w0.heap.size wr ub b' c' d' e' f' g' U xs xv R
  pq : ∀ k, P k → ¬ Q k
  pr : ∀ k, P k → ¬ R k
  qr : ∀ k, Q k → ¬ R k
  gr : w0.grownBy wr none
  row : ∃ B0, wr.ownsRow B0 3 1 ov o.length (iL o)
  ro : ∀ k, ov.ownBlock = some k → ¬ Q k ∧ ¬ R k

theorem ownsRow_lo {w : World} {B : Nat} {e : TypeId} {s : Nat} {v : Value} {n : Nat} {xs : List Value} (h : w.ownsRow B e s v n xs) : ∀ k, v.ownBlock = some k → B ≤ k := by
  intro k hk
  rcases h.2 with ⟨rfl, _⟩ | ⟨g, c, cur, rfl, h2, _⟩
  · simp [Value.ownBlock] at hk
  · simp [Value.ownBlock] at hk
    subst hk
    exact h2

theorem Three.one_s (h : Three w0 w sb tb ub b c d e f g b' c' d' e' f' g' A U hs xs av bv xv P Q R) (hI : Inv A') (hb : ∀ x, x ∈ hs' → x < 18446744073709551616) (hO : OneC A A' dn an bn H raw hs hs' o) (vv : Value) :
    Calls Try.prog 28 #[.pointer (some ⟨sb, 0, none⟩), .agg (opC dn an bn H raw vv), av] w fun y w' => ∃ ov av' P', y = .returned (.tuple #[ov, av']) ∧ Half w0 w' sb tb ub b c d e f g b' c' d' e' f' g' A A' U hs hs' xs av' bv xv P' Q R o ov := by
  refine (h.s.one h.gr.size hI hb hO vv).mono ?_
  rintro y w' ⟨ov, hv', P', rfl, ho, hp, hK, hsub⟩
  refine ⟨ov, hv', P', rfl, hp, h.t.other hK (fun k h1 h2 => h.pq k h2 h1), h.u.other hK (fun k h1 h2 => h.pr k h2 h1), fun k h1 h2 => ?_, fun k h1 h2 => ?_, h.qr, grown_on h.gr hK h.s.lo, ⟨_, ho⟩, fun k hk => ?_⟩
  · rcases hsub k h1 with h3 | h3
    · exact h.pq k h3 h2
    · have := h.t.lt k h2; omega
  · rcases hsub k h1 with h3 | h3
    · exact h.pr k h3 h2
    · have := h.u.lt k h2; omega
  · have := ownsRow_lo ho k hk
    exact ⟨fun h2 => by have := h.t.lt k h2; omega, fun h2 => by have := h.u.lt k h2; omega⟩

theorem Half.one_u {ov : Value} (h : Half w0 w sb tb ub b c d e f g b' c' d' e' f' g' A A' U hs hs' xs av bv xv P Q R o ov) (hI : Inv U') (hb : ∀ x, x ∈ xs' → x < 18446744073709551616) {o2 : List Int} (hO : OneC U U' dn an bn H raw xs xs' o2) (vv : Value) :
    Calls Try.prog 28 #[.pointer (some ⟨ub, 0, none⟩), .agg (opC dn an bn H raw vv), xv] w fun y w' => ∃ ov2 xv' R', y = .returned (.tuple #[ov2, xv']) ∧ Half w0 w' sb tb ub b c d e f g b' c' d' e' f' g' A A' U' hs hs' xs' av bv xv' P Q R' o ov := by
  obtain ⟨B0, hrow⟩ := h.row
  refine (h.u.one h.gr.size hI hb hO vv).mono ?_
  rintro y w' ⟨ov2, hv', R', rfl, ho, hp, hK, hsub⟩
  refine ⟨ov2, hv', R', rfl, h.s.other hK h.pr, h.t.other hK h.qr, hp, h.pq, fun k h1 h2 => ?_, fun k h1 h2 => ?_, grown_on h.gr hK h.u.lo, ⟨B0, row_same hrow (fun k hk => ?_)⟩, fun k hk => ⟨(h.ro k hk).1, fun h2 => ?_⟩⟩
  · rcases hsub k h2 with h3 | h3
    · exact h.pr k h1 h3
    · have := h.s.lt k h1; omega
  · rcases hsub k h2 with h3 | h3
    · exact h.qr k h1 h3
    · have := h.t.lt k h1; omega
  · obtain ⟨cur, hc⟩ := row_block hrow k hk
    exact hK.block k (lt_of_block hc) (h.ro k hk).2
  · rcases hsub k h2 with h3 | h3
    · exact (h.ro k hk).2 h3
    · obtain ⟨cur, hc⟩ := row_block hrow k hk
      have := lt_of_block hc
      omega

theorem Half.one_t {ov : Value} (h : Half w0 w sb tb ub b c d e f g b' c' d' e' f' g' A A' U hs hs' xs av bv xv P Q R o ov) (hI : Inv A') (hb : ∀ x, x ∈ hs' → x < 18446744073709551616) (hO : OneC A A' dn an bn H raw hs hs' o) (vv : Value) :
    Calls Try.prog 28 #[.pointer (some ⟨tb, 0, none⟩), .agg (opC dn an bn H raw vv), bv] w fun y w' => ∃ ov2 bv' Q' B1 B2, y = .returned (.tuple #[ov2, bv']) ∧ w'.ownsRow B1 3 1 ov o.length (iL o) ∧ w'.ownsRow B2 3 1 ov2 o.length (iL o) ∧ Three w0 w' sb tb ub b c d e f g b' c' d' e' f' g' A' U hs' xs av bv' xv P Q' R := by
  obtain ⟨B0, hrow⟩ := h.row
  refine (h.t.one h.gr.size hI hb hO vv).mono ?_
  rintro y w' ⟨ov2, hv', Q', rfl, ho, hp, hK, hsub⟩
  refine ⟨ov2, hv', Q', B0, _, rfl, row_same hrow (fun k hk => ?_), ho, h.s.other hK h.pq, hp, h.u.other hK (fun k h1 h2 => h.qr k h2 h1), fun k h1 h2 => ?_, h.pr, fun k h1 h2 => ?_, grown_on h.gr hK h.t.lo⟩
  · obtain ⟨cur, hc⟩ := row_block hrow k hk
    exact hK.block k (lt_of_block hc) (h.ro k hk).1
  · rcases hsub k h2 with h3 | h3
    · exact h.pq k h1 h3
    · have := h.s.lt k h1; omega
  · rcases hsub k h1 with h3 | h3
    · exact h.qr k h3 h2
    · have := h.u.lt k h2; omega

theorem Three.one_u (h : Three w0 w sb tb ub b c d e f g b' c' d' e' f' g' A U hs xs av bv xv P Q R) (hI : Inv U') (hb : ∀ x, x ∈ xs' → x < 18446744073709551616) (hO : OneC U U' dn an bn H raw xs xs' o) (vv : Value) :
    Calls Try.prog 28 #[.pointer (some ⟨ub, 0, none⟩), .agg (opC dn an bn H raw vv), xv] w fun y w' => ∃ ov2 xv' R', y = .returned (.tuple #[ov2, xv']) ∧ Three w0 w' sb tb ub b c d e f g b' c' d' e' f' g' A U' hs xs' av bv xv' P Q R' := by
  refine (h.u.one h.gr.size hI hb hO vv).mono ?_
  rintro y w' ⟨ov2, hv', R', rfl, ho, hp, hK, hsub⟩
  refine ⟨ov2, hv', R', rfl, h.s.other hK h.pr, h.t.other hK h.qr, hp, h.pq, fun k h1 h2 => ?_, fun k h1 h2 => ?_, grown_on h.gr hK h.u.lo⟩
  · rcases hsub k h2 with h3 | h3
    · exact h.pr k h1 h3
    · have := h.s.lt k h1; omega
  · rcases hsub k h2 with h3 | h3
    · exact h.qr k h1 h3
    · have := h.t.lt k h1; omega
end

/-- Operations that came in. -/
def OpsIn (w : World) (a : Option Addr) (n : Nat) : Prop := ∀ i, i < n → ∃ b o, a = some ⟨b, o, none⟩ ∧ ∃ (dn an bn : Int) (H : Nat) (raw : Bool) (vv : Value),
  (w.cell? ⟨b, o + i * 6, none⟩ = some (.int .i64 dn) ∧ w.cell? ⟨b, o + i * 6 + 1, none⟩ = some (.int .i64 an) ∧ w.cell? ⟨b, o + i * 6 + 2, none⟩ = some (.int .i64 bn) ∧ w.cell? ⟨b, o + i * 6 + 3, none⟩ = some (.int .u64 (H : Nat)) ∧ w.cell? ⟨b, o + i * 6 + 4, none⟩ = some (.bool raw) ∧ w.cell? ⟨b, o + i * 6 + 5, none⟩ = some vv) ∧ H < 18446744073709551616
theorem OpsIn.kept0 {w w' : World} {a : Option Addr} {n : Nat} (h : OpsIn w a n) (hf : w.grownBy w' none) : OpsIn w' a n := by
  intro i hi
  obtain ⟨b, o, rfl, dn, an, bn, H, raw, vv, ⟨c0, c1, c2, c3, c4, c5⟩, hH⟩ := h i hi
  exact ⟨b, o, rfl, dn, an, bn, H, raw, vv, ⟨gb_cellN hf c0, gb_cellN hf c1, gb_cellN hf c2, gb_cellN hf c3, gb_cellN hf c4, gb_cellN hf c5⟩, hH⟩

end Go.Proofs.Ytoaaaeefcipdcaa

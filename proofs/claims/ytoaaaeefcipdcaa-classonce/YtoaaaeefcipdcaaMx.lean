import Derived.Test.YtoaaaeefcipdcaaXj
import Derived.Test.YtoaaaeefcipdcaaRows
import Derived.WalkKit
import Derived.ProofKit
import Derived.OpenShut
import Derived.Below
import Derived.Deep.Slices
import Derived.SizedLaws
import Derived.Deep.MidRow
/-
  ClassApart's walk, of whatever came in.
-/
namespace Go.Proofs.Ytoaaaeefcipdcaa
open Go.RowKit
set_option linter.unusedVariables false

/-- What good gives. -/
theorem good_all (x0 x1 x2 x3 x4 x5 x6 : Int) :
    (∀ W, Calls Try.prog 17 #[.agg #[.int .i64 x0, .int .i64 x1, .int .i64 x2, .int .i64 x3, .int .i64 x4, .int .i64 x5, .int .i64 x6]] W fun x w' => x = .returned (.tuple #[.pointer none, .bool true]) ∧ W.grownBy w' none) ∨
    ∃ (b c d e f g : Int) (A : Ab) (zs : List Int), Inv A ∧ ∀ W, Calls Try.prog 17 #[.agg #[.int .i64 x0, .int .i64 x1, .int .i64 x2, .int .i64 x3, .int .i64 x4, .int .i64 x5, .int .i64 x6]] W fun x w' => ∃ sb G B, x = .returned (.tuple #[.pointer (some ⟨sb, 0, none⟩), .bool false]) ∧ W.grownBy w' none ∧ IsS w' sb G B b c d e f g A zs ∧ ∀ k, G k → W.heap.size ≤ k := by
  obtain ⟨r, hr⟩ := refd_ex x0 x1 x2 x3 x4
  by_cases h0 : r ≠ 0 ∨ 2097152 / x0 < x1
  · exact .inl fun W => good_none x5 x6 hr h0 W
  · have h1 : r = 0 := by
      rcases Classical.em (r = 0) with h | h
      · exact h
      · exact absurd (.inl h) h0
    have h2 : ¬ 2097152 / x0 < x1 := fun h => h0 (.inr h)
    subst h1
    obtain ⟨hV, n, hNC, hmn⟩ := refd_zero hr
    obtain ⟨ps, m, F, s0, il, rfl, rfl, rfl, rfl, rfl, hC⟩ := hV.cfg
    obtain ⟨hn62, hcls⟩ := hNC
    simp only [Int.toNat_natCast] at hcls
    exact .inr ⟨_, _, _, _, _, _, _, _, inv_new hC hn62 hcls, fun W => good_some hC x5 x6 hn62 hcls (by omega) hr h2 W⟩

theorem good_weak {cv : Value} {b c d e f g : Int} {A : Ab} {zs : List Int} (h : ∀ W, Calls Try.prog 17 #[cv] W fun x w' => ∃ sb G B, x = .returned (.tuple #[.pointer (some ⟨sb, 0, none⟩), .bool false]) ∧ W.grownBy w' none ∧ IsS w' sb G B b c d e f g A zs ∧ ∀ k, G k → W.heap.size ≤ k) :
    ∀ W, Calls Try.prog 17 #[cv] W fun x w' => ∃ sb, x = .returned (.tuple #[.pointer (some ⟨sb, 0, none⟩), .bool false]) ∧ W.grownBy w' none := by
  intro W
  refine (h W).mono ?_
  rintro y w' ⟨sb, G, B, rfl, hf, _⟩
  exact ⟨sb, rfl, hf⟩

theorem apart_any (x0 x1 x2 x3 x4 x5 x6 y0 y1 y2 y3 y4 y5 y6 : Int) (a : Option Addr) (n cap : Nat) (hn : n ≤ 9223372036854775807) (w : World) (hin : OpsIn w a n) :
    Calls Try.prog 6 #[.agg #[.int .i64 x0, .int .i64 x1, .int .i64 x2, .int .i64 x3, .int .i64 x4, .int .i64 x5, .int .i64 x6], .agg #[.int .i64 y0, .int .i64 y1, .int .i64 y2, .int .i64 y3, .int .i64 y4, .int .i64 y5, .int .i64 y6], .slice a n cap] w fun e w' => e = .returned (.bool true) ∧ w.grownBy w' none := by
  rcases good_all x0 x1 x2 x3 x4 x5 x6 with hc | ⟨b, c, d, e, f, g, A, zs, hI, hc⟩
  · rcases good_all y0 y1 y2 y3 y4 y5 y6 with hd | ⟨b', c', d', e', f', g', U, zu, hIU, hd⟩
    · exact apart_nn a n cap w hc hd
    · exact apart_ns a n cap w hc (good_weak hd)
  · rcases good_all y0 y1 y2 y3 y4 y5 y6 with hd | ⟨b', c', d', e', f', g', U, zu, hIU, hd⟩
    · exact apart_sn a n cap w (good_weak hc) hd
    · exact apart_ss hI hIU a n cap hn w hin hc hd

end Go.Proofs.Ytoaaaeefcipdcaa
/-
  What came in: configs, by value and in slices; numbers.
-/
namespace Go.Proofs.Ytoaaaeefcipdcaa
open Go.ChangeShapes Go.WideShapes Go.ChangeAt Go.RowKit
set_option linter.unusedVariables false

section
variable {H : Type} {enc : TypeId × Value → H} {P : Program} {w : World} {base : Nat} {spare : Nat → Bool} {held : Bool}

theorem one_of {cs : List Value} {o : Nat} {v : Value} (h : (cs.drop o).take 1 = [v]) : cs[o]? = some v := by
  have : ((cs.drop o).take 1)[0]? = some v := by rw [h]; rfl
  simpa using this

theorem field_int {fs : Array Field} {f : Field} {k : IntKind} {t : TypeId} {fuel : Nat} {cs : List Value} {x : DataW H × List MemPlace} (i : Nat) (ht : P.underlying t = some (.struct fs)) (h : DataW.trod enc P w base spare held fuel t cs = some x)
    (hf : fs[i]? = some f) (hk : P.underlying f.type = some (.int k)) (hc : P.cellsOf f.type = 1) : ∃ n, cs[f.offset]? = some (.int k n) ∧ (Lit.int k n).wf = true := by
  obtain ⟨xs, n, _, rfl, hl, hlen, hff⟩ := DataW.trod_struct ht h
  have := hff i f hf
  have hi : i < xs.length := by rw [hlen]; exact (Array.getElem?_eq_some_iff.1 hf).1
  rw [List.getElem?_eq_getElem hi] at this
  obtain ⟨m, h1, _, h3⟩ := DataW.trod_int hk this
  rw [hc] at h1
  exact ⟨m, one_of h1, h3⟩

theorem field_bool {fs : Array Field} {f : Field} {t : TypeId} {fuel : Nat} {cs : List Value} {x : DataW H × List MemPlace} (i : Nat) (ht : P.underlying t = some (.struct fs)) (h : DataW.trod enc P w base spare held fuel t cs = some x)
    (hf : fs[i]? = some f) (hk : P.underlying f.type = some .bool) (hc : P.cellsOf f.type = 1) : ∃ b, cs[f.offset]? = some (.bool b) := by
  obtain ⟨xs, n, _, rfl, hl, hlen, hff⟩ := DataW.trod_struct ht h
  have := hff i f hf
  have hi : i < xs.length := by rw [hlen]; exact (Array.getElem?_eq_some_iff.1 hf).1
  rw [List.getElem?_eq_getElem hi] at this
  obtain ⟨m, h1, _⟩ := DataW.trod_bool hk this
  rw [hc] at h1
  exact ⟨m, one_of h1⟩

theorem plain_of {a : Addr} {v : Value} (h : w.cell? (a.add 0) = some v) : ∃ b o, a = ⟨b, o, none⟩ := by
  have := World.cell?_spot h
  obtain ⟨b, o, s⟩ := a
  refine ⟨b, o, ?_⟩
  simp [Addr.add] at this
  rw [this]
end

theorem list7 {α : Type} {l : List α} {a b c d e f g : α} (h : l.length = 7) (h0 : l[0]? = some a) (h1 : l[1]? = some b) (h2 : l[2]? = some c) (h3 : l[3]? = some d) (h4 : l[4]? = some e) (h5 : l[5]? = some f) (h6 : l[6]? = some g) : l = [a, b, c, d, e, f, g] := by
  match l, h with
  | [_, _, _, _, _, _, _], _ => simp at h0 h1 h2 h3 h4 h5 h6; simp [h0, h1, h2, h3, h4, h5, h6]

theorem cells7 : Try.prog.cellsOf 23 = 7 := by kernel_rfl

/-- The seven numbers of a config's cells. -/
theorem cfg_cells {H : Type} {enc : TypeId × Value → H} {w : World} {base : Nat} {spare : Nat → Bool} {held : Bool} {fuel : Nat} {cs : List Value} {x : DataW H × List MemPlace} (h : DataW.trod enc Try.prog w base spare held fuel 23 cs = some x) :
    ∃ x0 x1 x2 x3 x4 x5 x6 : Int, cs[0]? = some (.int .i64 x0) ∧ cs[1]? = some (.int .i64 x1) ∧ cs[2]? = some (.int .i64 x2) ∧ cs[3]? = some (.int .i64 x3) ∧ cs[4]? = some (.int .i64 x4) ∧ cs[5]? = some (.int .i64 x5) ∧ cs[6]? = some (.int .i64 x6) := by
  obtain ⟨x0, e0, w0⟩ := field_int 0 Try.underlying23 h rfl Try.underlying3 (by kernel_rfl)
  obtain ⟨x1, e1, w1⟩ := field_int 1 Try.underlying23 h rfl Try.underlying3 (by kernel_rfl)
  obtain ⟨x2, e2, w2⟩ := field_int 2 Try.underlying23 h rfl Try.underlying3 (by kernel_rfl)
  obtain ⟨x3, e3, w3⟩ := field_int 3 Try.underlying23 h rfl Try.underlying3 (by kernel_rfl)
  obtain ⟨x4, e4, w4⟩ := field_int 4 Try.underlying23 h rfl Try.underlying3 (by kernel_rfl)
  obtain ⟨x5, e5, w5⟩ := field_int 5 Try.underlying23 h rfl Try.underlying3 (by kernel_rfl)
  obtain ⟨x6, e6, w6⟩ := field_int 6 Try.underlying23 h rfl Try.underlying3 (by kernel_rfl)
  exact ⟨x0, x1, x2, x3, x4, x5, x6, e0, e1, e2, e3, e4, e5, e6⟩

set_option maxRecDepth 100000 in
/-- A config by value. -/
theorem open_cfg {H : Type} {enc : TypeId × Value → H} {w : World} {base : Nat} {spare : Nat → Bool} {held : Bool} {r : Reach} {b0 : Nat} {v : Value} {d : DataW H} {p : List MemPlace}
    (hv : Value.okWide Try.prog w r b0 23 v) (h : DataW.Trod enc Try.prog w base spare held 23 v d p) :
    ∃ x0 x1 x2 x3 x4 x5 x6 : Int, v = .agg #[.int .i64 x0, .int .i64 x1, .int .i64 x2, .int .i64 x3, .int .i64 x4, .int .i64 x5, .int .i64 x6] := by
  obtain ⟨cs, rfl, hsz⟩ := okWide_struct Try.underlying23 hv
  obtain ⟨fuel, hf⟩ := h
  have hf' : DataW.trod enc Try.prog w base spare held fuel 23 cs.toList = some (d, p) := by simpa [Value.cells] using hf
  obtain ⟨x0, x1, x2, x3, x4, x5, x6, e0, e1, e2, e3, e4, e5, e6⟩ := cfg_cells hf'
  refine ⟨x0, x1, x2, x3, x4, x5, x6, ?_⟩
  have := list7 (by rw [cells7] at hsz; simpa using hsz) e0 e1 e2 e3 e4 e5 e6
  congr
  apply Array.ext'
  rw [this]

/-- A slice of configs that came in. -/
def CfgsIn (w : World) (a : Option Addr) (n : Nat) : Prop :=
  ∀ i, i < n → ∃ b o, a = some ⟨b, o, none⟩ ∧ ∃ x0 x1 x2 x3 x4 x5 x6 : Int, w.cell? ⟨b, o + i * 7, none⟩ = some (.int .i64 x0) ∧ w.cell? ⟨b, o + i * 7 + 1, none⟩ = some (.int .i64 x1) ∧ w.cell? ⟨b, o + i * 7 + 2, none⟩ = some (.int .i64 x2) ∧ w.cell? ⟨b, o + i * 7 + 3, none⟩ = some (.int .i64 x3) ∧ w.cell? ⟨b, o + i * 7 + 4, none⟩ = some (.int .i64 x4) ∧ w.cell? ⟨b, o + i * 7 + 5, none⟩ = some (.int .i64 x5) ∧ w.cell? ⟨b, o + i * 7 + 6, none⟩ = some (.int .i64 x6)

/-- A slice of numbers that came in. -/
def IntsIn (w : World) (a : Option Addr) (n : Nat) : Prop :=
  ∀ i, i < n → ∃ b o, a = some ⟨b, o, none⟩ ∧ ∃ x : Int, w.cell? ⟨b, o + i, none⟩ = some (.int .i64 x) ∧ -9223372036854775808 ≤ x ∧ x ≤ 9223372036854775807

set_option maxRecDepth 100000 in
theorem open_ints' {H : Type} {enc : TypeId × Value → H} {w : World} {base : Nat} {spare : Nat → Bool} {held : Bool} {r : Reach} {b0 : Nat} {v : Value} {d : DataW H} {p : List MemPlace}
    (hv : Value.okWide Try.prog w r b0 46 v) (h : DataW.Trod enc Try.prog w base spare held 46 v d p) :
    ∃ a n c, v = .slice a n c ∧ n ≤ maxLen ∧ IntsIn w a n := by
  obtain ⟨a, n, c, rfl⟩ := okWide_slice Try.underlying46 hv
  obtain ⟨fuel, hf⟩ := h
  have hf' : DataW.trod enc Try.prog w base spare held fuel 46 [.slice a n c] = some (d, p) := by simpa [Value.cells] using hf
  refine ⟨a, n, c, rfl, ?_⟩
  rcases Deep.open_slice1 Try.underlying46 (by kernel_rfl) hf' with ⟨hcs, _⟩ | ⟨a', len, cap, m, k, V, D, Pl, hcs, hb, hl, hm, hmm, _, hel⟩
  · simp only [List.cons.injEq, Value.slice.injEq, and_true] at hcs
    obtain ⟨rfl, rfl, rfl⟩ := hcs
    exact ⟨by unfold maxLen; omega, fun i hi => by omega⟩
  · simp only [List.cons.injEq, Value.slice.injEq, and_true] at hcs
    obtain ⟨rfl, rfl, rfl⟩ := hcs
    have one : ∀ i, i < n → ∃ x : Int, w.cell? (a'.add i) = some (.int .i64 x) ∧ (Lit.int .i64 x).wf = true := by
      intro i hi
      obtain ⟨h1, h2⟩ := hel i (by rw [hmm]; split <;> omega)
      obtain ⟨z, h3, _, h5⟩ := DataW.trod_int Try.underlying3 h2
      simp at h3
      exact ⟨z, by rw [h1, h3], h5⟩
    refine ⟨by omega, fun i hi => ?_⟩
    obtain ⟨b, o, rfl⟩ : ∃ b o, a' = ⟨b, o, none⟩ := by
      obtain ⟨x, g, _⟩ := one 0 (by omega)
      exact plain_of g
    obtain ⟨x, g, wf⟩ := one i hi
    rw [Addr.add_mid] at g
    have bb := bounds_i64 wf
    exact ⟨b, o, rfl, x, g, by omega, by omega⟩

end Go.Proofs.Ytoaaaeefcipdcaa
/-
  Operations that came in.
-/
namespace Go.Proofs.Ytoaaaeefcipdcaa
open Go.ChangeShapes Go.WideShapes Go.ChangeAt Go.RowKit
set_option linter.unusedVariables false

theorem cells44 : Try.prog.cellsOf 44 = 6 := by kernel_rfl

section
variable {H : Type} {enc : TypeId × Value → H} {w : World} {base : Nat} {spare : Nat → Bool} {held : Bool}
set_option maxRecDepth 100000 in
theorem open_ops {r : Reach} {b0 : Nat} {v : Value} {d : DataW H} {p : List MemPlace}
    (hv : Value.okWide Try.prog w r b0 24 v) (h : DataW.Trod enc Try.prog w base spare held 24 v d p) :
    ∃ a n c, v = .slice a n c ∧ n ≤ 9223372036854775807 ∧ OpsIn w a n := by
  obtain ⟨a, n, c, rfl⟩ := okWide_slice Try.underlying24 hv
  obtain ⟨fuel, hf⟩ := h
  have hf' : DataW.trod enc Try.prog w base spare held fuel 24 [.slice a n c] = some (d, p) := by simpa [Value.cells] using hf
  refine ⟨a, n, c, rfl, ?_⟩
  rcases Deep.open_slice Try.underlying24 hf' with ⟨hcs, _⟩ | ⟨a', len, cap, m, k, D, Pl, hcs, hb, hl, hm, hmm, hx, hel⟩
  · simp only [List.cons.injEq, Value.slice.injEq, and_true] at hcs
    obtain ⟨rfl, rfl, rfl⟩ := hcs
    exact ⟨by omega, fun i hi => by omega⟩
  · simp only [List.cons.injEq, Value.slice.injEq, and_true] at hcs
    obtain ⟨rfl, rfl, rfl⟩ := hcs
    have six : ∀ i, i < n → ∃ (dn an bn : Int) (hh : Int) (raw : Bool) (vv : Value),
        (w.cell? ((a'.add (i * 6)).add 0) = some (.int .i64 dn) ∧ w.cell? ((a'.add (i * 6)).add 1) = some (.int .i64 an) ∧ w.cell? ((a'.add (i * 6)).add 2) = some (.int .i64 bn) ∧ w.cell? ((a'.add (i * 6)).add 3) = some (.int .u64 hh) ∧ w.cell? ((a'.add (i * 6)).add 4) = some (.bool raw) ∧ w.cell? ((a'.add (i * 6)).add 5) = some vv) ∧ 0 ≤ hh ∧ hh < 18446744073709551616 := by
      intro i hi
      obtain ⟨cs', hc, ht⟩ := hel i (by rw [hmm]; split <;> omega)
      rw [cells44] at hc
      obtain ⟨x0, e0, w0⟩ := field_int 0 Try.underlying44 ht rfl Try.underlying3 (by kernel_rfl)
      obtain ⟨x1, e1, w1⟩ := field_int 1 Try.underlying44 ht rfl Try.underlying3 (by kernel_rfl)
      obtain ⟨x2, e2, w2⟩ := field_int 2 Try.underlying44 ht rfl Try.underlying3 (by kernel_rfl)
      obtain ⟨x3, e3, w3⟩ := field_int 3 Try.underlying44 ht rfl Try.underlying41 (by kernel_rfl)
      obtain ⟨x4, e4⟩ := field_bool 4 Try.underlying44 ht rfl Try.underlying4 (by kernel_rfl)
      have hcell := World.cells?_some hc
      obtain ⟨vv, e5⟩ : ∃ vv, cs'[5]? = some vv := ⟨_, List.getElem?_eq_getElem (by rw [hcell.2.1]; omega)⟩
      have b3 : 0 ≤ x3 ∧ x3 < 18446744073709551616 := by
        have := bounds_u64 w3
        omega
      exact ⟨x0, x1, x2, x3, x4, vv, ⟨(hcell.2.2 0 (by omega)).trans e0, (hcell.2.2 1 (by omega)).trans e1, (hcell.2.2 2 (by omega)).trans e2, (hcell.2.2 3 (by omega)).trans e3, (hcell.2.2 4 (by omega)).trans e4, (hcell.2.2 5 (by omega)).trans e5⟩, b3⟩
    refine ⟨by unfold maxLen at hm; omega, fun i hi => ?_⟩
    obtain ⟨b, o, rfl⟩ : ∃ b o, a' = ⟨b, o, none⟩ := by
      obtain ⟨_, _, _, _, _, _, ⟨g0, _⟩, _⟩ := six 0 (by omega)
      rw [Deep.add_add, Nat.zero_mul] at g0
      exact plain_of g0
    obtain ⟨x0, x1, x2, x3, x4, vv, ⟨g0, g1, g2, g3, g4, g5⟩, r1, r2⟩ := six i hi
    simp only [Addr.add_mid] at g0 g1 g2 g3 g4 g5
    obtain ⟨hn, rfl⟩ : ∃ hn : Nat, x3 = hn := ⟨x3.toNat, by omega⟩
    exact ⟨b, o, rfl, x0, x1, x2, hn, x4, vv, ⟨by simpa using g0, g1, g2, g3, g4, g5⟩, by omega⟩
end

end Go.Proofs.Ytoaaaeefcipdcaa

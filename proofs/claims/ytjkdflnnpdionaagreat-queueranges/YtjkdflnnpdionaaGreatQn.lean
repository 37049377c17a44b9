import Derived.Test.YtjkdflnnpdionaaGreatQm
/-
  A Range that came in.
-/
namespace Go.Proofs.YtjkdflnnpdionaaGreat
open Go.ChangeShapes Go.WideShapes Go.ChangeAt Go.RowKit
set_option linter.unusedVariables false

theorem list4 {α : Type} {l : List α} {a b c d : α} (h : l.length = 4) (h0 : l[0]? = some a) (h1 : l[1]? = some b) (h2 : l[2]? = some c) (h3 : l[3]? = some d) : l = [a, b, c, d] := by
  match l, h with
  | [_, _, _, _], _ => simp at h0 h1 h2 h3; simp [h0, h1, h2, h3]
theorem cells38 : Tryz.prog.cellsOf 38 = 4 := by kernel_rfl
theorem cells52 : Tryz.prog.cellsOf 52 = 5 := by kernel_rfl
section
variable {H : Type} {enc : TypeId × Value → H} {w : World} {base : Nat} {spare : Nat → Bool} {held : Bool}
set_option maxRecDepth 100000 in
theorem open_opsR {fuel : Nat} {cs : List Value} {x : DataW H × List MemPlace} (hf' : DataW.trod enc Tryz.prog w base spare held fuel 22 cs = some x) :
    ∃ a n c, cs = [.slice a n c] ∧ n ≤ maxLen ∧ Ops0In w a n := by
  rcases Deep.open_slice Tryz.underlying22 hf' with ⟨hcs, _⟩ | ⟨a', len, cap, m, k, D, Pl, hcs, hb, hl, hm, hmm, _, hel⟩
  · exact ⟨none, 0, 0, hcs, by unfold maxLen; omega, fun i hi => by omega⟩
  · refine ⟨some a', len, cap, hcs, ?_⟩
    have all : ∀ i, i < len → ∃ (x0 : Int) (x1 : Int) (x2 : Int) (x3 : Int) (x4 : Int) (x5 : Bool), w.cell? ((a'.add (i * 6)).add 0) = some (.int .i64 x0) ∧ w.cell? ((a'.add (i * 6)).add 1) = some (.int .i64 x1) ∧ w.cell? ((a'.add (i * 6)).add 2) = some (.int .i64 x2) ∧ w.cell? ((a'.add (i * 6)).add 3) = some (.int .i64 x3) ∧ w.cell? ((a'.add (i * 6)).add 4) = some (.int .u64 x4) ∧ w.cell? ((a'.add (i * 6)).add 5) = some (.bool x5) ∧ isI x0 ∧ isI x1 ∧ isI x2 ∧ isI x3 ∧ isU x4 := by
      intro i hi
      obtain ⟨cs', hc, ht⟩ := hel i (by rw [hmm]; split <;> omega)
      rw [cells_28] at hc
      obtain ⟨x0, e0, w0⟩ := field_int 0 Tryz.underlying28 ht rfl Tryz.underlying3 (by kernel_rfl)
      obtain ⟨x1, e1, w1⟩ := field_int 1 Tryz.underlying28 ht rfl Tryz.underlying3 (by kernel_rfl)
      obtain ⟨x2, e2, w2⟩ := field_int 2 Tryz.underlying28 ht rfl Tryz.underlying3 (by kernel_rfl)
      obtain ⟨x3, e3, w3⟩ := field_int 3 Tryz.underlying28 ht rfl Tryz.underlying3 (by kernel_rfl)
      obtain ⟨x4, e4, w4⟩ := field_int 4 Tryz.underlying28 ht rfl Tryz.underlying26 (by kernel_rfl)
      obtain ⟨x5, e5⟩ := field_bool 5 Tryz.underlying28 ht rfl Tryz.underlying4 (by kernel_rfl)
      have hcell := World.cells?_some hc
      have g0 := hcell.2.2 0 (by omega)
      have g1 := hcell.2.2 1 (by omega)
      have g2 := hcell.2.2 2 (by omega)
      have g3 := hcell.2.2 3 (by omega)
      have g4 := hcell.2.2 4 (by omega)
      have g5 := hcell.2.2 5 (by omega)
      exact ⟨x0, x1, x2, x3, x4, x5, g0.trans e0, g1.trans e1, g2.trans e2, g3.trans e3, g4.trans e4, g5.trans e5, bounds_i64 w0, bounds_i64 w1, bounds_i64 w2, bounds_i64 w3, bounds_u64 w4⟩
    refine ⟨by omega, fun i hi => ?_⟩
    obtain ⟨b, o, rfl⟩ : ∃ b o, a' = ⟨b, o, none⟩ := by
      obtain ⟨_, _, _, _, _, _, g0, _⟩ := all 0 (by omega)
      rw [Deep.add_add, Nat.zero_mul] at g0
      exact plain_of g0
    obtain ⟨x0, x1, x2, x3, x4, x5, g0, g1, g2, g3, g4, g5, hbb⟩ := all i hi
    simp only [Addr.add_mid] at g0 g1 g2 g3 g4 g5
    refine ⟨b, o, rfl, x0, x1, x2, x3, x4, x5, ?_, ?_, ?_, ?_, ?_, ?_, hbb⟩
    · simpa using g0
    · simpa [Nat.add_assoc] using g1
    · simpa [Nat.add_assoc] using g2
    · simpa [Nat.add_assoc] using g3
    · simpa [Nat.add_assoc] using g4
    · simpa [Nat.add_assoc] using g5
set_option maxRecDepth 100000 in
theorem open_vis {fuel : Nat} {cs : List Value} {x : DataW H × List MemPlace} (hf' : DataW.trod enc Tryz.prog w base spare held fuel 36 cs = some x) :
    ∃ a n c, cs = [.slice a n c] ∧ n ≤ maxLen ∧ VisIn w a n := by
  rcases Deep.open_slice Tryz.underlying36 hf' with ⟨hcs, _⟩ | ⟨a', len, cap, m, k, D, Pl, hcs, hb, hl, hm, hmm, _, hel⟩
  · exact ⟨none, 0, 0, hcs, by unfold maxLen; omega, fun i hi => by omega⟩
  · refine ⟨some a', len, cap, hcs, ?_⟩
    have all : ∀ i, i < len → ∃ (x0 : Int) (x1 : Int) (x2 : Int) (x3 : Bool) (x4 : Bool), w.cell? ((a'.add (i * 5)).add 0) = some (.int .i64 x0) ∧ w.cell? ((a'.add (i * 5)).add 1) = some (.int .i64 x1) ∧ w.cell? ((a'.add (i * 5)).add 2) = some (.int .i64 x2) ∧ w.cell? ((a'.add (i * 5)).add 3) = some (.bool x3) ∧ w.cell? ((a'.add (i * 5)).add 4) = some (.bool x4) := by
      intro i hi
      obtain ⟨cs', hc, ht⟩ := hel i (by rw [hmm]; split <;> omega)
      rw [cells52] at hc
      obtain ⟨x0, e0, _⟩ := field_int 0 Tryz.underlying52 ht rfl Tryz.underlying3 (by kernel_rfl)
      obtain ⟨x1, e1, _⟩ := field_int 1 Tryz.underlying52 ht rfl Tryz.underlying3 (by kernel_rfl)
      obtain ⟨x2, e2, _⟩ := field_int 2 Tryz.underlying52 ht rfl Tryz.underlying3 (by kernel_rfl)
      obtain ⟨x3, e3⟩ := field_bool 3 Tryz.underlying52 ht rfl Tryz.underlying4 (by kernel_rfl)
      obtain ⟨x4, e4⟩ := field_bool 4 Tryz.underlying52 ht rfl Tryz.underlying4 (by kernel_rfl)
      have hcell := World.cells?_some hc
      have g0 := hcell.2.2 0 (by omega)
      have g1 := hcell.2.2 1 (by omega)
      have g2 := hcell.2.2 2 (by omega)
      have g3 := hcell.2.2 3 (by omega)
      have g4 := hcell.2.2 4 (by omega)
      exact ⟨x0, x1, x2, x3, x4, g0.trans e0, g1.trans e1, g2.trans e2, g3.trans e3, g4.trans e4⟩
    refine ⟨by omega, fun i hi => ?_⟩
    obtain ⟨b, o, rfl⟩ : ∃ b o, a' = ⟨b, o, none⟩ := by
      obtain ⟨_, _, _, _, _, g0, _⟩ := all 0 (by omega)
      rw [Deep.add_add, Nat.zero_mul] at g0
      exact plain_of g0
    obtain ⟨x0, x1, x2, x3, x4, g0, g1, g2, g3, g4⟩ := all i hi
    simp only [Addr.add_mid] at g0 g1 g2 g3 g4
    refine ⟨b, o, rfl, x0, x1, x2, x3, x4, ?_, ?_, ?_, ?_, ?_⟩
    · simpa using g0
    · simpa [Nat.add_assoc] using g1
    · simpa [Nat.add_assoc] using g2
    · simpa [Nat.add_assoc] using g3
    · simpa [Nat.add_assoc] using g4
set_option maxRecDepth 100000 in
theorem open_range {r : Reach} {b0 : Nat} {v : Value} {d : DataW H} {p : List MemPlace} (hv : Value.okWide Tryz.prog w r b0 38 v) (h : DataW.Trod enc Tryz.prog w base spare held 38 v d p) :
    ∃ (cc kk : Int) (a va : Option Addr) (n c nv vc : Nat), v = .agg #[.slice a n c, .int .i64 cc, .int .i64 kk, .slice va nv vc] ∧ n ≤ maxLen ∧ Ops0In w a n ∧ nv ≤ maxLen ∧ VisIn w va nv := by
  obtain ⟨cs, rfl, hs⟩ := okWide_struct Tryz.underlying38 hv
  obtain ⟨fuel, hf⟩ := h
  have hf' : DataW.trod enc Tryz.prog w base spare held fuel 38 cs.toList = some (d, p) := by simpa [Value.cells] using hf
  obtain ⟨y1, e1, _⟩ := field_int 1 Tryz.underlying38 hf' rfl Tryz.underlying3 (by kernel_rfl)
  obtain ⟨y2, e2, _⟩ := field_int 2 Tryz.underlying38 hf' rfl Tryz.underlying3 (by kernel_rfl)
  obtain ⟨xs, n, _, hx, hl, hlen, hff⟩ := DataW.trod_struct Tryz.underlying38 hf'
  have h0 : DataW.trod enc Tryz.prog w base spare held n 22 ((cs.toList.drop 0).take (Tryz.prog.cellsOf 22)) = xs[0]? := hff 0 _ rfl
  have h3 : DataW.trod enc Tryz.prog w base spare held n 36 ((cs.toList.drop 3).take (Tryz.prog.cellsOf 36)) = xs[3]? := hff 3 _ rfl
  have hi0 : 0 < xs.length := by rw [hlen]; decide
  have hi3 : 3 < xs.length := by rw [hlen]; decide
  rw [List.getElem?_eq_getElem hi0, show Tryz.prog.cellsOf 22 = 1 by kernel_rfl] at h0
  rw [List.getElem?_eq_getElem hi3, show Tryz.prog.cellsOf 36 = 1 by kernel_rfl] at h3
  obtain ⟨a, na, ca, e0, hna, hO⟩ := open_opsR h0
  obtain ⟨va, nv, vc, e3, hnv, hV⟩ := open_vis h3
  refine ⟨y1, y2, a, va, na, ca, nv, vc, ?_, hna, hO, hnv, hV⟩
  have := list4 (by rw [cells38] at hl; exact hl) (one_of e0) e1 e2 (one_of e3)
  congr
  apply Array.ext'
  rw [this]
end
end Go.Proofs.YtjkdflnnpdionaaGreat

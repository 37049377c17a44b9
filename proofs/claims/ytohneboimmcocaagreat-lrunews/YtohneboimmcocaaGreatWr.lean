import Derived.Test.YtohneboimmcocaaGreatMa
import Derived.ProofKit
import Derived.OpenShut
import Derived.Below
import Derived.Deep.Slices
import Derived.Deep.MidRow
/-
  Slices of Shares that came in.
-/
namespace Go.Proofs.YtohneboimmcocaaGreat
open Go.ChangeShapes Go.WideShapes Go.ChangeAt Go.RowKit
set_option linter.unusedVariables false

def isI (n : Int) : Prop := -9223372036854775808 ≤ n ∧ n < 9223372036854775808
section
variable {H : Type} {enc : TypeId × Value → H} {P : Program} {w : World} {base : Nat} {spare : Nat → Bool} {held : Bool}

theorem one_of {cs : List Value} {o : Nat} {v : Value} (h : (cs.drop o).take 1 = [v]) : cs[o]? = some v := by
  have : ((cs.drop o).take 1)[0]? = some v := by rw [h]; rfl
  simpa using this

theorem field_int {fs : Array Field} {f : Field} {k : IntKind} {t : TypeId} {fuel : Nat} {cs : List Value} {x : DataW H × List MemPlace} (i : Nat) (ht : P.underlying t = some (.struct fs)) (h : DataW.trod enc P w base spare held fuel t cs = some x)
    (hf : fs[i]? = some f) (hk : P.underlying f.type = some (.int k)) (hc : P.cellsOf f.type = 1) : ∃ n, cs[f.offset]? = some (.int k n) ∧ (Lit.int k n).wf = true := by
  obtain ⟨xs, n, _, rfl, hl, hlen, hff⟩ := DataW.trod_struct ht h
  have := hff i f hf
  have hi : i < xs.length := by rw [hlen]; exact (Array.getElem?_eq_some_iff.1 hf).1
  rw [List.getElem?_eq_getElem hi] at this
  obtain ⟨m, h1, _, h3⟩ := DataW.trod_int hk this
  rw [hc] at h1
  exact ⟨m, one_of h1, h3⟩

theorem field_bool {fs : Array Field} {f : Field} {t : TypeId} {fuel : Nat} {cs : List Value} {x : DataW H × List MemPlace} (i : Nat) (ht : P.underlying t = some (.struct fs)) (h : DataW.trod enc P w base spare held fuel t cs = some x)
    (hf : fs[i]? = some f) (hk : P.underlying f.type = some .bool) (hc : P.cellsOf f.type = 1) : ∃ b, cs[f.offset]? = some (.bool b) := by
  obtain ⟨xs, n, _, rfl, hl, hlen, hff⟩ := DataW.trod_struct ht h
  have := hff i f hf
  have hi : i < xs.length := by rw [hlen]; exact (Array.getElem?_eq_some_iff.1 hf).1
  rw [List.getElem?_eq_getElem hi] at this
  obtain ⟨m, h1, _⟩ := DataW.trod_bool hk this
  rw [hc] at h1
  exact ⟨m, one_of h1⟩
end


theorem bounds_i64 {n : Int} (h : (Lit.int .i64 n).wf = true) : isI n := by
  simp [Lit.wf, IntKind.min, IntKind.max, IntKind.bits, IntKind.signed] at h
  unfold isI; omega
theorem plain_of {a : Addr} {w : World} {v : Value} (h : w.cell? (a.add 0) = some v) : ∃ b o, a = ⟨b, o, none⟩ := by
  have := World.cell?_spot h
  obtain ⟨b, o, s⟩ := a
  refine ⟨b, o, ?_⟩
  simp [Addr.add] at this
  rw [this]

/-- A slice of Shares that came in. -/
def SharesIn (w : World) (a : Option Addr) (n : Nat) : Prop :=
  ∀ i, i < n → ∃ b o, a = some ⟨b, o, none⟩ ∧ ∃ (x0 : Int) (x1 : Int), w.cell? ⟨b, o + i * 2, none⟩ = some (.int .i64 x0) ∧ w.cell? ⟨b, o + i * 2 + 1, none⟩ = some (.int .i64 x1) ∧ isI x0 ∧ isI x1
theorem cells_23 : Tryz.prog.cellsOf 23 = 2 := by kernel_rfl

set_option maxRecDepth 100000 in
theorem open_Shares {H : Type} {enc : TypeId × Value → H} {w : World} {base : Nat} {spare : Nat → Bool} {held : Bool} {r : Reach} {b0 : Nat} {v : Value} {d : DataW H} {p : List MemPlace}
    (hv : Value.okWide Tryz.prog w r b0 55 v) (h : DataW.Trod enc Tryz.prog w base spare held 55 v d p) :
    ∃ a n c, v = .slice a n c ∧ n ≤ maxLen ∧ SharesIn w a n := by
  obtain ⟨a, n, c, rfl⟩ := okWide_slice Tryz.underlying55 hv
  obtain ⟨fuel, hf⟩ := h
  have hf' : DataW.trod enc Tryz.prog w base spare held fuel 55 [.slice a n c] = some (d, p) := by simpa [Value.cells] using hf
  refine ⟨a, n, c, rfl, ?_⟩
  rcases Deep.open_slice Tryz.underlying55 hf' with ⟨hcs, _⟩ | ⟨a', len, cap, m, k, D, Pl, hcs, hb, hl, hm, hmm, _, hel⟩
  · simp only [List.cons.injEq, Value.slice.injEq, and_true] at hcs
    obtain ⟨rfl, rfl, rfl⟩ := hcs
    exact ⟨by unfold maxLen; omega, fun i hi => by omega⟩
  · simp only [List.cons.injEq, Value.slice.injEq, and_true] at hcs
    obtain ⟨rfl, rfl, rfl⟩ := hcs
    have all : ∀ i, i < n → ∃ (x0 : Int) (x1 : Int), w.cell? ((a'.add (i * 2)).add 0) = some (.int .i64 x0) ∧ w.cell? ((a'.add (i * 2)).add 1) = some (.int .i64 x1) ∧ isI x0 ∧ isI x1 := by
      intro i hi
      obtain ⟨cs', hc, ht⟩ := hel i (by rw [hmm]; split <;> omega)
      rw [cells_23] at hc
      obtain ⟨x0, e0, w0⟩ := field_int 0 Tryz.underlying23 ht rfl Tryz.underlying3 (by kernel_rfl)
      obtain ⟨x1, e1, w1⟩ := field_int 1 Tryz.underlying23 ht rfl Tryz.underlying3 (by kernel_rfl)
      have hcell := World.cells?_some hc
      have g0 := hcell.2.2 0 (by omega)
      have g1 := hcell.2.2 1 (by omega)
      exact ⟨x0, x1, g0.trans e0, g1.trans e1, bounds_i64 w0, bounds_i64 w1⟩
    refine ⟨by omega, fun i hi => ?_⟩
    obtain ⟨b, o, rfl⟩ : ∃ b o, a' = ⟨b, o, none⟩ := by
      obtain ⟨_, _, g0, _⟩ := all 0 (by omega)
      rw [Deep.add_add, Nat.zero_mul] at g0
      exact plain_of g0
    obtain ⟨x0, x1, g0, g1, hbb⟩ := all i hi
    simp only [Addr.add_mid] at g0 g1
    refine ⟨b, o, rfl, x0, x1, ?_, ?_, hbb⟩
    · simpa using g0
    · simpa [Nat.add_assoc] using g1
end Go.Proofs.YtohneboimmcocaaGreat

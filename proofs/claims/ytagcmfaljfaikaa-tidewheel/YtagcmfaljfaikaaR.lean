/-
  Slices of structs that came in.
-/
import Derived.Test.YtagcmfaljfaikaaQ
import Derived.ProofKit
import Derived.OpenShut
import Derived.Below
import Derived.Deep.Slices
namespace Go.Proofs.Ytagcmfaljfaikaa
open Go.ChangeShapes Go.WideShapes Go.ChangeAt Go.RowKit
set_option linter.unusedVariables false

section
variable {H : Type} {enc : TypeId × Value → H} {P : Program} {w : World} {base : Nat} {spare : Nat → Bool} {held : Bool}

theorem one_of {cs : List Value} {o : Nat} {v : Value} (h : (cs.drop o).take 1 = [v]) : cs[o]? = some v := by
  have : ((cs.drop o).take 1)[0]? = some v := by rw [h]; rfl
  simpa using this

theorem field_int {fs : Array Field} {f : Field} {k : IntKind} {t : TypeId} {fuel : Nat} {cs : List Value} {x : DataW H × List MemPlace} (i : Nat) (ht : P.underlying t = some (.struct fs)) (h : DataW.trod enc P w base spare held fuel t cs = some x)
    (hf : fs[i]? = some f) (hk : P.underlying f.type = some (.int k)) (hc : P.cellsOf f.type = 1) : ∃ n, cs[f.offset]? = some (.int k n) ∧ (Lit.int k n).wf = true := by
  obtain ⟨xs, n, _, rfl, hl, hlen, hff⟩ := DataW.trod_struct ht h
  have := hff i f hf
  have hi : i < xs.length := by rw [hlen]; exact (Array.getElem?_eq_some_iff.1 hf).1
  rw [List.getElem?_eq_getElem hi] at this
  obtain ⟨m, h1, _, h3⟩ := DataW.trod_int hk this
  rw [hc] at h1
  exact ⟨m, one_of h1, h3⟩

theorem field_bool {fs : Array Field} {f : Field} {t : TypeId} {fuel : Nat} {cs : List Value} {x : DataW H × List MemPlace} (i : Nat) (ht : P.underlying t = some (.struct fs)) (h : DataW.trod enc P w base spare held fuel t cs = some x)
    (hf : fs[i]? = some f) (hk : P.underlying f.type = some .bool) (hc : P.cellsOf f.type = 1) : ∃ b, cs[f.offset]? = some (.bool b) := by
  obtain ⟨xs, n, _, rfl, hl, hlen, hff⟩ := DataW.trod_struct ht h
  have := hff i f hf
  have hi : i < xs.length := by rw [hlen]; exact (Array.getElem?_eq_some_iff.1 hf).1
  rw [List.getElem?_eq_getElem hi] at this
  obtain ⟨m, h1, _⟩ := DataW.trod_bool hk this
  rw [hc] at h1
  exact ⟨m, one_of h1⟩
end


theorem bounds_i64 {n : Int} (h : (Lit.int .i64 n).wf = true) : isI n := by
  simp [Lit.wf, IntKind.min, IntKind.max, IntKind.bits, IntKind.signed] at h
  unfold isI; omega
theorem bounds_u64 {n : Int} (h : (Lit.int .u64 n).wf = true) : isH n := by
  simp [Lit.wf, IntKind.min, IntKind.max, IntKind.bits, IntKind.signed] at h
  unfold isH; omega
theorem plain_of {a : Addr} {w : World} {v : Value} (h : w.cell? (a.add 0) = some v) : ∃ b o, a = ⟨b, o, none⟩ := by
  have := World.cell?_spot h
  obtain ⟨b, o, s⟩ := a
  refine ⟨b, o, ?_⟩
  simp [Addr.add] at this
  rw [this]

/-- A slice of Ask that came in. -/
def AskIn (w : World) (a : Option Addr) (n : Nat) : Prop :=
  ∀ i, i < n → ∃ b o, a = some ⟨b, o, none⟩ ∧ ∃ (x0 : Int) (x1 : Int) (x2 : Int) (x3 : Int) (x4 : Int), w.cell? ⟨b, o + i * 5, none⟩ = some (.int .i64 x0) ∧ w.cell? ⟨b, o + i * 5 + 1, none⟩ = some (.int .i64 x1) ∧ w.cell? ⟨b, o + i * 5 + 2, none⟩ = some (.int .i64 x2) ∧ w.cell? ⟨b, o + i * 5 + 3, none⟩ = some (.int .u64 x3) ∧ w.cell? ⟨b, o + i * 5 + 4, none⟩ = some (.int .u64 x4) ∧ isI x0 ∧ isI x1 ∧ isI x2 ∧ isH x3 ∧ isH x4
theorem cells_25 : Try.prog.cellsOf 25 = 5 := by kernel_rfl

set_option maxRecDepth 100000 in
theorem open_Ask {H : Type} {enc : TypeId × Value → H} {w : World} {base : Nat} {spare : Nat → Bool} {held : Bool} {r : Reach} {b0 : Nat} {v : Value} {d : DataW H} {p : List MemPlace}
    (hv : Value.okWide Try.prog w r b0 22 v) (h : DataW.Trod enc Try.prog w base spare held 22 v d p) :
    ∃ a n c, v = .slice a n c ∧ n ≤ maxLen ∧ AskIn w a n := by
  obtain ⟨a, n, c, rfl⟩ := okWide_slice Try.underlying22 hv
  obtain ⟨fuel, hf⟩ := h
  have hf' : DataW.trod enc Try.prog w base spare held fuel 22 [.slice a n c] = some (d, p) := by simpa [Value.cells] using hf
  refine ⟨a, n, c, rfl, ?_⟩
  rcases Deep.open_slice Try.underlying22 hf' with ⟨hcs, _⟩ | ⟨a', len, cap, m, k, D, Pl, hcs, hb, hl, hm, hmm, _, hel⟩
  · simp only [List.cons.injEq, Value.slice.injEq, and_true] at hcs
    obtain ⟨rfl, rfl, rfl⟩ := hcs
    exact ⟨by unfold maxLen; omega, fun i hi => by omega⟩
  · simp only [List.cons.injEq, Value.slice.injEq, and_true] at hcs
    obtain ⟨rfl, rfl, rfl⟩ := hcs
    have all : ∀ i, i < n → ∃ (x0 : Int) (x1 : Int) (x2 : Int) (x3 : Int) (x4 : Int), w.cell? ((a'.add (i * 5)).add 0) = some (.int .i64 x0) ∧ w.cell? ((a'.add (i * 5)).add 1) = some (.int .i64 x1) ∧ w.cell? ((a'.add (i * 5)).add 2) = some (.int .i64 x2) ∧ w.cell? ((a'.add (i * 5)).add 3) = some (.int .u64 x3) ∧ w.cell? ((a'.add (i * 5)).add 4) = some (.int .u64 x4) ∧ isI x0 ∧ isI x1 ∧ isI x2 ∧ isH x3 ∧ isH x4 := by
      intro i hi
      obtain ⟨cs', hc, ht⟩ := hel i (by rw [hmm]; split <;> omega)
      rw [cells_25] at hc
      obtain ⟨x0, e0, w0⟩ := field_int 0 Try.underlying25 ht rfl Try.underlying3 (by kernel_rfl)
      obtain ⟨x1, e1, w1⟩ := field_int 1 Try.underlying25 ht rfl Try.underlying3 (by kernel_rfl)
      obtain ⟨x2, e2, w2⟩ := field_int 2 Try.underlying25 ht rfl Try.underlying3 (by kernel_rfl)
      obtain ⟨x3, e3, w3⟩ := field_int 3 Try.underlying25 ht rfl Try.underlying23 (by kernel_rfl)
      obtain ⟨x4, e4, w4⟩ := field_int 4 Try.underlying25 ht rfl Try.underlying23 (by kernel_rfl)
      have hcell := World.cells?_some hc
      have g0 := hcell.2.2 0 (by omega)
      have g1 := hcell.2.2 1 (by omega)
      have g2 := hcell.2.2 2 (by omega)
      have g3 := hcell.2.2 3 (by omega)
      have g4 := hcell.2.2 4 (by omega)
      exact ⟨x0, x1, x2, x3, x4, g0.trans e0, g1.trans e1, g2.trans e2, g3.trans e3, g4.trans e4, bounds_i64 w0, bounds_i64 w1, bounds_i64 w2, bounds_u64 w3, bounds_u64 w4⟩
    refine ⟨by omega, fun i hi => ?_⟩
    obtain ⟨b, o, rfl⟩ : ∃ b o, a' = ⟨b, o, none⟩ := by
      obtain ⟨_, _, _, _, _, g0, _⟩ := all 0 (by omega)
      rw [Deep.add_add, Nat.zero_mul] at g0
      exact plain_of g0
    obtain ⟨x0, x1, x2, x3, x4, g0, g1, g2, g3, g4, hbb⟩ := all i hi
    simp only [Addr.add_mid] at g0 g1 g2 g3 g4
    refine ⟨b, o, rfl, x0, x1, x2, x3, x4, ?_, ?_, ?_, ?_, ?_, hbb⟩
    · simpa using g0
    · simpa [Nat.add_assoc] using g1
    · simpa [Nat.add_assoc] using g2
    · simpa [Nat.add_assoc] using g3
    · simpa [Nat.add_assoc] using g4

/-- A slice of Op that came in. -/
def OpIn (w : World) (a : Option Addr) (n : Nat) : Prop :=
  ∀ i, i < n → ∃ b o, a = some ⟨b, o, none⟩ ∧ ∃ (x0 : Int) (x1 : Int) (x2 : Int) (x3 : Int) (x4 : Int), w.cell? ⟨b, o + i * 5, none⟩ = some (.int .i64 x0) ∧ w.cell? ⟨b, o + i * 5 + 1, none⟩ = some (.int .i64 x1) ∧ w.cell? ⟨b, o + i * 5 + 2, none⟩ = some (.int .i64 x2) ∧ w.cell? ⟨b, o + i * 5 + 3, none⟩ = some (.int .i64 x3) ∧ w.cell? ⟨b, o + i * 5 + 4, none⟩ = some (.int .u64 x4) ∧ isI x0 ∧ isI x1 ∧ isI x2 ∧ isI x3 ∧ isH x4
theorem cells_40 : Try.prog.cellsOf 40 = 5 := by kernel_rfl

set_option maxRecDepth 100000 in
theorem open_Op {H : Type} {enc : TypeId × Value → H} {w : World} {base : Nat} {spare : Nat → Bool} {held : Bool} {r : Reach} {b0 : Nat} {v : Value} {d : DataW H} {p : List MemPlace}
    (hv : Value.okWide Try.prog w r b0 30 v) (h : DataW.Trod enc Try.prog w base spare held 30 v d p) :
    ∃ a n c, v = .slice a n c ∧ n ≤ maxLen ∧ OpIn w a n := by
  obtain ⟨a, n, c, rfl⟩ := okWide_slice Try.underlying30 hv
  obtain ⟨fuel, hf⟩ := h
  have hf' : DataW.trod enc Try.prog w base spare held fuel 30 [.slice a n c] = some (d, p) := by simpa [Value.cells] using hf
  refine ⟨a, n, c, rfl, ?_⟩
  rcases Deep.open_slice Try.underlying30 hf' with ⟨hcs, _⟩ | ⟨a', len, cap, m, k, D, Pl, hcs, hb, hl, hm, hmm, _, hel⟩
  · simp only [List.cons.injEq, Value.slice.injEq, and_true] at hcs
    obtain ⟨rfl, rfl, rfl⟩ := hcs
    exact ⟨by unfold maxLen; omega, fun i hi => by omega⟩
  · simp only [List.cons.injEq, Value.slice.injEq, and_true] at hcs
    obtain ⟨rfl, rfl, rfl⟩ := hcs
    have all : ∀ i, i < n → ∃ (x0 : Int) (x1 : Int) (x2 : Int) (x3 : Int) (x4 : Int), w.cell? ((a'.add (i * 5)).add 0) = some (.int .i64 x0) ∧ w.cell? ((a'.add (i * 5)).add 1) = some (.int .i64 x1) ∧ w.cell? ((a'.add (i * 5)).add 2) = some (.int .i64 x2) ∧ w.cell? ((a'.add (i * 5)).add 3) = some (.int .i64 x3) ∧ w.cell? ((a'.add (i * 5)).add 4) = some (.int .u64 x4) ∧ isI x0 ∧ isI x1 ∧ isI x2 ∧ isI x3 ∧ isH x4 := by
      intro i hi
      obtain ⟨cs', hc, ht⟩ := hel i (by rw [hmm]; split <;> omega)
      rw [cells_40] at hc
      obtain ⟨x0, e0, w0⟩ := field_int 0 Try.underlying40 ht rfl Try.underlying3 (by kernel_rfl)
      obtain ⟨x1, e1, w1⟩ := field_int 1 Try.underlying40 ht rfl Try.underlying3 (by kernel_rfl)
      obtain ⟨x2, e2, w2⟩ := field_int 2 Try.underlying40 ht rfl Try.underlying3 (by kernel_rfl)
      obtain ⟨x3, e3, w3⟩ := field_int 3 Try.underlying40 ht rfl Try.underlying3 (by kernel_rfl)
      obtain ⟨x4, e4, w4⟩ := field_int 4 Try.underlying40 ht rfl Try.underlying23 (by kernel_rfl)
      have hcell := World.cells?_some hc
      have g0 := hcell.2.2 0 (by omega)
      have g1 := hcell.2.2 1 (by omega)
      have g2 := hcell.2.2 2 (by omega)
      have g3 := hcell.2.2 3 (by omega)
      have g4 := hcell.2.2 4 (by omega)
      exact ⟨x0, x1, x2, x3, x4, g0.trans e0, g1.trans e1, g2.trans e2, g3.trans e3, g4.trans e4, bounds_i64 w0, bounds_i64 w1, bounds_i64 w2, bounds_i64 w3, bounds_u64 w4⟩
    refine ⟨by omega, fun i hi => ?_⟩
    obtain ⟨b, o, rfl⟩ : ∃ b o, a' = ⟨b, o, none⟩ := by
      obtain ⟨_, _, _, _, _, g0, _⟩ := all 0 (by omega)
      rw [Deep.add_add, Nat.zero_mul] at g0
      exact plain_of g0
    obtain ⟨x0, x1, x2, x3, x4, g0, g1, g2, g3, g4, hbb⟩ := all i hi
    simp only [Addr.add_mid] at g0 g1 g2 g3 g4
    refine ⟨b, o, rfl, x0, x1, x2, x3, x4, ?_, ?_, ?_, ?_, ?_, hbb⟩
    · simpa using g0
    · simpa [Nat.add_assoc] using g1
    · simpa [Nat.add_assoc] using g2
    · simpa [Nat.add_assoc] using g3
    · simpa [Nat.add_assoc] using g4

/-- A slice of Day that came in. -/
def DayIn (w : World) (a : Option Addr) (n : Nat) : Prop :=
  ∀ i, i < n → ∃ b o, a = some ⟨b, o, none⟩ ∧ ∃ (x0 : Int) (x1 : Int) (x2 : Bool), w.cell? ⟨b, o + i * 3, none⟩ = some (.int .i64 x0) ∧ w.cell? ⟨b, o + i * 3 + 1, none⟩ = some (.int .i64 x1) ∧ w.cell? ⟨b, o + i * 3 + 2, none⟩ = some (.bool x2) ∧ isI x0 ∧ isI x1
theorem cells_79 : Try.prog.cellsOf 79 = 3 := by kernel_rfl

set_option maxRecDepth 100000 in
theorem open_Day {H : Type} {enc : TypeId × Value → H} {w : World} {base : Nat} {spare : Nat → Bool} {held : Bool} {r : Reach} {b0 : Nat} {v : Value} {d : DataW H} {p : List MemPlace}
    (hv : Value.okWide Try.prog w r b0 70 v) (h : DataW.Trod enc Try.prog w base spare held 70 v d p) :
    ∃ a n c, v = .slice a n c ∧ n ≤ maxLen ∧ DayIn w a n := by
  obtain ⟨a, n, c, rfl⟩ := okWide_slice Try.underlying70 hv
  obtain ⟨fuel, hf⟩ := h
  have hf' : DataW.trod enc Try.prog w base spare held fuel 70 [.slice a n c] = some (d, p) := by simpa [Value.cells] using hf
  refine ⟨a, n, c, rfl, ?_⟩
  rcases Deep.open_slice Try.underlying70 hf' with ⟨hcs, _⟩ | ⟨a', len, cap, m, k, D, Pl, hcs, hb, hl, hm, hmm, _, hel⟩
  · simp only [List.cons.injEq, Value.slice.injEq, and_true] at hcs
    obtain ⟨rfl, rfl, rfl⟩ := hcs
    exact ⟨by unfold maxLen; omega, fun i hi => by omega⟩
  · simp only [List.cons.injEq, Value.slice.injEq, and_true] at hcs
    obtain ⟨rfl, rfl, rfl⟩ := hcs
    have all : ∀ i, i < n → ∃ (x0 : Int) (x1 : Int) (x2 : Bool), w.cell? ((a'.add (i * 3)).add 0) = some (.int .i64 x0) ∧ w.cell? ((a'.add (i * 3)).add 1) = some (.int .i64 x1) ∧ w.cell? ((a'.add (i * 3)).add 2) = some (.bool x2) ∧ isI x0 ∧ isI x1 := by
      intro i hi
      obtain ⟨cs', hc, ht⟩ := hel i (by rw [hmm]; split <;> omega)
      rw [cells_79] at hc
      obtain ⟨x0, e0, w0⟩ := field_int 0 Try.underlying79 ht rfl Try.underlying3 (by kernel_rfl)
      obtain ⟨x1, e1, w1⟩ := field_int 1 Try.underlying79 ht rfl Try.underlying3 (by kernel_rfl)
      obtain ⟨x2, e2⟩ := field_bool 2 Try.underlying79 ht rfl Try.underlying4 (by kernel_rfl)
      have hcell := World.cells?_some hc
      have g0 := hcell.2.2 0 (by omega)
      have g1 := hcell.2.2 1 (by omega)
      have g2 := hcell.2.2 2 (by omega)
      exact ⟨x0, x1, x2, g0.trans e0, g1.trans e1, g2.trans e2, bounds_i64 w0, bounds_i64 w1⟩
    refine ⟨by omega, fun i hi => ?_⟩
    obtain ⟨b, o, rfl⟩ : ∃ b o, a' = ⟨b, o, none⟩ := by
      obtain ⟨_, _, _, g0, _⟩ := all 0 (by omega)
      rw [Deep.add_add, Nat.zero_mul] at g0
      exact plain_of g0
    obtain ⟨x0, x1, x2, g0, g1, g2, hbb⟩ := all i hi
    simp only [Addr.add_mid] at g0 g1 g2
    refine ⟨b, o, rfl, x0, x1, x2, ?_, ?_, ?_, hbb⟩
    · simpa using g0
    · simpa [Nat.add_assoc] using g1
    · simpa [Nat.add_assoc] using g2

/-- A slice of Put that came in. -/
def PutIn (w : World) (a : Option Addr) (n : Nat) : Prop :=
  ∀ i, i < n → ∃ b o, a = some ⟨b, o, none⟩ ∧ ∃ (x0 : Int) (x1 : Int), w.cell? ⟨b, o + i * 2, none⟩ = some (.int .i64 x0) ∧ w.cell? ⟨b, o + i * 2 + 1, none⟩ = some (.int .i64 x1) ∧ isI x0 ∧ isI x1
theorem cells_87 : Try.prog.cellsOf 87 = 2 := by kernel_rfl

set_option maxRecDepth 100000 in
theorem open_Put {H : Type} {enc : TypeId × Value → H} {w : World} {base : Nat} {spare : Nat → Bool} {held : Bool} {r : Reach} {b0 : Nat} {v : Value} {d : DataW H} {p : List MemPlace}
    (hv : Value.okWide Try.prog w r b0 84 v) (h : DataW.Trod enc Try.prog w base spare held 84 v d p) :
    ∃ a n c, v = .slice a n c ∧ n ≤ maxLen ∧ PutIn w a n := by
  obtain ⟨a, n, c, rfl⟩ := okWide_slice Try.underlying84 hv
  obtain ⟨fuel, hf⟩ := h
  have hf' : DataW.trod enc Try.prog w base spare held fuel 84 [.slice a n c] = some (d, p) := by simpa [Value.cells] using hf
  refine ⟨a, n, c, rfl, ?_⟩
  rcases Deep.open_slice Try.underlying84 hf' with ⟨hcs, _⟩ | ⟨a', len, cap, m, k, D, Pl, hcs, hb, hl, hm, hmm, _, hel⟩
  · simp only [List.cons.injEq, Value.slice.injEq, and_true] at hcs
    obtain ⟨rfl, rfl, rfl⟩ := hcs
    exact ⟨by unfold maxLen; omega, fun i hi => by omega⟩
  · simp only [List.cons.injEq, Value.slice.injEq, and_true] at hcs
    obtain ⟨rfl, rfl, rfl⟩ := hcs
    have all : ∀ i, i < n → ∃ (x0 : Int) (x1 : Int), w.cell? ((a'.add (i * 2)).add 0) = some (.int .i64 x0) ∧ w.cell? ((a'.add (i * 2)).add 1) = some (.int .i64 x1) ∧ isI x0 ∧ isI x1 := by
      intro i hi
      obtain ⟨cs', hc, ht⟩ := hel i (by rw [hmm]; split <;> omega)
      rw [cells_87] at hc
      obtain ⟨x0, e0, w0⟩ := field_int 0 Try.underlying87 ht rfl Try.underlying3 (by kernel_rfl)
      obtain ⟨x1, e1, w1⟩ := field_int 1 Try.underlying87 ht rfl Try.underlying3 (by kernel_rfl)
      have hcell := World.cells?_some hc
      have g0 := hcell.2.2 0 (by omega)
      have g1 := hcell.2.2 1 (by omega)
      exact ⟨x0, x1, g0.trans e0, g1.trans e1, bounds_i64 w0, bounds_i64 w1⟩
    refine ⟨by omega, fun i hi => ?_⟩
    obtain ⟨b, o, rfl⟩ : ∃ b o, a' = ⟨b, o, none⟩ := by
      obtain ⟨_, _, g0, _⟩ := all 0 (by omega)
      rw [Deep.add_add, Nat.zero_mul] at g0
      exact plain_of g0
    obtain ⟨x0, x1, g0, g1, hbb⟩ := all i hi
    simp only [Addr.add_mid] at g0 g1
    refine ⟨b, o, rfl, x0, x1, ?_, ?_, hbb⟩
    · simpa using g0
    · simpa [Nat.add_assoc] using g1

end Go.Proofs.Ytagcmfaljfaikaa

/-
  A Wrap that came in.
-/
import Derived.Test.YtndjimdegkdljaaRows
import Derived.Test.YtndjimdegkdljaaZq
import Derived.WalkKit
import Derived.ProofKit
import Derived.OpenShut
import Derived.Below
import Derived.Deep.Slices
namespace Go.Proofs.Ytndjimdegkdljaa
open Go.ChangeShapes Go.WideShapes Go.ChangeAt Go.RowKit
set_option linter.unusedVariables false

section
variable {H : Type} {enc : TypeId × Value → H} {P : Program} {w : World} {base : Nat} {spare : Nat → Bool} {held : Bool}
theorem one_of {cs : List Value} {o : Nat} {v : Value} (h : (cs.drop o).take 1 = [v]) : cs[o]? = some v := by
  have : ((cs.drop o).take 1)[0]? = some v := by rw [h]; rfl
  simpa using this
theorem field_int {fs : Array Field} {f : Field} {k : IntKind} {t : TypeId} {fuel : Nat} {cs : List Value} {x : DataW H × List MemPlace} (i : Nat) (ht : P.underlying t = some (.struct fs)) (h : DataW.trod enc P w base spare held fuel t cs = some x)
    (hf : fs[i]? = some f) (hk : P.underlying f.type = some (.int k)) (hc : P.cellsOf f.type = 1) : ∃ n, cs[f.offset]? = some (.int k n) ∧ (Lit.int k n).wf = true := by
  obtain ⟨xs, n, _, rfl, hl, hlen, hff⟩ := DataW.trod_struct ht h
  have := hff i f hf
  have hi : i < xs.length := by rw [hlen]; exact (Array.getElem?_eq_some_iff.1 hf).1
  rw [List.getElem?_eq_getElem hi] at this
  obtain ⟨m, h1, _, h3⟩ := DataW.trod_int hk this
  rw [hc] at h1
  exact ⟨m, one_of h1, h3⟩
theorem field_str {fs : Array Field} {f : Field} {t : TypeId} {fuel : Nat} {cs : List Value} {x : DataW H × List MemPlace} (i : Nat) (ht : P.underlying t = some (.struct fs)) (h : DataW.trod enc P w base spare held fuel t cs = some x)
    (hf : fs[i]? = some f) (hk : P.underlying f.type = some .string) (hc : P.cellsOf f.type = 1) : ∃ s : Bs, cs[f.offset]? = some (sv s) ∧ s.length ≤ maxLen := by
  obtain ⟨xs, n, _, rfl, hl, hlen, hff⟩ := DataW.trod_struct ht h
  have := hff i f hf
  have hi : i < xs.length := by rw [hlen]; exact (Array.getElem?_eq_some_iff.1 hf).1
  rw [List.getElem?_eq_getElem hi] at this
  obtain ⟨s, h1, _, h3⟩ := DataW.trod_string hk this
  rw [hc] at h1
  refine ⟨s.data.toList, ?_, by rw [Array.length_toList]; exact h3⟩
  rw [one_of h1]
theorem plain_of {a : Addr} {v : Value} (h : w.cell? (a.add 0) = some v) : ∃ b o, a = ⟨b, o, none⟩ := by
  have := World.cell?_spot h
  obtain ⟨b, o, s⟩ := a
  refine ⟨b, o, ?_⟩
  simp [Addr.add] at this
  rw [this]
end
theorem list4 {α : Type} {l : List α} {a b c d : α} (h : l.length = 4) (h0 : l[0]? = some a) (h1 : l[1]? = some b) (h2 : l[2]? = some c) (h3 : l[3]? = some d) : l = [a, b, c, d] := by
  match l, h with
  | [_, _, _, _], _ => simp at h0 h1 h2 h3; simp [h0, h1, h2, h3]
theorem cells44 : Try.prog.cellsOf 44 = 8 := by kernel_rfl
theorem cells50 : Try.prog.cellsOf 50 = 4 := by kernel_rfl
section
variable {H : Type} {enc : TypeId × Value → H} {w : World} {base : Nat} {spare : Nat → Bool} {held : Bool}
set_option maxRecDepth 100000 in
theorem open_acts {fuel : Nat} {cs : List Value} {x : DataW H × List MemPlace} (hf' : DataW.trod enc Try.prog w base spare held fuel 23 cs = some x) :
    ∃ a n c, cs = [.slice a n c] ∧ n ≤ maxLen ∧ ActIn w a n := by
  rcases Deep.open_slice Try.underlying23 hf' with ⟨hcs, _⟩ | ⟨a', len, cap, m, k, D, Pl, hcs, hb, hl, hm, hmm, _, hel⟩
  · exact ⟨none, 0, 0, hcs, by unfold maxLen; omega, fun i hi => by omega⟩
  · refine ⟨some a', len, cap, hcs, ?_⟩
    have all : ∀ i, i < len → ∃ (x0 : Int) (x1 : Int) (s : Bs), w.cell? ((a'.add (i * 8)).add 0) = some (.int .i64 x0) ∧ w.cell? ((a'.add (i * 8)).add 1) = some (.int .i64 x1) ∧ w.cell? ((a'.add (i * 8)).add 2) = some (sv s) ∧ s.length ≤ maxLen := by
      intro i hi
      obtain ⟨cs', hc, ht⟩ := hel i (by rw [hmm]; split <;> omega)
      rw [cells44] at hc
      obtain ⟨x0, e0, _⟩ := field_int 0 Try.underlying44 ht rfl Try.underlying3 (by kernel_rfl)
      obtain ⟨x1, e1, _⟩ := field_int 1 Try.underlying44 ht rfl Try.underlying3 (by kernel_rfl)
      obtain ⟨s, e2, hs⟩ := field_str 2 Try.underlying44 ht rfl Try.underlying9 (by kernel_rfl)
      have hcell := World.cells?_some hc
      have g0 := hcell.2.2 0 (by omega)
      have g1 := hcell.2.2 1 (by omega)
      have g2 := hcell.2.2 2 (by omega)
      exact ⟨x0, x1, s, g0.trans e0, g1.trans e1, g2.trans e2, hs⟩
    refine ⟨by omega, fun i hi => ?_⟩
    obtain ⟨b, o, rfl⟩ : ∃ b o, a' = ⟨b, o, none⟩ := by
      obtain ⟨_, _, _, g0, _⟩ := all 0 (by omega)
      rw [Deep.add_add, Nat.zero_mul] at g0
      exact plain_of g0
    obtain ⟨x0, x1, s, g0, g1, g2, hs⟩ := all i hi
    simp only [Addr.add_mid] at g0 g1 g2
    refine ⟨b, o, rfl, x1, s, ?_, ?_, by unfold maxLen at hs; exact hs⟩
    · simpa [Nat.add_assoc] using g1
    · simpa [Nat.add_assoc] using g2
set_option maxRecDepth 100000 in
theorem open_wrap {r : Go.Reach} {b0 : Nat} {v : Value} {d : DataW H} {p : List MemPlace} (hv : Value.okWide Try.prog w r b0 50 v) (h : DataW.Trod enc Try.prog w base spare held 50 v d p) :
    ∃ (a : Option Addr) (n c : Nat) (cl nm : Bs) (why : Int), v = .agg #[.slice a n c, sv cl, sv nm, .int .i64 why] ∧ n ≤ maxLen ∧ ActIn w a n ∧ cl.length ≤ maxLen ∧ nm.length ≤ maxLen := by
  obtain ⟨cs, rfl, hs⟩ := okWide_struct Try.underlying50 hv
  obtain ⟨fuel, hf⟩ := h
  have hf' : DataW.trod enc Try.prog w base spare held fuel 50 cs.toList = some (d, p) := by simpa [Value.cells] using hf
  obtain ⟨cl, e1, hcl⟩ := field_str 1 Try.underlying50 hf' rfl Try.underlying9 (by kernel_rfl)
  obtain ⟨nm, e2, hnm⟩ := field_str 2 Try.underlying50 hf' rfl Try.underlying9 (by kernel_rfl)
  obtain ⟨why, e3, _⟩ := field_int 3 Try.underlying50 hf' rfl Try.underlying3 (by kernel_rfl)
  obtain ⟨xs, n, _, hx, hl, hlen, hff⟩ := DataW.trod_struct Try.underlying50 hf'
  have h0 : DataW.trod enc Try.prog w base spare held n 23 ((cs.toList.drop 0).take (Try.prog.cellsOf 23)) = xs[0]? := hff 0 _ rfl
  have hi0 : 0 < xs.length := by rw [hlen]; decide
  rw [List.getElem?_eq_getElem hi0, show Try.prog.cellsOf 23 = 1 by kernel_rfl] at h0
  obtain ⟨a, na, ca, e0, hna, hO⟩ := open_acts h0
  refine ⟨a, na, ca, cl, nm, why, ?_, hna, hO, hcl, hnm⟩
  have := list4 (by rw [cells50] at hl; exact hl) (one_of e0) e1 e2 e3
  congr
  apply Array.ext'
  rw [this]
end
end Go.Proofs.Ytndjimdegkdljaa

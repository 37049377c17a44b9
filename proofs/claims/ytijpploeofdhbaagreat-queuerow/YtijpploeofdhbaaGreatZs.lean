import Derived.Test.YtijpploeofdhbaaGreatRows
import Derived.WalkKit
import Derived.ProofKit
import Derived.OpenShut
import Derived.Below
import Derived.Deep.Slices
import Derived.Test.YtijpploeofdhbaaGreatZi
/-
  A Row that came in.
-/
namespace Go.Proofs.YtijpploeofdhbaaGreat
open Go.ChangeShapes Go.WideShapes Go.ChangeAt Go.RowKit
set_option linter.unusedVariables false

section
variable {H : Type} {enc : TypeId × Value → H} {P : Program} {w : World} {base : Nat} {spare : Nat → Bool} {held : Bool}
theorem one_of {cs : List Value} {o : Nat} {v : Value} (h : (cs.drop o).take 1 = [v]) : cs[o]? = some v := by
  have : ((cs.drop o).take 1)[0]? = some v := by rw [h]; rfl
  simpa using this
theorem field_int {fs : Array Field} {f : Field} {k : IntKind} {t : TypeId} {fuel : Nat} {cs : List Value} {x : DataW H × List MemPlace} (i : Nat) (ht : P.underlying t = some (.struct fs)) (h : DataW.trod enc P w base spare held fuel t cs = some x)
    (hf : fs[i]? = some f) (hk : P.underlying f.type = some (.int k)) (hc : P.cellsOf f.type = 1) : ∃ n, cs[f.offset]? = some (.int k n) ∧ (Lit.int k n).wf = true := by
  obtain ⟨xs, n, _, rfl, hl, hlen, hff⟩ := DataW.trod_struct ht h
  have := hff i f hf
  have hi : i < xs.length := by rw [hlen]; exact (Array.getElem?_eq_some_iff.1 hf).1
  rw [List.getElem?_eq_getElem hi] at this
  obtain ⟨m, h1, _, h3⟩ := DataW.trod_int hk this
  rw [hc] at h1
  exact ⟨m, one_of h1, h3⟩
theorem plain_at {a : Addr} {v : Value} (h : w.cell? (a.add 0) = some v) : ∃ b o, a = ⟨b, o, none⟩ := by
  have := World.cell?_spot h
  obtain ⟨b, o, s⟩ := a
  refine ⟨b, o, ?_⟩
  simp [Addr.add] at this
  rw [this]
end
theorem list4 {α : Type} {l : List α} {a b c d : α} (h : l.length = 4) (h0 : l[0]? = some a) (h1 : l[1]? = some b) (h2 : l[2]? = some c) (h3 : l[3]? = some d) : l = [a, b, c, d] := by
  match l, h with
  | [_, _, _, _], _ => simp at h0 h1 h2 h3; simp [h0, h1, h2, h3]
theorem cells62 : Tryz.prog.cellsOf 62 = 4 := by kernel_rfl

section
variable {H : Type} {enc : TypeId × Value → H} {w : World} {base : Nat} {spare : Nat → Bool} {held : Bool}
theorem open_bools {fuel : Nat} {cs : List Value} {x : DataW H × List MemPlace} (h : DataW.trod enc Tryz.prog w base spare held fuel 60 cs = some x) :
    ∃ sa sn sc, cs = [.slice sa sn sc] ∧ ∀ j, j < sn → ∃ g o b, sa = some ⟨g, o, none⟩ ∧ w.cell? ⟨g, o + j, none⟩ = some (.bool b) := by
  rcases Deep.open_slice1 Tryz.underlying60 (by kernel_rfl) h with ⟨hcs, _⟩ | ⟨a, len, cap, m, n, V, D, Pl, hcs, hb, hl, hm, hmm, hx, hel⟩
  · exact ⟨none, 0, 0, hcs, fun j hj => by omega⟩
  · have hlm : len ≤ m := by rw [hmm]; split <;> omega
    have hbl : ∀ i, i < len → ∃ b : Bool, w.cell? (a.add i) = some (.bool b) := by
      intro i hi
      obtain ⟨h1, h2⟩ := hel i (by omega)
      obtain ⟨z, h3, _⟩ := DataW.trod_bool Tryz.underlying4 h2
      simp at h3
      exact ⟨z, by rw [h1, h3]⟩
    refine ⟨some a, len, cap, hcs, fun j hj => ?_⟩
    obtain ⟨b0, hb0⟩ := hbl 0 (by omega)
    obtain ⟨g, o, rfl⟩ := plain_at hb0
    obtain ⟨b, hb⟩ := hbl j hj
    rw [Addr.add_mid] at hb
    exact ⟨g, o, b, rfl, hb⟩

set_option maxRecDepth 100000 in
theorem open_row62 {r : Reach} {b0 : Nat} {v : Value} {d : DataW H} {p : List MemPlace} (hv : Value.okWide Tryz.prog w r b0 62 v) (h : DataW.Trod enc Tryz.prog w base spare held 62 v d p) :
    ∃ (N Kd Sh : Int) (a : Option Addr) (m c : Nat), v = .agg #[.int .i64 N, .int .i64 Kd, .int .i64 Sh, .slice a m c] ∧ ∀ j, j < m → ∃ g o b, a = some ⟨g, o, none⟩ ∧ w.cell? ⟨g, o + j, none⟩ = some (.bool b) := by
  obtain ⟨cs, rfl, hs⟩ := okWide_struct Tryz.underlying62 hv
  obtain ⟨fuel, hf⟩ := h
  have hf' : DataW.trod enc Tryz.prog w base spare held fuel 62 cs.toList = some (d, p) := by simpa [Value.cells] using hf
  obtain ⟨y0, e0, _⟩ := field_int 0 Tryz.underlying62 hf' rfl Tryz.underlying3 (by kernel_rfl)
  obtain ⟨y1, e1, _⟩ := field_int 1 Tryz.underlying62 hf' rfl Tryz.underlying3 (by kernel_rfl)
  obtain ⟨y2, e2, _⟩ := field_int 2 Tryz.underlying62 hf' rfl Tryz.underlying3 (by kernel_rfl)
  obtain ⟨xs, n, _, hx, hl, hlen, hff⟩ := DataW.trod_struct Tryz.underlying62 hf'
  have h2 : DataW.trod enc Tryz.prog w base spare held n 60 ((cs.toList.drop 3).take (Tryz.prog.cellsOf 60)) = xs[3]? := hff 3 _ rfl
  have hi : 3 < xs.length := by rw [hlen]; decide
  rw [List.getElem?_eq_getElem hi, show Tryz.prog.cellsOf 60 = 1 by kernel_rfl] at h2
  obtain ⟨sa, sn, sc, e3, hb⟩ := open_bools h2
  refine ⟨y0, y1, y2, sa, sn, sc, ?_, hb⟩
  have := list4 (by rw [cells62] at hl; exact hl) e0 e1 e2 (one_of e3)
  congr
  apply Array.ext'
  rw [this]
end
end Go.Proofs.YtijpploeofdhbaaGreat

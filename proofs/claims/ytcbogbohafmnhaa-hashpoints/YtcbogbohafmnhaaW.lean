/-
  Names that came in.
-/
import Derived.Test.YtcbogbohafmnhaaU
namespace Go.Proofs.Ytcbogbohafmnhaa
open Go.ChangeShapes Go.WideShapes Go.ChangeAt Go.RowKit
set_option linter.unusedVariables false

theorem cells40 : Try.prog.cellsOf 40 = 2 := by kernel_rfl
theorem bytes40 : Try.prog.bytesOf 40 = 24 := by kernel_rfl

section
variable {H : Type} {enc : TypeId × Value → H} {w : World} {base : Nat} {spare : Nat → Bool} {held : Bool}
set_option maxRecDepth 100000 in
theorem open_names {r : Reach} {b0 : Nat} {v : Value} {d : DataW H} {p : List MemPlace}
    (hv : Value.okWide Try.prog w r b0 37 v) (h : DataW.Trod enc Try.prog w base spare held 37 v d p) (hsz : ∀ k ∈ d.weights Try.prog 37, k ≤ 140737488351232) :
    ∃ a n c, v = .slice a n c ∧ n ≤ 5864062014805 ∧ NaIn w a n := by
  obtain ⟨a, n, c, rfl⟩ := okWide_slice Try.underlying37 hv
  obtain ⟨fuel, hf⟩ := h
  have hf' : DataW.trod enc Try.prog w base spare held fuel 37 [.slice a n c] = some (d, p) := by simpa [Value.cells] using hf
  refine ⟨a, n, c, rfl, ?_⟩
  rcases Deep.open_slice Try.underlying37 hf' with ⟨hcs, _⟩ | ⟨a', len, cap, m, k, D, Pl, hcs, hb, hl, hm, hmm, hx, hel⟩
  · simp only [List.cons.injEq, Value.slice.injEq, and_true] at hcs
    obtain ⟨rfl, rfl, rfl⟩ := hcs
    exact ⟨by omega, fun i hi => by omega⟩
  · simp only [List.cons.injEq, Value.slice.injEq, and_true] at hcs
    obtain ⟨rfl, rfl, rfl⟩ := hcs
    have hlen : n ≤ 5864062014805 := by
      have hw := hsz ((n + (m - n)) * 24) (by
        rw [show d = _ from congrArg Prod.fst hx]
        simp [DataW.weights, Try.underlying37, bytes40])
      omega
    have thr : ∀ i, i < n → ∃ (s : ByteArray) (x1 : Int),
        (w.cell? ((a'.add (i * 2)).add 0) = some (.string s) ∧ w.cell? ((a'.add (i * 2)).add 1) = some (.int .i64 x1)) ∧ s.size ≤ maxLen := by
      intro i hi
      obtain ⟨cs', hc, ht⟩ := hel i (by rw [hmm]; split <;> omega)
      rw [cells40] at hc
      obtain ⟨s, e0, w0⟩ := field_string 0 Try.underlying40 ht rfl Try.underlying9 (by kernel_rfl)
      obtain ⟨x1, e1, w1⟩ := field_int 1 Try.underlying40 ht rfl Try.underlying3 (by kernel_rfl)
      have hcell := World.cells?_some hc
      exact ⟨s, x1, ⟨(hcell.2.2 0 (by omega)).trans e0, (hcell.2.2 1 (by omega)).trans e1⟩, w0⟩
    refine ⟨hlen, fun i hi => ?_⟩
    obtain ⟨b, o, rfl⟩ : ∃ b o, a' = ⟨b, o, none⟩ := by
      obtain ⟨_, _, ⟨g0, _⟩, _⟩ := thr 0 (by omega)
      rw [Deep.add_add, Nat.zero_mul] at g0
      exact plain_of g0
    obtain ⟨s, x1, ⟨g0, g1⟩, r⟩ := thr i hi
    simp only [Addr.add_mid] at g0 g1
    exact ⟨b, o, rfl, s, x1, by simpa using g0, g1, r⟩
end

end Go.Proofs.Ytcbogbohafmnhaa

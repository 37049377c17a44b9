/-
  A Set that came in, with its turns.
-/
import Derived.Test.YtphhofbdekbggaaSh
namespace Go.Proofs.Ytphhofbdekbggaa
open Go.ChangeShapes Go.WideShapes Go.ChangeAt Go.RowKit
set_option linter.unusedVariables false
set_option linter.unusedSimpArgs false

section
variable {H : Type} {enc : TypeId × Value → H} {w : World} {base : Nat} {spare : Nat → Bool} {held : Bool}
theorem open_turns {fuel : Nat} {cs : List Value} {x : DataW H × List MemPlace} (h : DataW.trod enc Try.prog w base spare held fuel 23 cs = some x) (hsz : ∀ n ∈ x.1.weights Try.prog 23, n ≤ 140737488351232) :
    ∃ a n c, cs = [.slice a n c] ∧ n ≤ 4611686018427387904 ∧ ∀ i, i < n → ∃ b o z, a = some ⟨b, o, none⟩ ∧ w.cell? ⟨b, o + i, none⟩ = some (.int .i64 z) := by
  rcases Deep.open_slice1 Try.underlying23 (by kernel_rfl) h with ⟨hcs, _⟩ | ⟨a, len, cap, m, k, V, D, Pl, hcs, hb, hl, hm, hmm, hx, hel⟩
  · exact ⟨none, 0, 0, hcs, by omega, fun i hi => by omega⟩
  · have hlm : len ≤ m := by rw [hmm]; split <;> omega
    have hlen : len ≤ 4611686018427387904 := by
      have := hsz ((len + (m - len)) * Try.prog.bytesOf 3) (by
        rw [hx]
        simp [DataW.weights, Try.underlying23])
      rw [show Try.prog.bytesOf 3 = 8 by kernel_rfl] at this
      omega
    have hint : ∀ i, i < len → ∃ z, w.cell? (a.add i) = some (.int .i64 z) := fun i hi => by
      obtain ⟨h1, h2⟩ := hel i (by omega)
      obtain ⟨z, h3, _, _⟩ := DataW.trod_int Try.underlying3 h2
      simp at h3
      exact ⟨z, by rw [h1, h3]⟩
    refine ⟨some a, len, cap, hcs, hlen, fun i hi => ?_⟩
    obtain ⟨z0, hz0⟩ := hint 0 (by omega)
    obtain ⟨b, o, rfl⟩ := plain_of hz0
    obtain ⟨z, hz⟩ := hint i hi
    rw [Addr.add_mid] at hz
    exact ⟨b, o, z, rfl, hz⟩
set_option maxRecDepth 100000 in
theorem open_set2 {r : Reach} {b0 : Nat} {v : Value} {d : DataW H} {p : List MemPlace}
    (hv : Value.okWide Try.prog w r b0 28 v) (h : DataW.Trod enc Try.prog w base spare held 28 v d p) (hsz : ∀ k ∈ d.weights Try.prog 28, k ≤ 140737488351232) :
    ∃ la ln lc l ta tn tc kv sv wv, v = .agg #[.slice la ln lc, .slice ta tn tc, kv, sv, wv] ∧ ln ≤ 4611686018427387904 ∧ InS w la ln l ∧ (∀ i, i < ln → (sat l i).1.size ≤ maxLen) ∧ tn ≤ 4611686018427387904 ∧ (∀ i, i < tn → ∃ b o z, ta = some ⟨b, o, none⟩ ∧ w.cell? ⟨b, o + i, none⟩ = some (.int .i64 z)) := by
  simp only [Value.okWide, Try.underlying28] at hv
  obtain ⟨cs, rfl, hs, _⟩ := hv
  obtain ⟨fuel, hf⟩ := h
  have hf' : DataW.trod enc Try.prog w base spare held fuel 28 cs.toList = some (d, p) := by simpa [Value.cells] using hf
  obtain ⟨n0, y0, t0, w0⟩ := field_wt 0 Try.underlying28 hf' rfl
  obtain ⟨n1, y1, t1, w1⟩ := field_wt 1 Try.underlying28 hf' rfl
  obtain ⟨la, ln, lc, l, e0, b1, i1, s1⟩ := open_servers t0 (fun k hk => hsz k (w0 k hk))
  obtain ⟨ta, tn, tc, e1, b2, i2⟩ := open_turns t1 (fun k hk => hsz k (w1 k hk))
  have g0 : cs.toList[0]? = some (.slice la ln lc) := one_of (o := 0) e0
  have g1 : cs.toList[1]? = some (.slice ta tn tc) := one_of (o := 1) e1
  have hl5 : cs.toList.length = 5 := by
    obtain ⟨xs, n, _, hx, hl, hlen, hff⟩ := DataW.trod_struct Try.underlying28 hf'
    rw [hl]
    kernel_rfl
  refine ⟨la, ln, lc, l, ta, tn, tc, cs.toList[2]!, cs.toList[3]!, cs.toList[4]!, ?_, b1, i1, s1, b2, i2⟩
  congr
  apply Array.ext'
  match hq : cs.toList, hl5 with
  | [_, _, _, _, _], _ =>
    rw [hq] at g0 g1
    simp at g0 g1
    simp [g0, g1]
end
end Go.Proofs.Ytphhofbdekbggaa

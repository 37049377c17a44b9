/-
  Sizes that came in.
-/
import Derived.Test.YtgldbdfadjmfeaaO
import Derived.Test.YtgldbdfadjmfeaaIn
import Derived.Deep.Slices
import Derived.SizedLaws
namespace Go.Proofs.Ytgldbdfadjmfeaa
open Go.ChangeShapes Go.WideShapes Go.ChangeAt Go.RowKit
set_option linter.unusedVariables false

theorem cells83 : Try.prog.cellsOf 83 = 3 := by kernel_rfl
theorem bytes5 : Try.prog.bytesOf 5 = 1 := by kernel_rfl

section
variable {H : Type} {enc : TypeId × Value → H} {w : World} {base : Nat} {spare : Nat → Bool} {held : Bool}

theorem plain_at {a : Addr} {v : Value} (h : w.cell? (a.add 0) = some v) : ∃ b o, a = ⟨b, o, none⟩ := by
  have := World.cell?_spot h
  obtain ⟨b, o, s⟩ := a
  refine ⟨b, o, ?_⟩
  simp [Addr.add] at this
  rw [this]

/-- Bytes that came in. -/
theorem open_bytes {fuel : Nat} {cs : List Value} {x : DataW H × List MemPlace} (h : DataW.trod enc Try.prog w base spare held fuel 42 cs = some x) (hsz : ∀ n ∈ x.1.weights Try.prog 42, n ≤ 140737488351232) :
    ∃ sa sn sc ys, cs = [.slice sa sn sc] ∧ Has w sa sn ys ∧ isBytes ys ∧ sn ≤ 140737488351232 ∧ (sa = none → sc = 0) := by
  rcases Deep.open_slice1 Try.underlying42 (by kernel_rfl) h with ⟨hcs, _⟩ | ⟨a, len, cap, m, n, V, D, Pl, hcs, hb, hl, hm, hmm, hx, hel⟩
  · exact ⟨none, 0, 0, [], hcs, ⟨rfl, fun h => by omega⟩, by simp [isBytes], by omega, fun _ => rfl⟩
  · have hlm : len ≤ m := by rw [hmm]; split <;> omega
    have hbyte : ∀ i, ∃ z : Int, i < len → (w.cell? (a.add i) = some (.int .u8 z) ∧ 0 ≤ z ∧ z < 256) := by
      intro i
      by_cases hi : i < len
      · obtain ⟨h1, h2⟩ := hel i (by omega)
        obtain ⟨z, h3, _, h5⟩ := DataW.trod_int Try.underlying5 h2
        simp at h3
        refine ⟨z, fun _ => ⟨by rw [h1, h3], ?_⟩⟩
        have := bounds_u8 h5
        omega
      · exact ⟨0, fun h => absurd h hi⟩
    obtain ⟨Z, hZ⟩ := Classical.axiomOfChoice hbyte
    refine ⟨some a, len, cap, (List.range len).map Z, hcs, ⟨by simp, fun h0 => ?_⟩, ?_, ?_, by simp⟩
    · obtain ⟨b, o, rfl⟩ := plain_at (hZ 0 h0).1
      refine ⟨b, o, rfl, fun i hi => ?_⟩
      have := (hZ i hi).1
      rw [Addr.add_mid] at this
      rw [this]
      simp [List.getD, hi]
    · intro z hz
      simp at hz
      obtain ⟨i, hi, rfl⟩ := hz
      exact (hZ i hi).2
    · have := hsz ((len + (m - len)) * 1) (by
        rw [hx]
        simp [DataW.weights, Try.underlying42, bytes5])
      omega

theorem wAll_mem {e : TypeId} : ∀ {l : List (DataW H)} {d : DataW H}, d ∈ l → ∀ n ∈ d.weights Try.prog e, n ∈ DataW.weightsAll Try.prog e l
  | d0 :: l, d, h, n, hn => by
    simp only [DataW.weightsAll, List.mem_append]
    rcases List.mem_cons.1 h with rfl | h
    · exact .inl hn
    · exact .inr (wAll_mem h n hn)


set_option maxRecDepth 100000 in
theorem sz_bytes {fuel : Nat} {cs : List Value} {x : DataW H × List MemPlace} (h : DataW.trod enc Try.prog w base spare held fuel 83 cs = some x) (hsz : ∀ n ∈ x.1.weights Try.prog 83, n ≤ 140737488351232) :
    ∃ sa sn sc ys, cs[2]? = some (.slice sa sn sc) ∧ Has w sa sn ys ∧ isBytes ys ∧ sn ≤ 140737488351232 ∧ (sa = none → sc = 0) := by
  obtain ⟨xs, n, _, rfl, hl, hlen, hff⟩ := DataW.trod_struct Try.underlying83 h
  have h7 : DataW.trod enc Try.prog w base spare held n 42 ((cs.drop 2).take (Try.prog.cellsOf 42)) = xs[2]? := hff 2 _ rfl
  have hi : 2 < xs.length := by rw [hlen]; decide
  rw [List.getElem?_eq_getElem hi, show Try.prog.cellsOf 42 = 1 by kernel_rfl] at h7
  obtain ⟨sa, sn, sc, ys, e1, e2⟩ := open_bytes h7 (fun k hk => hsz k (by
    show k ∈ DataW.weights Try.prog 83 (DataW.agg (xs.map (·.1)))
    rw [DataW.weights, Try.underlying83]
    exact DataW.weights_mem_each (j := 2) (t := 42) rfl (by simp [hi]) k hk))
  exact ⟨sa, sn, sc, ys, one_of e1, e2⟩

set_option maxRecDepth 100000 in
theorem open_sizes {r : Reach} {b0 : Nat} {v : Value} {d : DataW H} {p : List MemPlace}
    (hv : Value.okWide Try.prog w r b0 80 v) (h : DataW.Trod enc Try.prog w base spare held 80 v d p) (hsz : ∀ k ∈ d.weights Try.prog 80, k ≤ 140737488351232) :
    ∃ a n c, v = .slice a n c ∧ n ≤ maxLen ∧ SzIn w a n := by
  obtain ⟨a, n, c, rfl⟩ := okWide_slice Try.underlying80 hv
  obtain ⟨fuel, hf⟩ := h
  have hf' : DataW.trod enc Try.prog w base spare held fuel 80 [.slice a n c] = some (d, p) := by simpa [Value.cells] using hf
  refine ⟨a, n, c, rfl, ?_⟩
  rcases Deep.open_slice Try.underlying80 hf' with ⟨hcs, _⟩ | ⟨a', len, cap, m, k, D, Pl, hcs, hb, hl, hm, hmm, hx, hel⟩
  · simp only [List.cons.injEq, Value.slice.injEq, and_true] at hcs
    obtain ⟨rfl, rfl, rfl⟩ := hcs
    exact ⟨by unfold maxLen; omega, fun i hi => by omega⟩
  · simp only [List.cons.injEq, Value.slice.injEq, and_true] at hcs
    obtain ⟨rfl, rfl, rfl⟩ := hcs
    have thr : ∀ i, i < n → ∃ (x0 x1 : Int) (sa : Option Addr) (sn sc : Nat) (ys : List Int),
        (w.cell? ((a'.add (i * 3)).add 0) = some (.int .i64 x0) ∧ w.cell? ((a'.add (i * 3)).add 1) = some (.int .i64 x1) ∧ w.cell? ((a'.add (i * 3)).add 2) = some (.slice sa sn sc)) ∧ Has w sa sn ys ∧ isBytes ys ∧ sn ≤ 140737488351232 ∧ (sa = none → sc = 0) := by
      intro i hi
      obtain ⟨cs', hc, ht⟩ := hel i (by rw [hmm]; split <;> omega)
      rw [cells83] at hc
      obtain ⟨x0, e0, w0⟩ := field_int 0 Try.underlying83 ht rfl Try.underlying3 (by kernel_rfl)
      obtain ⟨x1, e1, w1⟩ := field_int 1 Try.underlying83 ht rfl Try.underlying3 (by kernel_rfl)
      obtain ⟨sa, sn, sc, ys, e7, r⟩ := sz_bytes ht (fun k hk => hsz k (by
        rw [show d = _ from congrArg Prod.fst hx]
        show k ∈ DataW.weights Try.prog 80 (DataW.slice _ _)
        rw [DataW.weights, Try.underlying80]
        refine List.mem_cons_of_mem _ (List.mem_append_left _ (wAll_mem (d := D i) ?_ k hk))
        exact List.mem_map.2 ⟨i, List.mem_range.2 hi, rfl⟩))
      have hcell := World.cells?_some hc
      exact ⟨x0, x1, sa, sn, sc, ys, ⟨(hcell.2.2 0 (by omega)).trans e0, (hcell.2.2 1 (by omega)).trans e1, (hcell.2.2 2 (by omega)).trans e7⟩, r⟩
    refine ⟨by omega, fun i hi => ?_⟩
    obtain ⟨b, o, rfl⟩ : ∃ b o, a' = ⟨b, o, none⟩ := by
      obtain ⟨_, _, _, _, _, _, ⟨g0, _⟩, _⟩ := thr 0 (by omega)
      rw [Deep.add_add, Nat.zero_mul] at g0
      exact plain_at g0
    obtain ⟨x0, x1, sa, sn, sc, ys, ⟨g0, g1, g2⟩, r⟩ := thr i hi
    simp only [Addr.add_mid] at g0 g1 g2
    exact ⟨b, o, rfl, x0, x1, sa, sn, sc, ys, by simpa using g0, g1, g2, r⟩
end

end Go.Proofs.Ytgldbdfadjmfeaa

/-
  What came in: turns, rows of bytes, names, joins.
-/
import Derived.Test.YtcbogbohafmnhaaF
import Derived.ProofKit
import Derived.OpenShut
import Derived.Below
import Derived.Deep.Slices
import Derived.SizedLaws
namespace Go.Proofs.Ytcbogbohafmnhaa
open Go.ChangeShapes Go.WideShapes Go.ChangeAt Go.RowKit
set_option linter.unusedVariables false

theorem bytes5 : Try.prog.bytesOf 5 = 1 := by kernel_rfl
theorem cells31 : Try.prog.cellsOf 31 = 2 := by kernel_rfl
theorem cells23 : Try.prog.cellsOf 23 = 1 := by kernel_rfl

section
variable {H : Type} {enc : TypeId × Value → H} {P : Program} {w : World} {base : Nat} {spare : Nat → Bool} {held : Bool}
theorem one_of {cs : List Value} {o : Nat} {v : Value} (h : (cs.drop o).take 1 = [v]) : cs[o]? = some v := by
  have : ((cs.drop o).take 1)[0]? = some v := by rw [h]; rfl
  simpa using this
theorem field_int {fs : Array Field} {f : Field} {k : IntKind} {t : TypeId} {fuel : Nat} {cs : List Value} {x : DataW H × List MemPlace} (i : Nat) (ht : P.underlying t = some (.struct fs)) (h : DataW.trod enc P w base spare held fuel t cs = some x)
    (hf : fs[i]? = some f) (hk : P.underlying f.type = some (.int k)) (hc : P.cellsOf f.type = 1) : ∃ n, cs[f.offset]? = some (.int k n) ∧ (Lit.int k n).wf = true := by
  obtain ⟨xs, n, _, rfl, hl, hlen, hff⟩ := DataW.trod_struct ht h
  have := hff i f hf
  have hi : i < xs.length := by rw [hlen]; exact (Array.getElem?_eq_some_iff.1 hf).1
  rw [List.getElem?_eq_getElem hi] at this
  obtain ⟨m, h1, _, h3⟩ := DataW.trod_int hk this
  rw [hc] at h1
  exact ⟨m, one_of h1, h3⟩
theorem field_string {fs : Array Field} {f : Field} {t : TypeId} {fuel : Nat} {cs : List Value} {x : DataW H × List MemPlace} (i : Nat) (ht : P.underlying t = some (.struct fs)) (h : DataW.trod enc P w base spare held fuel t cs = some x)
    (hf : fs[i]? = some f) (hk : P.underlying f.type = some .string) (hc : P.cellsOf f.type = 1) : ∃ s : ByteArray, cs[f.offset]? = some (.string s) ∧ s.size ≤ maxLen := by
  obtain ⟨xs, n, _, rfl, hl, hlen, hff⟩ := DataW.trod_struct ht h
  have := hff i f hf
  have hi : i < xs.length := by rw [hlen]; exact (Array.getElem?_eq_some_iff.1 hf).1
  rw [List.getElem?_eq_getElem hi] at this
  obtain ⟨s, h1, _, h3⟩ := DataW.trod_string hk this
  rw [hc] at h1
  exact ⟨s, one_of h1, h3⟩
theorem plain_of {a : Addr} {v : Value} (h : w.cell? (a.add 0) = some v) : ∃ b o, a = ⟨b, o, none⟩ := by
  have := World.cell?_spot h
  obtain ⟨b, o, s⟩ := a
  refine ⟨b, o, ?_⟩
  simp [Addr.add] at this
  rw [this]
end

section
variable {H : Type} {enc : TypeId × Value → H} {w : World} {base : Nat} {spare : Nat → Bool} {held : Bool}
/-- Bytes that came in. -/
theorem open_bytes {fuel : Nat} {cs : List Value} {x : DataW H × List MemPlace} (h : DataW.trod enc Try.prog w base spare held fuel 23 cs = some x) (hsz : ∀ n ∈ x.1.weights Try.prog 23, n ≤ 140737488351232) :
    ∃ sa sn sc ys, cs = [.slice sa sn sc] ∧ Has w sa sn ys ∧ isBytes ys ∧ sn ≤ 140737488351232 ∧ (sa = none → sc = 0) ∧ sn ≤ sc ∧ sc ≤ maxLen := by
  rcases Deep.open_slice1 Try.underlying23 (by kernel_rfl) h with ⟨hcs, _⟩ | ⟨a, len, cap, m, n, V, D, Pl, hcs, hb, hl, hm, hmm, hx, hel⟩
  · exact ⟨none, 0, 0, [], hcs, ⟨rfl, fun h => by omega⟩, by simp [isBytes], by omega, fun _ => rfl, by omega, by unfold maxLen; omega⟩
  · have hlm : len ≤ m := by rw [hmm]; split <;> omega
    have hbyte : ∀ i, ∃ z : Int, i < len → (w.cell? (a.add i) = some (.int .u8 z) ∧ 0 ≤ z ∧ z < 256) := by
      intro i
      by_cases hi : i < len
      · obtain ⟨h1, h2⟩ := hel i (by omega)
        obtain ⟨z, h3, _, h5⟩ := DataW.trod_int Try.underlying5 h2
        simp at h3
        refine ⟨z, fun _ => ⟨by rw [h1, h3], ?_⟩⟩
        have := bounds_u8 h5
        omega
      · exact ⟨0, fun h => absurd h hi⟩
    obtain ⟨Z, hZ⟩ := Classical.axiomOfChoice hbyte
    refine ⟨some a, len, cap, (List.range len).map Z, hcs, ⟨by simp, fun h0 => ?_⟩, ?_, ?_, by simp, hl, hm⟩
    · obtain ⟨b, o, rfl⟩ := plain_of (hZ 0 h0).1
      refine ⟨b, o, rfl, fun i hi => ?_⟩
      have := (hZ i hi).1
      rw [Addr.add_mid] at this
      rw [this]
      simp [List.getD, hi]
    · intro z hz
      simp at hz
      obtain ⟨i, hi, rfl⟩ := hz
      exact (hZ i hi).2
    · have := hsz ((len + (m - len)) * 1) (by
        rw [hx]
        simp [DataW.weights, Try.underlying23, bytes5])
      omega
theorem wAll_mem {e : TypeId} : ∀ {l : List (DataW H)} {d : DataW H}, d ∈ l → ∀ n ∈ d.weights Try.prog e, n ∈ DataW.weightsAll Try.prog e l
  | d0 :: l, d, h, n, hn => by
    simp only [DataW.weightsAll, List.mem_append]
    rcases List.mem_cons.1 h with rfl | h
    · exact .inl hn
    · exact .inr (wAll_mem h n hn)

set_option maxRecDepth 100000 in
theorem open_turns {r : Reach} {b0 : Nat} {v : Value} {d : DataW H} {p : List MemPlace}
    (hv : Value.okWide Try.prog w r b0 29 v) (h : DataW.Trod enc Try.prog w base spare held 29 v d p) :
    ∃ a n c, v = .slice a n c ∧ n ≤ maxLen ∧ TuIn w a n := by
  obtain ⟨a, n, c, rfl⟩ := okWide_slice Try.underlying29 hv
  obtain ⟨fuel, hf⟩ := h
  have hf' : DataW.trod enc Try.prog w base spare held fuel 29 [.slice a n c] = some (d, p) := by simpa [Value.cells] using hf
  refine ⟨a, n, c, rfl, ?_⟩
  rcases Deep.open_slice Try.underlying29 hf' with ⟨hcs, _⟩ | ⟨a', len, cap, m, k, D, Pl, hcs, hb, hl, hm, hmm, hx, hel⟩
  · simp only [List.cons.injEq, Value.slice.injEq, and_true] at hcs
    obtain ⟨rfl, rfl, rfl⟩ := hcs
    exact ⟨by unfold maxLen; omega, fun i hi => by omega⟩
  · simp only [List.cons.injEq, Value.slice.injEq, and_true] at hcs
    obtain ⟨rfl, rfl, rfl⟩ := hcs
    have thr : ∀ i, i < n → ∃ (x0 : Nat) (x1 : Int),
        (w.cell? ((a'.add (i * 2)).add 0) = some (.int .u64 x0) ∧ w.cell? ((a'.add (i * 2)).add 1) = some (.int .i64 x1)) ∧ x0 < 18446744073709551616 ∧ x1 ≤ 9223372036854775807 := by
      intro i hi
      obtain ⟨cs', hc, ht⟩ := hel i (by rw [hmm]; split <;> omega)
      rw [cells31] at hc
      obtain ⟨x0, e0, w0⟩ := field_int 0 Try.underlying31 ht rfl Try.underlying25 (by kernel_rfl)
      obtain ⟨x1, e1, w1⟩ := field_int 1 Try.underlying31 ht rfl Try.underlying3 (by kernel_rfl)
      have b0 := bounds_u64 w0
      have b1 := bounds_i64 w1
      have hcell := World.cells?_some hc
      refine ⟨x0.toNat, x1, ⟨?_, (hcell.2.2 1 (by omega)).trans e1⟩, by omega, by omega⟩
      rw [show ((x0.toNat : Nat) : Int) = x0 by omega]
      exact (hcell.2.2 0 (by omega)).trans e0
    refine ⟨by omega, fun i hi => ?_⟩
    obtain ⟨b, o, rfl⟩ : ∃ b o, a' = ⟨b, o, none⟩ := by
      obtain ⟨_, _, ⟨g0, _⟩, _⟩ := thr 0 (by omega)
      rw [Deep.add_add, Nat.zero_mul] at g0
      exact plain_of g0
    obtain ⟨x0, x1, ⟨g0, g1⟩, r⟩ := thr i hi
    simp only [Addr.add_mid] at g0 g1
    exact ⟨b, o, rfl, x0, x1, by simpa using g0, g1, r⟩

/-- Rows of bytes that came in. -/
def BsIn (w : World) (a : Option Addr) (n : Nat) : Prop := ∀ i, i < n → ∃ b o, a = some ⟨b, o, none⟩ ∧ ∃ (sa : Option Addr) (sn sc : Nat) (ys : List Int),
  w.cell? ⟨b, o + i, none⟩ = some (.slice sa sn sc) ∧ Has w sa sn ys ∧ isBytes ys ∧ sn ≤ 140737488351232 ∧ (sa = none → sc = 0) ∧ sn ≤ sc ∧ sc ≤ maxLen

set_option maxRecDepth 100000 in
theorem open_rows {r : Reach} {b0 : Nat} {v : Value} {d : DataW H} {p : List MemPlace}
    (hv : Value.okWide Try.prog w r b0 22 v) (h : DataW.Trod enc Try.prog w base spare held 22 v d p) (hsz : ∀ k ∈ d.weights Try.prog 22, k ≤ 140737488351232) :
    ∃ a n c, v = .slice a n c ∧ n ≤ maxLen ∧ BsIn w a n := by
  obtain ⟨a, n, c, rfl⟩ := okWide_slice Try.underlying22 hv
  obtain ⟨fuel, hf⟩ := h
  have hf' : DataW.trod enc Try.prog w base spare held fuel 22 [.slice a n c] = some (d, p) := by simpa [Value.cells] using hf
  refine ⟨a, n, c, rfl, ?_⟩
  rcases Deep.open_slice Try.underlying22 hf' with ⟨hcs, _⟩ | ⟨a', len, cap, m, k, D, Pl, hcs, hb, hl, hm, hmm, hx, hel⟩
  · simp only [List.cons.injEq, Value.slice.injEq, and_true] at hcs
    obtain ⟨rfl, rfl, rfl⟩ := hcs
    exact ⟨by unfold maxLen; omega, fun i hi => by omega⟩
  · simp only [List.cons.injEq, Value.slice.injEq, and_true] at hcs
    obtain ⟨rfl, rfl, rfl⟩ := hcs
    have thr : ∀ i, i < n → ∃ (sa : Option Addr) (sn sc : Nat) (ys : List Int),
        w.cell? ((a'.add (i * 1)).add 0) = some (.slice sa sn sc) ∧ Has w sa sn ys ∧ isBytes ys ∧ sn ≤ 140737488351232 ∧ (sa = none → sc = 0) ∧ sn ≤ sc ∧ sc ≤ maxLen := by
      intro i hi
      obtain ⟨cs', hc, ht⟩ := hel i (by rw [hmm]; split <;> omega)
      rw [cells23] at hc
      obtain ⟨sa, sn, sc, ys, e7, r⟩ := open_bytes ht (fun k hk => hsz k (by
        rw [show d = _ from congrArg Prod.fst hx]
        show k ∈ DataW.weights Try.prog 22 (DataW.slice _ _)
        rw [DataW.weights, Try.underlying22]
        refine List.mem_cons_of_mem _ (List.mem_append_left _ (wAll_mem (d := D i) ?_ k hk))
        exact List.mem_map.2 ⟨i, List.mem_range.2 hi, rfl⟩))
      have hcell := World.cells?_some hc
      exact ⟨sa, sn, sc, ys, (hcell.2.2 0 (by omega)).trans (by rw [e7]; rfl), r⟩
    refine ⟨by omega, fun i hi => ?_⟩
    obtain ⟨b, o, rfl⟩ : ∃ b o, a' = ⟨b, o, none⟩ := by
      obtain ⟨_, _, _, _, g0, _⟩ := thr 0 (by omega)
      rw [Deep.add_add, Nat.zero_mul] at g0
      exact plain_of g0
    obtain ⟨sa, sn, sc, ys, g0, r⟩ := thr i hi
    simp only [Addr.add_mid] at g0
    exact ⟨b, o, rfl, sa, sn, sc, ys, by simpa using g0, r⟩
end

end Go.Proofs.Ytcbogbohafmnhaa

/-
  A Set that came in.
-/
import Derived.Test.YtphhofbdekbggaaSf
import Derived.WalkKit
import Derived.ProofKit
import Derived.OpenShut
import Derived.Below
import Derived.Deep.Slices
import Derived.SizedLaws
namespace Go.Proofs.Ytphhofbdekbggaa
open Go.ChangeShapes Go.WideShapes Go.ChangeAt Go.RowKit
set_option linter.unusedVariables false
set_option linter.unusedSimpArgs false

theorem bytes5 : Try.prog.bytesOf 5 = 1 := by kernel_rfl
theorem cells26 : Try.prog.cellsOf 26 = 2 := by kernel_rfl
theorem cells45 : Try.prog.cellsOf 45 = 1 := by kernel_rfl
section
variable {H : Type} {enc : TypeId × Value → H} {P : Program} {w : World} {base : Nat} {spare : Nat → Bool} {held : Bool}
theorem one_of {cs : List Value} {o : Nat} {v : Value} (h : (cs.drop o).take 1 = [v]) : cs[o]? = some v := by
  have : ((cs.drop o).take 1)[0]? = some v := by rw [h]; rfl
  simpa using this
theorem field_int {fs : Array Field} {f : Field} {k : IntKind} {t : TypeId} {fuel : Nat} {cs : List Value} {x : DataW H × List MemPlace} (i : Nat) (ht : P.underlying t = some (.struct fs)) (h : DataW.trod enc P w base spare held fuel t cs = some x)
    (hf : fs[i]? = some f) (hk : P.underlying f.type = some (.int k)) (hc : P.cellsOf f.type = 1) : ∃ n, cs[f.offset]? = some (.int k n) ∧ (Lit.int k n).wf = true := by
  obtain ⟨xs, n, _, rfl, hl, hlen, hff⟩ := DataW.trod_struct ht h
  have := hff i f hf
  have hi : i < xs.length := by rw [hlen]; exact (Array.getElem?_eq_some_iff.1 hf).1
  rw [List.getElem?_eq_getElem hi] at this
  obtain ⟨m, h1, _, h3⟩ := DataW.trod_int hk this
  rw [hc] at h1
  exact ⟨m, one_of h1, h3⟩
theorem field_string {fs : Array Field} {f : Field} {t : TypeId} {fuel : Nat} {cs : List Value} {x : DataW H × List MemPlace} (i : Nat) (ht : P.underlying t = some (.struct fs)) (h : DataW.trod enc P w base spare held fuel t cs = some x)
    (hf : fs[i]? = some f) (hk : P.underlying f.type = some .string) (hc : P.cellsOf f.type = 1) : ∃ s : ByteArray, cs[f.offset]? = some (.string s) ∧ s.size ≤ maxLen := by
  obtain ⟨xs, n, _, rfl, hl, hlen, hff⟩ := DataW.trod_struct ht h
  have := hff i f hf
  have hi : i < xs.length := by rw [hlen]; exact (Array.getElem?_eq_some_iff.1 hf).1
  rw [List.getElem?_eq_getElem hi] at this
  obtain ⟨s, h1, _, h3⟩ := DataW.trod_string hk this
  rw [hc] at h1
  exact ⟨s, one_of h1, h3⟩
theorem plain_of {a : Addr} {v : Value} (h : w.cell? (a.add 0) = some v) : ∃ b o, a = ⟨b, o, none⟩ := by
  have := World.cell?_spot h
  obtain ⟨b, o, s⟩ := a
  refine ⟨b, o, ?_⟩
  simp [Addr.add] at this
  rw [this]
theorem each_mem {fs : Array Field} {f : Field} {t : TypeId} {xs : List (DataW H × List MemPlace)} {i : Nat} (ht : P.underlying t = some (.struct fs)) (hf : fs[i]? = some f) (hi : i < xs.length) {k : Nat} (hk : k ∈ (xs[i].1).weights P f.type) : k ∈ (DataW.agg (xs.map (·.1))).weights P t := by
  simp only [DataW.weights, ht]
  refine DataW.weights_mem_each (j := i) (t := f.type) (d := xs[i].1) ?_ ?_ k hk
  · simp [hf]
  · simp [hi]
/-- A field, with its weights. -/
theorem field_wt {fs : Array Field} {f : Field} {t : TypeId} {fuel : Nat} {cs : List Value} {x : DataW H × List MemPlace} (i : Nat) (ht : P.underlying t = some (.struct fs)) (h : DataW.trod enc P w base spare held fuel t cs = some x)
    (hf : fs[i]? = some f) : ∃ (n : Nat) (y : DataW H × List MemPlace), DataW.trod enc P w base spare held n f.type ((cs.drop f.offset).take (P.cellsOf f.type)) = some y ∧ ∀ k ∈ y.1.weights P f.type, k ∈ x.1.weights P t := by
  obtain ⟨xs, n, _, rfl, hl, hlen, hff⟩ := DataW.trod_struct ht h
  have := hff i f hf
  have hi : i < xs.length := by rw [hlen]; exact (Array.getElem?_eq_some_iff.1 hf).1
  rw [List.getElem?_eq_getElem hi] at this
  exact ⟨n, _, this, fun k hk => each_mem ht hf hi hk⟩
end
section
variable {H : Type} {enc : TypeId × Value → H} {w : World} {base : Nat} {spare : Nat → Bool} {held : Bool}
theorem wAll_mem {e : TypeId} : ∀ {l : List (DataW H)} {d : DataW H}, d ∈ l → ∀ n ∈ d.weights Try.prog e, n ∈ DataW.weightsAll Try.prog e l
  | d0 :: l, d, h, n, hn => by
    simp only [DataW.weightsAll, List.mem_append]
    rcases List.mem_cons.1 h with rfl | h
    · exact .inl hn
    · exact .inr (wAll_mem h n hn)
/-- Bytes that came in. -/
theorem open_bytes {fuel : Nat} {cs : List Value} {x : DataW H × List MemPlace} (h : DataW.trod enc Try.prog w base spare held fuel 45 cs = some x) (hsz : ∀ n ∈ x.1.weights Try.prog 45, n ≤ 140737488351232) :
    ∃ sa sn sc ys, cs = [.slice sa sn sc] ∧ Has w sa sn ys ∧ isBytes ys ∧ sn ≤ 140737488351232 := by
  rcases Deep.open_slice1 Try.underlying45 (by kernel_rfl) h with ⟨hcs, _⟩ | ⟨a, len, cap, m, n, V, D, Pl, hcs, hb, hl, hm, hmm, hx, hel⟩
  · exact ⟨none, 0, 0, [], hcs, ⟨rfl, fun h => by omega⟩, by simp [isBytes], by omega⟩
  · have hlm : len ≤ m := by rw [hmm]; split <;> omega
    have hbyte : ∀ i, ∃ z : Int, i < len → (w.cell? (a.add i) = some (.int .u8 z) ∧ 0 ≤ z ∧ z < 256) := by
      intro i
      by_cases hi : i < len
      · obtain ⟨h1, h2⟩ := hel i (by omega)
        obtain ⟨z, h3, _, h5⟩ := DataW.trod_int Try.underlying5 h2
        simp at h3
        refine ⟨z, fun _ => ⟨by rw [h1, h3], ?_⟩⟩
        have := bounds_u8 h5
        omega
      · exact ⟨0, fun h => absurd h hi⟩
    obtain ⟨Z, hZ⟩ := Classical.axiomOfChoice hbyte
    refine ⟨some a, len, cap, (List.range len).map Z, hcs, ⟨by simp, fun h0 => ?_⟩, ?_, ?_⟩
    · obtain ⟨b, o, rfl⟩ := plain_of (hZ 0 h0).1
      refine ⟨b, o, rfl, fun i hi => ?_⟩
      have := (hZ i hi).1
      rw [Addr.add_mid] at this
      rw [this]
      simp [List.getD, hi]
    · intro z hz
      simp at hz
      obtain ⟨i, hi, rfl⟩ := hz
      exact (hZ i hi).2
    · have := hsz ((len + (m - len)) * 1) (by
        rw [hx]
        simp [DataW.weights, Try.underlying45, bytes5])
      omega
theorem open_keys {fuel : Nat} {cs : List Value} {x : DataW H × List MemPlace} (h : DataW.trod enc Try.prog w base spare held fuel 24 cs = some x) (hsz : ∀ n ∈ x.1.weights Try.prog 24, n ≤ 140737488351232) :
    ∃ a n c, cs = [.slice a n c] ∧ n ≤ 4611686018427387904 ∧ KeysIn w a n := by
  rcases Deep.open_slice1 Try.underlying24 (by kernel_rfl) h with ⟨hcs, _⟩ | ⟨a, len, cap, m, k, V, D, Pl, hcs, hb, hl, hm, hmm, hx, hel⟩
  · exact ⟨none, 0, 0, hcs, by omega, fun i hi => by omega⟩
  · have hlm : len ≤ m := by rw [hmm]; split <;> omega
    have hwt : ∀ i, i < len → ∀ q ∈ (D i).weights Try.prog 45, q ≤ 140737488351232 := fun i hi q hq => hsz q (by
      rw [hx]
      simp only [DataW.weights, Try.underlying24]
      exact List.mem_cons_of_mem _ (List.mem_append_left _ (wAll_mem (d := D i) (List.mem_map.2 ⟨i, List.mem_range.2 hi, rfl⟩) _ hq)))
    have hlen : len ≤ 4611686018427387904 := by
      have := hsz ((len + (m - len)) * Try.prog.bytesOf 45) (by
        rw [hx]
        simp [DataW.weights, Try.underlying24])
      rw [show Try.prog.bytesOf 45 = 24 by kernel_rfl] at this
      omega
    refine ⟨some a, len, cap, hcs, hlen, fun i hi => ?_⟩
    have g0 := (hel 0 (by omega)).1
    obtain ⟨b, o, rfl⟩ := plain_of g0
    obtain ⟨h1, h2⟩ := hel i (by omega)
    obtain ⟨sa, sn, sc, ys, e1, e2, e3, e4⟩ := open_bytes h2 (hwt i hi)
    rw [Addr.add_mid] at h1
    simp only [List.cons.injEq, and_true] at e1
    rw [e1] at h1
    exact ⟨b, o, sa, sn, sc, ys, rfl, h1, e2, e3, by omega⟩
theorem open_servers {fuel : Nat} {cs : List Value} {x : DataW H × List MemPlace} (h : DataW.trod enc Try.prog w base spare held fuel 22 cs = some x) (hsz : ∀ n ∈ x.1.weights Try.prog 22, n ≤ 140737488351232) :
    ∃ a n c l, cs = [.slice a n c] ∧ n ≤ 4611686018427387904 ∧ InS w a n l ∧ ∀ i, i < n → (sat l i).1.size ≤ maxLen := by
  rcases Deep.open_slice Try.underlying22 h with ⟨hcs, _⟩ | ⟨a, len, cap, m, k, D, Pl, hcs, hb, hl, hm, hmm, hx, hel⟩
  · exact ⟨none, 0, 0, [], hcs, by omega, ⟨rfl, fun h => by omega⟩, fun i hi => by omega⟩
  · have hlm : len ≤ m := by rw [hmm]; split <;> omega
    have hlen : len ≤ 4611686018427387904 := by
      have := hsz ((len + (m - len)) * Try.prog.bytesOf 26) (by
        rw [hx]
        simp [DataW.weights, Try.underlying22])
      rw [show Try.prog.bytesOf 26 = 24 by kernel_rfl] at this
      omega
    have one : ∀ i, ∃ p : Sv, i < len → (w.cell? ((a.add (i * 2)).add 0) = some (.string p.1) ∧ w.cell? ((a.add (i * 2)).add 1) = some (.int .i64 p.2) ∧ p.1.size ≤ maxLen) := by
      intro i
      by_cases hi : i < len
      · obtain ⟨cs', hc, ht⟩ := hel i (by omega)
        rw [cells26] at hc
        obtain ⟨s, e0, w0⟩ := field_string 0 Try.underlying26 ht rfl Try.underlying9 (by kernel_rfl)
        obtain ⟨x1, e1, w1⟩ := field_int 1 Try.underlying26 ht rfl Try.underlying3 (by kernel_rfl)
        have hcell := World.cells?_some hc
        exact ⟨(s, x1), fun _ => ⟨(hcell.2.2 0 (by omega)).trans e0, (hcell.2.2 1 (by omega)).trans e1, w0⟩⟩
      · exact ⟨(ByteArray.empty, 0), fun h => absurd h hi⟩
    obtain ⟨Z, hZ⟩ := Classical.axiomOfChoice one
    have hsat : ∀ i, i < len → sat ((List.range len).map Z) i = Z i := fun i hi => by
      simp [sat, List.getD, hi]
    refine ⟨some a, len, cap, (List.range len).map Z, hcs, hlen, ⟨by simp, fun h0 => ?_⟩, fun i hi => by rw [hsat i hi]; exact (hZ i hi).2.2⟩
    obtain ⟨b, o, rfl⟩ : ∃ b o, a = ⟨b, o, none⟩ := by
      have g0 := (hZ 0 h0).1
      rw [Deep.add_add, Nat.zero_mul] at g0
      exact plain_of g0
    refine ⟨b, o, rfl, fun i hi => ?_⟩
    obtain ⟨g0, g1, _⟩ := hZ i hi
    simp only [Addr.add_mid] at g0 g1
    rw [hsat i hi]
    exact ⟨by simpa using g0, g1⟩
set_option maxRecDepth 100000 in
theorem open_set {r : Reach} {b0 : Nat} {v : Value} {d : DataW H} {p : List MemPlace}
    (hv : Value.okWide Try.prog w r b0 28 v) (h : DataW.Trod enc Try.prog w base spare held 28 v d p) (hsz : ∀ k ∈ d.weights Try.prog 28, k ≤ 140737488351232) :
    ∃ la ln lc l ka kn kc tv sv wv, v = .agg #[.slice la ln lc, tv, .slice ka kn kc, sv, wv] ∧ ln ≤ 4611686018427387904 ∧ InS w la ln l ∧ (∀ i, i < ln → (sat l i).1.size ≤ maxLen) ∧ kn ≤ 4611686018427387904 ∧ KeysIn w ka kn := by
  simp only [Value.okWide, Try.underlying28] at hv
  obtain ⟨cs, rfl, hs, _⟩ := hv
  obtain ⟨fuel, hf⟩ := h
  have hf' : DataW.trod enc Try.prog w base spare held fuel 28 cs.toList = some (d, p) := by simpa [Value.cells] using hf
  obtain ⟨n0, y0, t0, w0⟩ := field_wt 0 Try.underlying28 hf' rfl
  obtain ⟨n2, y2, t2, w2⟩ := field_wt 2 Try.underlying28 hf' rfl
  obtain ⟨la, ln, lc, l, e0, b1, i1, s1⟩ := open_servers t0 (fun k hk => hsz k (w0 k hk))
  obtain ⟨ka, kn, kc, e2, b2, i2⟩ := open_keys t2 (fun k hk => hsz k (w2 k hk))
  have g0 : cs.toList[0]? = some (.slice la ln lc) := one_of (o := 0) e0
  have g2 : cs.toList[2]? = some (.slice ka kn kc) := one_of (o := 2) e2
  have hl5 : cs.toList.length = 5 := by
    obtain ⟨xs, n, _, hx, hl, hlen, hff⟩ := DataW.trod_struct Try.underlying28 hf'
    rw [hl]
    kernel_rfl
  refine ⟨la, ln, lc, l, ka, kn, kc, cs.toList[1]!, cs.toList[3]!, cs.toList[4]!, ?_, b1, i1, s1, b2, i2⟩
  congr
  apply Array.ext'
  match hq : cs.toList, hl5 with
  | [_, _, _, _, _], _ =>
    rw [hq] at g0 g2
    simp at g0 g2
    simp [g0, g2]
end
end Go.Proofs.Ytphhofbdekbggaa

/-
  Outcomes that came in.
-/
import Derived.Test.YtonbkpfnpnlkpaaDoorRows
import Derived.WalkKit
import Derived.ProofKit
import Derived.OpenShut
import Derived.Below
import Derived.Deep.Slices
import Derived.SizedLaws
import Derived.Test.YtonbkpfnpnlkpaaDoorTp
import Derived.Test.YtonbkpfnpnlkpaaDoorL
namespace Go.Proofs.YtonbkpfnpnlkpaaDoor
open Go.ChangeShapes Go.WideShapes Go.ChangeAt Go.RowKit
set_option linter.unusedVariables false
set_option linter.unusedSimpArgs false

theorem weightsAll_mem {H : Type} {P : Program} {e : TypeId} : ∀ {l : List (DataW H)} {d : DataW H}, d ∈ l → ∀ n ∈ d.weights P e, n ∈ DataW.weightsAll P e l
  | x :: l, d, hd, n, hn => by
    simp only [DataW.weightsAll, List.mem_append]
    rcases List.mem_cons.1 hd with rfl | hd
    · exact Or.inl hn
    · exact Or.inr (weightsAll_mem hd n hn)
section
variable {H : Type} {enc : TypeId × Value → H} {P : Program} {w : World} {base : Nat} {spare : Nat → Bool} {held : Bool}
theorem one_of {cs : List Value} {o : Nat} {v : Value} (h : (cs.drop o).take 1 = [v]) : cs[o]? = some v := by
  have : ((cs.drop o).take 1)[0]? = some v := by rw [h]; rfl
  simpa using this
theorem field_int {fs : Array Field} {f : Field} {k : IntKind} {t : TypeId} {fuel : Nat} {cs : List Value} {x : DataW H × List MemPlace} (i : Nat) (ht : P.underlying t = some (.struct fs)) (h : DataW.trod enc P w base spare held fuel t cs = some x)
    (hf : fs[i]? = some f) (hk : P.underlying f.type = some (.int k)) (hc : P.cellsOf f.type = 1) : ∃ n, cs[f.offset]? = some (.int k n) ∧ (Lit.int k n).wf = true := by
  obtain ⟨xs, n, _, rfl, hl, hlen, hff⟩ := DataW.trod_struct ht h
  have := hff i f hf
  have hi : i < xs.length := by rw [hlen]; exact (Array.getElem?_eq_some_iff.1 hf).1
  rw [List.getElem?_eq_getElem hi] at this
  obtain ⟨m, h1, _, h3⟩ := DataW.trod_int hk this
  rw [hc] at h1
  exact ⟨m, one_of h1, h3⟩
theorem field_bool {fs : Array Field} {f : Field} {t : TypeId} {fuel : Nat} {cs : List Value} {x : DataW H × List MemPlace} (i : Nat) (ht : P.underlying t = some (.struct fs)) (h : DataW.trod enc P w base spare held fuel t cs = some x)
    (hf : fs[i]? = some f) (hk : P.underlying f.type = some .bool) (hc : P.cellsOf f.type = 1) : ∃ b, cs[f.offset]? = some (.bool b) := by
  obtain ⟨xs, n, _, rfl, hl, hlen, hff⟩ := DataW.trod_struct ht h
  have := hff i f hf
  have hi : i < xs.length := by rw [hlen]; exact (Array.getElem?_eq_some_iff.1 hf).1
  rw [List.getElem?_eq_getElem hi] at this
  obtain ⟨m, h1, _⟩ := DataW.trod_bool hk this
  rw [hc] at h1
  exact ⟨m, one_of h1⟩
theorem each_mem {fs : Array Field} {f : Field} {t : TypeId} {xs : List (DataW H × List MemPlace)} {i : Nat} (ht : P.underlying t = some (.struct fs)) (hf : fs[i]? = some f) (hi : i < xs.length) {k : Nat} (hk : k ∈ (xs[i].1).weights P f.type) : k ∈ (DataW.agg (xs.map (·.1))).weights P t := by
  simp only [DataW.weights, ht]
  refine DataW.weights_mem_each (j := i) (t := f.type) (d := xs[i].1) ?_ ?_ k hk
  · simp [hf]
  · simp [hi]
/-- A field that is read. -/
theorem field_at {fs : Array Field} {f : Field} {t : TypeId} {fuel : Nat} {cs : List Value} {x : DataW H × List MemPlace} (i : Nat) (ht : P.underlying t = some (.struct fs)) (h : DataW.trod enc P w base spare held fuel t cs = some x)
    (hf : fs[i]? = some f) : ∃ (n : Nat) (z : DataW H × List MemPlace), DataW.trod enc P w base spare held n f.type ((cs.drop f.offset).take (P.cellsOf f.type)) = some z ∧ ∀ k ∈ z.1.weights P f.type, k ∈ x.1.weights P t := by
  obtain ⟨xs, n, _, rfl, hl, hlen, hff⟩ := DataW.trod_struct ht h
  have := hff i f hf
  have hi : i < xs.length := by rw [hlen]; exact (Array.getElem?_eq_some_iff.1 hf).1
  rw [List.getElem?_eq_getElem hi] at this
  exact ⟨n, xs[i], this, fun k hk => each_mem ht hf hi hk⟩
theorem field_string {fs : Array Field} {f : Field} {t : TypeId} {fuel : Nat} {cs : List Value} {x : DataW H × List MemPlace} (i : Nat) (ht : P.underlying t = some (.struct fs)) (h : DataW.trod enc P w base spare held fuel t cs = some x)
    (hf : fs[i]? = some f) (hk : P.underlying f.type = some .string) (hc : P.cellsOf f.type = 1) : ∃ s : Bs, cs[f.offset]? = some (sv s) ∧ s.length ∈ x.1.weights P t := by
  obtain ⟨n, z, h1, h2⟩ := field_at i ht h hf
  obtain ⟨s, h3, h4, h5⟩ := DataW.trod_string hk h1
  rw [hc] at h3
  refine ⟨s.data.toList, one_of h3, h2 _ ?_⟩
  rw [h4]
  simp [DataW.weights]
theorem field_slice {fs : Array Field} {f : Field} {e t : TypeId} {fuel : Nat} {cs : List Value} {x : DataW H × List MemPlace} (i : Nat) (ht : P.underlying t = some (.struct fs)) (h : DataW.trod enc P w base spare held fuel t cs = some x)
    (hf : fs[i]? = some f) (hk : P.underlying f.type = some (.slice e)) (hc : P.cellsOf f.type = 1) : ∃ a n c, cs[f.offset]? = some (.slice a n c) := by
  obtain ⟨n, z, h1, h2⟩ := field_at i ht h hf
  rw [hc] at h1
  rcases Deep.open_slice hk h1 with ⟨hcs, _⟩ | ⟨a, len, cap, m, n, D, Pl, hcs, _⟩
  · exact ⟨none, 0, 0, one_of hcs⟩
  · exact ⟨_, _, _, one_of hcs⟩
theorem plain_of {a : Addr} {v : Value} (h : w.cell? (a.add 0) = some v) : ∃ b o, a = ⟨b, o, none⟩ := by
  have := World.cell?_spot h
  obtain ⟨b, o, s⟩ := a
  refine ⟨b, o, ?_⟩
  simp [Addr.add] at this
  rw [this]
end
theorem bounds_u8 {z : Int} (h : (Lit.int .u8 z).wf = true) : 0 ≤ z ∧ z ≤ 255 := by
  simp only [Lit.wf] at h
  revert h
  simp [IntKind.min, IntKind.max, IntKind.signed, IntKind.bits]
theorem bounds_i64 {z : Int} (h : (Lit.int .i64 z).wf = true) : -9223372036854775808 ≤ z ∧ z ≤ 9223372036854775807 := by
  simp only [Lit.wf] at h
  revert h
  simp [IntKind.min, IntKind.max, IntKind.signed, IntKind.bits]
theorem bounds_u64 {z : Int} (h : (Lit.int .u64 z).wf = true) : 0 ≤ z ∧ z ≤ 18446744073709551615 := by
  simp only [Lit.wf] at h
  revert h
  simp [IntKind.min, IntKind.max, IntKind.signed, IntKind.bits]
section
variable {H : Type} {enc : TypeId × Value → H} {w : World} {base : Nat} {spare : Nat → Bool} {held : Bool}
set_option maxRecDepth 100000 in
theorem open_us {fuel : Nat} {cs : List Value} {x : DataW H × List MemPlace} (h : DataW.trod enc Tryd.prog w base spare held fuel 58 cs = some x) : ∃ v l, cs = [v] ∧ Us w v l := by
  rcases Deep.open_slice1 Tryd.underlying58 (by kernel_rfl) h with ⟨hcs, _⟩ | ⟨a, len, cap, m, n, V, D, Pl, hcs, hb, hl, hm, hmm, hx, hel⟩
  · exact ⟨_, [], hcs, ⟨none, 0, rfl, by simp, by unfold maxLen; omega, by simp, by simp⟩⟩
  · have hlm : len ≤ m := by rw [hmm]; split <;> omega
    have one : ∀ i, ∃ z : Nat, i < len → w.cell? (a.add i) = some (.int .u64 (z : Nat)) ∧ z ≤ 18446744073709551615 := by
      intro i
      by_cases hi : i < len
      · obtain ⟨h1, h2⟩ := hel i (by omega)
        obtain ⟨z, h3, _, h5⟩ := DataW.trod_int Tryd.underlying30 h2
        simp at h3
        have := bounds_u64 h5
        refine ⟨z.toNat, fun _ => ⟨?_, by omega⟩⟩
        rw [h1, h3, show ((z.toNat : Nat) : Int) = z by omega]
      · exact ⟨0, fun h => absurd h hi⟩
    obtain ⟨Z, hZ⟩ := Classical.axiomOfChoice one
    have hlen : ((List.range len).map Z).length = len := by simp
    refine ⟨_, (List.range len).map Z, hcs, ⟨some a, cap, by rw [hlen], by rw [hlen]; exact hl, by unfold maxLen at hm ⊢; omega, ?_, fun i x hi => ?_⟩⟩
    · intro x hx
      obtain ⟨i, hi, rfl⟩ := List.mem_map.1 hx
      exact (hZ i (List.mem_range.1 hi)).2
    · have hil : i < len := by
        have := (List.getElem?_eq_some_iff.1 hi).1
        omega
      have g0 := (hZ 0 (by omega)).1
      obtain ⟨b, o, rfl⟩ := plain_of g0
      have := (hZ i hil).1
      simp [hil] at hi
      rw [hi, Addr.add_mid] at this
      exact ⟨b, o, rfl, this⟩
set_option maxRecDepth 100000 in
theorem open_why {fuel : Nat} {cs : List Value} {x : DataW H × List MemPlace} (h : DataW.trod enc Tryd.prog w base spare held fuel 40 cs = some x) : ∃ v l, cs = [v] ∧ Ints w v l := by
  rcases Deep.open_slice1 Tryd.underlying40 (by kernel_rfl) h with ⟨hcs, _⟩ | ⟨a, len, cap, m, n, V, D, Pl, hcs, hb, hl, hm, hmm, hx, hel⟩
  · exact ⟨_, [], hcs, ⟨none, 0, rfl, by simp, by unfold maxLen; omega, by simp⟩⟩
  · have hlm : len ≤ m := by rw [hmm]; split <;> omega
    have one : ∀ i, ∃ z : Int, i < len → w.cell? (a.add i) = some (.int .i64 z) := by
      intro i
      by_cases hi : i < len
      · obtain ⟨h1, h2⟩ := hel i (by omega)
        obtain ⟨z, h3, _, h5⟩ := DataW.trod_int Tryd.underlying3 h2
        simp at h3
        exact ⟨z, fun _ => by rw [h1, h3]⟩
      · exact ⟨0, fun h => absurd h hi⟩
    obtain ⟨Z, hZ⟩ := Classical.axiomOfChoice one
    have hlen : ((List.range len).map Z).length = len := by simp
    refine ⟨_, (List.range len).map Z, hcs, ⟨some a, cap, by rw [hlen], by rw [hlen]; exact hl, by unfold maxLen at hm ⊢; omega, fun i x hi => ?_⟩⟩
    have hil : i < len := by
      have := (List.getElem?_eq_some_iff.1 hi).1
      omega
    have g0 := hZ 0 (by omega)
    obtain ⟨b, o, rfl⟩ := plain_of g0
    have := hZ i hil
    simp [hil] at hi
    rw [hi, Addr.add_mid] at this
    exact ⟨b, o, rfl, this⟩
theorem cells75 : Tryd.prog.cellsOf 75 = 3 := by kernel_rfl
set_option maxRecDepth 100000 in
theorem open_flags {fuel : Nat} {cs : List Value} {x : DataW H × List MemPlace} (h : DataW.trod enc Tryd.prog w base spare held fuel 33 cs = some x) (hsz : ∀ k ∈ x.1.weights Tryd.prog 33, k ≤ 140737488351232) : ∃ a n c fs, cs = [.slice a n c] ∧ Flgs w (.slice a n c) fs := by
  rcases Deep.open_slice Tryd.underlying33 h with ⟨hcs, _⟩ | ⟨a, len, cap, m, n, D, Pl, hcs, hb, hl, hm, hmm, hx, hel⟩
  · exact ⟨_, _, _, [], hcs, ⟨none, 0, rfl, by simp, by unfold maxLen; omega, by simp, by simp⟩⟩
  · have hlm : len ≤ m := by rw [hmm]; split <;> omega
    have one : ∀ i, ∃ f : Fl, i < len → (w.cell? ((a.add (i * 3)).add 0) = some (.int .u8 f.letter.toNat) ∧ w.cell? ((a.add (i * 3)).add 1) = some (sv f.arg) ∧ w.cell? ((a.add (i * 3)).add 2) = some (.bool f.has)) ∧ f.arg.length ≤ 140737488351232 := by
      intro i
      by_cases hi : i < len
      · obtain ⟨cs', hc, ht⟩ := hel i (by omega)
        rw [cells75] at hc
        obtain ⟨z, e0, w0⟩ := field_int 0 Tryd.underlying75 ht rfl Tryd.underlying5 (by kernel_rfl)
        obtain ⟨s, e1, m1⟩ := field_string 1 Tryd.underlying75 ht rfl Tryd.underlying9 (by kernel_rfl)
        obtain ⟨b, e2⟩ := field_bool 2 Tryd.underlying75 ht rfl Tryd.underlying4 (by kernel_rfl)
        have hcell := World.cells?_some hc
        have bz := bounds_u8 w0
        have e : ((UInt8.ofNat z.toNat).toNat : Int) = z := by
          rw [UInt8.toNat_ofNat_of_lt' (by simp; omega)]
          omega
        refine ⟨⟨UInt8.ofNat z.toNat, s, b⟩, fun _ => ⟨⟨?_, (hcell.2.2 1 (by omega)).trans e1, (hcell.2.2 2 (by omega)).trans e2⟩, ?_⟩⟩
        · rw [(hcell.2.2 0 (by omega)).trans e0, e]
        · refine hsz _ ?_
          rw [hx]
          simp only [DataW.weights, Tryd.underlying33]
          exact List.mem_cons_of_mem _ (List.mem_append_left _ (weightsAll_mem (d := D i) (List.mem_map.2 ⟨i, List.mem_range.2 hi, rfl⟩) _ m1))
      · exact ⟨⟨0, [], false⟩, fun h => absurd h hi⟩
    obtain ⟨F, hF⟩ := Classical.axiomOfChoice one
    have hfl : ((List.range len).map F).length = len := by simp
    refine ⟨_, _, _, (List.range len).map F, hcs, ⟨some a, cap, by rw [hfl], by rw [hfl]; exact hl, by unfold maxLen at hm ⊢; omega, ?_, fun i f hi => ?_⟩⟩
    · intro f hf
      obtain ⟨i, hi, rfl⟩ := List.mem_map.1 hf
      have := (hF i (List.mem_range.1 hi)).2
      omega
    · have hil : i < len := by
        have := (List.getElem?_eq_some_iff.1 hi).1
        omega
      obtain ⟨b, o, rfl⟩ : ∃ b o, a = ⟨b, o, none⟩ := by
        have g0 := (hF 0 (by omega)).1.1
        rw [Deep.add_add, Nat.zero_mul] at g0
        exact plain_of g0
      have := (hF i hil).1
      simp [hil] at hi
      rw [hi] at this
      simp only [Addr.add_mid] at this
      exact ⟨b, o, rfl, by simpa using this⟩
end
end Go.Proofs.YtonbkpfnpnlkpaaDoor

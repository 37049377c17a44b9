import Derived.Test.YtobegepebochkaaGreatDoorRows
import Derived.WalkKit
import Derived.ProofKit
import Derived.OpenShut
import Derived.Below
import Derived.Deep.Slices
import Derived.SizedLaws
import Derived.Test.YtobegepebochkaaGreatDoorWi
import Derived.Test.YtobegepebochkaaGreatDoorSi
/-
  Verbs with flags that came in.
-/
namespace Go.Proofs.YtobegepebochkaaGreatDoor
open Go.ChangeShapes Go.WideShapes Go.ChangeAt Go.RowKit Go.Shelf
set_option linter.unusedVariables false
set_option linter.unusedSimpArgs false

section
variable {H : Type} {enc : TypeId × Value → H} {P : Program} {w : World} {base : Nat} {spare : Nat → Bool} {held : Bool}
theorem one_of {cs : List Value} {o : Nat} {v : Value} (h : (cs.drop o).take 1 = [v]) : cs[o]? = some v := by
  have : ((cs.drop o).take 1)[0]? = some v := by rw [h]; rfl
  simpa using this
theorem field_int {fs : Array Field} {f : Field} {k : IntKind} {t : TypeId} {fuel : Nat} {cs : List Value} {x : DataW H × List MemPlace} (i : Nat) (ht : P.underlying t = some (.struct fs)) (h : DataW.trod enc P w base spare held fuel t cs = some x)
    (hf : fs[i]? = some f) (hk : P.underlying f.type = some (.int k)) (hc : P.cellsOf f.type = 1) : ∃ n, cs[f.offset]? = some (.int k n) ∧ (Lit.int k n).wf = true := by
  obtain ⟨xs, n, _, rfl, hl, hlen, hff⟩ := DataW.trod_struct ht h
  have := hff i f hf
  have hi : i < xs.length := by rw [hlen]; exact (Array.getElem?_eq_some_iff.1 hf).1
  rw [List.getElem?_eq_getElem hi] at this
  obtain ⟨m, h1, _, h3⟩ := DataW.trod_int hk this
  rw [hc] at h1
  exact ⟨m, one_of h1, h3⟩
end
theorem bounds_u8 {z : Int} (h : (Lit.int .u8 z).wf = true) : 0 ≤ z ∧ z ≤ 255 := by
  simp only [Lit.wf] at h
  revert h
  simp [IntKind.min, IntKind.max, IntKind.signed, IntKind.bits]
theorem weightsAll_mem {H : Type} {P : Program} {e : TypeId} : ∀ {l : List (DataW H)} {d : DataW H}, d ∈ l → ∀ n ∈ d.weights P e, n ∈ DataW.weightsAll P e l
  | x :: l, d, hd, n, hn => by
    simp only [DataW.weightsAll, List.mem_append]
    rcases List.mem_cons.1 hd with rfl | hd
    · exact Or.inl hn
    · exact Or.inr (weightsAll_mem hd n hn)
section
variable {H : Type} {enc : TypeId × Value → H} {P : Program} {w : World} {base : Nat} {spare : Nat → Bool} {held : Bool}
theorem field_bool {fs : Array Field} {f : Field} {t : TypeId} {fuel : Nat} {cs : List Value} {x : DataW H × List MemPlace} (i : Nat) (ht : P.underlying t = some (.struct fs)) (h : DataW.trod enc P w base spare held fuel t cs = some x)
    (hf : fs[i]? = some f) (hk : P.underlying f.type = some .bool) (hc : P.cellsOf f.type = 1) : ∃ b, cs[f.offset]? = some (.bool b) := by
  obtain ⟨xs, n, _, rfl, hl, hlen, hff⟩ := DataW.trod_struct ht h
  have := hff i f hf
  have hi : i < xs.length := by rw [hlen]; exact (Array.getElem?_eq_some_iff.1 hf).1
  rw [List.getElem?_eq_getElem hi] at this
  obtain ⟨m, h1, _⟩ := DataW.trod_bool hk this
  rw [hc] at h1
  exact ⟨m, one_of h1⟩
theorem each_mem {fs : Array Field} {f : Field} {t : TypeId} {xs : List (DataW H × List MemPlace)} {i : Nat} (ht : P.underlying t = some (.struct fs)) (hf : fs[i]? = some f) (hi : i < xs.length) {k : Nat} (hk : k ∈ (xs[i].1).weights P f.type) : k ∈ (DataW.agg (xs.map (·.1))).weights P t := by
  simp only [DataW.weights, ht]
  refine DataW.weights_mem_each (j := i) (t := f.type) (d := xs[i].1) ?_ ?_ k hk
  · simp [hf]
  · simp [hi]
theorem field_string {fs : Array Field} {f : Field} {t : TypeId} {fuel : Nat} {cs : List Value} {x : DataW H × List MemPlace} (i : Nat) (ht : P.underlying t = some (.struct fs)) (h : DataW.trod enc P w base spare held fuel t cs = some x)
    (hf : fs[i]? = some f) (hk : P.underlying f.type = some .string) (hc : P.cellsOf f.type = 1) : ∃ s : Bs, cs[f.offset]? = some (sv s) ∧ s.length ∈ x.1.weights P t := by
  obtain ⟨xs, n, _, rfl, hl, hlen, hff⟩ := DataW.trod_struct ht h
  have := hff i f hf
  have hi : i < xs.length := by rw [hlen]; exact (Array.getElem?_eq_some_iff.1 hf).1
  rw [List.getElem?_eq_getElem hi] at this
  obtain ⟨s, h1, h2, h3⟩ := DataW.trod_string hk this
  rw [hc] at h1
  refine ⟨s.data.toList, one_of h1, ?_⟩
  refine each_mem ht hf hi ?_
  rw [h2]
  simp [DataW.weights]
theorem plain_of {a : Addr} {v : Value} (h : w.cell? (a.add 0) = some v) : ∃ b o, a = ⟨b, o, none⟩ := by
  have := World.cell?_spot h
  obtain ⟨b, o, s⟩ := a
  refine ⟨b, o, ?_⟩
  simp [Addr.add] at this
  rw [this]
end
theorem cells79 : Tryz.prog.cellsOf 79 = 3 := by kernel_rfl
theorem bytes79 : Tryz.prog.bytesOf 79 = 32 := by kernel_rfl
theorem cells77 : Tryz.prog.cellsOf 77 = 2 := by kernel_rfl
section
variable {H : Type} {enc : TypeId × Value → H} {w : World} {base : Nat} {spare : Nat → Bool} {held : Bool}
set_option maxRecDepth 100000 in
theorem open_flags {fuel : Nat} {cs : List Value} {x : DataW H × List MemPlace} (h : DataW.trod enc Tryz.prog w base spare held fuel 39 cs = some x) (hsz : ∀ k ∈ x.1.weights Tryz.prog 39, k ≤ 140737488351232) :
    ∃ v fs, cs = [v] ∧ Fi w v fs ∧ fs.length * 32 ≤ 140737488351232 ∧ ∀ f ∈ fs, f.arg.length ≤ 140737488351232 := by
  rcases Deep.open_slice Tryz.underlying39 h with ⟨hcs, _⟩ | ⟨a, len, cap, m, n, D, Pl, hcs, hb, hl, hm, hmm, hx, hel⟩
  · exact ⟨_, [], hcs, .inl ⟨rfl, .inl rfl⟩, by simp, by simp⟩
  · have hlm : len ≤ m := by rw [hmm]; split <;> omega
    have hlen : len * 32 ≤ 140737488351232 := by
      have := hsz ((len + (m - len)) * 32) (by rw [hx]; simp [DataW.weights, Tryz.underlying39, bytes79])
      omega
    have one : ∀ i, ∃ f : Fl, i < len → (w.cell? ((a.add (i * 3)).add 0) = some (.int .u8 f.letter.toNat) ∧ w.cell? ((a.add (i * 3)).add 1) = some (sv f.arg) ∧ w.cell? ((a.add (i * 3)).add 2) = some (.bool f.has)) ∧ f.arg.length ≤ 140737488351232 := by
      intro i
      by_cases hi : i < len
      · obtain ⟨cs', hc, ht⟩ := hel i (by omega)
        rw [cells79] at hc
        obtain ⟨z, e0, w0⟩ := field_int 0 Tryz.underlying79 ht rfl Tryz.underlying5 (by kernel_rfl)
        obtain ⟨s, e1, m1⟩ := field_string 1 Tryz.underlying79 ht rfl Tryz.underlying9 (by kernel_rfl)
        obtain ⟨b, e2⟩ := field_bool 2 Tryz.underlying79 ht rfl Tryz.underlying4 (by kernel_rfl)
        have hcell := World.cells?_some hc
        have bz := bounds_u8 w0
        have e : ((UInt8.ofNat z.toNat).toNat : Int) = z := by
          rw [UInt8.toNat_ofNat_of_lt' (by simp; omega)]
          omega
        refine ⟨⟨UInt8.ofNat z.toNat, s, b⟩, fun _ => ⟨⟨?_, (hcell.2.2 1 (by omega)).trans e1, (hcell.2.2 2 (by omega)).trans e2⟩, ?_⟩⟩
        · rw [(hcell.2.2 0 (by omega)).trans e0, e]
        · refine hsz _ ?_
          rw [hx]
          simp only [DataW.weights, Tryz.underlying39]
          exact List.mem_cons_of_mem _ (List.mem_append_left _ (weightsAll_mem (d := D i) (List.mem_map.2 ⟨i, List.mem_range.2 hi, rfl⟩) _ m1))
      · exact ⟨⟨0, [], false⟩, fun h => absurd h hi⟩
    obtain ⟨F, hF⟩ := Classical.axiomOfChoice one
    have hfl : ((List.range len).map F).length = len := by simp
    refine ⟨.slice (some a) len cap, (List.range len).map F, hcs, ?_, by rw [hfl]; exact hlen, ?_⟩
    · rcases Nat.eq_zero_or_pos len with rfl | h0
      · exact .inl ⟨rfl, .inr ⟨_, _, rfl⟩⟩
      · obtain ⟨b, o, rfl⟩ : ∃ b o, a = ⟨b, o, none⟩ := by
          have g0 := (hF 0 h0).1.1
          rw [Deep.add_add, Nat.zero_mul] at g0
          exact plain_of g0
        refine .inr ⟨b, o, cap, by rw [hfl], fun i f hi => ?_⟩
        have hil : i < len := by
          have := (List.getElem?_eq_some_iff.1 hi).1
          omega
        have := (hF i hil).1
        simp [hil] at hi
        rw [hi] at this
        simp only [Addr.add_mid] at this
        simpa using this
    · intro f hf
      obtain ⟨i, hi, rfl⟩ := List.mem_map.1 hf
      exact (hF i (List.mem_range.1 hi)).2
set_option maxRecDepth 100000 in
theorem open_flagged {r : Reach} {b0 : Nat} {v : Value} {d : DataW H} {p : List MemPlace} (hv : Value.okWide Tryz.prog w r b0 75 v) (h : DataW.Trod enc Tryz.prog w base spare held 75 v d p) (hsz : ∀ k ∈ d.weights Tryz.prog 75, k ≤ 140737488351232) :
    ∃ gs, Gd w v gs ∧ gs.length ≤ 9223372036854775807 := by
  obtain ⟨a, n, c, rfl⟩ := okWide_slice Tryz.underlying75 hv
  obtain ⟨fuel, hf⟩ := h
  have hf' : DataW.trod enc Tryz.prog w base spare held fuel 75 [.slice a n c] = some (d, p) := by simpa [Value.cells] using hf
  rcases Deep.open_slice Tryz.underlying75 hf' with ⟨hcs, _⟩ | ⟨a', len, cap, m, k, D, Pl, hcs, hb, hl, hm, hmm, hx, hel⟩
  · simp only [List.cons.injEq, Value.slice.injEq, and_true] at hcs
    obtain ⟨rfl, rfl, rfl⟩ := hcs
    exact ⟨[], ⟨none, 0, 0, rfl, rfl, fun h => by simp at h⟩, by simp⟩
  · simp only [List.cons.injEq, Value.slice.injEq, and_true] at hcs
    obtain ⟨rfl, rfl, rfl⟩ := hcs
    have hlm : n ≤ m := by rw [hmm]; split <;> omega
    have one : ∀ i, ∃ y : Int × Value × List Fl, i < n → (w.cell? ((a'.add (i * 2)).add 0) = some (.int .i64 y.1) ∧ w.cell? ((a'.add (i * 2)).add 1) = some y.2.1) ∧ Fi w y.2.1 y.2.2 ∧ y.2.2.length * 32 ≤ 140737488351232 ∧ ∀ f ∈ y.2.2, f.arg.length ≤ 140737488351232 := by
      intro i
      by_cases hi : i < n
      · obtain ⟨cs', hc, ht⟩ := hel i (by omega)
        rw [cells77] at hc
        obtain ⟨z, e0, w0⟩ := field_int 0 Tryz.underlying77 ht rfl Tryz.underlying3 (by kernel_rfl)
        obtain ⟨xs, k', _, ex, hl', hlen', hff⟩ := DataW.trod_struct Tryz.underlying77 ht
        have h1 : DataW.trod enc Tryz.prog w base spare held k' 39 ((cs'.drop 1).take (Tryz.prog.cellsOf 39)) = xs[1]? := hff 1 _ rfl
        have hx2 : xs.length = 2 := by rw [hlen']; rfl
        rw [List.getElem?_eq_getElem (by omega), show Tryz.prog.cellsOf 39 = 1 by kernel_rfl] at h1
        obtain ⟨v, fs, ev, hfi, hfl, hfa⟩ := open_flags h1 (fun q hq => hsz _ (by
          rw [show d = _ from congrArg Prod.fst hx]
          simp only [DataW.weights, Tryz.underlying75]
          refine List.mem_cons_of_mem _ (List.mem_append_left _ (weightsAll_mem (d := D i) (List.mem_map.2 ⟨i, List.mem_range.2 hi, rfl⟩) _ ?_))
          rw [show D i = _ from congrArg Prod.fst ex]
          exact each_mem Tryz.underlying77 (i := 1) rfl (by omega) hq))
        have hcell := World.cells?_some hc
        exact ⟨⟨z, v, fs⟩, fun _ => ⟨⟨(hcell.2.2 0 (by omega)).trans e0, (hcell.2.2 1 (by omega)).trans (one_of ev)⟩, hfi, hfl, hfa⟩⟩
      · exact ⟨⟨0, .bool false, []⟩, fun h => absurd h hi⟩
    obtain ⟨F, hF⟩ := Classical.axiomOfChoice one
    have hfl : ((List.range n).map F).length = n := by simp
    refine ⟨(List.range n).map F, ⟨some a', n, c, rfl, hfl.symm, fun h0 => ?_⟩, by rw [hfl]; unfold maxLen at hm; omega⟩
    rw [hfl] at h0
    obtain ⟨b, o, rfl⟩ : ∃ b o, a' = ⟨b, o, none⟩ := by
      have g0 := (hF 0 h0).1.1
      rw [Deep.add_add, Nat.zero_mul] at g0
      exact plain_of g0
    refine ⟨b, o, rfl, fun i x hi => ?_⟩
    have hil : i < n := by
      have := (List.getElem?_eq_some_iff.1 hi).1
      omega
    obtain ⟨⟨g0, g1⟩, g2⟩ := hF i hil
    simp [hil] at hi
    rw [hi] at g0 g1 g2
    simp only [Addr.add_mid] at g0 g1
    exact ⟨by simpa using g0, g1, g2⟩
end
/-- What the row lists gives the library's errors. -/
theorem er_wordsFlags {W : World} (h : laidMetH Tryz.prog Rows.wordsFlagsRow.laid W) : Er W := by
  rw [MakeChecks.laidMetH_plain _ _ _ (by kernel_rfl)] at h
  have h4 := h.tail.tail.tail.tail
  obtain ⟨a0, s0, hv0, -, -, -⟩ := laid_sentinel h4 gER gERT Tryz.underlying201 (fun u h => rowErr u (h.trans (by kernel_rfl))) Tryz.underlying246 Tryz.underlying248 rfl rfl Tryz.underlying9 cellsErr cells9
  obtain ⟨a1, s1, hv1, -, -, -⟩ := laid_sentinel h4.tail gES gEST Tryz.underlying201 (fun u h => rowErr u (h.trans (by kernel_rfl))) Tryz.underlying246 Tryz.underlying248 rfl rfl Tryz.underlying9 cellsErr cells9
  have c0 := World.var?_cell gER hv0 0
  have c1 := World.var?_cell gES hv1 0
  exact ⟨⟨_, _, by simpa using c1⟩, _, _, by simpa using c0⟩
end Go.Proofs.YtobegepebochkaaGreatDoor

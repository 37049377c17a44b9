import Derived.WalkKit
import Derived.ProofKit
import Derived.OpenShut
import Derived.Below
import Derived.Deep.Slices
import Derived.SizedLaws
import Derived.Test.YtndjimdegkdljaaYt
/-
  Acts that came in.
-/
namespace Go.Proofs.Ytndjimdegkdljaa
open Go.ChangeShapes Go.WideShapes Go.ChangeAt Go.RowKit
set_option linter.unusedVariables false
set_option linter.unusedSimpArgs false

section
variable {H : Type} {enc : TypeId × Value → H} {P : Program} {w : World} {base : Nat} {spare : Nat → Bool} {held : Bool}
theorem one_of {cs : List Value} {o : Nat} {v : Value} (h : (cs.drop o).take 1 = [v]) : cs[o]? = some v := by
  have : ((cs.drop o).take 1)[0]? = some v := by rw [h]; rfl
  simpa using this
theorem field_int {fs : Array Field} {f : Field} {k : IntKind} {t : TypeId} {fuel : Nat} {cs : List Value} {x : DataW H × List MemPlace} (i : Nat) (ht : P.underlying t = some (.struct fs)) (h : DataW.trod enc P w base spare held fuel t cs = some x)
    (hf : fs[i]? = some f) (hk : P.underlying f.type = some (.int k)) (hc : P.cellsOf f.type = 1) : ∃ n, cs[f.offset]? = some (.int k n) ∧ (Lit.int k n).wf = true := by
  obtain ⟨xs, n, _, rfl, hl, hlen, hff⟩ := DataW.trod_struct ht h
  have := hff i f hf
  have hi : i < xs.length := by rw [hlen]; exact (Array.getElem?_eq_some_iff.1 hf).1
  rw [List.getElem?_eq_getElem hi] at this
  obtain ⟨m, h1, _, h3⟩ := DataW.trod_int hk this
  rw [hc] at h1
  exact ⟨m, one_of h1, h3⟩
theorem plain_of {a : Addr} {v : Value} (h : w.cell? (a.add 0) = some v) : ∃ b o, a = ⟨b, o, none⟩ := by
  have := World.cell?_spot h
  obtain ⟨b, o, s⟩ := a
  refine ⟨b, o, ?_⟩
  simp [Addr.add] at this
  rw [this]
end
theorem cells44 : Try.prog.cellsOf 44 = 8 := by kernel_rfl
theorem weightsAll_mem {H : Type} {P : Program} {e : TypeId} : ∀ {l : List (DataW H)} {d : DataW H}, d ∈ l → ∀ n ∈ d.weights P e, n ∈ DataW.weightsAll P e l
  | x :: l, d, hd, n, hn => by
    simp only [DataW.weightsAll, List.mem_append]
    rcases List.mem_cons.1 hd with rfl | hd
    · exact Or.inl hn
    · exact Or.inr (weightsAll_mem hd n hn)
section
variable {H : Type} {enc : TypeId × Value → H} {P : Program} {w : World} {base : Nat} {spare : Nat → Bool} {held : Bool}
theorem each_mem {fs : Array Field} {f : Field} {t : TypeId} {xs : List (DataW H × List MemPlace)} {i : Nat} (ht : P.underlying t = some (.struct fs)) (hf : fs[i]? = some f) (hi : i < xs.length) {k : Nat} (hk : k ∈ (xs[i].1).weights P f.type) : k ∈ (DataW.agg (xs.map (·.1))).weights P t := by
  simp only [DataW.weights, ht]
  refine DataW.weights_mem_each (j := i) (t := f.type) (d := xs[i].1) ?_ ?_ k hk
  · simp [hf]
  · simp [hi]
theorem field_string {fs : Array Field} {f : Field} {t : TypeId} {fuel : Nat} {cs : List Value} {x : DataW H × List MemPlace} (i : Nat) (ht : P.underlying t = some (.struct fs)) (h : DataW.trod enc P w base spare held fuel t cs = some x)
    (hf : fs[i]? = some f) (hk : P.underlying f.type = some .string) (hc : P.cellsOf f.type = 1) : ∃ s : Bs, cs[f.offset]? = some (sv s) ∧ s.length ∈ x.1.weights P t := by
  obtain ⟨xs, n, _, rfl, hl, hlen, hff⟩ := DataW.trod_struct ht h
  have := hff i f hf
  have hi : i < xs.length := by rw [hlen]; exact (Array.getElem?_eq_some_iff.1 hf).1
  rw [List.getElem?_eq_getElem hi] at this
  obtain ⟨s, h1, h2, h3⟩ := DataW.trod_string hk this
  rw [hc] at h1
  refine ⟨s.data.toList, one_of h1, ?_⟩
  refine each_mem ht hf hi ?_
  rw [h2]
  simp [DataW.weights]
/-- A field of its own data. -/
theorem field_of {fs : Array Field} {f : Field} {t : TypeId} {fuel : Nat} {cs : List Value} {x : DataW H × List MemPlace} (i : Nat) (ht : P.underlying t = some (.struct fs)) (h : DataW.trod enc P w base spare held fuel t cs = some x)
    (hf : fs[i]? = some f) : ∃ (n : Nat) (y : DataW H × List MemPlace), DataW.trod enc P w base spare held n f.type ((cs.drop f.offset).take (P.cellsOf f.type)) = some y := by
  obtain ⟨xs, n, _, rfl, hl, hlen, hff⟩ := DataW.trod_struct ht h
  have := hff i f hf
  have hi : i < xs.length := by rw [hlen]; exact (Array.getElem?_eq_some_iff.1 hf).1
  rw [List.getElem?_eq_getElem hi] at this
  exact ⟨n, _, this⟩
end
section
variable {H : Type} {enc : TypeId × Value → H} {w : World} {base : Nat} {spare : Nat → Bool} {held : Bool}
/-- A slice whose elements are flat. -/
theorem open_flat {α : Type} (x0 : α) (f : α → List Value) {t e : TypeId} {sz : Nat} (hfl : ∀ x, (f x).length = sz) (hpos : 0 < sz) (hu : Try.prog.underlying t = some (.slice e)) (hce : Try.prog.cellsOf e = sz)
    (hone : ∀ (fuel : Nat) (cs : List Value) (y : DataW H × List MemPlace), DataW.trod enc Try.prog w base spare held fuel e cs = some y → ∃ x : α, cs = f x)
    {fuel : Nat} {cs : List Value} {y : DataW H × List MemPlace} (h : DataW.trod enc Try.prog w base spare held fuel t cs = some y) :
    ∃ (a : Option Addr) (n c : Nat) (l : List α), cs = [.slice a n c] ∧ n ≤ c ∧ c ≤ maxLen ∧ l.length = n ∧ Hin w (loz w.heap.size) (.slice a n c) n sz (l.flatMap f) := by
  rcases Deep.open_slice hu h with ⟨hcs, _⟩ | ⟨a, len, cap, m, n, D, Pl, hcs, hb, hl, hm, hmm, hx, hel⟩
  · exact ⟨none, 0, 0, [], hcs, Nat.le_refl _, by unfold maxLen; omega, rfl, Hin.nil _ _ _⟩
  · have hlm : len ≤ m := by rw [hmm]; split <;> omega
    have one : ∀ i, ∃ x : α, i < len → ∀ j u, (f x)[j]? = some u → w.cell? ((a.add (i * sz)).add j) = some u := by
      intro i
      by_cases hi : i < len
      · obtain ⟨cs', hc, ht⟩ := hel i (by omega)
        rw [hce] at hc
        obtain ⟨x, rfl⟩ := hone _ _ _ ht
        have hcell := World.cells?_some hc
        refine ⟨x, fun _ j u hj => ?_⟩
        have hjl : j < sz := by
          have := (List.getElem?_eq_some_iff.1 hj).1
          rw [hfl] at this
          exact this
        rw [hcell.2.2 j hjl]
        exact hj
      · exact ⟨x0, fun h => absurd h hi⟩
    obtain ⟨X, hX⟩ := Classical.axiomOfChoice one
    have hxl : ((List.range len).map X).length = len := by simp
    have hflen : (((List.range len).map X).flatMap f).length = len * sz := by
      have : ∀ l : List α, (l.flatMap f).length = l.length * sz := fun l => by
        induction l with
        | nil => simp
        | cons y l ih => rw [List.flatMap_cons, List.length_append, hfl, ih, List.length_cons, Nat.add_mul]; omega
      rw [this, hxl]
    refine ⟨some a, len, cap, (List.range len).map X, hcs, hl, by unfold maxLen at hm ⊢; omega, hxl, hflen, some a, cap, rfl, hl, by unfold maxLen at hm ⊢; omega, (fun e => by cases e), fun h0 => ?_⟩
    have hfirst : ∃ u, (f (X 0))[0]? = some u := ⟨_, List.getElem?_eq_getElem (by rw [hfl]; exact hpos)⟩
    obtain ⟨u0, hu0⟩ := hfirst
    have c0 := hX 0 (by omega) 0 u0 hu0
    obtain ⟨b, o, rfl⟩ : ∃ b o, a = ⟨b, o, none⟩ := by
      rw [Deep.add_add, Nat.zero_mul] at c0
      exact plain_of c0
    have hlt : b < w.heap.size := by
      rw [Addr.add_mid, Addr.add_mid] at c0
      exact World.block_lt_of_cell? _ _ c0
    refine ⟨b, o, rfl, by unfold loz; rw [if_pos hlt], hlt, fun j u hj => ?_⟩
    have hjl : j < len * sz := by rw [← hflen]; exact (List.getElem?_eq_some_iff.1 hj).1
    have hdiv : j / sz < len := by rw [Nat.div_lt_iff_lt_mul hpos]; exact hjl
    have hmod : j % sz < sz := Nat.mod_lt _ hpos
    have hjj : j = (j / sz) * sz + j % sz := by rw [Nat.mul_comm]; exact (Nat.div_add_mod j sz).symm
    have hget : ((List.range len).map X)[j / sz]? = some (X (j / sz)) := by simp [hdiv]
    rw [hjj, flat_get f sz hfl (j % sz) hget hmod] at hj
    have := hX (j / sz) hdiv (j % sz) u hj
    rw [Deep.add_add, Addr.add_mid] at this
    rw [← hjj] at this
    exact this
theorem one5 (fuel : Nat) (cs : List Value) (y : DataW H × List MemPlace) (h : DataW.trod enc Try.prog w base spare held fuel 5 cs = some y) : ∃ x : UInt8, cs = [b8 x] := by
  obtain ⟨z, h3, _, h5⟩ := DataW.trod_int Try.underlying5 h
  have := bounds_u8 h5
  refine ⟨UInt8.ofNat z.toNat, ?_⟩
  have e : ((UInt8.ofNat z.toNat).toNat : Int) = z := by
    rw [UInt8.toNat_ofNat_of_lt' (by simp; omega)]
    omega
  rw [h3]
  show _ = [Value.int .u8 _]
  rw [e]
theorem one3 (fuel : Nat) (cs : List Value) (y : DataW H × List MemPlace) (h : DataW.trod enc Try.prog w base spare held fuel 3 cs = some y) : ∃ x : Int, cs = [.int .i64 x] := by
  obtain ⟨z, h3, _, h5⟩ := DataW.trod_int Try.underlying3 h
  exact ⟨z, h3⟩
theorem list3 {α : Type} {l : List α} {a b c : α} (h : l.length = 3) (h0 : l[0]? = some a) (h1 : l[1]? = some b) (h2 : l[2]? = some c) : l = [a, b, c] := by
  match l, h with
  | [_, _, _], _ => simp at h0 h1 h2; simp [h0, h1, h2]
theorem flat_take {α : Type} {f : α → List Value} (n : Nat) (hf : ∀ x, (f x).length = n) : ∀ (L : List α) (m : Nat), (L.flatMap f).take ((L.take m).length * n) = (L.take m).flatMap f
  | [], m => by simp
  | x :: L, 0 => by simp
  | x :: L, m + 1 => by
    rw [List.take_succ_cons, List.flatMap_cons, List.flatMap_cons, List.length_cons, Nat.add_mul, Nat.one_mul, Nat.add_comm, List.take_append, hf, Nat.add_sub_cancel_left, flat_take n hf L m, List.take_of_length_le (by rw [hf]; omega)]
theorem cells117 : Try.prog.cellsOf 117 = 3 := by kernel_rfl
theorem one117 (fuel : Nat) (cs : List Value) (y : DataW H × List MemPlace) (h : DataW.trod enc Try.prog w base spare held fuel 117 cs = some y) : ∃ x : Flt, cs = fltL x := by
  obtain ⟨x0, e0, _⟩ := field_int 0 Try.underlying117 h rfl Try.underlying3 (by kernel_rfl)
  obtain ⟨x1, e1, _⟩ := field_int 1 Try.underlying117 h rfl Try.underlying3 (by kernel_rfl)
  obtain ⟨x2, e2, _⟩ := field_int 2 Try.underlying117 h rfl Try.underlying3 (by kernel_rfl)
  obtain ⟨xs, n, _, hx, hl, hlen, hff⟩ := DataW.trod_struct Try.underlying117 h
  rw [cells117] at hl
  refine ⟨⟨x0, x1, x2⟩, ?_⟩
  exact list3 hl e0 e1 e2
/-- Cut to at most K. -/
theorem Hin.cut {α : Type} {f : α → List Value} {sz : Nat} (hfl : ∀ x, (f x).length = sz) {w : World} {col : Nat → Nat} {a : Option Addr} {n c : Nat} {l : List α} (hl : l.length = n) (h : Hin w col (.slice a n c) n sz (l.flatMap f)) (K : Nat) :
    (l.take K).length = min n K ∧ Hin w col (.slice a (l.take K).length c) (l.take K).length sz ((l.take K).flatMap f) := by
  have h1 : (l.take K).length = min n K := by rw [List.length_take, hl]; exact Nat.min_comm _ _
  refine ⟨h1, ?_⟩
  have h2 := h.take (m := (l.take K).length) (by rw [h1]; exact Nat.min_le_left _ _)
  rwa [flat_take sz hfl l K] at h2
theorem list8 {α : Type} {l : List α} {a0 a1 a2 a3 a4 a5 a6 a7 : α} (h : l.length = 8) (h0 : l[0]? = some a0) (h1 : l[1]? = some a1) (h2 : l[2]? = some a2) (h3 : l[3]? = some a3) (h4 : l[4]? = some a4) (h5 : l[5]? = some a5) (h6 : l[6]? = some a6) (h7 : l[7]? = some a7) : l = [a0, a1, a2, a3, a4, a5, a6, a7] := by
  match l, h with
  | [_, _, _, _, _, _, _, _], _ => simp at h0 h1 h2 h3 h4 h5 h6 h7; simp [h0, h1, h2, h3, h4, h5, h6, h7]
theorem flat_map {α : Type} (g : α → Value) (l : List α) : l.flatMap (fun x => [g x]) = l.map g := by
  induction l with
  | nil => rfl
  | cons x l ih => simp [ih]
set_option maxRecDepth 100000 in
theorem open_acts3 {r : Go.Reach} {b0 : Nat} {v : Value} {d : DataW H} {p : List MemPlace} (hv : Value.okWide Try.prog w r b0 23 v) (h : DataW.Trod enc Try.prog w base spare held 23 v d p) (hsz : ∀ k ∈ d.weights Try.prog 23, k ≤ 140737488351232) :
    ∃ a n c, v = .slice a n c ∧ n ≤ maxLen ∧ ActsIn w a n := by
  obtain ⟨a, n, c, rfl⟩ := okWide_slice Try.underlying23 hv
  obtain ⟨fuel, hf⟩ := h
  have hf' : DataW.trod enc Try.prog w base spare held fuel 23 [.slice a n c] = some (d, p) := by simpa [Value.cells] using hf
  refine ⟨a, n, c, rfl, ?_⟩
  rcases Deep.open_slice Try.underlying23 hf' with ⟨hcs, _⟩ | ⟨a', len, cap, m, k, D, Pl, hcs, hb, hl, hm, hmm, hx, hel⟩
  · simp only [List.cons.injEq, Value.slice.injEq, and_true] at hcs
    obtain ⟨rfl, rfl, rfl⟩ := hcs
    exact ⟨by unfold maxLen; omega, fun i hi => by omega⟩
  · simp only [List.cons.injEq, Value.slice.injEq, and_true] at hcs
    obtain ⟨rfl, rfl, rfl⟩ := hcs
    have hlm : n ≤ m := by rw [hmm]; split <;> omega
    have all : ∀ i, i < n → ∃ (on dov cnk : Int) (nm tn bs : Bs) (P : List Flt) (ls : List Int) (ba pa ca : Option Addr) (nb np nl bc pc cc : Nat),
        (∀ j u, ([.int .i64 on, .int .i64 dov, sv nm, sv tn, .slice ba nb bc, .slice pa np pc, .slice ca nl cc, .int .i64 cnk] : List Value)[j]? = some u → w.cell? ((a'.add (i * 8)).add j) = some u) ∧
        bs.length = min nb 2097152 ∧ P.length = min np 1000 ∧ ls.length = min nl 10000 ∧ (nb ≤ bc ∧ np ≤ pc ∧ nl ≤ cc ∧ bc ≤ maxLen ∧ pc ≤ maxLen ∧ cc ≤ maxLen) ∧
        Hin w (loz w.heap.size) (.slice ba bs.length bc) bs.length 1 (bs.map b8) ∧ Hin w (loz w.heap.size) (.slice pa P.length pc) P.length 3 (P.flatMap fltL) ∧ Hin w (loz w.heap.size) (.slice ca ls.length cc) ls.length 1 (ls.map (Value.int .i64)) ∧
        nm.length ≤ 140737488351232 ∧ tn.length ≤ 140737488351232 := by
      intro i hi
      obtain ⟨cs', hc, ht⟩ := hel i (by omega)
      rw [cells44] at hc
      have hwt : ∀ k ∈ (D i).weights Try.prog 44, k ≤ 140737488351232 := fun q hq => hsz _ (by
        rw [show d = _ from congrArg Prod.fst hx]
        simp only [DataW.weights, Try.underlying23]
        exact List.mem_cons_of_mem _ (List.mem_append_left _ (weightsAll_mem (d := D i) (List.mem_map.2 ⟨i, List.mem_range.2 hi, rfl⟩) _ hq)))
      obtain ⟨on, e0, _⟩ := field_int 0 Try.underlying44 ht rfl Try.underlying3 (by kernel_rfl)
      obtain ⟨dov, e1, _⟩ := field_int 1 Try.underlying44 ht rfl Try.underlying3 (by kernel_rfl)
      obtain ⟨nm, e2, m2⟩ := field_string 2 Try.underlying44 ht rfl Try.underlying9 (by kernel_rfl)
      obtain ⟨tn, e3, m3⟩ := field_string 3 Try.underlying44 ht rfl Try.underlying9 (by kernel_rfl)
      obtain ⟨n4, y4, t4⟩ := field_of 4 Try.underlying44 ht rfl
      obtain ⟨n5, y5, t5⟩ := field_of 5 Try.underlying44 ht rfl
      obtain ⟨n6, y6, t6⟩ := field_of 6 Try.underlying44 ht rfl
      obtain ⟨ba, nb, bc, lb, s4, b4, c4, l4, H4⟩ := open_flat (0 : UInt8) (fun x => [b8 x]) (sz := 1) (t := 38) (fun _ => rfl) (by decide) Try.underlying38 (by kernel_rfl) one5 t4
      obtain ⟨pa, np, pc, lp, s5, b5, c5, l5, H5⟩ := open_flat (⟨0, 0, 0⟩ : Flt) fltL (sz := 3) (t := 39) (fun _ => rfl) (by decide) Try.underlying39 (by kernel_rfl) one117 t5
      obtain ⟨n60, y60, t60⟩ := field_of 0 Try.underlying42 t6 rfl
      obtain ⟨ca, nl, cc, lc, s6, b6, c6, l6, H6⟩ := open_flat (0 : Int) (fun x => [Value.int .i64 x]) (sz := 1) (t := 40) (fun _ => rfl) (by decide) Try.underlying40 (by kernel_rfl) one3 t60
      obtain ⟨cnk, e7, _⟩ := field_int 1 Try.underlying42 t6 rfl Try.underlying3 (by kernel_rfl)
      obtain ⟨k4, K4⟩ := Hin.cut (f := fun x : UInt8 => [b8 x]) (sz := 1) (fun _ => rfl) l4 H4 2097152
      obtain ⟨k5, K5⟩ := Hin.cut (f := fltL) (sz := 3) (fun _ => rfl) l5 H5 1000
      obtain ⟨k6, K6⟩ := Hin.cut (f := fun x : Int => [Value.int .i64 x]) (sz := 1) (fun _ => rfl) l6 H6 10000
      rw [flat_map] at K4 K6
      have hcell := World.cells?_some hc
      have hcl : cs'.length = 8 := by
        have := hcell.1
        omega
      have g4 : cs'[4]? = some (.slice ba nb bc) := one_of (o := 4) s4
      have g5 : cs'[5]? = some (.slice pa np pc) := one_of (o := 5) s5
      have g6 : cs'[6]? = some (.slice ca nl cc) := by
        have h1 : ((cs'.drop 6).take 2)[0]? = some (.slice ca nl cc) := one_of (o := 0) s6
        simpa using h1
      have g7 : cs'[7]? = some (.int .i64 cnk) := by
        have h1 : ((cs'.drop 6).take 2)[1]? = some (.int .i64 cnk) := e7
        simpa using h1
      have hcs := list8 hcl e0 e1 e2 e3 g4 g5 g6 g7
      refine ⟨on, dov, cnk, nm, tn, lb.take 2097152, lp.take 1000, lc.take 10000, ba, pa, ca, nb, np, nl, bc, pc, cc, fun j u hj => ?_, k4, k5, k6, ⟨b4, b5, b6, c4, c5, c6⟩, K4, K5, K6, hwt _ m2, hwt _ m3⟩
      have hj8 : j < 8 := by
        have := (List.getElem?_eq_some_iff.1 hj).1
        simpa using this
      rw [hcell.2.2 j hj8, hcs]
      exact hj
    refine ⟨by unfold maxLen at hm ⊢; omega, fun i hi => ?_⟩
    obtain ⟨b, o, rfl⟩ : ∃ b o, a' = ⟨b, o, none⟩ := by
      obtain ⟨_, _, _, _, _, _, _, _, _, _, _, _, _, _, _, _, _, g0, _⟩ := all 0 (by omega)
      have g00 := g0 0 _ rfl
      rw [Deep.add_add, Nat.zero_mul] at g00
      exact plain_of g00
    obtain ⟨on, dov, cnk, nm, tn, bs, P, ls, ba, pa, ca, nb, np, nl, bc, pc, cc, g, hr⟩ := all i hi
    have g' : ∀ j u, ([.int .i64 on, .int .i64 dov, sv nm, sv tn, .slice ba nb bc, .slice pa np pc, .slice ca nl cc, .int .i64 cnk] : List Value)[j]? = some u → w.cell? ⟨b, o + i * 8 + j, none⟩ = some u := fun j u hj => by
      have := g j u hj
      rw [Addr.add_mid, Addr.add_mid] at this
      exact this
    exact ⟨b, o, rfl, on, dov, cnk, nm, tn, bs, P, ls, ba, pa, ca, nb, np, nl, bc, pc, cc, g' 0 _ rfl, g' 1 _ rfl, g' 2 _ rfl, g' 3 _ rfl, g' 4 _ rfl, g' 5 _ rfl, g' 6 _ rfl, g' 7 _ rfl, hr⟩
set_option maxRecDepth 100000 in
/-- Two numbers that came in. -/
theorem open_two {r : Go.Reach} {b0 : Nat} {v : Value} {d : DataW H} {p : List MemPlace} (hv : Value.okWide Try.prog w r b0 22 v) (h : DataW.Trod enc Try.prog w base spare held 22 v d p) :
    ∃ s0 s1 : Int, v = .agg #[.int .i64 s0, .int .i64 s1] := by
  simp only [Value.okWide, Try.underlying22] at hv
  obtain ⟨cs, rfl, hs, _⟩ := hv
  obtain ⟨fuel, hf⟩ := h
  have hf' : DataW.trod enc Try.prog w base spare held fuel 22 cs.toList = some (d, p) := by simpa [Value.cells] using hf
  obtain ⟨xs, m', _, _, hlen, hxl, hff⟩ := DataW.trod_array Try.underlying22 hf'
  have one : ∀ j, j < 2 → ∃ x : Int, cs.toList[j]? = some (.int .i64 x) := by
    intro j hj
    have := hff j hj
    rw [List.getElem?_eq_getElem (by omega), show Try.prog.cellsOf 3 = 1 by kernel_rfl] at this
    obtain ⟨x, h1, _, h3⟩ := DataW.trod_int Try.underlying3 this
    rw [Nat.mul_one] at h1
    exact ⟨x, one_of h1⟩
  obtain ⟨x0, e0⟩ := one 0 (by omega)
  obtain ⟨x1, e1⟩ := one 1 (by omega)
  refine ⟨x0, x1, ?_⟩
  have hl2 : cs.toList.length = 2 := by rw [hlen]; kernel_rfl
  congr
  apply Array.ext'
  match hq : cs.toList, hl2 with
  | [_, _], _ =>
    rw [hq] at e0 e1
    simp at e0 e1
    simp [e0, e1]
end
end Go.Proofs.Ytndjimdegkdljaa

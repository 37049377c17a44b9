import Derived.Test.YtobegepebochkaaGreatDoorRows
import Derived.WalkKit
import Derived.ProofKit
import Derived.OpenShut
import Derived.Below
import Derived.Deep.Slices
import Derived.SizedLaws
import Derived.Deep.MidRow
import Derived.Test.YtobegepebochkaaGreatDoorTv
import Derived.Test.YtobegepebochkaaGreatDoorWi
import Derived.Test.YtobegepebochkaaGreatDoorZn
import Derived.Test.YtobegepebochkaaGreatDoorZe
/-
  A Row that came in.
-/
namespace Go.Proofs.YtobegepebochkaaGreatDoor
open Go.ChangeShapes Go.WideShapes Go.ChangeAt Go.RowKit
set_option linter.unusedVariables false
set_option linter.unusedSimpArgs false

section
variable {H : Type} {enc : TypeId × Value → H} {P : Program} {w : World} {base : Nat} {spare : Nat → Bool} {held : Bool}
theorem one_of {cs : List Value} {o : Nat} {v : Value} (h : (cs.drop o).take 1 = [v]) : cs[o]? = some v := by
  have : ((cs.drop o).take 1)[0]? = some v := by rw [h]; rfl
  simpa using this
theorem field_int {fs : Array Field} {f : Field} {k : IntKind} {t : TypeId} {fuel : Nat} {cs : List Value} {x : DataW H × List MemPlace} (i : Nat) (ht : P.underlying t = some (.struct fs)) (h : DataW.trod enc P w base spare held fuel t cs = some x)
    (hf : fs[i]? = some f) (hk : P.underlying f.type = some (.int k)) (hc : P.cellsOf f.type = 1) : ∃ n, cs[f.offset]? = some (.int k n) ∧ (Lit.int k n).wf = true := by
  obtain ⟨xs, n, _, rfl, hl, hlen, hff⟩ := DataW.trod_struct ht h
  have := hff i f hf
  have hi : i < xs.length := by rw [hlen]; exact (Array.getElem?_eq_some_iff.1 hf).1
  rw [List.getElem?_eq_getElem hi] at this
  obtain ⟨m, h1, _, h3⟩ := DataW.trod_int hk this
  rw [hc] at h1
  exact ⟨m, one_of h1, h3⟩
end
theorem list4 {α : Type} {l : List α} {a0 a1 a2 a3 : α} (h : l.length = 4) (h0 : l[0]? = some a0) (h1 : l[1]? = some a1) (h2 : l[2]? = some a2) (h3 : l[3]? = some a3) : l = [a0, a1, a2, a3] := by
  match l, h with
  | [_, _, _, _], _ => simp at h0 h1 h2 h3; simp [h0, h1, h2, h3]
theorem cellsRow : Tryz.prog.cellsOf 102 = 4 := by kernel_rfl
theorem typesRow : Tryz.prog.cellTypes Tryz.prog.depth 102 = some [38, 3, 82, 82] := by kernel_rfl
theorem bounds_u8 {z : Int} (h : (Lit.int .u8 z).wf = true) : 0 ≤ z ∧ z ≤ 255 := by
  simp only [Lit.wf] at h
  revert h
  simp [IntKind.min, IntKind.max, IntKind.signed, IntKind.bits]
theorem bounds_i64 {z : Int} (h : (Lit.int .i64 z).wf = true) : -9223372036854775808 ≤ z ∧ z ≤ 9223372036854775807 := by
  simp only [Lit.wf] at h
  revert h
  simp [IntKind.min, IntKind.max, IntKind.signed, IntKind.bits]
section
variable {H : Type} {enc : TypeId × Value → H} {w : World} {base : Nat} {spare : Nat → Bool} {held : Bool}
set_option maxRecDepth 100000 in
theorem blk_ok {r : Reach} {b0 : Nat} {t e : TypeId} (ht : Tryz.prog.underlying t = some (.slice e)) {a : Addr} {n c : Nat} (h : Cell.okWide Tryz.prog w r b0 t (.slice (some a) n c)) : a.block < w.heap.size ∧ ∃ b o, a = ⟨b, o, none⟩ := by
  simp only [Cell.okWide, ht, Cell.ok, World.has] at h
  obtain ⟨_, _, _, hsp, row, cells, hs, _⟩ := h
  constructor
  · rcases Nat.lt_or_ge a.block w.heap.size with h1 | h1
    · exact h1
    · have : w.heap[a.block]? = none := Array.getElem?_eq_none h1
      simp [World.shape?, this] at hs
  · obtain ⟨b, o, s⟩ := a
    simp at hsp
    subst hsp
    exact ⟨b, o, rfl⟩
set_option maxRecDepth 100000 in
theorem open_by {r : Reach} {b0 : Nat} {fuel : Nat} {cs : List Value} {x : DataW H × List MemPlace} (h : DataW.trod enc Tryz.prog w base spare held fuel 38 cs = some x) (hok : ∀ v, cs = [v] → Cell.okWide Tryz.prog w r b0 38 v) :
    ∃ a c ys, cs = [.slice a (ys : Bs).length c] ∧ Ck w (fun _ => False) (.slice a ys.length c) ys := by
  rcases Deep.open_slice1 Tryz.underlying38 (by kernel_rfl) h with ⟨hcs, _⟩ | ⟨a, len, cap, m, n, V, D, Pl, hcs, hb, hl, hm, hmm, hx, hel⟩
  · exact ⟨none, 0, [], hcs, .inl ⟨rfl, rfl⟩⟩
  · have hlm : len ≤ m := by rw [hmm]; split <;> omega
    have hbyte : ∀ i, ∃ z : UInt8, i < len → w.cell? (a.add i) = some (b8 z) := by
      intro i
      by_cases hi : i < len
      · obtain ⟨h1, h2⟩ := hel i (by omega)
        obtain ⟨z, h3, _, h5⟩ := DataW.trod_int Tryz.underlying5 h2
        simp at h3
        have := bounds_u8 h5
        refine ⟨UInt8.ofNat z.toNat, fun _ => ?_⟩
        rw [h1, h3]
        have e : ((UInt8.ofNat z.toNat).toNat : Int) = z := by
          rw [UInt8.toNat_ofNat_of_lt' (by simp; omega)]
          omega
        rw [show b8 (UInt8.ofNat z.toNat) = .int .u8 z from by show Value.int .u8 _ = _; rw [e]]
      · exact ⟨0, fun h => absurd h hi⟩
    obtain ⟨Z, hZ⟩ := Classical.axiomOfChoice hbyte
    obtain ⟨hblk, b, o, rfl⟩ := blk_ok Tryz.underlying38 (hok _ hcs)
    have hlen : ((List.range len).map Z).length = len := by simp
    refine ⟨some ⟨b, o, none⟩, cap, (List.range len).map Z, by rw [hlen]; exact hcs, .inr ⟨b, o, cap, rfl, by rw [hlen]; exact hl, by unfold maxLen at hm; omega, hblk, id, fun i x hi => ?_⟩⟩
    have hil : i < len := by
      have := (List.getElem?_eq_some_iff.1 hi).1
      omega
    have := hZ i hil
    rw [Addr.add_mid] at this
    rw [this]
    simp [hil] at hi
    rw [hi]
set_option maxRecDepth 100000 in
theorem open_ints {r : Reach} {b0 : Nat} {fuel : Nat} {cs : List Value} {x : DataW H × List MemPlace} (h : DataW.trod enc Tryz.prog w base spare held fuel 82 cs = some x) (hok : ∀ v, cs = [v] → Cell.okWide Tryz.prog w r b0 82 v) :
    ∃ a c ys, cs = [.slice a (ys : List Int).length c] ∧ Ci w (.slice a ys.length c) ys ∧ ys.length ≤ 9223372036854775807 := by
  rcases Deep.open_slice1 Tryz.underlying82 (by kernel_rfl) h with ⟨hcs, _⟩ | ⟨a, len, cap, m, n, V, D, Pl, hcs, hb, hl, hm, hmm, hx, hel⟩
  · exact ⟨none, 0, [], hcs, ⟨none, 0, rfl, fun h => by simp at h⟩, by simp⟩
  · have hlm : len ≤ m := by rw [hmm]; split <;> omega
    have hbyte : ∀ i, ∃ z : Int, i < len → w.cell? (a.add i) = some (.int .i64 z) := by
      intro i
      by_cases hi : i < len
      · obtain ⟨h1, h2⟩ := hel i (by omega)
        obtain ⟨z, h3, _, h5⟩ := DataW.trod_int Tryz.underlying3 h2
        simp at h3
        exact ⟨z, fun _ => by rw [h1, h3]⟩
      · exact ⟨0, fun h => absurd h hi⟩
    obtain ⟨Z, hZ⟩ := Classical.axiomOfChoice hbyte
    obtain ⟨hblk, b, o, rfl⟩ := blk_ok Tryz.underlying82 (hok _ hcs)
    have hlen : ((List.range len).map Z).length = len := by simp
    refine ⟨some ⟨b, o, none⟩, cap, (List.range len).map Z, by rw [hlen]; exact hcs, ⟨_, cap, rfl, fun _ => ⟨b, o, rfl, hblk, fun i x hi => ?_⟩⟩, by rw [hlen]; unfold maxLen at hm; omega⟩
    have hil : i < len := by
      have := (List.getElem?_eq_some_iff.1 hi).1
      omega
    have := hZ i hil
    rw [Addr.add_mid] at this
    rw [this]
    simp [hil] at hi
    rw [hi]
set_option maxRecDepth 100000 in
theorem open_row {r : Reach} {b0 : Nat} {v : Value} {d : DataW H} {p : List MemPlace} (hv : Value.okWide Tryz.prog w r b0 102 v) (h : DataW.Trod enc Tryz.prog w base spare held 102 v d p) :
    ∃ ra rc lim oa oc ca cc raw os cs, v = .agg #[.slice ra (raw : Bs).length rc, .int .i64 lim, .slice oa (os : List Int).length oc, .slice ca (cs : List Int).length cc] ∧ Ck w (fun _ => False) (.slice ra raw.length rc) raw ∧ Ci w (.slice oa os.length oc) os ∧ Ci w (.slice ca cs.length cc) cs ∧ lim ≤ 9223372036854775807 ∧ -9223372036854775808 ≤ lim ∧ os.length ≤ 9223372036854775807 ∧ cs.length ≤ 9223372036854775807 := by
  have hv2 := hv
  simp only [Value.okWide, Tryz.underlying102] at hv2
  obtain ⟨cs, rfl, hs, ts, hts, _, hrow⟩ := hv2
  rw [typesRow] at hts
  cases hts
  obtain ⟨fuel, hf⟩ := h
  have hf' : DataW.trod enc Tryz.prog w base spare held fuel 102 cs.toList = some (d, p) := by simpa [Value.cells] using hf
  obtain ⟨y1, e1, w1⟩ := field_int 1 Tryz.underlying102 hf' rfl Tryz.underlying3 (by kernel_rfl)
  obtain ⟨xs, n, _, ex, hl, hlen, hff⟩ := DataW.trod_struct Tryz.underlying102 hf'
  have hok : ∀ i t v, ([38, 3, 82, 82] : List TypeId)[i]? = some t → i < 4 → (cs.toList.drop i).take 1 = [v] → Cell.okWide Tryz.prog w r b0 t v := by
    intro i t v ht hi he
    obtain ⟨u, hu, hok⟩ := hrow i v (by simpa using one_of he)
    have : u = t := by
      have e : i % 4 = i := Nat.mod_eq_of_lt hi
      simp only [List.length_cons, List.length_nil] at hu
      rw [show (0 + 1 + 1 + 1 + 1 : Nat) = 4 from rfl, e, ht] at hu
      injection hu with hu
      exact hu.symm
    rw [← this]; exact hok
  have h0 : DataW.trod enc Tryz.prog w base spare held n 38 ((cs.toList.drop 0).take (Tryz.prog.cellsOf 38)) = xs[0]? := hff 0 _ rfl
  have h2 : DataW.trod enc Tryz.prog w base spare held n 82 ((cs.toList.drop 2).take (Tryz.prog.cellsOf 82)) = xs[2]? := hff 2 _ rfl
  have h3 : DataW.trod enc Tryz.prog w base spare held n 82 ((cs.toList.drop 3).take (Tryz.prog.cellsOf 82)) = xs[3]? := hff 3 _ rfl
  have hxl : xs.length = 4 := by rw [hlen]; rfl
  rw [List.getElem?_eq_getElem (by omega), show Tryz.prog.cellsOf 38 = 1 by kernel_rfl] at h0
  rw [List.getElem?_eq_getElem (by omega), show Tryz.prog.cellsOf 82 = 1 by kernel_rfl] at h2 h3
  obtain ⟨ra, rc, raw, q0, k0⟩ := open_by h0 (fun v hv => hok 0 _ v rfl (by decide) hv)
  obtain ⟨oa, oc, os, q2, k2, m2⟩ := open_ints h2 (fun v hv => hok 2 _ v rfl (by decide) hv)
  obtain ⟨ca, cc, cs2, q3, k3, m3⟩ := open_ints h3 (fun v hv => hok 3 _ v rfl (by decide) hv)
  have := bounds_i64 w1
  refine ⟨ra, rc, y1, oa, oc, ca, cc, raw, os, cs2, ?_, k0, k2, k3, by omega, by omega, m2, m3⟩
  have := list4 (by rw [cellsRow] at hs; simpa using hs) (one_of q0) e1 (one_of q2) (one_of q3)
  congr
  apply Array.ext'
  rw [this]
end
end Go.Proofs.YtobegepebochkaaGreatDoor
/-
  Verbs with flags that came in.
-/
namespace Go.Proofs.YtobegepebochkaaGreatDoor
open Go.ChangeShapes Go.WideShapes Go.ChangeAt Go.RowKit Go.Shelf
set_option linter.unusedVariables false
set_option linter.unusedSimpArgs false

theorem weightsAll_mem {H : Type} {P : Program} {e : TypeId} : ∀ {l : List (DataW H)} {d : DataW H}, d ∈ l → ∀ n ∈ d.weights P e, n ∈ DataW.weightsAll P e l
  | x :: l, d, hd, n, hn => by
    simp only [DataW.weightsAll, List.mem_append]
    rcases List.mem_cons.1 hd with rfl | hd
    · exact Or.inl hn
    · exact Or.inr (weightsAll_mem hd n hn)
section
variable {H : Type} {enc : TypeId × Value → H} {P : Program} {w : World} {base : Nat} {spare : Nat → Bool} {held : Bool}
theorem field_bool {fs : Array Field} {f : Field} {t : TypeId} {fuel : Nat} {cs : List Value} {x : DataW H × List MemPlace} (i : Nat) (ht : P.underlying t = some (.struct fs)) (h : DataW.trod enc P w base spare held fuel t cs = some x)
    (hf : fs[i]? = some f) (hk : P.underlying f.type = some .bool) (hc : P.cellsOf f.type = 1) : ∃ b, cs[f.offset]? = some (.bool b) := by
  obtain ⟨xs, n, _, rfl, hl, hlen, hff⟩ := DataW.trod_struct ht h
  have := hff i f hf
  have hi : i < xs.length := by rw [hlen]; exact (Array.getElem?_eq_some_iff.1 hf).1
  rw [List.getElem?_eq_getElem hi] at this
  obtain ⟨m, h1, _⟩ := DataW.trod_bool hk this
  rw [hc] at h1
  exact ⟨m, one_of h1⟩
theorem each_mem {fs : Array Field} {f : Field} {t : TypeId} {xs : List (DataW H × List MemPlace)} {i : Nat} (ht : P.underlying t = some (.struct fs)) (hf : fs[i]? = some f) (hi : i < xs.length) {k : Nat} (hk : k ∈ (xs[i].1).weights P f.type) : k ∈ (DataW.agg (xs.map (·.1))).weights P t := by
  simp only [DataW.weights, ht]
  refine DataW.weights_mem_each (j := i) (t := f.type) (d := xs[i].1) ?_ ?_ k hk
  · simp [hf]
  · simp [hi]
theorem field_string {fs : Array Field} {f : Field} {t : TypeId} {fuel : Nat} {cs : List Value} {x : DataW H × List MemPlace} (i : Nat) (ht : P.underlying t = some (.struct fs)) (h : DataW.trod enc P w base spare held fuel t cs = some x)
    (hf : fs[i]? = some f) (hk : P.underlying f.type = some .string) (hc : P.cellsOf f.type = 1) : ∃ s : Bs, cs[f.offset]? = some (sv s) ∧ s.length ∈ x.1.weights P t := by
  obtain ⟨xs, n, _, rfl, hl, hlen, hff⟩ := DataW.trod_struct ht h
  have := hff i f hf
  have hi : i < xs.length := by rw [hlen]; exact (Array.getElem?_eq_some_iff.1 hf).1
  rw [List.getElem?_eq_getElem hi] at this
  obtain ⟨s, h1, h2, h3⟩ := DataW.trod_string hk this
  rw [hc] at h1
  refine ⟨s.data.toList, one_of h1, ?_⟩
  refine each_mem ht hf hi ?_
  rw [h2]
  simp [DataW.weights]
theorem plain_of {a : Addr} {v : Value} (h : w.cell? (a.add 0) = some v) : ∃ b o, a = ⟨b, o, none⟩ := by
  have := World.cell?_spot h
  obtain ⟨b, o, s⟩ := a
  refine ⟨b, o, ?_⟩
  simp [Addr.add] at this
  rw [this]
end
theorem cells79 : Tryz.prog.cellsOf 79 = 3 := by kernel_rfl
theorem bytes79 : Tryz.prog.bytesOf 79 = 32 := by kernel_rfl
theorem cells77 : Tryz.prog.cellsOf 77 = 2 := by kernel_rfl
section
variable {H : Type} {enc : TypeId × Value → H} {w : World} {base : Nat} {spare : Nat → Bool} {held : Bool}
set_option maxRecDepth 100000 in
theorem open_flags {fuel : Nat} {cs : List Value} {x : DataW H × List MemPlace} (h : DataW.trod enc Tryz.prog w base spare held fuel 39 cs = some x) (hsz : ∀ k ∈ x.1.weights Tryz.prog 39, k ≤ 140737488351232) :
    ∃ v fs, cs = [v] ∧ Fi w v fs ∧ fs.length * 32 ≤ 140737488351232 ∧ ∀ f ∈ fs, f.arg.length ≤ 140737488351232 := by
  rcases Deep.open_slice Tryz.underlying39 h with ⟨hcs, _⟩ | ⟨a, len, cap, m, n, D, Pl, hcs, hb, hl, hm, hmm, hx, hel⟩
  · exact ⟨_, [], hcs, .inl ⟨rfl, .inl rfl⟩, by simp, by simp⟩
  · have hlm : len ≤ m := by rw [hmm]; split <;> omega
    have hlen : len * 32 ≤ 140737488351232 := by
      have := hsz ((len + (m - len)) * 32) (by rw [hx]; simp [DataW.weights, Tryz.underlying39, bytes79])
      omega
    have one : ∀ i, ∃ f : Fl, i < len → (w.cell? ((a.add (i * 3)).add 0) = some (.int .u8 f.letter.toNat) ∧ w.cell? ((a.add (i * 3)).add 1) = some (sv f.arg) ∧ w.cell? ((a.add (i * 3)).add 2) = some (.bool f.has)) ∧ f.arg.length ≤ 140737488351232 := by
      intro i
      by_cases hi : i < len
      · obtain ⟨cs', hc, ht⟩ := hel i (by omega)
        rw [cells79] at hc
        obtain ⟨z, e0, w0⟩ := field_int 0 Tryz.underlying79 ht rfl Tryz.underlying5 (by kernel_rfl)
        obtain ⟨s, e1, m1⟩ := field_string 1 Tryz.underlying79 ht rfl Tryz.underlying9 (by kernel_rfl)
        obtain ⟨b, e2⟩ := field_bool 2 Tryz.underlying79 ht rfl Tryz.underlying4 (by kernel_rfl)
        have hcell := World.cells?_some hc
        have bz := bounds_u8 w0
        have e : ((UInt8.ofNat z.toNat).toNat : Int) = z := by
          rw [UInt8.toNat_ofNat_of_lt' (by simp; omega)]
          omega
        refine ⟨⟨UInt8.ofNat z.toNat, s, b⟩, fun _ => ⟨⟨?_, (hcell.2.2 1 (by omega)).trans e1, (hcell.2.2 2 (by omega)).trans e2⟩, ?_⟩⟩
        · rw [(hcell.2.2 0 (by omega)).trans e0, e]
        · refine hsz _ ?_
          rw [hx]
          simp only [DataW.weights, Tryz.underlying39]
          exact List.mem_cons_of_mem _ (List.mem_append_left _ (weightsAll_mem (d := D i) (List.mem_map.2 ⟨i, List.mem_range.2 hi, rfl⟩) _ m1))
      · exact ⟨⟨0, [], false⟩, fun h => absurd h hi⟩
    obtain ⟨F, hF⟩ := Classical.axiomOfChoice one
    have hfl : ((List.range len).map F).length = len := by simp
    refine ⟨.slice (some a) len cap, (List.range len).map F, hcs, ?_, by rw [hfl]; exact hlen, ?_⟩
    · rcases Nat.eq_zero_or_pos len with rfl | h0
      · exact .inl ⟨rfl, .inr ⟨_, _, rfl⟩⟩
      · obtain ⟨b, o, rfl⟩ : ∃ b o, a = ⟨b, o, none⟩ := by
          have g0 := (hF 0 h0).1.1
          rw [Deep.add_add, Nat.zero_mul] at g0
          exact plain_of g0
        refine .inr ⟨b, o, cap, by rw [hfl], fun i f hi => ?_⟩
        have hil : i < len := by
          have := (List.getElem?_eq_some_iff.1 hi).1
          omega
        have := (hF i hil).1
        simp [hil] at hi
        rw [hi] at this
        simp only [Addr.add_mid] at this
        simpa using this
    · intro f hf
      obtain ⟨i, hi, rfl⟩ := List.mem_map.1 hf
      exact (hF i (List.mem_range.1 hi)).2
set_option maxRecDepth 100000 in
theorem open_flagged {r : Reach} {b0 : Nat} {v : Value} {d : DataW H} {p : List MemPlace} (hv : Value.okWide Tryz.prog w r b0 75 v) (h : DataW.Trod enc Tryz.prog w base spare held 75 v d p) (hsz : ∀ k ∈ d.weights Tryz.prog 75, k ≤ 140737488351232) :
    ∃ gs, Gd w v gs ∧ gs.length ≤ 9223372036854775807 := by
  obtain ⟨a, n, c, rfl⟩ := okWide_slice Tryz.underlying75 hv
  obtain ⟨fuel, hf⟩ := h
  have hf' : DataW.trod enc Tryz.prog w base spare held fuel 75 [.slice a n c] = some (d, p) := by simpa [Value.cells] using hf
  rcases Deep.open_slice Tryz.underlying75 hf' with ⟨hcs, _⟩ | ⟨a', len, cap, m, k, D, Pl, hcs, hb, hl, hm, hmm, hx, hel⟩
  · simp only [List.cons.injEq, Value.slice.injEq, and_true] at hcs
    obtain ⟨rfl, rfl, rfl⟩ := hcs
    exact ⟨[], ⟨none, 0, 0, rfl, rfl, fun h => by simp at h⟩, by simp⟩
  · simp only [List.cons.injEq, Value.slice.injEq, and_true] at hcs
    obtain ⟨rfl, rfl, rfl⟩ := hcs
    have hlm : n ≤ m := by rw [hmm]; split <;> omega
    have one : ∀ i, ∃ y : Int × Value × List Fl, i < n → (w.cell? ((a'.add (i * 2)).add 0) = some (.int .i64 y.1) ∧ w.cell? ((a'.add (i * 2)).add 1) = some y.2.1) ∧ Fi w y.2.1 y.2.2 ∧ y.2.2.length * 32 ≤ 140737488351232 ∧ ∀ f ∈ y.2.2, f.arg.length ≤ 140737488351232 := by
      intro i
      by_cases hi : i < n
      · obtain ⟨cs', hc, ht⟩ := hel i (by omega)
        rw [cells77] at hc
        obtain ⟨z, e0, w0⟩ := field_int 0 Tryz.underlying77 ht rfl Tryz.underlying3 (by kernel_rfl)
        obtain ⟨xs, k', _, ex, hl', hlen', hff⟩ := DataW.trod_struct Tryz.underlying77 ht
        have h1 : DataW.trod enc Tryz.prog w base spare held k' 39 ((cs'.drop 1).take (Tryz.prog.cellsOf 39)) = xs[1]? := hff 1 _ rfl
        have hx2 : xs.length = 2 := by rw [hlen']; rfl
        rw [List.getElem?_eq_getElem (by omega), show Tryz.prog.cellsOf 39 = 1 by kernel_rfl] at h1
        obtain ⟨v, fs, ev, hfi, hfl, hfa⟩ := open_flags h1 (fun q hq => hsz _ (by
          rw [show d = _ from congrArg Prod.fst hx]
          simp only [DataW.weights, Tryz.underlying75]
          refine List.mem_cons_of_mem _ (List.mem_append_left _ (weightsAll_mem (d := D i) (List.mem_map.2 ⟨i, List.mem_range.2 hi, rfl⟩) _ ?_))
          rw [show D i = _ from congrArg Prod.fst ex]
          exact each_mem Tryz.underlying77 (i := 1) rfl (by omega) hq))
        have hcell := World.cells?_some hc
        exact ⟨⟨z, v, fs⟩, fun _ => ⟨⟨(hcell.2.2 0 (by omega)).trans e0, (hcell.2.2 1 (by omega)).trans (one_of ev)⟩, hfi, hfl, hfa⟩⟩
      · exact ⟨⟨0, .bool false, []⟩, fun h => absurd h hi⟩
    obtain ⟨F, hF⟩ := Classical.axiomOfChoice one
    have hfl : ((List.range n).map F).length = n := by simp
    refine ⟨(List.range n).map F, ⟨some a', n, c, rfl, hfl.symm, fun h0 => ?_⟩, by rw [hfl]; unfold maxLen at hm; omega⟩
    rw [hfl] at h0
    obtain ⟨b, o, rfl⟩ : ∃ b o, a' = ⟨b, o, none⟩ := by
      have g0 := (hF 0 h0).1.1
      rw [Deep.add_add, Nat.zero_mul] at g0
      exact plain_of g0
    refine ⟨b, o, rfl, fun i x hi => ?_⟩
    have hil : i < n := by
      have := (List.getElem?_eq_some_iff.1 hi).1
      omega
    obtain ⟨⟨g0, g1⟩, g2⟩ := hF i hil
    simp [hil] at hi
    rw [hi] at g0 g1 g2
    simp only [Addr.add_mid] at g0 g1
    exact ⟨by simpa using g0, g1, g2⟩
end
/-- What the row lists gives the library's errors. -/
theorem er_wordsFlags {W : World} (h : laidMetH Tryz.prog Rows.wordsFlagsRow.laid W) : Er W := by
  rw [MakeChecks.laidMetH_plain _ _ _ (by kernel_rfl)] at h
  have h4 := h.tail.tail.tail.tail
  obtain ⟨a0, s0, hv0, -, -, -⟩ := laid_sentinel h4 gER gERT Tryz.underlying201 (fun u h => rowErr u (h.trans (by kernel_rfl))) Tryz.underlying246 Tryz.underlying248 rfl rfl Tryz.underlying9 cellsErr cells9
  obtain ⟨a1, s1, hv1, -, -, -⟩ := laid_sentinel h4.tail gES gEST Tryz.underlying201 (fun u h => rowErr u (h.trans (by kernel_rfl))) Tryz.underlying246 Tryz.underlying248 rfl rfl Tryz.underlying9 cellsErr cells9
  have c0 := World.var?_cell gER hv0 0
  have c1 := World.var?_cell gES hv1 0
  exact ⟨⟨_, _, by simpa using c1⟩, _, _, by simpa using c0⟩
end Go.Proofs.YtobegepebochkaaGreatDoor
/-
  Rows of bytes that came in.
-/
namespace Go.Proofs.YtobegepebochkaaGreatDoor
open Go.ChangeShapes Go.WideShapes Go.ChangeAt Go.RowKit Go.Shelf
set_option linter.unusedVariables false
set_option linter.unusedSimpArgs false

theorem cells38 : Tryz.prog.cellsOf 38 = 1 := by kernel_rfl
theorem bytes5 : Tryz.prog.bytesOf 5 = 1 := by kernel_rfl
section
variable {H : Type} {enc : TypeId × Value → H} {w : World} {base : Nat} {spare : Nat → Bool} {held : Bool}
set_option maxRecDepth 100000 in
theorem open_bw {fuel : Nat} {cs : List Value} {x : DataW H × List MemPlace} (h : DataW.trod enc Tryz.prog w base spare held fuel 38 cs = some x) (hsz : ∀ k ∈ x.1.weights Tryz.prog 38, k ≤ 140737488351232) :
    ∃ v l, cs = [v] ∧ Bw w v l ∧ l.length ≤ 140737488351232 := by
  rcases Deep.open_slice Tryz.underlying38 h with ⟨hcs, _⟩ | ⟨a, len, cap, m, n, D, Pl, hcs, hb, hl, hm, hmm, hx, hel⟩
  · exact ⟨_, [], hcs, .inl (.inl ⟨rfl, rfl⟩), by simp⟩
  · have hlm : len ≤ m := by rw [hmm]; split <;> omega
    have hlen : len ≤ 140737488351232 := by
      have := hsz ((len + (m - len)) * 1) (by rw [hx]; simp [DataW.weights, Tryz.underlying38, bytes5])
      omega
    rcases Nat.eq_zero_or_pos len with rfl | h0
    · exact ⟨_, [], hcs, .inr ⟨rfl, _, _, rfl⟩, by simp⟩
    · have one : ∀ i, ∃ z : UInt8, i < len → w.cell? ((a.add (i * 1)).add 0) = some (b8 z) := by
        intro i
        by_cases hi : i < len
        · obtain ⟨cs', hc, ht⟩ := hel i (by omega)
          rw [show Tryz.prog.cellsOf 5 = 1 by kernel_rfl] at hc
          obtain ⟨z, h3, _, h5⟩ := DataW.trod_int Tryz.underlying5 ht
          have hcell := World.cells?_some hc
          have := bounds_u8 h5
          refine ⟨UInt8.ofNat z.toNat, fun _ => ?_⟩
          rw [hcell.2.2 0 (by omega), h3]
          have e : ((UInt8.ofNat z.toNat).toNat : Int) = z := by
            rw [UInt8.toNat_ofNat_of_lt' (by simp; omega)]
            omega
          rw [show b8 (UInt8.ofNat z.toNat) = .int .u8 z from by show Value.int .u8 _ = _; rw [e]]
          rfl
        · exact ⟨0, fun h => absurd h hi⟩
      obtain ⟨Z, hZ⟩ := Classical.axiomOfChoice one
      have hzl : ((List.range len).map Z).length = len := by simp
      obtain ⟨b, o, rfl⟩ : ∃ b o, a = ⟨b, o, none⟩ := by
        have g0 := hZ 0 h0
        rw [Deep.add_add, Nat.zero_mul] at g0
        exact plain_of g0
      have hc0 : ∀ i, i < len → w.cell? ⟨b, o + i, none⟩ = some (b8 (Z i)) := fun i hi => by
        have := hZ i hi
        rw [Deep.add_add, Nat.mul_one, Nat.add_zero, Addr.add_mid] at this
        exact this
      refine ⟨_, (List.range len).map Z, hcs, .inl (.inr ⟨b, o, cap, by rw [hzl], by rw [hzl]; exact hl, by unfold maxLen at hm; omega, World.block_lt_of_cell? _ _ (hc0 0 h0), id, fun i x hi => ?_⟩), by rw [hzl]; exact hlen⟩
      have hil : i < len := by
        have := (List.getElem?_eq_some_iff.1 hi).1
        omega
      rw [hc0 i hil]
      simp [hil] at hi
      rw [hi]
set_option maxRecDepth 100000 in
theorem open_lines {r : Reach} {b0 : Nat} {v : Value} {d : DataW H} {p : List MemPlace} (hv : Value.okWide Tryz.prog w r b0 22 v) (h : DataW.Trod enc Tryz.prog w base spare held 22 v d p) (hsz : ∀ k ∈ d.weights Tryz.prog 22, k ≤ 140737488351232) :
    ∃ la lc ls, v = .slice la (ls : List Bs).length lc ∧ Rb w la ls ∧ ls.length ≤ 9223372036854775807 := by
  obtain ⟨a, n, c, rfl⟩ := okWide_slice Tryz.underlying22 hv
  obtain ⟨fuel, hf⟩ := h
  have hf' : DataW.trod enc Tryz.prog w base spare held fuel 22 [.slice a n c] = some (d, p) := by simpa [Value.cells] using hf
  rcases Deep.open_slice Tryz.underlying22 hf' with ⟨hcs, _⟩ | ⟨a', len, cap, m, k, D, Pl, hcs, hb, hl, hm, hmm, hx, hel⟩
  · simp only [List.cons.injEq, Value.slice.injEq, and_true] at hcs
    obtain ⟨rfl, rfl, rfl⟩ := hcs
    exact ⟨none, 0, [], rfl, fun h => by simp at h, by simp⟩
  · simp only [List.cons.injEq, Value.slice.injEq, and_true] at hcs
    obtain ⟨rfl, rfl, rfl⟩ := hcs
    have hlm : n ≤ m := by rw [hmm]; split <;> omega
    have one : ∀ i, ∃ y : Value × Bs, i < n → w.cell? ((a'.add (i * 1)).add 0) = some y.1 ∧ Bw w y.1 y.2 ∧ y.2.length ≤ 140737488351232 := by
      intro i
      by_cases hi : i < n
      · obtain ⟨cs', hc, ht⟩ := hel i (by omega)
        rw [cells38] at hc
        obtain ⟨v, l, ev, hbw, hll⟩ := open_bw ht (fun q hq => hsz _ (by
          rw [show d = _ from congrArg Prod.fst hx]
          simp only [DataW.weights, Tryz.underlying22]
          exact List.mem_cons_of_mem _ (List.mem_append_left _ (weightsAll_mem (d := D i) (List.mem_map.2 ⟨i, List.mem_range.2 hi, rfl⟩) _ hq))))
        have hcell := World.cells?_some hc
        refine ⟨⟨v, l⟩, fun _ => ⟨?_, hbw, hll⟩⟩
        rw [hcell.2.2 0 (by omega), ev]
        rfl
      · exact ⟨⟨.bool false, []⟩, fun h => absurd h hi⟩
    obtain ⟨F, hF⟩ := Classical.axiomOfChoice one
    have hfl : ((List.range n).map (fun i => (F i).2)).length = n := by simp
    refine ⟨some a', c, (List.range n).map (fun i => (F i).2), by rw [hfl], fun h0 => ?_, by rw [hfl]; unfold maxLen at hm; omega⟩
    rw [hfl] at h0
    obtain ⟨b, o, rfl⟩ : ∃ b o, a' = ⟨b, o, none⟩ := by
      have g0 := (hF 0 h0).1
      rw [Deep.add_add, Nat.zero_mul] at g0
      exact plain_of g0
    refine ⟨b, o, rfl, fun i x hi => ?_⟩
    have hil : i < n := by
      have := (List.getElem?_eq_some_iff.1 hi).1
      omega
    obtain ⟨g0, g1, g2⟩ := hF i hil
    simp [hil] at hi
    rw [hi] at g1 g2
    rw [Deep.add_add, Nat.mul_one, Nat.add_zero, Addr.add_mid] at g0
    exact ⟨_, g0, g1, g2⟩
end
end Go.Proofs.YtobegepebochkaaGreatDoor

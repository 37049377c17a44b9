import Derived.Test.YtobegepebochkaaGreatDoorRows
import Derived.WalkKit
import Derived.ProofKit
import Derived.OpenShut
import Derived.Below
import Derived.Deep.Slices
import Derived.SizedLaws
import Derived.Deep.MidRow
import Derived.Test.YtobegepebochkaaGreatDoorTv
/-
  A Row that came in.
-/
namespace Go.Proofs.YtobegepebochkaaGreatDoor
open Go.ChangeShapes Go.WideShapes Go.ChangeAt Go.RowKit
set_option linter.unusedVariables false
set_option linter.unusedSimpArgs false

section
variable {H : Type} {enc : TypeId × Value → H} {P : Program} {w : World} {base : Nat} {spare : Nat → Bool} {held : Bool}
theorem one_of {cs : List Value} {o : Nat} {v : Value} (h : (cs.drop o).take 1 = [v]) : cs[o]? = some v := by
  have : ((cs.drop o).take 1)[0]? = some v := by rw [h]; rfl
  simpa using this
theorem field_int {fs : Array Field} {f : Field} {k : IntKind} {t : TypeId} {fuel : Nat} {cs : List Value} {x : DataW H × List MemPlace} (i : Nat) (ht : P.underlying t = some (.struct fs)) (h : DataW.trod enc P w base spare held fuel t cs = some x)
    (hf : fs[i]? = some f) (hk : P.underlying f.type = some (.int k)) (hc : P.cellsOf f.type = 1) : ∃ n, cs[f.offset]? = some (.int k n) ∧ (Lit.int k n).wf = true := by
  obtain ⟨xs, n, _, rfl, hl, hlen, hff⟩ := DataW.trod_struct ht h
  have := hff i f hf
  have hi : i < xs.length := by rw [hlen]; exact (Array.getElem?_eq_some_iff.1 hf).1
  rw [List.getElem?_eq_getElem hi] at this
  obtain ⟨m, h1, _, h3⟩ := DataW.trod_int hk this
  rw [hc] at h1
  exact ⟨m, one_of h1, h3⟩
end
theorem list4 {α : Type} {l : List α} {a0 a1 a2 a3 : α} (h : l.length = 4) (h0 : l[0]? = some a0) (h1 : l[1]? = some a1) (h2 : l[2]? = some a2) (h3 : l[3]? = some a3) : l = [a0, a1, a2, a3] := by
  match l, h with
  | [_, _, _, _], _ => simp at h0 h1 h2 h3; simp [h0, h1, h2, h3]
theorem cellsRow : Tryz.prog.cellsOf 102 = 4 := by kernel_rfl
theorem typesRow : Tryz.prog.cellTypes Tryz.prog.depth 102 = some [38, 3, 82, 82] := by kernel_rfl
theorem bounds_u8 {z : Int} (h : (Lit.int .u8 z).wf = true) : 0 ≤ z ∧ z ≤ 255 := by
  simp only [Lit.wf] at h
  revert h
  simp [IntKind.min, IntKind.max, IntKind.signed, IntKind.bits]
theorem bounds_i64 {z : Int} (h : (Lit.int .i64 z).wf = true) : -9223372036854775808 ≤ z ∧ z ≤ 9223372036854775807 := by
  simp only [Lit.wf] at h
  revert h
  simp [IntKind.min, IntKind.max, IntKind.signed, IntKind.bits]
section
variable {H : Type} {enc : TypeId × Value → H} {w : World} {base : Nat} {spare : Nat → Bool} {held : Bool}
set_option maxRecDepth 100000 in
theorem blk_ok {r : Reach} {b0 : Nat} {t e : TypeId} (ht : Tryz.prog.underlying t = some (.slice e)) {a : Addr} {n c : Nat} (h : Cell.okWide Tryz.prog w r b0 t (.slice (some a) n c)) : a.block < w.heap.size ∧ ∃ b o, a = ⟨b, o, none⟩ := by
  simp only [Cell.okWide, ht, Cell.ok, World.has] at h
  obtain ⟨_, _, _, hsp, row, cells, hs, _⟩ := h
  constructor
  · rcases Nat.lt_or_ge a.block w.heap.size with h1 | h1
    · exact h1
    · have : w.heap[a.block]? = none := Array.getElem?_eq_none h1
      simp [World.shape?, this] at hs
  · obtain ⟨b, o, s⟩ := a
    simp at hsp
    subst hsp
    exact ⟨b, o, rfl⟩
set_option maxRecDepth 100000 in
theorem open_by {r : Reach} {b0 : Nat} {fuel : Nat} {cs : List Value} {x : DataW H × List MemPlace} (h : DataW.trod enc Tryz.prog w base spare held fuel 38 cs = some x) (hok : ∀ v, cs = [v] → Cell.okWide Tryz.prog w r b0 38 v) :
    ∃ a c ys, cs = [.slice a (ys : Bs).length c] ∧ Ck w (fun _ => False) (.slice a ys.length c) ys := by
  rcases Deep.open_slice1 Tryz.underlying38 (by kernel_rfl) h with ⟨hcs, _⟩ | ⟨a, len, cap, m, n, V, D, Pl, hcs, hb, hl, hm, hmm, hx, hel⟩
  · exact ⟨none, 0, [], hcs, .inl ⟨rfl, rfl⟩⟩
  · have hlm : len ≤ m := by rw [hmm]; split <;> omega
    have hbyte : ∀ i, ∃ z : UInt8, i < len → w.cell? (a.add i) = some (b8 z) := by
      intro i
      by_cases hi : i < len
      · obtain ⟨h1, h2⟩ := hel i (by omega)
        obtain ⟨z, h3, _, h5⟩ := DataW.trod_int Tryz.underlying5 h2
        simp at h3
        have := bounds_u8 h5
        refine ⟨UInt8.ofNat z.toNat, fun _ => ?_⟩
        rw [h1, h3]
        have e : ((UInt8.ofNat z.toNat).toNat : Int) = z := by
          rw [UInt8.toNat_ofNat_of_lt' (by simp; omega)]
          omega
        rw [show b8 (UInt8.ofNat z.toNat) = .int .u8 z from by show Value.int .u8 _ = _; rw [e]]
      · exact ⟨0, fun h => absurd h hi⟩
    obtain ⟨Z, hZ⟩ := Classical.axiomOfChoice hbyte
    obtain ⟨hblk, b, o, rfl⟩ := blk_ok Tryz.underlying38 (hok _ hcs)
    have hlen : ((List.range len).map Z).length = len := by simp
    refine ⟨some ⟨b, o, none⟩, cap, (List.range len).map Z, by rw [hlen]; exact hcs, .inr ⟨b, o, cap, rfl, by rw [hlen]; exact hl, by unfold maxLen at hm; omega, hblk, id, fun i x hi => ?_⟩⟩
    have hil : i < len := by
      have := (List.getElem?_eq_some_iff.1 hi).1
      omega
    have := hZ i hil
    rw [Addr.add_mid] at this
    rw [this]
    simp [hil] at hi
    rw [hi]
set_option maxRecDepth 100000 in
theorem open_ints {r : Reach} {b0 : Nat} {fuel : Nat} {cs : List Value} {x : DataW H × List MemPlace} (h : DataW.trod enc Tryz.prog w base spare held fuel 82 cs = some x) (hok : ∀ v, cs = [v] → Cell.okWide Tryz.prog w r b0 82 v) :
    ∃ a c ys, cs = [.slice a (ys : List Int).length c] ∧ Ci w (.slice a ys.length c) ys ∧ ys.length ≤ 9223372036854775807 := by
  rcases Deep.open_slice1 Tryz.underlying82 (by kernel_rfl) h with ⟨hcs, _⟩ | ⟨a, len, cap, m, n, V, D, Pl, hcs, hb, hl, hm, hmm, hx, hel⟩
  · exact ⟨none, 0, [], hcs, ⟨none, 0, rfl, fun h => by simp at h⟩, by simp⟩
  · have hlm : len ≤ m := by rw [hmm]; split <;> omega
    have hbyte : ∀ i, ∃ z : Int, i < len → w.cell? (a.add i) = some (.int .i64 z) := by
      intro i
      by_cases hi : i < len
      · obtain ⟨h1, h2⟩ := hel i (by omega)
        obtain ⟨z, h3, _, h5⟩ := DataW.trod_int Tryz.underlying3 h2
        simp at h3
        exact ⟨z, fun _ => by rw [h1, h3]⟩
      · exact ⟨0, fun h => absurd h hi⟩
    obtain ⟨Z, hZ⟩ := Classical.axiomOfChoice hbyte
    obtain ⟨hblk, b, o, rfl⟩ := blk_ok Tryz.underlying82 (hok _ hcs)
    have hlen : ((List.range len).map Z).length = len := by simp
    refine ⟨some ⟨b, o, none⟩, cap, (List.range len).map Z, by rw [hlen]; exact hcs, ⟨_, cap, rfl, fun _ => ⟨b, o, rfl, hblk, fun i x hi => ?_⟩⟩, by rw [hlen]; unfold maxLen at hm; omega⟩
    have hil : i < len := by
      have := (List.getElem?_eq_some_iff.1 hi).1
      omega
    have := hZ i hil
    rw [Addr.add_mid] at this
    rw [this]
    simp [hil] at hi
    rw [hi]
set_option maxRecDepth 100000 in
theorem open_row {r : Reach} {b0 : Nat} {v : Value} {d : DataW H} {p : List MemPlace} (hv : Value.okWide Tryz.prog w r b0 102 v) (h : DataW.Trod enc Tryz.prog w base spare held 102 v d p) :
    ∃ ra rc lim oa oc ca cc raw os cs, v = .agg #[.slice ra (raw : Bs).length rc, .int .i64 lim, .slice oa (os : List Int).length oc, .slice ca (cs : List Int).length cc] ∧ Ck w (fun _ => False) (.slice ra raw.length rc) raw ∧ Ci w (.slice oa os.length oc) os ∧ Ci w (.slice ca cs.length cc) cs ∧ lim ≤ 9223372036854775807 ∧ -9223372036854775808 ≤ lim ∧ os.length ≤ 9223372036854775807 ∧ cs.length ≤ 9223372036854775807 := by
  have hv2 := hv
  simp only [Value.okWide, Tryz.underlying102] at hv2
  obtain ⟨cs, rfl, hs, ts, hts, _, hrow⟩ := hv2
  rw [typesRow] at hts
  cases hts
  obtain ⟨fuel, hf⟩ := h
  have hf' : DataW.trod enc Tryz.prog w base spare held fuel 102 cs.toList = some (d, p) := by simpa [Value.cells] using hf
  obtain ⟨y1, e1, w1⟩ := field_int 1 Tryz.underlying102 hf' rfl Tryz.underlying3 (by kernel_rfl)
  obtain ⟨xs, n, _, ex, hl, hlen, hff⟩ := DataW.trod_struct Tryz.underlying102 hf'
  have hok : ∀ i t v, ([38, 3, 82, 82] : List TypeId)[i]? = some t → i < 4 → (cs.toList.drop i).take 1 = [v] → Cell.okWide Tryz.prog w r b0 t v := by
    intro i t v ht hi he
    obtain ⟨u, hu, hok⟩ := hrow i v (by simpa using one_of he)
    have : u = t := by
      have e : i % 4 = i := Nat.mod_eq_of_lt hi
      simp only [List.length_cons, List.length_nil] at hu
      rw [show (0 + 1 + 1 + 1 + 1 : Nat) = 4 from rfl, e, ht] at hu
      injection hu with hu
      exact hu.symm
    rw [← this]; exact hok
  have h0 : DataW.trod enc Tryz.prog w base spare held n 38 ((cs.toList.drop 0).take (Tryz.prog.cellsOf 38)) = xs[0]? := hff 0 _ rfl
  have h2 : DataW.trod enc Tryz.prog w base spare held n 82 ((cs.toList.drop 2).take (Tryz.prog.cellsOf 82)) = xs[2]? := hff 2 _ rfl
  have h3 : DataW.trod enc Tryz.prog w base spare held n 82 ((cs.toList.drop 3).take (Tryz.prog.cellsOf 82)) = xs[3]? := hff 3 _ rfl
  have hxl : xs.length = 4 := by rw [hlen]; rfl
  rw [List.getElem?_eq_getElem (by omega), show Tryz.prog.cellsOf 38 = 1 by kernel_rfl] at h0
  rw [List.getElem?_eq_getElem (by omega), show Tryz.prog.cellsOf 82 = 1 by kernel_rfl] at h2 h3
  obtain ⟨ra, rc, raw, q0, k0⟩ := open_by h0 (fun v hv => hok 0 _ v rfl (by decide) hv)
  obtain ⟨oa, oc, os, q2, k2, m2⟩ := open_ints h2 (fun v hv => hok 2 _ v rfl (by decide) hv)
  obtain ⟨ca, cc, cs2, q3, k3, m3⟩ := open_ints h3 (fun v hv => hok 3 _ v rfl (by decide) hv)
  have := bounds_i64 w1
  refine ⟨ra, rc, y1, oa, oc, ca, cc, raw, os, cs2, ?_, k0, k2, k3, by omega, by omega, m2, m3⟩
  have := list4 (by rw [cellsRow] at hs; simpa using hs) (one_of q0) e1 (one_of q2) (one_of q3)
  congr
  apply Array.ext'
  rw [this]
end
end Go.Proofs.YtobegepebochkaaGreatDoor

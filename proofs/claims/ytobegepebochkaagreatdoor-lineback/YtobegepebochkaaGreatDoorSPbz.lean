import Derived.WalkKit
import Derived.ProofKit
import Derived.OpenShut
import Derived.Below
import Derived.Deep.Slices
import Derived.SizedLaws
import Derived.Great.Walk
import Derived.Deep.RegionHeld3
import Derived.Great.BuildSlice
import Derived.Test.YtobegepebochkaaGreatDoorRows
import Derived.Test.YtobegepebochkaaGreatDoorSPby
import Derived.Test.YtobegepebochkaaGreatDoorSPaw
import Derived.Test.YtobegepebochkaaGreatDoorSE
import Derived.ArgAppend
import Derived.Deep.RegionLaw
import Derived.Test.YtobegepebochkaaGreatDoorSPaa
import Derived.Test.YtobegepebochkaaGreatDoorSPay
set_option linter.unusedVariables false
set_option linter.unusedSimpArgs false
namespace Go.Proofs.YtobegepebochkaaGreatDoor
open Go.ChangeShapes Go.WideShapes Go.ChangeAt Go.RowKit Go.Shelf
theorem weightsAll_mem {H : Type} {P : Program} {e : TypeId} : ∀ {l : List (DataW H)} {d : DataW H}, d ∈ l → ∀ n ∈ d.weights P e, n ∈ DataW.weightsAll P e l
  | x :: l, d, hd, n, hn => by
    simp only [DataW.weightsAll, List.mem_append]
    rcases List.mem_cons.1 hd with rfl | hd
    · exact Or.inl hn
    · exact Or.inr (weightsAll_mem hd n hn)
section
variable {H : Type} {enc : TypeId × Value → H} {P : Program} {w : World} {base : Nat} {spare : Nat → Bool} {held : Bool}
theorem field_bool {fs : Array Field} {f : Field} {t : TypeId} {fuel : Nat} {cs : List Value} {x : DataW H × List MemPlace} (i : Nat) (ht : P.underlying t = some (.struct fs)) (h : DataW.trod enc P w base spare held fuel t cs = some x)
    (hf : fs[i]? = some f) (hk : P.underlying f.type = some .bool) (hc : P.cellsOf f.type = 1) : ∃ b, cs[f.offset]? = some (.bool b) := by
  obtain ⟨xs, n, _, rfl, hl, hlen, hff⟩ := DataW.trod_struct ht h
  have := hff i f hf
  have hi : i < xs.length := by rw [hlen]; exact (Array.getElem?_eq_some_iff.1 hf).1
  rw [List.getElem?_eq_getElem hi] at this
  obtain ⟨m, h1, _⟩ := DataW.trod_bool hk this
  rw [hc] at h1
  exact ⟨m, one_of h1⟩
theorem each_mem {fs : Array Field} {f : Field} {t : TypeId} {xs : List (DataW H × List MemPlace)} {i : Nat} (ht : P.underlying t = some (.struct fs)) (hf : fs[i]? = some f) (hi : i < xs.length) {k : Nat} (hk : k ∈ (xs[i].1).weights P f.type) : k ∈ (DataW.agg (xs.map (·.1))).weights P t := by
  simp only [DataW.weights, ht]
  refine DataW.weights_mem_each (j := i) (t := f.type) (d := xs[i].1) ?_ ?_ k hk
  · simp [hf]
  · simp [hi]
theorem field_string {fs : Array Field} {f : Field} {t : TypeId} {fuel : Nat} {cs : List Value} {x : DataW H × List MemPlace} (i : Nat) (ht : P.underlying t = some (.struct fs)) (h : DataW.trod enc P w base spare held fuel t cs = some x)
    (hf : fs[i]? = some f) (hk : P.underlying f.type = some .string) (hc : P.cellsOf f.type = 1) : ∃ s : Bs, cs[f.offset]? = some (sv s) ∧ s.length ∈ x.1.weights P t := by
  obtain ⟨xs, n, _, rfl, hl, hlen, hff⟩ := DataW.trod_struct ht h
  have := hff i f hf
  have hi : i < xs.length := by rw [hlen]; exact (Array.getElem?_eq_some_iff.1 hf).1
  rw [List.getElem?_eq_getElem hi] at this
  obtain ⟨s, h1, h2, h3⟩ := DataW.trod_string hk this
  rw [hc] at h1
  refine ⟨s.data.toList, one_of h1, ?_⟩
  refine each_mem ht hf hi ?_
  rw [h2]
  simp [DataW.weights]
theorem plain_of {a : Addr} {v : Value} (h : w.cell? (a.add 0) = some v) : ∃ b o, a = ⟨b, o, none⟩ := by
  have := World.cell?_spot h
  obtain ⟨b, o, s⟩ := a
  refine ⟨b, o, ?_⟩
  simp [Addr.add] at this
  rw [this]
end
theorem cells79 : Tryz.prog.cellsOf 79 = 3 := by kernel_rfl
theorem bytes79 : Tryz.prog.bytesOf 79 = 32 := by kernel_rfl
section
variable {H : Type} {enc : TypeId × Value → H} {w : World} {base : Nat} {spare : Nat → Bool} {held : Bool}
set_option maxRecDepth 100000 in
theorem open_flags {fuel : Nat} {cs : List Value} {x : DataW H × List MemPlace} (h : DataW.trod enc Tryz.prog w base spare held fuel 39 cs = some x) (hsz : ∀ k ∈ x.1.weights Tryz.prog 39, k ≤ 140737488351232) :
    ∃ v fs, cs = [v] ∧ Fi w v fs ∧ fs.length * 32 ≤ 140737488351232 ∧ ∀ f ∈ fs, f.arg.length ≤ 140737488351232 := by
  rcases Deep.open_slice Tryz.underlying39 h with ⟨hcs, _⟩ | ⟨a, len, cap, m, n, D, Pl, hcs, hb, hl, hm, hmm, hx, hel⟩
  · exact ⟨_, [], hcs, .inl ⟨rfl, .inl rfl⟩, by simp, by simp⟩
  · have hlm : len ≤ m := by rw [hmm]; split <;> omega
    have hlen : len * 32 ≤ 140737488351232 := by
      have := hsz ((len + (m - len)) * 32) (by rw [hx]; simp [DataW.weights, Tryz.underlying39, bytes79])
      omega
    have one : ∀ i, ∃ f : Fl, i < len → (w.cell? ((a.add (i * 3)).add 0) = some (.int .u8 f.letter.toNat) ∧ w.cell? ((a.add (i * 3)).add 1) = some (sv f.arg) ∧ w.cell? ((a.add (i * 3)).add 2) = some (.bool f.has)) ∧ f.arg.length ≤ 140737488351232 := by
      intro i
      by_cases hi : i < len
      · obtain ⟨cs', hc, ht⟩ := hel i (by omega)
        rw [cells79] at hc
        obtain ⟨z, e0, w0⟩ := field_int 0 Tryz.underlying79 ht rfl Tryz.underlying5 (by kernel_rfl)
        obtain ⟨s, e1, m1⟩ := field_string 1 Tryz.underlying79 ht rfl Tryz.underlying9 (by kernel_rfl)
        obtain ⟨b, e2⟩ := field_bool 2 Tryz.underlying79 ht rfl Tryz.underlying4 (by kernel_rfl)
        have hcell := World.cells?_some hc
        have bz := bounds_u8 w0
        have e : ((UInt8.ofNat z.toNat).toNat : Int) = z := by
          rw [UInt8.toNat_ofNat_of_lt' (by simp; omega)]
          omega
        refine ⟨⟨UInt8.ofNat z.toNat, s, b⟩, fun _ => ⟨⟨?_, (hcell.2.2 1 (by omega)).trans e1, (hcell.2.2 2 (by omega)).trans e2⟩, ?_⟩⟩
        · rw [(hcell.2.2 0 (by omega)).trans e0, e]
        · refine hsz _ ?_
          rw [hx]
          simp only [DataW.weights, Tryz.underlying39]
          exact List.mem_cons_of_mem _ (List.mem_append_left _ (weightsAll_mem (d := D i) (List.mem_map.2 ⟨i, List.mem_range.2 hi, rfl⟩) _ m1))
      · exact ⟨⟨0, [], false⟩, fun h => absurd h hi⟩
    obtain ⟨F, hF⟩ := Classical.axiomOfChoice one
    have hfl : ((List.range len).map F).length = len := by simp
    refine ⟨.slice (some a) len cap, (List.range len).map F, hcs, ?_, by rw [hfl]; exact hlen, ?_⟩
    · rcases Nat.eq_zero_or_pos len with rfl | h0
      · exact .inl ⟨rfl, .inr ⟨_, _, rfl⟩⟩
      · obtain ⟨b, o, rfl⟩ : ∃ b o, a = ⟨b, o, none⟩ := by
          have g0 := (hF 0 h0).1.1
          rw [Deep.add_add, Nat.zero_mul] at g0
          exact plain_of g0
        refine .inr ⟨b, o, cap, by rw [hfl], fun i f hi => ?_⟩
        have hil : i < len := by
          have := (List.getElem?_eq_some_iff.1 hi).1
          omega
        have := (hF i hil).1
        simp [hil] at hi
        rw [hi] at this
        simp only [Addr.add_mid] at this
        simpa using this
    · intro f hf
      obtain ⟨i, hi, rfl⟩ := List.mem_map.1 hf
      exact (hF i (List.mem_range.1 hi)).2
end
end Go.Proofs.YtobegepebochkaaGreatDoor
namespace Go.Proofs.YtobegepebochkaaGreatDoor
open Go.RowKit Go.Maps
def Bw (w : World) (v : Value) (l : Bs) : Prop := Ck w (fun _ => False) v l ∨ (l = [] ∧ ∃ a c, v = .slice (some a) 0 c)
section
variable {w : World} {ops : Array Oper} {rest : List Oper} {o : Oper} {a : Act} {Q : Exit → Act → World → Prop}
end
end Go.Proofs.YtobegepebochkaaGreatDoor
namespace Go.Proofs.YtobegepebochkaaGreatDoor
open Go.ChangeShapes Go.WideShapes Go.ChangeAt Go.RowKit Go.Shelf
theorem cells38 : Tryz.prog.cellsOf 38 = 1 := by kernel_rfl
theorem bytes5 : Tryz.prog.bytesOf 5 = 1 := by kernel_rfl
section
variable {H : Type} {enc : TypeId × Value → H} {w : World} {base : Nat} {spare : Nat → Bool} {held : Bool}
set_option maxRecDepth 100000 in
theorem open_bw {fuel : Nat} {cs : List Value} {x : DataW H × List MemPlace} (h : DataW.trod enc Tryz.prog w base spare held fuel 38 cs = some x) (hsz : ∀ k ∈ x.1.weights Tryz.prog 38, k ≤ 140737488351232) :
    ∃ v l, cs = [v] ∧ Bw w v l ∧ l.length ≤ 140737488351232 := by
  rcases Deep.open_slice Tryz.underlying38 h with ⟨hcs, _⟩ | ⟨a, len, cap, m, n, D, Pl, hcs, hb, hl, hm, hmm, hx, hel⟩
  · exact ⟨_, [], hcs, .inl (.inl ⟨rfl, rfl⟩), by simp⟩
  · have hlm : len ≤ m := by rw [hmm]; split <;> omega
    have hlen : len ≤ 140737488351232 := by
      have := hsz ((len + (m - len)) * 1) (by rw [hx]; simp [DataW.weights, Tryz.underlying38, bytes5])
      omega
    rcases Nat.eq_zero_or_pos len with rfl | h0
    · exact ⟨_, [], hcs, .inr ⟨rfl, _, _, rfl⟩, by simp⟩
    · have one : ∀ i, ∃ z : UInt8, i < len → w.cell? ((a.add (i * 1)).add 0) = some (b8 z) := by
        intro i
        by_cases hi : i < len
        · obtain ⟨cs', hc, ht⟩ := hel i (by omega)
          rw [show Tryz.prog.cellsOf 5 = 1 by kernel_rfl] at hc
          obtain ⟨z, h3, _, h5⟩ := DataW.trod_int Tryz.underlying5 ht
          have hcell := World.cells?_some hc
          have := bounds_u8 h5
          refine ⟨UInt8.ofNat z.toNat, fun _ => ?_⟩
          rw [hcell.2.2 0 (by omega), h3]
          have e : ((UInt8.ofNat z.toNat).toNat : Int) = z := by
            rw [UInt8.toNat_ofNat_of_lt' (by simp; omega)]
            omega
          rw [show b8 (UInt8.ofNat z.toNat) = .int .u8 z from by show Value.int .u8 _ = _; rw [e]]
          rfl
        · exact ⟨0, fun h => absurd h hi⟩
      obtain ⟨Z, hZ⟩ := Classical.axiomOfChoice one
      have hzl : ((List.range len).map Z).length = len := by simp
      obtain ⟨b, o, rfl⟩ : ∃ b o, a = ⟨b, o, none⟩ := by
        have g0 := hZ 0 h0
        rw [Deep.add_add, Nat.zero_mul] at g0
        exact plain_of g0
      have hc0 : ∀ i, i < len → w.cell? ⟨b, o + i, none⟩ = some (b8 (Z i)) := fun i hi => by
        have := hZ i hi
        rw [Deep.add_add, Nat.mul_one, Nat.add_zero, Addr.add_mid] at this
        exact this
      refine ⟨_, (List.range len).map Z, hcs, .inl (.inr ⟨b, o, cap, by rw [hzl], by rw [hzl]; exact hl, by unfold maxLen at hm; omega, World.block_lt_of_cell? _ _ (hc0 0 h0), id, fun i x hi => ?_⟩), by rw [hzl]; exact hlen⟩
      have hil : i < len := by
        have := (List.getElem?_eq_some_iff.1 hi).1
        omega
      rw [hc0 i hil]
      simp [hil] at hi
      rw [hi]
end
end Go.Proofs.YtobegepebochkaaGreatDoor

import Derived.Test.YtbbocbdoiealoaaGreatDoorBPbs
import Derived.Test.YtbbocbdoiealoaaGreatDoorBPbl
set_option linter.unusedVariables false
set_option linter.unusedSimpArgs false
namespace Go.Proofs.YtbbocbdoiealoaaGreatDoor
open Go.ChangeShapes Go.WideShapes Go.ChangeAt Go.RowKit Go.Shelf
theorem cells38 : Tryz.prog.cellsOf 38 = 1 := by kernel_rfl
theorem bytes5 : Tryz.prog.bytesOf 5 = 1 := by kernel_rfl
section
variable {H : Type} {enc : TypeId × Value → H} {w : World} {base : Nat} {spare : Nat → Bool} {held : Bool}
set_option maxRecDepth 100000 in
theorem open_bw {fuel : Nat} {cs : List Value} {x : DataW H × List MemPlace} (h : DataW.trod enc Tryz.prog w base spare held fuel 38 cs = some x) (hsz : ∀ k ∈ x.1.weights Tryz.prog 38, k ≤ 140737488351232) :
    ∃ v l, cs = [v] ∧ Bw w v l ∧ l.length ≤ 140737488351232 := by
  rcases Deep.open_slice Tryz.underlying38 h with ⟨hcs, _⟩ | ⟨a, len, cap, m, n, D, Pl, hcs, hb, hl, hm, hmm, hx, hel⟩
  · exact ⟨_, [], hcs, .inl (.inl ⟨rfl, rfl⟩), by simp⟩
  · have hlm : len ≤ m := by rw [hmm]; split <;> omega
    have hlen : len ≤ 140737488351232 := by
      have := hsz ((len + (m - len)) * 1) (by rw [hx]; simp [DataW.weights, Tryz.underlying38, bytes5])
      omega
    rcases Nat.eq_zero_or_pos len with rfl | h0
    · exact ⟨_, [], hcs, .inr ⟨rfl, _, _, rfl⟩, by simp⟩
    · have one : ∀ i, ∃ z : UInt8, i < len → w.cell? ((a.add (i * 1)).add 0) = some (b8 z) := by
        intro i
        by_cases hi : i < len
        · obtain ⟨cs', hc, ht⟩ := hel i (by omega)
          rw [show Tryz.prog.cellsOf 5 = 1 by kernel_rfl] at hc
          obtain ⟨z, h3, _, h5⟩ := DataW.trod_int Tryz.underlying5 ht
          have hcell := World.cells?_some hc
          have := bounds_u8 h5
          refine ⟨UInt8.ofNat z.toNat, fun _ => ?_⟩
          rw [hcell.2.2 0 (by omega), h3]
          have e : ((UInt8.ofNat z.toNat).toNat : Int) = z := by
            rw [UInt8.toNat_ofNat_of_lt' (by simp; omega)]
            omega
          rw [show b8 (UInt8.ofNat z.toNat) = .int .u8 z from by show Value.int .u8 _ = _; rw [e]]
          rfl
        · exact ⟨0, fun h => absurd h hi⟩
      obtain ⟨Z, hZ⟩ := Classical.axiomOfChoice one
      have hzl : ((List.range len).map Z).length = len := by simp
      obtain ⟨b, o, rfl⟩ : ∃ b o, a = ⟨b, o, none⟩ := by
        have g0 := hZ 0 h0
        rw [Deep.add_add, Nat.zero_mul] at g0
        exact plain_of g0
      have hc0 : ∀ i, i < len → w.cell? ⟨b, o + i, none⟩ = some (b8 (Z i)) := fun i hi => by
        have := hZ i hi
        rw [Deep.add_add, Nat.mul_one, Nat.add_zero, Addr.add_mid] at this
        exact this
      refine ⟨_, (List.range len).map Z, hcs, .inl (.inr ⟨b, o, cap, by rw [hzl], by rw [hzl]; exact hl, by unfold maxLen at hm; omega, World.block_lt_of_cell? _ _ (hc0 0 h0), id, fun i x hi => ?_⟩), by rw [hzl]; exact hlen⟩
      have hil : i < len := by
        have := (List.getElem?_eq_some_iff.1 hi).1
        omega
      rw [hc0 i hil]
      simp [hil] at hi
      rw [hi]
end
end Go.Proofs.YtbbocbdoiealoaaGreatDoor
namespace Go.Proofs.YtbbocbdoiealoaaGreatDoor
open Go.ChangeShapes Go.WideShapes Go.ChangeAt Go.RowKit Go.Shelf
theorem cells41 : Tryz.prog.cellsOf 41 = 11 := by kernel_rfl
theorem bytes9 : Tryz.prog.bytesOf 9 = 16 := by kernel_rfl
theorem bounds_u64 {z : Int} (h : (Lit.int .u64 z).wf = true) : 0 ≤ z ∧ z ≤ 18446744073709551615 := by
  simp only [Lit.wf] at h
  revert h
  simp [IntKind.min, IntKind.max, IntKind.signed, IntKind.bits]
section
variable {H : Type} {enc : TypeId × Value → H} {w : World} {base : Nat} {spare : Nat → Bool} {held : Bool}
end
end Go.Proofs.YtbbocbdoiealoaaGreatDoor

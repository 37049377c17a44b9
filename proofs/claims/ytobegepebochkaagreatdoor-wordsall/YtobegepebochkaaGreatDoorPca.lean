import Derived.Test.YtobegepebochkaaGreatDoorPbz
set_option linter.unusedVariables false
set_option linter.unusedSimpArgs false
namespace Go.Proofs.YtobegepebochkaaGreatDoor
open Go.ChangeShapes Go.WideShapes Go.ChangeAt Go.RowKit Go.Shelf
theorem cells56 : Tryz.prog.cellsOf 56 = 2 := by kernel_rfl
section
variable {H : Type} {enc : TypeId × Value → H} {w : World} {base : Nat} {spare : Nat → Bool} {held : Bool}
set_option maxRecDepth 100000 in
theorem open_bytes {fuel : Nat} {cs : List Value} {x : DataW H × List MemPlace} (h : DataW.trod enc Tryz.prog w base spare held fuel 38 cs = some x) :
    ∃ v l, cs = [v] ∧ Bw w v l := by
  rcases Deep.open_slice Tryz.underlying38 h with ⟨hcs, _⟩ | ⟨a, len, cap, m, n, D, Pl, hcs, hb, hl, hm, hmm, hx, hel⟩
  · exact ⟨_, [], hcs, .inl (.inl ⟨rfl, rfl⟩)⟩
  · have hlm : len ≤ m := by rw [hmm]; split <;> omega
    rcases Nat.eq_zero_or_pos len with rfl | h0
    · exact ⟨_, [], hcs, .inr ⟨rfl, _, _, rfl⟩⟩
    · have one : ∀ i, ∃ z : UInt8, i < len → w.cell? ((a.add (i * 1)).add 0) = some (b8 z) := by
        intro i
        by_cases hi : i < len
        · obtain ⟨cs', hc, ht⟩ := hel i (by omega)
          rw [show Tryz.prog.cellsOf 5 = 1 by kernel_rfl] at hc
          obtain ⟨z, h3, _, h5⟩ := DataW.trod_int Tryz.underlying5 ht
          have hcell := World.cells?_some hc
          have := bounds_u8 h5
          refine ⟨UInt8.ofNat z.toNat, fun _ => ?_⟩
          rw [hcell.2.2 0 (by omega), h3]
          have e : ((UInt8.ofNat z.toNat).toNat : Int) = z := by
            rw [UInt8.toNat_ofNat_of_lt' (by simp; omega)]
            omega
          rw [show b8 (UInt8.ofNat z.toNat) = .int .u8 z from by show Value.int .u8 _ = _; rw [e]]
          rfl
        · exact ⟨0, fun h => absurd h hi⟩
      obtain ⟨Z, hZ⟩ := Classical.axiomOfChoice one
      have hzl : ((List.range len).map Z).length = len := by simp
      obtain ⟨b, o, rfl⟩ : ∃ b o, a = ⟨b, o, none⟩ := by
        have g0 := hZ 0 h0
        rw [Deep.add_add, Nat.zero_mul] at g0
        exact plain_of g0
      have hc0 : ∀ i, i < len → w.cell? ⟨b, o + i, none⟩ = some (b8 (Z i)) := fun i hi => by
        have := hZ i hi
        rw [Deep.add_add, Nat.mul_one, Nat.add_zero, Addr.add_mid] at this
        exact this
      refine ⟨_, (List.range len).map Z, hcs, .inl (.inr ⟨b, o, cap, by rw [hzl], by rw [hzl]; exact hl, by unfold maxLen at hm; omega, World.block_lt_of_cell? _ _ (hc0 0 h0), id, fun i x hi => ?_⟩)⟩
      have hil : i < len := by
        have := (List.getElem?_eq_some_iff.1 hi).1
        omega
      rw [hc0 i hil]
      simp [hil] at hi
      rw [hi]
set_option maxRecDepth 100000 in
theorem open_rows {r : Reach} {b0 : Nat} {v : Value} {d : DataW H} {p : List MemPlace} (hv : Value.okWide Tryz.prog w r b0 54 v) (h : DataW.Trod enc Tryz.prog w base spare held 54 v d p) :
    ∃ la lc ls, v = .slice la (ls : List (Bs × Int)).length lc ∧ Rr w la ls ∧ ls.length ≤ 9223372036854775807 := by
  obtain ⟨a, n, c, rfl⟩ := okWide_slice Tryz.underlying54 hv
  obtain ⟨fuel, hf⟩ := h
  have hf' : DataW.trod enc Tryz.prog w base spare held fuel 54 [.slice a n c] = some (d, p) := by simpa [Value.cells] using hf
  rcases Deep.open_slice Tryz.underlying54 hf' with ⟨hcs, _⟩ | ⟨a', len, cap, m, k, D, Pl, hcs, hb, hl, hm, hmm, hx, hel⟩
  · simp only [List.cons.injEq, Value.slice.injEq, and_true] at hcs
    obtain ⟨rfl, rfl, rfl⟩ := hcs
    exact ⟨none, 0, [], rfl, fun h => by simp at h, by simp⟩
  · simp only [List.cons.injEq, Value.slice.injEq, and_true] at hcs
    obtain ⟨rfl, rfl, rfl⟩ := hcs
    have hlm : n ≤ m := by rw [hmm]; split <;> omega
    have one : ∀ i, ∃ y : Value × (Bs × Int), i < n → w.cell? ((a'.add (i * 2)).add 0) = some y.1 ∧ w.cell? ((a'.add (i * 2)).add 1) = some (.int .i64 y.2.2) ∧ Bw w y.1 y.2.1 ∧ y.2.2 ≤ 9223372036854775807 ∧ -9223372036854775808 ≤ y.2.2 := by
      intro i
      by_cases hi : i < n
      · obtain ⟨cs', hc, ht⟩ := hel i (by omega)
        rw [cells56] at hc
        obtain ⟨y1, e1, w1⟩ := field_int 1 Tryz.underlying56 ht rfl Tryz.underlying3 (by kernel_rfl)
        obtain ⟨xs, n', _, ex, hl', hlen', hff⟩ := DataW.trod_struct Tryz.underlying56 ht
        have h0 : DataW.trod enc Tryz.prog w base spare held n' 38 ((cs'.drop 0).take (Tryz.prog.cellsOf 38)) = xs[0]? := hff 0 _ rfl
        have hxl : xs.length = 2 := by rw [hlen']; rfl
        rw [List.getElem?_eq_getElem (by omega), cells38] at h0
        obtain ⟨u, l, eu, hbw⟩ := open_bytes h0
        have hcell := World.cells?_some hc
        have hb := bounds_i64 w1
        refine ⟨⟨u, l, y1⟩, fun _ => ⟨?_, ?_, hbw, hb.2, hb.1⟩⟩
        · rw [hcell.2.2 0 (by omega)]
          exact one_of eu
        · rw [hcell.2.2 1 (by omega)]
          exact e1
      · exact ⟨⟨.bool false, [], 0⟩, fun h => absurd h hi⟩
    obtain ⟨F, hF⟩ := Classical.axiomOfChoice one
    have hfl : ((List.range n).map (fun i => (F i).2)).length = n := by simp
    refine ⟨some a', c, (List.range n).map (fun i => (F i).2), by rw [hfl], fun h0 => ?_, by rw [hfl]; unfold maxLen at hm; omega⟩
    rw [hfl] at h0
    obtain ⟨b, o, rfl⟩ : ∃ b o, a' = ⟨b, o, none⟩ := by
      have g0 := (hF 0 h0).1
      rw [Deep.add_add, Nat.zero_mul] at g0
      exact plain_of g0
    refine ⟨b, o, rfl, fun i x hi => ?_⟩
    have hil : i < n := by
      have := (List.getElem?_eq_some_iff.1 hi).1
      omega
    obtain ⟨g0, g1, g2⟩ := hF i hil
    simp [hil] at hi
    rw [hi] at g1 g2
    rw [Deep.add_add, Nat.add_zero, Addr.add_mid] at g0
    rw [Deep.add_add, Addr.add_mid, ← Nat.add_assoc] at g1
    exact ⟨_, g0, g1, g2⟩
end
end Go.Proofs.YtobegepebochkaaGreatDoor
namespace Go.Proofs.YtobegepebochkaaGreatDoor
open Go Go.RowKit Go.Shelf
theorem er_wordsAll {W : World} (h : laidMetH Tryz.prog Rows.wordsAllRow.laid W) : Er W := by
  rw [MakeChecks.laidMetH_plain _ _ _ (by kernel_rfl)] at h
  have h4 := h.tail.tail.tail.tail
  obtain ⟨a0, s0, hv0, -, -, -⟩ := laid_sentinel h4 gER gERT Tryz.underlying201 (fun u h => rowErr u (h.trans (by kernel_rfl))) Tryz.underlying246 Tryz.underlying248 rfl rfl Tryz.underlying9 cellsErr cells9
  obtain ⟨a1, s1, hv1, -, -, -⟩ := laid_sentinel h4.tail gES gEST Tryz.underlying201 (fun u h => rowErr u (h.trans (by kernel_rfl))) Tryz.underlying246 Tryz.underlying248 rfl rfl Tryz.underlying9 cellsErr cells9
  have c0 := World.var?_cell gER hv0 0
  have c1 := World.var?_cell gES hv1 0
  exact ⟨⟨_, _, by simpa using c1⟩, _, _, by simpa using c0⟩
end Go.Proofs.YtobegepebochkaaGreatDoor

import Derived.Test.YtobegepebochkaaGreatDoorSPbz
import Derived.Test.YtobegepebochkaaGreatDoorSPbr
import Derived.Test.YtobegepebochkaaGreatDoorSPby
set_option linter.unusedVariables false
set_option linter.unusedSimpArgs false
namespace Go.Proofs.YtobegepebochkaaGreatDoor
open Go.ChangeShapes Go.WideShapes Go.ChangeAt Go.RowKit Go.Shelf
theorem cells41 : Tryz.prog.cellsOf 41 = 11 := by kernel_rfl
theorem bytes9 : Tryz.prog.bytesOf 9 = 16 := by kernel_rfl
theorem bounds_u64 {z : Int} (h : (Lit.int .u64 z).wf = true) : 0 ≤ z ∧ z ≤ 18446744073709551615 := by
  simp only [Lit.wf] at h
  revert h
  simp [IntKind.min, IntKind.max, IntKind.signed, IntKind.bits]
section
variable {H : Type} {enc : TypeId × Value → H} {w : World} {base : Nat} {spare : Nat → Bool} {held : Bool}
set_option maxRecDepth 100000 in
theorem open_texts {fuel : Nat} {cs : List Value} {x : DataW H × List MemPlace} (h : DataW.trod enc Tryz.prog w base spare held fuel 36 cs = some x) (hsz : ∀ k ∈ x.1.weights Tryz.prog 36, k ≤ 140737488351232) :
    ∃ v ks, cs = [v] ∧ Ws w v ks ∧ ks.length ≤ 140737488351232 ∧ ∀ k ∈ ks, k.length ≤ 140737488351232 := by
  rcases Deep.open_slice Tryz.underlying36 h with ⟨hcs, _⟩ | ⟨a, len, cap, m, n, D, Pl, hcs, hb, hl, hm, hmm, hx, hel⟩
  · exact ⟨_, [], hcs, .inl ⟨rfl, _, _, rfl⟩, by simp, by simp⟩
  · have hlm : len ≤ m := by rw [hmm]; split <;> omega
    have hlen : len ≤ 140737488351232 := by
      have := hsz ((len + (m - len)) * 16) (by rw [hx]; simp [DataW.weights, Tryz.underlying36, bytes9])
      omega
    rcases Nat.eq_zero_or_pos len with rfl | h0
    · exact ⟨_, [], hcs, .inl ⟨rfl, _, _, rfl⟩, by simp, by simp⟩
    · have one : ∀ i, ∃ s : Bs, i < len → w.cell? ((a.add (i * 1)).add 0) = some (sv s) ∧ s.length ≤ 140737488351232 := by
        intro i
        by_cases hi : i < len
        · obtain ⟨cs', hc, ht⟩ := hel i (by omega)
          rw [cells9] at hc
          obtain ⟨s, h3, h4, _⟩ := DataW.trod_string Tryz.underlying9 ht
          have hcell := World.cells?_some hc
          refine ⟨s.data.toList, fun _ => ⟨?_, hsz _ ?_⟩⟩
          · rw [hcell.2.2 0 (by omega), h3]
            rfl
          · rw [hx]
            simp only [DataW.weights, Tryz.underlying36]
            refine List.mem_cons_of_mem _ (List.mem_append_left _ (weightsAll_mem (d := D i) (List.mem_map.2 ⟨i, List.mem_range.2 hi, rfl⟩) _ ?_))
            rw [show D i = _ from congrArg Prod.fst h4]
            simp [DataW.weights]
        · exact ⟨[], fun h => absurd h hi⟩
      obtain ⟨Z, hZ⟩ := Classical.axiomOfChoice one
      have hzl : ((List.range len).map Z).length = len := by simp
      obtain ⟨b, o, rfl⟩ : ∃ b o, a = ⟨b, o, none⟩ := by
        have g0 := (hZ 0 h0).1
        rw [Deep.add_add, Nat.zero_mul] at g0
        exact plain_of g0
      have hc0 : ∀ i, i < len → w.cell? ⟨b, o + i, none⟩ = some (sv (Z i)) := fun i hi => by
        have := (hZ i hi).1
        rw [Deep.add_add, Nat.mul_one, Nat.add_zero, Addr.add_mid] at this
        exact this
      refine ⟨_, (List.range len).map Z, hcs, .inr ⟨b, o, cap, by rw [hzl], by rw [hzl]; exact hl, World.block_lt_of_cell? _ _ (hc0 0 h0), fun i x hi => ?_⟩, by rw [hzl]; exact hlen, ?_⟩
      · have hil : i < len := by
          have := (List.getElem?_eq_some_iff.1 hi).1
          omega
        rw [hc0 i hil]
        simp [hil] at hi
        rw [hi]
      · intro k hk
        obtain ⟨i, hi, rfl⟩ := List.mem_map.1 hk
        exact (hZ i (List.mem_range.1 hi)).2
set_option maxRecDepth 100000 in
set_option maxHeartbeats 1000000 in
theorem open_cmd {fuel : Nat} {cs : List Value} {x : DataW H × List MemPlace} (h : DataW.trod enc Tryz.prog w base spare held fuel 41 cs = some x) (hsz : ∀ k ∈ x.1.weights Tryz.prog 41, k ≤ 140737488351232) :
    ∃ y : CI, CiOk w y ∧ ∀ j, j < 11 → cs[j]? = (ciL y)[j]? := by
  obtain ⟨zv, ev, wv⟩ := field_int 0 Tryz.underlying41 h rfl Tryz.underlying3 (by kernel_rfl)
  obtain ⟨zf, ef, wf⟩ := field_int 2 Tryz.underlying41 h rfl Tryz.underlying37 (by kernel_rfl)
  obtain ⟨ze, ee, we⟩ := field_int 3 Tryz.underlying41 h rfl Tryz.underlying3 (by kernel_rfl)
  obtain ⟨zt, et, wt⟩ := field_int 4 Tryz.underlying41 h rfl Tryz.underlying37 (by kernel_rfl)
  obtain ⟨zd, ed, wd⟩ := field_int 5 Tryz.underlying41 h rfl Tryz.underlying37 (by kernel_rfl)
  obtain ⟨bn, en⟩ := field_bool 7 Tryz.underlying41 h rfl Tryz.underlying4 (by kernel_rfl)
  obtain ⟨bl, el⟩ := field_bool 8 Tryz.underlying41 h rfl Tryz.underlying4 (by kernel_rfl)
  obtain ⟨sw, ew, mw⟩ := field_string 10 Tryz.underlying41 h rfl Tryz.underlying9 (by kernel_rfl)
  obtain ⟨xs, k', _, ex, hl', hlen', hff⟩ := DataW.trod_struct Tryz.underlying41 h
  have hx11 : xs.length = 11 := by rw [hlen']; rfl
  have h1 : DataW.trod enc Tryz.prog w base spare held k' 36 ((cs.drop 1).take (Tryz.prog.cellsOf 36)) = xs[1]? := hff 1 _ rfl
  have h6 : DataW.trod enc Tryz.prog w base spare held k' 38 ((cs.drop 6).take (Tryz.prog.cellsOf 38)) = xs[6]? := hff 6 _ rfl
  have h9 : DataW.trod enc Tryz.prog w base spare held k' 39 ((cs.drop 9).take (Tryz.prog.cellsOf 39)) = xs[9]? := hff 9 _ rfl
  rw [List.getElem?_eq_getElem (by omega), show Tryz.prog.cellsOf 36 = 1 by kernel_rfl] at h1
  rw [List.getElem?_eq_getElem (by omega), cells38] at h6
  rw [List.getElem?_eq_getElem (by omega), show Tryz.prog.cellsOf 39 = 1 by kernel_rfl] at h9
  obtain ⟨kv, ks, ek, hks, hkl, hka⟩ := open_texts h1 (fun q hq => hsz _ (by
    rw [show x.1 = _ from congrArg Prod.fst ex]
    exact each_mem Tryz.underlying41 (i := 1) rfl (by omega) hq))
  obtain ⟨dv, dl, edv, hdv, hdl⟩ := open_bw h6 (fun q hq => hsz _ (by
    rw [show x.1 = _ from congrArg Prod.fst ex]
    exact each_mem Tryz.underlying41 (i := 6) rfl (by omega) hq))
  obtain ⟨mv, fs, em, hmv, hml, hma⟩ := open_flags h9 (fun q hq => hsz _ (by
    rw [show x.1 = _ from congrArg Prod.fst ex]
    exact each_mem Tryz.underlying41 (i := 9) rfl (by omega) hq))
  have bv := bounds_i64 wv
  have bf := bounds_u64 wf
  have be := bounds_i64 we
  have bt := bounds_u64 wt
  have bd := bounds_u64 wd
  have qf : ((zf.toNat : Nat) : Int) = zf := by omega
  have qt : ((zt.toNat : Nat) : Int) = zt := by omega
  have qd : ((zd.toNat : Nat) : Int) = zd := by omega
  refine ⟨⟨⟨zv, ks, zf.toNat, ze, zt.toNat, zd.toNat, bn, fs, sw⟩, dl, bl, kv, dv, mv⟩, ?_, ?_⟩
  · refine ⟨hks, ?_, hmv.fg, ⟨be.1, be.2, ?_, ?_⟩, ?_, bv.2, bv.1, ?_, ?_, ?_, ?_, ?_⟩
    · rcases hdv with h | ⟨h, a, c, e⟩
      · exact .inl h
      · exact .inr ⟨h, _, _, e⟩
    · show zt.toNat ≤ _; omega
    · show zd.toNat ≤ _; omega
    · show zf.toNat ≤ _; omega
    · show dl.length ≤ _; omega
    · show ks.length ≤ _; omega
    · show fs.length ≤ _; omega
    · intro k hk; have := hka k hk; omega
    · intro f hf; have := hma f hf; omega
  · intro j hj
    match j, hj with
    | 0, _ => exact ev
    | 1, _ => exact one_of ek
    | 2, _ => rw [show cs[2]? = some (.int .u64 zf) from ef]; show _ = some (Value.int .u64 ((zf.toNat : Nat) : Int)); rw [qf]
    | 3, _ => exact ee
    | 4, _ => rw [show cs[4]? = some (.int .u64 zt) from et]; show _ = some (Value.int .u64 ((zt.toNat : Nat) : Int)); rw [qt]
    | 5, _ => rw [show cs[5]? = some (.int .u64 zd) from ed]; show _ = some (Value.int .u64 ((zd.toNat : Nat) : Int)); rw [qd]
    | 6, _ => exact one_of edv
    | 7, _ => exact en
    | 8, _ => exact el
    | 9, _ => exact one_of em
    | 10, _ => exact ew
set_option maxRecDepth 100000 in
theorem open_cmds {r : Reach} {b0 : Nat} {v : Value} {d : DataW H} {p : List MemPlace} (hv : Value.okWide Tryz.prog w r b0 63 v) (h : DataW.Trod enc Tryz.prog w base spare held 63 v d p) (hsz : ∀ k ∈ d.weights Tryz.prog 63, k ≤ 140737488351232) :
    ∃ la lc cs, v = .slice la (cs : List CI).length lc ∧ Cms w v cs := by
  obtain ⟨a, n, c, rfl⟩ := okWide_slice Tryz.underlying63 hv
  obtain ⟨fuel, hf⟩ := h
  have hf' : DataW.trod enc Tryz.prog w base spare held fuel 63 [.slice a n c] = some (d, p) := by simpa [Value.cells] using hf
  rcases Deep.open_slice Tryz.underlying63 hf' with ⟨hcs, _⟩ | ⟨a', len, cap, m, k, D, Pl, hcs, hb, hl, hm, hmm, hx, hel⟩
  · simp only [List.cons.injEq, Value.slice.injEq, and_true] at hcs
    obtain ⟨rfl, rfl, rfl⟩ := hcs
    exact ⟨none, 0, [], rfl, ⟨_, _, rfl⟩, by simp, fun k x h => by simp at h, fun x h => by cases h⟩
  · simp only [List.cons.injEq, Value.slice.injEq, and_true] at hcs
    obtain ⟨rfl, rfl, rfl⟩ := hcs
    have hlm : n ≤ m := by rw [hmm]; split <;> omega
    have one : ∀ i, ∃ y : CI, i < n → CiOk w y ∧ ∀ j, j < 11 → w.cell? ((a'.add (i * 11)).add j) = (ciL y)[j]? := by
      intro i
      by_cases hi : i < n
      · obtain ⟨cs', hc, ht⟩ := hel i (by omega)
        rw [cells41] at hc
        obtain ⟨y, hy, hcell⟩ := open_cmd ht (fun q hq => hsz _ (by
          rw [show d = _ from congrArg Prod.fst hx]
          simp only [DataW.weights, Tryz.underlying63]
          exact List.mem_cons_of_mem _ (List.mem_append_left _ (weightsAll_mem (d := D i) (List.mem_map.2 ⟨i, List.mem_range.2 hi, rfl⟩) _ hq))))
        have hc2 := World.cells?_some hc
        exact ⟨y, fun _ => ⟨hy, fun j hj => (hc2.2.2 j hj).trans (hcell j hj)⟩⟩
      · exact ⟨⟨⟨0, [], 0, 0, 0, 0, false, [], []⟩, [], false, .bool false, .bool false, .bool false⟩, fun h => absurd h hi⟩
    obtain ⟨F, hF⟩ := Classical.axiomOfChoice one
    have hfl : ((List.range n).map F).length = n := by simp
    refine ⟨some a', c, (List.range n).map F, by rw [hfl], ⟨some a', c, by rw [hfl]⟩, by rw [hfl]; unfold maxLen at hm; omega, fun k x hi => ?_, fun x hx => ?_⟩
    · have hil : k < n := by
        have := (List.getElem?_eq_some_iff.1 hi).1
        omega
      obtain ⟨b, o, rfl⟩ : ∃ b o, a' = ⟨b, o, none⟩ := by
        have g0 := (hF 0 (by omega)).2 0 (by omega)
        rw [Deep.add_add, Nat.zero_mul] at g0
        exact plain_of g0
      have h2 := (hF k hil).2
      simp [hil] at hi
      rw [hi] at h2
      refine ⟨b, o, c, by rw [hfl], fun j u hu => ?_⟩
      have hj := (List.getElem?_eq_some_iff.1 hu).1
      have h3 := h2 j (by simpa using hj)
      rw [hu] at h3
      simp only [Addr.add_mid] at h3
      exact h3
    · obtain ⟨i, hi, rfl⟩ := List.mem_map.1 hx
      exact (hF i (List.mem_range.1 hi)).1
set_option maxRecDepth 100000 in
theorem open_cuts {r : Reach} {b0 : Nat} {v : Value} {d : DataW H} {p : List MemPlace} (hv : Value.okWide Tryz.prog w r b0 82 v) (h : DataW.Trod enc Tryz.prog w base spare held 82 v d p) :
    ∃ la lc cs, v = .slice la (cs : List Int).length lc ∧ Ci w v cs ∧ cs.length ≤ 9223372036854775807 := by
  obtain ⟨a, n, c, rfl⟩ := okWide_slice Tryz.underlying82 hv
  obtain ⟨fuel, hf⟩ := h
  have hf' : DataW.trod enc Tryz.prog w base spare held fuel 82 [.slice a n c] = some (d, p) := by simpa [Value.cells] using hf
  rcases Deep.open_slice Tryz.underlying82 hf' with ⟨hcs, _⟩ | ⟨a', len, cap, m, k, D, Pl, hcs, hb, hl, hm, hmm, hx, hel⟩
  · simp only [List.cons.injEq, Value.slice.injEq, and_true] at hcs
    obtain ⟨rfl, rfl, rfl⟩ := hcs
    exact ⟨none, 0, [], rfl, ⟨_, _, rfl, fun h => by simp at h⟩, by simp⟩
  · simp only [List.cons.injEq, Value.slice.injEq, and_true] at hcs
    obtain ⟨rfl, rfl, rfl⟩ := hcs
    have hlm : n ≤ m := by rw [hmm]; split <;> omega
    have one : ∀ i, ∃ z : Int, i < n → w.cell? ((a'.add (i * 1)).add 0) = some (.int .i64 z) := by
      intro i
      by_cases hi : i < n
      · obtain ⟨cs', hc, ht⟩ := hel i (by omega)
        rw [show Tryz.prog.cellsOf 3 = 1 by kernel_rfl] at hc
        obtain ⟨z, h3, _, _⟩ := DataW.trod_int Tryz.underlying3 ht
        have hcell := World.cells?_some hc
        exact ⟨z, fun _ => by rw [hcell.2.2 0 (by omega), h3]; rfl⟩
      · exact ⟨0, fun h => absurd h hi⟩
    obtain ⟨Z, hZ⟩ := Classical.axiomOfChoice one
    have hzl : ((List.range n).map Z).length = n := by simp
    refine ⟨some a', c, (List.range n).map Z, by rw [hzl], ⟨some a', c, by rw [hzl], fun h0 => ?_⟩, by rw [hzl]; unfold maxLen at hm; omega⟩
    rw [hzl] at h0
    obtain ⟨b, o, rfl⟩ : ∃ b o, a' = ⟨b, o, none⟩ := by
      have g0 := hZ 0 h0
      rw [Deep.add_add, Nat.zero_mul] at g0
      exact plain_of g0
    have hc0 : ∀ i, i < n → w.cell? ⟨b, o + i, none⟩ = some (.int .i64 (Z i)) := fun i hi => by
      have := hZ i hi
      rw [Deep.add_add, Nat.mul_one, Nat.add_zero, Addr.add_mid] at this
      exact this
    refine ⟨b, o, rfl, World.block_lt_of_cell? _ _ (hc0 0 h0), fun i x hi => ?_⟩
    have hil : i < n := by
      have := (List.getElem?_eq_some_iff.1 hi).1
      omega
    rw [hc0 i hil]
    simp [hil] at hi
    rw [hi]
end
end Go.Proofs.YtobegepebochkaaGreatDoor
namespace Go.Proofs.YtobegepebochkaaGreatDoor
open Go Go.RowKit Go.Shelf
theorem er_lineBack {W : World} (h : laidMetH Tryz.prog Rows.lineBackRow.laid W) : Er W := by
  rw [MakeChecks.laidMetH_plain _ _ _ (by kernel_rfl)] at h
  have h4 := h.tail.tail.tail.tail
  obtain ⟨a0, s0, hv0, -, -, -⟩ := laid_sentinel h4 gER gERT Tryz.underlying201 (fun u h => rowErr u (h.trans (by kernel_rfl))) Tryz.underlying246 Tryz.underlying248 rfl rfl Tryz.underlying9 cellsErr cells9
  obtain ⟨a1, s1, hv1, -, -, -⟩ := laid_sentinel h4.tail gES gEST Tryz.underlying201 (fun u h => rowErr u (h.trans (by kernel_rfl))) Tryz.underlying246 Tryz.underlying248 rfl rfl Tryz.underlying9 cellsErr cells9
  have c0 := World.var?_cell gER hv0 0
  have c1 := World.var?_cell gES hv1 0
  exact ⟨⟨_, _, by simpa using c1⟩, _, _, by simpa using c0⟩
end Go.Proofs.YtobegepebochkaaGreatDoor

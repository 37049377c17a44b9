/-
  A Script that came in.
-/
import Derived.Test.YtknhoncnaigogaaO
import Derived.Test.YtknhoncnaigogaaBt
import Derived.Deep.Slices
import Derived.SizedLaws
namespace Go.Proofs.Ytknhoncnaigogaa
open Go.ChangeShapes Go.WideShapes Go.ChangeAt Go.RowKit
set_option linter.unusedVariables false

theorem cells9' : Try.prog.cellsOf 31 = 9 := by kernel_rfl
theorem cells25 : Try.prog.cellsOf 25 = 5 := by kernel_rfl
theorem cells22 : Try.prog.cellsOf 22 = 2 := by kernel_rfl
theorem bytes5 : Try.prog.bytesOf 5 = 1 := by kernel_rfl

section
variable {H : Type} {enc : TypeId × Value → H} {w : World} {base : Nat} {spare : Nat → Bool} {held : Bool}

theorem plain_at {a : Addr} {v : Value} (h : w.cell? (a.add 0) = some v) : ∃ b o, a = ⟨b, o, none⟩ := by
  have := World.cell?_spot h
  obtain ⟨b, o, s⟩ := a
  refine ⟨b, o, ?_⟩
  simp [Addr.add] at this
  rw [this]

/-- Bytes that came in. -/
theorem open_bytes {fuel : Nat} {cs : List Value} {x : DataW H × List MemPlace} (h : DataW.trod enc Try.prog w base spare held fuel 29 cs = some x) (hsz : ∀ n ∈ x.1.weights Try.prog 29, n ≤ 140737488351232) :
    ∃ sa sn sc ys, cs = [.slice sa sn sc] ∧ Has w sa sn ys ∧ isBytes ys ∧ sn ≤ 140737488351232 ∧ (sa = none → sc = 0) := by
  rcases Deep.open_slice1 Try.underlying29 (by kernel_rfl) h with ⟨hcs, _⟩ | ⟨a, len, cap, m, n, V, D, Pl, hcs, hb, hl, hm, hmm, hx, hel⟩
  · exact ⟨none, 0, 0, [], hcs, ⟨rfl, fun h => by omega⟩, by simp [isBytes], by omega, fun _ => rfl⟩
  · have hlm : len ≤ m := by rw [hmm]; split <;> omega
    have hbyte : ∀ i, ∃ z : Int, i < len → (w.cell? (a.add i) = some (.int .u8 z) ∧ 0 ≤ z ∧ z < 256) := by
      intro i
      by_cases hi : i < len
      · obtain ⟨h1, h2⟩ := hel i (by omega)
        obtain ⟨z, h3, _, h5⟩ := DataW.trod_int Try.underlying5 h2
        simp at h3
        refine ⟨z, fun _ => ⟨by rw [h1, h3], ?_⟩⟩
        have := bounds_u8 h5
        omega
      · exact ⟨0, fun h => absurd h hi⟩
    obtain ⟨Z, hZ⟩ := Classical.axiomOfChoice hbyte
    refine ⟨some a, len, cap, (List.range len).map Z, hcs, ⟨by simp, fun h0 => ?_⟩, ?_, ?_, by simp⟩
    · obtain ⟨b, o, rfl⟩ := plain_at (hZ 0 h0).1
      refine ⟨b, o, rfl, fun i hi => ?_⟩
      have := (hZ i hi).1
      rw [Addr.add_mid] at this
      rw [this]
      simp [List.getD, hi]
    · intro z hz
      simp at hz
      obtain ⟨i, hi, rfl⟩ := hz
      exact (hZ i hi).2
    · have := hsz ((len + (m - len)) * 1) (by
        rw [hx]
        simp [DataW.weights, Try.underlying29, bytes5])
      omega

theorem wAll_mem {e : TypeId} : ∀ {l : List (DataW H)} {d : DataW H}, d ∈ l → ∀ n ∈ d.weights Try.prog e, n ∈ DataW.weightsAll Try.prog e l
  | d0 :: l, d, h, n, hn => by
    simp only [DataW.weightsAll, List.mem_append]
    rcases List.mem_cons.1 h with rfl | h
    · exact .inl hn
    · exact .inr (wAll_mem h n hn)

set_option maxRecDepth 100000 in
/-- The bytes of an Op. -/
theorem op_bytes {fuel : Nat} {cs : List Value} {x : DataW H × List MemPlace} (h : DataW.trod enc Try.prog w base spare held fuel 31 cs = some x) (hsz : ∀ n ∈ x.1.weights Try.prog 31, n ≤ 140737488351232) :
    ∃ sa sn sc ys, cs[7]? = some (.slice sa sn sc) ∧ Has w sa sn ys ∧ isBytes ys ∧ sn ≤ 140737488351232 ∧ (sa = none → sc = 0) := by
  obtain ⟨xs, n, _, rfl, hl, hlen, hff⟩ := DataW.trod_struct Try.underlying31 h
  have h7 : DataW.trod enc Try.prog w base spare held n 29 ((cs.drop 7).take (Try.prog.cellsOf 29)) = xs[7]? := hff 7 _ rfl
  have hi : 7 < xs.length := by rw [hlen]; decide
  rw [List.getElem?_eq_getElem hi, show Try.prog.cellsOf 29 = 1 by kernel_rfl] at h7
  obtain ⟨sa, sn, sc, ys, e1, e2⟩ := open_bytes h7 (fun k hk => hsz k (by
    show k ∈ DataW.weights Try.prog 31 (DataW.agg (xs.map (·.1)))
    rw [DataW.weights, Try.underlying31]
    exact DataW.weights_mem_each (j := 7) (t := 29) rfl (by simp [hi]) k hk))
  exact ⟨sa, sn, sc, ys, one_of e1, e2⟩

set_option maxRecDepth 100000 in
theorem open_ops {fuel : Nat} {a : Option Addr} {n c : Nat} {x : DataW H × List MemPlace} (h : DataW.trod enc Try.prog w base spare held fuel 23 [.slice a n c] = some x) (hsz : ∀ k ∈ x.1.weights Try.prog 23, k ≤ 140737488351232) : n ≤ maxLen ∧ OpsIn w a n := by
  rcases Deep.open_slice Try.underlying23 h with ⟨hcs, _⟩ | ⟨a', len, cap, m, k, D, Pl, hcs, hb, hl, hm, hmm, hx, hel⟩
  · simp only [List.cons.injEq, Value.slice.injEq, and_true] at hcs
    obtain ⟨rfl, rfl, rfl⟩ := hcs
    exact ⟨by unfold maxLen; omega, fun i hi => by omega⟩
  · simp only [List.cons.injEq, Value.slice.injEq, and_true] at hcs
    obtain ⟨rfl, rfl, rfl⟩ := hcs
    have nine : ∀ i, i < n → ∃ (d x1 x2 x3 x4 x5 x6 : Int) (sa : Option Addr) (sn sc : Nat) (ys : List Int) (own : Bool),
        (w.cell? ((a'.add (i * 9)).add 0) = some (.int .i64 d) ∧ w.cell? ((a'.add (i * 9)).add 1) = some (.int .i64 x1) ∧ w.cell? ((a'.add (i * 9)).add 2) = some (.int .i64 x2) ∧ w.cell? ((a'.add (i * 9)).add 3) = some (.int .i64 x3) ∧ w.cell? ((a'.add (i * 9)).add 4) = some (.int .i64 x4) ∧ w.cell? ((a'.add (i * 9)).add 5) = some (.int .i64 x5) ∧ w.cell? ((a'.add (i * 9)).add 6) = some (.int .u64 x6) ∧ w.cell? ((a'.add (i * 9)).add 7) = some (.slice sa sn sc) ∧ w.cell? ((a'.add (i * 9)).add 8) = some (.bool own)) ∧
        (x2 ≤ 9223372036854775807 ∧ x3 ≤ 9223372036854775807 ∧ 0 ≤ x6 ∧ x6 < 18446744073709551616) ∧ Has w sa sn ys ∧ isBytes ys ∧ sn ≤ 140737488351232 ∧ (sa = none → sc = 0) := by
      intro i hi
      obtain ⟨cs', hc, ht⟩ := hel i (by rw [hmm]; split <;> omega)
      rw [cells9'] at hc
      obtain ⟨x0, e0, w0⟩ := field_int 0 Try.underlying31 ht rfl Try.underlying3 (by kernel_rfl)
      obtain ⟨x1, e1, w1⟩ := field_int 1 Try.underlying31 ht rfl Try.underlying3 (by kernel_rfl)
      obtain ⟨x2, e2, w2⟩ := field_int 2 Try.underlying31 ht rfl Try.underlying3 (by kernel_rfl)
      obtain ⟨x3, e3, w3⟩ := field_int 3 Try.underlying31 ht rfl Try.underlying3 (by kernel_rfl)
      obtain ⟨x4, e4, w4⟩ := field_int 4 Try.underlying31 ht rfl Try.underlying3 (by kernel_rfl)
      obtain ⟨x5, e5, w5⟩ := field_int 5 Try.underlying31 ht rfl Try.underlying3 (by kernel_rfl)
      obtain ⟨x6, e6, w6⟩ := field_int 6 Try.underlying31 ht rfl Try.underlying28 (by kernel_rfl)
      obtain ⟨own, e8⟩ := field_bool 8 Try.underlying31 ht rfl Try.underlying4 (by kernel_rfl)
      obtain ⟨sa, sn, sc, ys, e7, r⟩ := op_bytes ht (fun k hk => hsz k (by
        rw [hx]
        show k ∈ DataW.weights Try.prog 23 (DataW.slice _ _)
        rw [DataW.weights, Try.underlying23]
        refine List.mem_cons_of_mem _ (List.mem_append_left _ (wAll_mem (d := D i) ?_ k hk))
        exact List.mem_map.2 ⟨i, List.mem_range.2 hi, rfl⟩))
      have hcell := World.cells?_some hc
      have b2 := bounds_i64 w2
      have b3 := bounds_i64 w3
      have b6 := bounds_u64 w6
      exact ⟨x0, x1, x2, x3, x4, x5, x6, sa, sn, sc, ys, own, ⟨(hcell.2.2 0 (by omega)).trans e0, (hcell.2.2 1 (by omega)).trans e1, (hcell.2.2 2 (by omega)).trans e2, (hcell.2.2 3 (by omega)).trans e3, (hcell.2.2 4 (by omega)).trans e4, (hcell.2.2 5 (by omega)).trans e5, (hcell.2.2 6 (by omega)).trans e6, (hcell.2.2 7 (by omega)).trans e7, (hcell.2.2 8 (by omega)).trans e8⟩, ⟨by omega, by omega, by omega, by omega⟩, r⟩
    refine ⟨by omega, fun i hi => ?_⟩
    obtain ⟨b, o, rfl⟩ : ∃ b o, a' = ⟨b, o, none⟩ := by
      obtain ⟨_, _, _, _, _, _, _, _, _, _, _, _, ⟨g0, _⟩, _⟩ := nine 0 (by omega)
      rw [Deep.add_add, Nat.zero_mul] at g0
      exact plain_at g0
    obtain ⟨x0, x1, x2, x3, x4, x5, x6, sa, sn, sc, ys, own, ⟨g0, g1, g2, g3, g4, g5, g6, g7, g8⟩, r⟩ := nine i hi
    simp only [Addr.add_mid] at g0 g1 g2 g3 g4 g5 g6 g7 g8
    exact ⟨b, o, rfl, x0, x1, x2, x3, x4, x5, x6, sa, sn, sc, ys, own, ⟨by simpa using g0, g1, g2, g3, g4, g5, g6, g7, g8⟩, r⟩

/-- A field that is an array of two ints. -/
theorem field_pair {fs : Array Field} {f : Field} {t : TypeId} {fuel : Nat} {cs : List Value} {x : DataW H × List MemPlace} (i : Nat) (ht : Try.prog.underlying t = some (.struct fs)) (h : DataW.trod enc Try.prog w base spare held fuel t cs = some x)
    (hf : fs[i]? = some f) (hk : f.type = 22) : ∃ x0 x1 : Int, cs[f.offset]? = some (.int .i64 x0) ∧ cs[f.offset + 1]? = some (.int .i64 x1) := by
  obtain ⟨xs, n, _, rfl, hl, hlen, hff⟩ := DataW.trod_struct ht h
  have := hff i f hf
  have hi : i < xs.length := by rw [hlen]; exact (Array.getElem?_eq_some_iff.1 hf).1
  rw [List.getElem?_eq_getElem hi, hk, cells22] at this
  obtain ⟨ys, m', _, _, hlen2, hxl, hff2⟩ := DataW.trod_array Try.underlying22 this
  have one : ∀ j, j < 2 → ∃ y : Int, ((cs.drop f.offset).take 2)[j]? = some (.int .i64 y) := by
    intro j hj
    have := hff2 j hj
    rw [List.getElem?_eq_getElem (by omega), show Try.prog.cellsOf 3 = 1 by kernel_rfl] at this
    obtain ⟨y, h1, _, h3⟩ := DataW.trod_int Try.underlying3 this
    rw [Nat.mul_one] at h1
    exact ⟨y, one_of h1⟩
  obtain ⟨x0, e0⟩ := one 0 (by omega)
  obtain ⟨x1, e1⟩ := one 1 (by omega)
  exact ⟨x0, x1, by simpa using e0, by simpa using e1⟩

set_option maxRecDepth 100000 in
theorem open_script {r : Reach} {b0 : Nat} {v : Value} {d : DataW H} {p : List MemPlace} (hv : Value.okWide Try.prog w r b0 25 v) (h : DataW.Trod enc Try.prog w base spare held 25 v d p) (hsz : ∀ k ∈ d.weights Try.prog 25, k ≤ 140737488351232) :
    ∃ (y0 y1 y2 y3 : Int) (a : Option Addr) (n c : Nat), v = .agg #[.int .i64 y0, .int .i64 y1, .int .i64 y2, .int .i64 y3, .slice a n c] ∧ n ≤ maxLen ∧ OpsIn w a n := by
  obtain ⟨cs, rfl, hs⟩ := okWide_struct Try.underlying25 hv
  obtain ⟨fuel, hf⟩ := h
  have hf' : DataW.trod enc Try.prog w base spare held fuel 25 cs.toList = some (d, p) := by simpa [Value.cells] using hf
  obtain ⟨y0, y1, e0, e1⟩ := field_pair 0 Try.underlying25 hf' rfl rfl
  obtain ⟨y2, y3, e2, e3⟩ := field_pair 1 Try.underlying25 hf' rfl rfl
  obtain ⟨xs, n, _, hx, hl, hlen, hff⟩ := DataW.trod_struct Try.underlying25 hf'
  have h2 : DataW.trod enc Try.prog w base spare held n 23 ((cs.toList.drop 4).take (Try.prog.cellsOf 23)) = xs[2]? := hff 2 _ rfl
  have hi : 2 < xs.length := by rw [hlen]; decide
  rw [List.getElem?_eq_getElem hi, show Try.prog.cellsOf 23 = 1 by kernel_rfl] at h2
  obtain ⟨s, hs4⟩ : ∃ s, cs.toList[4]? = some s := ⟨cs.toList[4]'(by rw [cells25] at hl; omega), by simp⟩
  have hls := list5 (by rw [cells25] at hl; exact hl) e0 e1 e2 e3 hs4
  rw [hls] at h2
  have h2' : DataW.trod enc Try.prog w base spare held n 23 [s] = some xs[2] := h2
  have hwt : ∀ k ∈ (xs[2]).1.weights Try.prog 23, k ≤ 140737488351232 := by
    intro k hk
    refine hsz k ?_
    have hd : d = .agg (xs.map (·.1)) := congrArg Prod.fst hx
    rw [hd, DataW.weights, Try.underlying25]
    exact DataW.weights_mem_each (j := 2) (t := 23) rfl (by simp [hi]) k hk
  obtain ⟨a, m, c, rfl⟩ : ∃ a m c, s = .slice a m c := by
    rcases Deep.open_slice Try.underlying23 h2' with ⟨hcs, _⟩ | ⟨a', len, cap, m, k, D, Pl, hcs, _⟩
    · exact ⟨none, 0, 0, by simpa using hcs⟩
    · exact ⟨_, _, _, by simpa using hcs⟩
  obtain ⟨g1, g2⟩ := open_ops h2' hwt
  refine ⟨y0, y1, y2, y3, a, m, c, ?_, g1, g2⟩
  congr
  apply Array.ext'
  rw [hls]
end

end Go.Proofs.Ytknhoncnaigogaa

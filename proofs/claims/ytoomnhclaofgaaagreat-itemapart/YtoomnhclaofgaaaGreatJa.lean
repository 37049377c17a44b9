import Derived.Test.YtoomnhclaofgaaaGreatRows
import Derived.Test.YtoomnhclaofgaaaGreatMa
import Derived.WalkKit
import Derived.ProofKit
import Derived.OpenShut
import Derived.Below
import Derived.Deep.Slices
import Derived.SizedLaws
import Derived.Deep.MidRow
/-
  A Laid that came in.
-/
namespace Go.Proofs.YtoomnhclaofgaaaGreat
open Go.ChangeShapes Go.WideShapes Go.ChangeAt Go.RowKit
set_option linter.unusedVariables false

section
variable {H : Type} {enc : TypeId × Value → H} {P : Program} {w : World} {base : Nat} {spare : Nat → Bool} {held : Bool}
theorem one_of {cs : List Value} {o : Nat} {v : Value} (h : (cs.drop o).take 1 = [v]) : cs[o]? = some v := by
  have : ((cs.drop o).take 1)[0]? = some v := by rw [h]; rfl
  simpa using this
theorem field_int {fs : Array Field} {f : Field} {k : IntKind} {t : TypeId} {fuel : Nat} {cs : List Value} {x : DataW H × List MemPlace} (i : Nat) (ht : P.underlying t = some (.struct fs)) (h : DataW.trod enc P w base spare held fuel t cs = some x)
    (hf : fs[i]? = some f) (hk : P.underlying f.type = some (.int k)) (hc : P.cellsOf f.type = 1) : ∃ n, cs[f.offset]? = some (.int k n) ∧ (Lit.int k n).wf = true := by
  obtain ⟨xs, n, _, rfl, hl, hlen, hff⟩ := DataW.trod_struct ht h
  have := hff i f hf
  have hi : i < xs.length := by rw [hlen]; exact (Array.getElem?_eq_some_iff.1 hf).1
  rw [List.getElem?_eq_getElem hi] at this
  obtain ⟨m, h1, _, h3⟩ := DataW.trod_int hk this
  rw [hc] at h1
  exact ⟨m, one_of h1, h3⟩
theorem plain_at {a : Addr} {v : Value} (h : w.cell? (a.add 0) = some v) : ∃ b o, a = ⟨b, o, none⟩ := by
  have := World.cell?_spot h
  obtain ⟨b, o, s⟩ := a
  refine ⟨b, o, ?_⟩
  simp [Addr.add] at this
  rw [this]
end
theorem list11 {α : Type} {l : List α} {a0 a1 a2 a3 a4 a5 a6 a7 a8 a9 a10 : α} (h : l.length = 11) (h0 : l[0]? = some a0) (h1 : l[1]? = some a1) (h2 : l[2]? = some a2) (h3 : l[3]? = some a3) (h4 : l[4]? = some a4) (h5 : l[5]? = some a5) (h6 : l[6]? = some a6) (h7 : l[7]? = some a7) (h8 : l[8]? = some a8) (h9 : l[9]? = some a9) (h10 : l[10]? = some a10) : l = [a0, a1, a2, a3, a4, a5, a6, a7, a8, a9, a10] := by
  match l, h with
  | [_, _, _, _, _, _, _, _, _, _, _], _ => simp at h0 h1 h2 h3 h4 h5 h6 h7 h8 h9 h10; simp [h0, h1, h2, h3, h4, h5, h6, h7, h8, h9, h10]
theorem cells25 : Tryz.prog.cellsOf 25 = 11 := by kernel_rfl
theorem bytes5 : Tryz.prog.bytesOf 5 = 1 := by kernel_rfl
theorem types25 : Tryz.prog.cellTypes Tryz.prog.depth 25 = some [3, 3, 22, 22, 22, 23, 23, 3, 3, 3, 3] := by kernel_rfl
theorem bounds_u8 {z : Int} (h : (Lit.int .u8 z).wf = true) : 0 ≤ z ∧ z ≤ 255 := by
  simp only [Lit.wf] at h
  revert h
  simp [IntKind.min, IntKind.max, IntKind.signed, IntKind.bits]
theorem bounds_u64 {z : Int} (h : (Lit.int .u64 z).wf = true) : 0 ≤ z ∧ z ≤ 18446744073709551615 := by
  simp only [Lit.wf] at h
  revert h
  simp [IntKind.min, IntKind.max, IntKind.signed, IntKind.bits]

section
variable {H : Type} {enc : TypeId × Value → H} {w : World} {base : Nat} {spare : Nat → Bool} {held : Bool}
set_option maxRecDepth 100000 in
theorem blk_ok {r : Reach} {b0 : Nat} {a : Addr} {n c : Nat} (h : Cell.okWide Tryz.prog w r b0 22 (.slice (some a) n c)) : a.block < w.heap.size := by
  simp only [Cell.okWide, Tryz.underlying22, Cell.ok, World.has] at h
  obtain ⟨_, _, _, _, row, cells, hs, _⟩ := h
  rcases Nat.lt_or_ge a.block w.heap.size with h1 | h1
  · exact h1
  · have : w.heap[a.block]? = none := Array.getElem?_eq_none h1
    simp [World.shape?, this] at hs
theorem open_bytes {fuel : Nat} {cs : List Value} {x : DataW H × List MemPlace} (h : DataW.trod enc Tryz.prog w base spare held fuel 22 cs = some x) (hsz : ∀ n ∈ x.1.weights Tryz.prog 22, n ≤ 140737488351232) :
    ∃ sa sn sc ys, cs = [.slice sa sn sc] ∧ Has w sa sn ys ∧ isBytes ys ∧ sn ≤ 140737488351232 ∧ (sa = none → sc = 0) := by
  rcases Deep.open_slice1 Tryz.underlying22 (by kernel_rfl) h with ⟨hcs, _⟩ | ⟨a, len, cap, m, n, V, D, Pl, hcs, hb, hl, hm, hmm, hx, hel⟩
  · exact ⟨none, 0, 0, [], hcs, ⟨rfl, fun h => by omega⟩, by simp [isBytes], by omega, fun _ => rfl⟩
  · have hlm : len ≤ m := by rw [hmm]; split <;> omega
    have hbyte : ∀ i, ∃ z : Int, i < len → (w.cell? (a.add i) = some (.int .u8 z) ∧ 0 ≤ z ∧ z < 256) := by
      intro i
      by_cases hi : i < len
      · obtain ⟨h1, h2⟩ := hel i (by omega)
        obtain ⟨z, h3, _, h5⟩ := DataW.trod_int Tryz.underlying5 h2
        simp at h3
        refine ⟨z, fun _ => ⟨by rw [h1, h3], ?_⟩⟩
        have := bounds_u8 h5
        omega
      · exact ⟨0, fun h => absurd h hi⟩
    obtain ⟨Z, hZ⟩ := Classical.axiomOfChoice hbyte
    refine ⟨some a, len, cap, (List.range len).map Z, hcs, ⟨by simp, fun h0 => ?_⟩, ?_, ?_, by simp⟩
    · obtain ⟨b, o, rfl⟩ := plain_at (hZ 0 h0).1
      refine ⟨b, o, rfl, fun i hi => ?_⟩
      have := (hZ i hi).1
      rw [Addr.add_mid] at this
      rw [this]
      simp [List.getD, hi]
    · intro z hz
      simp at hz
      obtain ⟨i, hi, rfl⟩ := hz
      exact (hZ i hi).2
    · have := hsz ((len + (m - len)) * 1) (by
        rw [hx]
        simp [DataW.weights, Tryz.underlying22, bytes5])
      omega

set_option maxRecDepth 100000 in
theorem field_bytes {fuel : Nat} {cs : List Value} {x : DataW H × List MemPlace} (i : Nat) (hi3 : i = 2 ∨ i = 3 ∨ i = 4) (h : DataW.trod enc Tryz.prog w base spare held fuel 25 cs = some x) (hsz : ∀ n ∈ x.1.weights Tryz.prog 25, n ≤ 140737488351232) :
    ∃ sa sn sc ys, cs[i]? = some (.slice sa sn sc) ∧ Has w sa sn ys ∧ isBytes ys ∧ sn ≤ 140737488351232 ∧ (sa = none → sc = 0) := by
  obtain ⟨xs, n, _, rfl, hl, hlen, hff⟩ := DataW.trod_struct Tryz.underlying25 h
  have h7 : DataW.trod enc Tryz.prog w base spare held n 22 ((cs.drop i).take (Tryz.prog.cellsOf 22)) = xs[i]? := by
    rcases hi3 with rfl | rfl | rfl
    · exact hff 2 _ rfl
    · exact hff 3 _ rfl
    · exact hff 4 _ rfl
  have hi : i < xs.length := by rw [hlen]; rcases hi3 with rfl | rfl | rfl <;> decide
  rw [List.getElem?_eq_getElem hi, show Tryz.prog.cellsOf 22 = 1 by kernel_rfl] at h7
  obtain ⟨sa, sn, sc, ys, e1, e2⟩ := open_bytes h7 (fun k hk => hsz k (by
    show k ∈ DataW.weights Tryz.prog 25 (DataW.agg (xs.map (·.1)))
    rw [DataW.weights, Tryz.underlying25]
    rcases hi3 with rfl | rfl | rfl
    · exact DataW.weights_mem_each (j := 2) (t := 22) rfl (by simp [hi]) k hk
    · exact DataW.weights_mem_each (j := 3) (t := 22) rfl (by simp [hi]) k hk
    · exact DataW.weights_mem_each (j := 4) (t := 22) rfl (by simp [hi]) k hk))
  exact ⟨sa, sn, sc, ys, one_of e1, e2⟩

set_option maxRecDepth 100000 in
theorem open_laid {r : Reach} {b0 : Nat} {v : Value} {d : DataW H} {p : List MemPlace} (hv : Value.okWide Tryz.prog w r b0 25 v) (h : DataW.Trod enc Tryz.prog w base spare held 25 v d p) (hsz : ∀ k ∈ d.weights Tryz.prog 25, k ≤ 140737488351232) :
    ∃ (cf cs : Int) (ka : Option Addr) (kn kc : Nat) (va : Option Addr) (vn vc : Nat) (na : Option Addr) (nn nc : Nat) (fl tk ex to st mk : Int) (ys vs us : List Int), v = .agg #[.int .i64 cf, .int .i64 cs, .slice ka kn kc, .slice va vn vc, .slice na nn nc, .int .u64 fl, .int .u64 tk, .int .i64 ex, .int .i64 to, .int .i64 st, .int .i64 mk] ∧ Has w ka kn ys ∧ Has w va vn vs ∧ Has w na nn us ∧ isBytes ys ∧ isBytes vs ∧ isBytes us ∧ kn ≤ 140737488351232 ∧ vn ≤ 140737488351232 ∧ nn ≤ 140737488351232 ∧ (0 ≤ fl ∧ fl < 18446744073709551616) ∧ (0 ≤ tk ∧ tk < 18446744073709551616) ∧
      (∀ x, ka.map (·.block) = some x → x < w.heap.size) ∧ (∀ x, va.map (·.block) = some x → x < w.heap.size) ∧ (∀ x, na.map (·.block) = some x → x < w.heap.size) := by
  have hv2 := hv
  simp only [Value.okWide, Tryz.underlying25] at hv2
  obtain ⟨cs, rfl, hs, ts, hts, _, hrow⟩ := hv2
  rw [types25] at hts
  cases hts
  obtain ⟨fuel, hf⟩ := h
  have hf' : DataW.trod enc Tryz.prog w base spare held fuel 25 cs.toList = some (d, p) := by simpa [Value.cells] using hf
  obtain ⟨y0, e0, _⟩ := field_int 0 Tryz.underlying25 hf' rfl Tryz.underlying3 (by kernel_rfl)
  obtain ⟨y1, e1, _⟩ := field_int 1 Tryz.underlying25 hf' rfl Tryz.underlying3 (by kernel_rfl)
  obtain ⟨ka, kn, kc, ys, e2, a2, b2, c2, _⟩ := field_bytes 2 (.inl rfl) hf' hsz
  obtain ⟨va, vn, vc, vs, e3, a3, b3, c3, _⟩ := field_bytes 3 (.inr (.inl rfl)) hf' hsz
  obtain ⟨na, nn, nc, us, e4, a4, b4, c4, _⟩ := field_bytes 4 (.inr (.inr rfl)) hf' hsz
  obtain ⟨y5, e5, w5⟩ := field_int 5 Tryz.underlying25 hf' rfl Tryz.underlying23 (by kernel_rfl)
  obtain ⟨y6, e6, w6⟩ := field_int 6 Tryz.underlying25 hf' rfl Tryz.underlying23 (by kernel_rfl)
  obtain ⟨y7, e7, _⟩ := field_int 7 Tryz.underlying25 hf' rfl Tryz.underlying3 (by kernel_rfl)
  obtain ⟨y8, e8, _⟩ := field_int 8 Tryz.underlying25 hf' rfl Tryz.underlying3 (by kernel_rfl)
  obtain ⟨y9, e9, _⟩ := field_int 9 Tryz.underlying25 hf' rfl Tryz.underlying3 (by kernel_rfl)
  obtain ⟨y10, e10, _⟩ := field_int 10 Tryz.underlying25 hf' rfl Tryz.underlying3 (by kernel_rfl)
  have bl : ∀ i a n c, (i = 2 ∨ i = 3 ∨ i = 4) → cs.toList[i]? = some (.slice a n c) → ∀ x, a.map (·.block) = some x → x < w.heap.size := fun i a n c hi he x hx => by
    cases a with
    | none => simp at hx
    | some ad =>
      simp at hx
      subst hx
      obtain ⟨u, hu, hok⟩ := hrow i _ (by simpa using he)
      have hu2 : u = 22 := by
        rcases hi with rfl | rfl | rfl <;> (simp at hu; exact hu.symm)
      subst hu2
      exact blk_ok hok
  have := bounds_u64 w5
  have := bounds_u64 w6
  refine ⟨y0, y1, ka, kn, kc, va, vn, vc, na, nn, nc, y5, y6, y7, y8, y9, y10, ys, vs, us, ?_, a2, a3, a4, b2, b3, b4, c2, c3, c4, by omega, by omega, bl 2 _ _ _ (.inl rfl) e2, bl 3 _ _ _ (.inr (.inl rfl)) e3, bl 4 _ _ _ (.inr (.inr rfl)) e4⟩
  have := list11 (by rw [cells25] at hs; simpa using hs) e0 e1 e2 e3 e4 e5 e6 e7 e8 e9 e10
  congr
  apply Array.ext'
  rw [this]
end
end Go.Proofs.YtoomnhclaofgaaaGreat

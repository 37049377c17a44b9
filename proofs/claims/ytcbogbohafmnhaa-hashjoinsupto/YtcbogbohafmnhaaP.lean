/-
  A join that came in, of a bounded bulk.
-/
import Derived.Test.YtcbogbohafmnhaaM
namespace Go.Proofs.Ytcbogbohafmnhaa
open Go.ChangeShapes Go.WideShapes Go.ChangeAt Go.RowKit
set_option linter.unusedVariables false

theorem four {α : Type} {l : List α} {a b c d : α} (h : l.length = 4) (h0 : l[0]? = some a) (h1 : l[1]? = some b) (h2 : l[2]? = some c) (h3 : l[3]? = some d) : l = [a, b, c, d] := by
  match l, h with
  | [_, _, _, _], _ => simp at h0 h1 h2 h3; simp [h0, h1, h2, h3]
theorem cells52 : Try.prog.cellsOf 52 = 4 := by kernel_rfl
theorem bulk_pos {H : Type} (d : DataW H) : 0 < Rows.uptoBulk d := by
  cases d with
  | lit l => cases l <;> simp [Rows.uptoBulk]
  | _ => simp [Rows.uptoBulk]
theorem length_bulk {H : Type} : ∀ l : List (DataW H), l.length ≤ Rows.uptoBulkAll l
  | [] => Nat.zero_le _
  | d :: l => by
    have h1 := bulk_pos d
    have h2 := length_bulk l
    simp only [Rows.uptoBulkAll, List.length_cons]
    omega
theorem mem_bulk {H : Type} : ∀ {l : List (DataW H)} {d : DataW H}, d ∈ l → Rows.uptoBulk d ≤ Rows.uptoBulkAll l
  | e :: l, d, h => by
    simp only [Rows.uptoBulkAll]
    rcases List.mem_cons.1 h with h | h
    · subst h; omega
    · have := mem_bulk h
      omega

section
variable {H : Type} {enc : TypeId × Value → H} {w : World} {base : Nat} {spare : Nat → Bool} {held : Bool}
/-- Bytes that came in. -/
theorem open_bytesB {fuel : Nat} {cs : List Value} {x : DataW H × List MemPlace} (h : DataW.trod enc Try.prog w base spare held fuel 23 cs = some x) :
    ∃ sa sn sc ys, cs = [.slice sa sn sc] ∧ Has w sa sn ys ∧ isBytes ys ∧ sn ≤ Rows.uptoBulk x.1 ∧ (sa = none → sc = 0) := by
  rcases Deep.open_slice1 Try.underlying23 (by kernel_rfl) h with ⟨hcs, _⟩ | ⟨a, len, cap, m, n, V, D, Pl, hcs, hb, hl, hm, hmm, hx, hel⟩
  · exact ⟨none, 0, 0, [], hcs, ⟨rfl, fun h => by omega⟩, by simp [isBytes], Nat.zero_le _, fun _ => rfl⟩
  · have hlm : len ≤ m := by rw [hmm]; split <;> omega
    have hbyte : ∀ i, ∃ z : Int, i < len → (w.cell? (a.add i) = some (.int .u8 z) ∧ 0 ≤ z ∧ z < 256) := by
      intro i
      by_cases hi : i < len
      · obtain ⟨h1, h2⟩ := hel i (by omega)
        obtain ⟨z, h3, _, h5⟩ := DataW.trod_int Try.underlying5 h2
        simp at h3
        refine ⟨z, fun _ => ⟨by rw [h1, h3], ?_⟩⟩
        have := bounds_u8 h5
        omega
      · exact ⟨0, fun h => absurd h hi⟩
    obtain ⟨Z, hZ⟩ := Classical.axiomOfChoice hbyte
    refine ⟨some a, len, cap, (List.range len).map Z, hcs, ⟨by simp, fun h0 => ?_⟩, ?_, ?_, by simp⟩
    · obtain ⟨b, o, rfl⟩ := plain_of (hZ 0 h0).1
      refine ⟨b, o, rfl, fun i hi => ?_⟩
      have := (hZ i hi).1
      rw [Addr.add_mid] at this
      rw [this]
      simp [List.getD, hi]
    · intro z hz
      simp at hz
      obtain ⟨i, hi, rfl⟩ := hz
      exact (hZ i hi).2
    · have hb := length_bulk ((List.range len).map D)
      rw [hx]
      simp only [Rows.uptoBulk]
      rw [List.length_map, List.length_range] at hb
      omega


set_option maxRecDepth 100000 in
theorem open_join {r : Reach} {b0 : Nat} {v : Value} {d : DataW H} {p : List MemPlace}
    (hv : Value.okWide Try.prog w r b0 52 v) (h : DataW.Trod enc Try.prog w base spare held 52 v d p) (hk : Rows.uptoBulk d ≤ 1048576) :
    ∃ (aA aB : Option Addr) (cA cB : Nat) (xs ys : List Int) (at_ by_ : Int), v = .agg #[.slice aA xs.length cA, .slice aB ys.length cB, .int .i64 at_, .int .u8 by_] ∧
      (Has w aA xs.length xs ∧ isBytes xs ∧ xs.length ≤ 70368744177664 ∧ (aA = none → cA = 0)) ∧ (Has w aB ys.length ys ∧ isBytes ys ∧ ys.length ≤ 70368744177664 ∧ (aB = none → cB = 0)) ∧ 0 ≤ by_ ∧ by_ < 256 := by
  obtain ⟨cs, rfl, hsz⟩ := okWide_struct Try.underlying52 hv
  obtain ⟨fuel, hf⟩ := h
  have hf' : DataW.trod enc Try.prog w base spare held fuel 52 cs.toList = some (d, p) := by simpa [Value.cells] using hf
  obtain ⟨x2, e2, w2⟩ := field_int 2 Try.underlying52 hf' rfl Try.underlying3 (by kernel_rfl)
  obtain ⟨x3, e3, w3⟩ := field_int 3 Try.underlying52 hf' rfl Try.underlying5 (by kernel_rfl)
  obtain ⟨zs, n, _, hx, hl, hlen, hff⟩ := DataW.trod_struct Try.underlying52 hf'
  have hd : d = .agg (zs.map (·.1)) := congrArg Prod.fst hx
  have hb3 := bounds_u8 w3
  have fld : ∀ i, i < 2 → ∃ sa sn sc us, cs.toList[i]? = some (.slice sa sn sc) ∧ Has w sa sn us ∧ isBytes us ∧ sn ≤ 1048576 ∧ (sa = none → sc = 0) := by
    intro i hi
    have h7 : DataW.trod enc Try.prog w base spare held n 23 ((cs.toList.drop i).take (Try.prog.cellsOf 23)) = zs[i]? := by
      rcases (show i = 0 ∨ i = 1 by omega) with rfl | rfl
      · exact hff 0 _ rfl
      · exact hff 1 _ rfl
    have hi4 : zs.length = 4 := by rw [hlen]; decide
    have hiz : i < zs.length := by omega
    rw [List.getElem?_eq_getElem hiz, show Try.prog.cellsOf 23 = 1 by kernel_rfl] at h7
    obtain ⟨sa, sn, sc, us, e1, e3, e4, e5, e6⟩ := open_bytesB h7
    have hm := mem_bulk (l := zs.map (·.1)) (d := zs[i].1) (List.mem_map.2 ⟨zs[i], List.getElem_mem _, rfl⟩)
    rw [hd] at hk
    simp only [Rows.uptoBulk] at hk
    exact ⟨sa, sn, sc, us, one_of e1, e3, e4, by omega, e6⟩
  obtain ⟨aA, nA, cA, xs, f0, hA, bA, kA, dA⟩ := fld 0 (by omega)
  obtain ⟨aB, nB, cB, ys, f1, hB, bB, kB, dB⟩ := fld 1 (by omega)
  have lA := hA.1
  have lB := hB.1
  subst lA
  subst lB
  refine ⟨aA, aB, cA, cB, xs, ys, x2, x3, ?_, ⟨hA, bA, by omega, dA⟩, ⟨hB, bB, by omega, dB⟩, by omega, by omega⟩
  have := four (by rw [cells52] at hsz; simpa using hsz) f0 f1 e2 e3
  congr
  apply Array.ext'
  rw [this]
end

end Go.Proofs.Ytcbogbohafmnhaa

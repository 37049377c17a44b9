import Derived.Test.YtobegepebochkaaGreatDoorVb
/-
  A Cut that came in.
-/
namespace Go.Proofs.YtobegepebochkaaGreatDoor
open Go.ChangeShapes Go.WideShapes Go.ChangeAt Go.RowKit
set_option linter.unusedVariables false
set_option linter.unusedSimpArgs false

theorem list3 {α : Type} {l : List α} {a0 a1 a2 : α} (h : l.length = 3) (h0 : l[0]? = some a0) (h1 : l[1]? = some a1) (h2 : l[2]? = some a2) : l = [a0, a1, a2] := by
  match l, h with
  | [_, _, _], _ => simp at h0 h1 h2; simp [h0, h1, h2]
theorem typesCut : Tryz.prog.cellTypes Tryz.prog.depth 84 = some [38, 3, 82] := by kernel_rfl
section
variable {H : Type} {enc : TypeId × Value → H} {w : World} {base : Nat} {spare : Nat → Bool} {held : Bool}
set_option maxRecDepth 100000 in
theorem open_cut {r : Reach} {b0 : Nat} {v : Value} {d : DataW H} {p : List MemPlace} (hv : Value.okWide Tryz.prog w r b0 84 v) (h : DataW.Trod enc Tryz.prog w base spare held 84 v d p) :
    ∃ ra rc lim oa oc raw os, v = .agg #[.slice ra (raw : Bs).length rc, .int .i64 lim, .slice oa (os : List Int).length oc] ∧ Ck w (fun _ => False) (.slice ra raw.length rc) raw ∧ Ci w (.slice oa os.length oc) os ∧ lim ≤ 9223372036854775807 ∧ -9223372036854775808 ≤ lim ∧ os.length ≤ 9223372036854775807 ∧ raw.length ≤ 9223372036854775807 := by
  have hv2 := hv
  simp only [Value.okWide, Tryz.underlying84] at hv2
  obtain ⟨cs, rfl, hs, ts, hts, _, hrow⟩ := hv2
  rw [typesCut] at hts
  cases hts
  obtain ⟨fuel, hf⟩ := h
  have hf' : DataW.trod enc Tryz.prog w base spare held fuel 84 cs.toList = some (d, p) := by simpa [Value.cells] using hf
  obtain ⟨y1, e1, w1⟩ := field_int 1 Tryz.underlying84 hf' rfl Tryz.underlying3 (by kernel_rfl)
  obtain ⟨xs, n, _, ex, hl, hlen, hff⟩ := DataW.trod_struct Tryz.underlying84 hf'
  have hok : ∀ i t v, ([38, 3, 82] : List TypeId)[i]? = some t → i < 3 → (cs.toList.drop i).take 1 = [v] → Cell.okWide Tryz.prog w r b0 t v := by
    intro i t v ht hi he
    obtain ⟨u, hu, hok⟩ := hrow i v (by simpa using one_of he)
    have : u = t := by
      have e : i % 3 = i := Nat.mod_eq_of_lt hi
      simp only [List.length_cons, List.length_nil] at hu
      rw [show (0 + 1 + 1 + 1 : Nat) = 3 from rfl, e, ht] at hu
      injection hu with hu
      exact hu.symm
    rw [← this]; exact hok
  have h0 : DataW.trod enc Tryz.prog w base spare held n 38 ((cs.toList.drop 0).take (Tryz.prog.cellsOf 38)) = xs[0]? := hff 0 _ rfl
  have h2 : DataW.trod enc Tryz.prog w base spare held n 82 ((cs.toList.drop 2).take (Tryz.prog.cellsOf 82)) = xs[2]? := hff 2 _ rfl
  have hxl : xs.length = 3 := by rw [hlen]; rfl
  rw [List.getElem?_eq_getElem (by omega), show Tryz.prog.cellsOf 38 = 1 by kernel_rfl] at h0
  rw [List.getElem?_eq_getElem (by omega), show Tryz.prog.cellsOf 82 = 1 by kernel_rfl] at h2
  obtain ⟨ra, rc, raw, q0, k0⟩ := open_by h0 (fun v hv => hok 0 _ v rfl (by decide) hv)
  obtain ⟨oa, oc, os, q2, k2, m2⟩ := open_ints h2 (fun v hv => hok 2 _ v rfl (by decide) hv)
  have hb := bounds_i64 w1
  have hcl : cs.toList.length = 3 := by
    rw [hl]
    kernel_rfl
  have hcs : cs.toList = [.slice ra raw.length rc, .int .i64 y1, .slice oa os.length oc] := list3 hcl (one_of q0) e1 (one_of q2)
  have hrl : raw.length ≤ 9223372036854775807 := by
    rcases k0 with ⟨rfl, _⟩ | ⟨g, o, c, _, h2, h3, _⟩
    · simp
    · omega
  refine ⟨ra, rc, y1, oa, oc, raw, os, ?_, k0, k2, hb.2, hb.1, m2, hrl⟩
  rw [← hcs]
end
end Go.Proofs.YtobegepebochkaaGreatDoor

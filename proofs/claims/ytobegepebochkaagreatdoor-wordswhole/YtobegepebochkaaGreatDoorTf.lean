import Derived.Test.YtobegepebochkaaGreatDoorTc
import Derived.Test.YtobegepebochkaaGreatDoorM
/-
  Bytes are looked for.
-/
namespace Go.Proofs.YtobegepebochkaaGreatDoor
open Go.RowKit Go.Maps
set_option linter.unusedVariables false
set_option linter.unusedSimpArgs false

/-- Where a byte stands first. -/
def idx (l : Bs) : Int := Lib.indexByte l 10
theorem indexByte_spec (c : UInt8) : ∀ (l : Bs), (Lib.indexByte l c = -1 ∧ c ∉ l) ∨ ∃ p t, l = p ++ c :: t ∧ c ∉ p ∧ Lib.indexByte l c = (p.length : Int)
  | [] => .inl ⟨rfl, by simp⟩
  | b :: l => by
    unfold Lib.indexByte
    by_cases hb : b = c
    · subst hb
      exact .inr ⟨[], l, rfl, by simp, by simp⟩
    · have hb' : (b == c) = false := by simpa using hb
      rcases indexByte_spec c l with ⟨h1, h2⟩ | ⟨p, t, h1, h2, h3⟩
      · exact .inl ⟨by simp [hb', h1], by simp [h2, Ne.symm hb]⟩
      · refine .inr ⟨b :: p, t, by simp [h1], by simp [h2, Ne.symm hb], ?_⟩
        have : ((p.length : Int) == -1) = false := by simp
        simp [hb', h3, this]
theorem bytesOf_b8 (l : Bs) : Lib.bytesOf (l.map fun b => (b.toNat : Int)) = l := by
  induction l with
  | nil => rfl
  | cons b t ih => simp [Lib.bytesOf] at ih ⊢; exact ih
set_option maxRecDepth 100000 in
set_option maxHeartbeats 4000000 in
theorem ix_118 (w : World) (g o c : Nat) (l : Bs) (hc : ∀ i x, l[i]? = some x → w.cell? ⟨g, o + i, none⟩ = some (b8 x)) :
    Calls Tryz.prog 118 #[.slice (some ⟨g, o, none⟩) l.length c, .int .u8 10] w fun e w' => e = .returned (.int .i64 (Lib.indexByte l 10)) ∧ w' = w := by
  have h := Lib.run_indexByteSlice (P := Tryz.prog) w g o l.length c (l.map fun b => (b.toNat : Int)) (by simp) (fun i hi => by
    rw [hc i l[i] (List.getElem?_eq_getElem hi), List.getD_eq_getElem?_getD, List.getElem?_map, List.getElem?_eq_getElem hi]; rfl) 10
  rw [bytesOf_b8] at h
  clear hc
  go_enter Tryz.func118, Tryz.ntmps118
  go_wp2
  rw [run_callFunc_extern Tryz.func147 (by kernel_rfl) (by kernel_rfl) (by kernel_rfl) (e := Extern.BytealgIndexByte.indexByte) (by kernel_rfl), h]
  simp only [Result.andThen]
  rw [Oper.upon_value]
  go_wp2
  go_ret
  exact ⟨rfl, rfl⟩
set_option maxRecDepth 100000 in
set_option maxHeartbeats 4000000 in
theorem equal_162 {w : World} {a b : Value} {la lb : Bs} (hA : By w a la) (hB : By w b lb) :
    Calls Tryz.prog 162 #[a, b] w fun e w' => e = .returned (.bool (la == lb)) ∧ w' = w := by
  have h1 := hA.conv
  have h2 := hB.conv
  obtain ⟨a1, c1, rfl⟩ := hA.shape
  obtain ⟨a2, c2, rfl⟩ := hB.shape
  go_enter Tryz.func162, Tryz.ntmps162
  go_wp2
  go_ret
  exact ⟨rfl, rfl⟩
theorem by_end {w : World} {g o : Nat} {l : Bs} (hl : l.length ≤ 1099511627776) (hg : g < w.heap.size) (hc : ∀ i x, l[i]? = some x → w.cell? ⟨g, o + i, none⟩ = some (b8 x)) (k : Nat) (hk : k ≤ l.length) (c' : Nat) : By w (.slice (some ⟨g, o + k, none⟩) (l.length - k) c') (l.drop k) :=
  .inr ⟨g, o + k, c', by rw [List.length_drop], by rw [List.length_drop]; omega, hg, fun i x hx => by rw [List.getElem?_drop] at hx; rw [Nat.add_assoc]; exact hc _ x hx⟩
set_option maxRecDepth 100000 in
set_option maxHeartbeats 4000000 in
theorem suf_148 {w : World} {g o c sg sc : Nat} {l : Bs} (hl : l.length ≤ 1099511627776) (hcp : l.length ≤ c) (hg : g < w.heap.size) (hc : ∀ i x, l[i]? = some x → w.cell? ⟨g, o + i, none⟩ = some (b8 x)) (hs : w.cell? ⟨sg, 0, none⟩ = some (.int .u8 13)) :
    Calls Tryz.prog 148 #[.slice (some ⟨g, o, none⟩) l.length c, .slice (some ⟨sg, 0, none⟩) 1 sc] w fun e w' => e = .returned (.bool (decide (l.getLast? = some 13))) ∧ w' = w := by
  have hsb : By w (.slice (some ⟨sg, 0, none⟩) 1 sc) [13] := .inr ⟨sg, 0, sc, rfl, by simp, lt_of_cell hs, fun i x hx => by
    rcases i with _ | i
    · simp at hx; subst hx; exact hs
    · simp at hx⟩
  rcases Nat.eq_zero_or_pos l.length with h0 | h0
  · have := List.length_eq_zero_iff.1 h0
    subst this
    go_enter Tryz.func148, Tryz.ntmps148
    go_wp2
    go_ret
    exact ⟨rfl, rfl⟩
  · obtain ⟨k, hk⟩ : ∃ k, l.length = k + 1 := ⟨l.length - 1, by omega⟩
    have hE := equal_162 (by_end hl hg hc k (by omega) (c - k)) hsb
    have e1 : l.length - k = 1 := by omega
    have e2 : (l.drop k == [13]) = decide (l.getLast? = some 13) := by
      rw [List.getLast?_eq_getElem?, hk]
      have : l.drop k = [l[k]'(by omega)] := by
        rw [List.drop_eq_getElem_cons (by omega), List.drop_of_length_le (by omega)]
      rw [this, Nat.add_sub_cancel, List.getElem?_eq_getElem (by omega)]
      by_cases e : l[k]'(by omega) = 13
      · simp [e]
      · simp [e]
    rw [e1, e2] at hE
    rw [hk]
    have d1 : wrap64 (((k + 1 : Nat) : Int) - 1) = (k : Int) := by unfold wrap64; omega
    have d2 : ((k : Int) ≤ (c : Int)) := by omega
    have d3 : (((k + 1 : Nat) : Int) ≤ (c : Int)) := by omega
    clear hc e1 e2 hsb hs
    go_enter Tryz.func148, Tryz.ntmps148
    go_wp2_with (go_at_call 162; go_must ((with_reducible refine hE.mono ?_); rintro e w4 ⟨rfl, rfl⟩))
    go_ret
    exact ⟨rfl, rfl⟩
end Go.Proofs.YtobegepebochkaaGreatDoor

/-
  The document's disk: which file a name has.
-/
import Derived.Test.YtndjimdegkdljaaN
namespace Go.Proofs.Ytndjimdegkdljaa
open Go.RowKit Go.MapKept
set_option linter.unusedVariables false
set_option linter.unusedSimpArgs false
attribute [local go_sem] Oper.semAt_some

set_option maxRecDepth 100000 in
theorem names_75 {w : World} {r : Rl} {M : Md} (h : RR w r M) :
    Calls Try.prog 75 #[pv r.d] w fun e w' => ∃ v L, e = .returned v ∧ NmV w' w.heap.size v L ∧ Rep L M.names ∧ L.length ≤ M.acts ∧ w.grownBy w' none := by
  obtain ⟨cao, ccp, ec, -, -, hccp, hcpos⟩ := row_shape h.ch
  have h49 := after_49 h (M.ch.length : Int) (by omega) (by omega)
  rw [Int.toNat_natCast, List.take_length] at h49
  have c3 : w.cell? ⟨r.d, 3, none⟩ = some r.cv := h.box.cell 3
  rw [ec] at c3
  clear h ec
  go_enter Try.func75, Try.ntmps75
  go_wp2_with (go_at_call 49; go_must (refine h49.mono ?_); rintro e w1 ⟨v, L, rfl, hv⟩)
  go_ret
  exact ⟨v, L, rfl, hv⟩
/-- The number of a name's file, as the document tells it. -/
def atI : Option Nat → Int
  | some k => (k : Int)
  | none => -1
theorem lookup_at {L : List (Bs × Nat)} {m : NS} (hR : Rep L m) {i : Nat} {x : Bs} {k : Nat} (hx : L[i]? = some (x, k)) : m x = some k := hR.mem.1 (List.mem_of_getElem? hx)
theorem lookup_no {L : List (Bs × Nat)} {m : NS} (hR : Rep L m) {s : Bs} (h : ∀ (j : Nat) (x : Bs) (k : Nat), L[j]? = some (x, k) → x ≠ s) : m s = none := by
  cases hm : m s with
  | none => rfl
  | some k =>
    obtain ⟨j, hj⟩ := List.mem_iff_getElem?.1 (hR.mem.2 hm)
    exact absurd rfl (h j s k hj)
set_option maxRecDepth 100000 in
set_option maxHeartbeats 4000000 in
theorem at_74 {w : World} {r : Rl} {M : Md} (h : RR w r M) (s : Bs) :
    Calls Try.prog 74 #[pv r.d, sv s] w fun e w' => e = .returned (.int .i64 (atI (M.names s))) ∧ w.grownBy w' none := by
  have h75 := names_75 h
  have hna := h.ok.na
  clear h
  obtain ⟨res, hres⟩ : ∃ res, atI (M.names s) = res := ⟨_, rfl⟩
  rw [hres]
  have HRES := Lib.hid hres
  clear hres
  go_enter Try.func74, Try.ntmps74
  go_upto_region 2 with (go_at_call 75; go_must (refine h75.mono ?_); rintro e w1 ⟨v, L, rfl, hV, hR, hl, g1⟩)
  obtain ⟨ao, cp, e0, -, -, hcp, hpos⟩ := row_shape hV
  subst e0
  obtain ⟨n, hN⟩ : ∃ n, L.length = n := ⟨_, rfl⟩
  unfold NmV at hV
  rw [hN] at hV hpos hl ⊢
  have HV := Lib.hid (And.intro hV (And.intro hR hN))
  clear hV hR hN h75
  go_wp2_with fail
  go_loopw [6] (fun x6 wr => ∃ i : Nat, i ≤ n ∧ x6 = .int .i64 (i : Int) ∧ (∀ (j : Nat) (x : Bs) (k : Nat), j < i → L[j]? = some (x, k) → x ≠ s) ∧ wr = w1) (fun x6 _ => n - (intOf x6).toNat)
  case atStart => exact ⟨0, by omega, rfl, fun j x k hj => by omega, rfl⟩
  case round =>
    obtain ⟨i, hi, rfl, hno, rfl⟩ := hrel
    obtain ⟨hV, hR, hN⟩ := HV.out
    by_cases hlt : i < n
    · obtain ⟨⟨x, k⟩, hx⟩ : ∃ x, L[i]? = some x := ⟨_, List.getElem?_eq_getElem (by rw [hN]; exact hlt)⟩
      obtain ⟨g, rfl⟩ := hpos (by omega)
      have q0 : wr.cell? ⟨g, i * 2, none⟩ = some (sv x) := row_cell hV (i * 2 + 0) _ (by rw [nm_get 0 hx (by omega)]; rfl)
      have q1 : wr.cell? ⟨g, i * 2 + 1, none⟩ = some (.int .i64 (k : Int)) := row_cell hV (i * 2 + 1) _ (by rw [nm_get 1 hx (by omega)]; rfl)
      have d1 : decide ((i : Int) < (n : Int)) = true := by simp; omega
      have hib : (i : Int) < (n : Int) := by omega
      have hw1 : IntKind.i64.wrap ((i : Int) + 1) = (i : Int) + 1 := by rw [IntKind.wrap_i64]; omega
      by_cases hxs : x = s
      · subst hxs
        have hm : res = (k : Int) := by rw [← HRES.out, lookup_at hR hx]; rfl
        subst hm
        clear hV hR HV
        go_wp2_with fail
        go_ret
        exact ⟨rfl, g1⟩
      · have hxs' : (x == s) = false := by simpa using hxs
        have HNO := Lib.hid hno
        have HX := Lib.hid hx
        clear hV hR HV hno hx
        go_wp2_with fail
        refine ⟨⟨i + 1, by omega, by first | rfl | simp, fun j y l hj hy => ?_, by first | rfl | trivial⟩, by simp [intOf]; omega⟩
        by_cases hji : j = i
        · subst hji
          rw [HX.out] at hy
          injection hy with hy
          injection hy with hy1 hy2
          rw [← hy1]
          exact hxs
        · exact HNO.out j y l (by omega) hy
    · obtain rfl : i = n := by omega
      have d1 : decide ((i : Int) < (i : Int)) = false := by simp
      have hm : res = -1 := by rw [← HRES.out, lookup_no hR (fun j x k hx => hno j x k (by have := (List.getElem?_eq_some_iff.1 hx).1; omega) hx)]; rfl
      subst hm
      clear hV hR HV hno
      go_wp2_with fail
      go_ret
      exact ⟨rfl, g1⟩
end Go.Proofs.Ytndjimdegkdljaa

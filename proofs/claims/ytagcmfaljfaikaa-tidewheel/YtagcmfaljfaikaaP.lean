/-
  Handles; wakes.
-/
import Derived.Test.YtagcmfaljfaikaaO
namespace Go.Proofs.Ytagcmfaljfaikaa
open Go.RowKit
set_option linter.unusedVariables false

/-- A slice of handles that reads xs. -/
def HsH (w : World) (a : Option Addr) (xs : List Int) : Prop :=
  0 < xs.length → ∃ g o, a = some ⟨g, o, none⟩ ∧ ∀ i, i < xs.length → w.cell? ⟨g, o + i, none⟩ = some (.int .u64 (xs.getD i 0))
theorem HsH.kept0 {w w' : World} {a : Option Addr} {xs : List Int} (h : HsH w a xs) (hf : w.grownBy w' none) : HsH w' a xs := fun h0 => by
  obtain ⟨g, o, e, hc⟩ := h h0
  exact ⟨g, o, e, fun i hi => gb_cellN hf (hc i hi)⟩
theorem HsH.of_row {w : World} {B : Nat} {dv : Value} {xs : List Int} (h : w.ownsRow B 89 1 dv xs.length (xs.map fun x => Value.int .u64 x)) : ∃ a c, dv = .slice a xs.length c ∧ HsH w a xs := by
  obtain ⟨ao, cp, hdv, _, _, _, hpos⟩ := row_shape h
  subst hdv
  refine ⟨ao, cp, rfl, fun h0 => ?_⟩
  obtain ⟨g, rfl⟩ := hpos h0
  refine ⟨g, 0, rfl, fun i hi => ?_⟩
  rw [Nat.zero_add]
  exact row_cell h i _ (by simp [List.getD, hi])

set_option maxRecDepth 100000 in
set_option maxHeartbeats 4000000 in
theorem handles_35 {w : World} {a b : Option Addr} {xs : List Int} (h1 : HsH w a xs) (h2 : HsH w b xs) (c d : Nat) (hn : xs.length < 1000000) :
    Calls Try.prog 35 #[.slice a xs.length c, .slice b xs.length d] w fun y w' => y = .returned (.bool true) ∧ w.grownBy w' none := by
  go_enter Try.func35, Try.ntmps35
  go_wp2
  go_loopw [5] (fun v wr => ∃ k : Nat, k ≤ xs.length ∧ v = .int .i64 k ∧ w.grownBy wr none) (fun v _ => xs.length - (intOf v).toNat)
  case atStart => exact ⟨0, by omega, rfl, gb_refl _ _⟩
  case round =>
    obtain ⟨k, hk, rfl, hg⟩ := hrel
    by_cases hlt : k < xs.length
    · obtain ⟨g1, o1, rfl, hc1⟩ := h1 (by omega)
      obtain ⟨g2, o2, rfl, hc2⟩ := h2 (by omega)
      have e1 := gb_cellN hg (hc1 k hlt)
      have e2 := gb_cellN hg (hc2 k hlt)
      have hib : (k : Int) < xs.length := by omega
      generalize xs.getD k 0 = z at *
      clear h1 h2 hc1 hc2
      go_wp2
      go_quiet (fail)
      go_wp2
      exact ⟨⟨k + 1, by omega, by go_num, gb_drewN hg _⟩, by simp [intOf]; omega⟩
    · obtain rfl : k = xs.length := by omega
      clear h1 h2
      go_wp2
      go_ret
      exact ⟨rfl, hg⟩

theorem told_two {now most : Int} {ds : List En} {a b : En} {S : En → Prop} (h : Told S now most ds) (hS : ∀ y, S y ↔ (y = a ∨ y = b)) (hab : ah a b) (ha : a.x ≤ now) (hb : b.x ≤ now) (hm : 2 < most) (hl : ds.length ≤ 2 → (ds.length : Int) < most) : ds = [a, b] := by
  have hmem : ∀ x, x ∈ ds → x = a ∨ x = b := fun x hx => (hS x).1 (h.inn x hx).1
  have hle : ds.length ≤ 2 := by
    have hp := h.pw
    match ds, hp, hmem with
    | [], _, _ => simp
    | [_], _, _ => simp
    | [_, _], _, _ => simp
    | x :: y :: z :: l, hp, hmem =>
      exfalso
      simp only [List.pairwise_cons] at hp
      have xy := hp.1 y (by simp)
      have xz := hp.1 z (by simp)
      have yz := hp.2.1 z (by simp)
      have ax := hmem x (by simp)
      have ay := hmem y (by simp)
      have az := hmem z (by simp)
      rcases ax with rfl | rfl <;> rcases ay with rfl | rfl <;> rcases az with rfl | rfl <;> first | exact ah_irrefl _ xy | exact ah_irrefl _ xz | exact ah_irrefl _ yz
  have hall := h.all (hl hle)
  refine sorted_one ds [a, b] h.pw (by simp [hab]) (fun x => ⟨fun hx => by simp; exact hmem x hx, fun hx => ?_⟩)
  simp at hx
  rcases hx with rfl | rfl
  · exact hall _ ((hS _).2 (.inl rfl)) ha
  · exact hall _ ((hS _).2 (.inr rfl)) hb

end Go.Proofs.Ytagcmfaljfaikaa

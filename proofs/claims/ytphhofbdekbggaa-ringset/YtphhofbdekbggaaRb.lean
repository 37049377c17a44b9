/-
  The search for a point.
-/
import Derived.Test.YtphhofbdekbggaaRa
namespace Go.Proofs.Ytphhofbdekbggaa
open Go.RowKit
set_option linter.unusedVariables false
set_option linter.unusedSimpArgs false

/-- A point: where it is, its server, its rank. -/
abbrev Pt := Int × Int × Int
/-- The point of a number. -/
def pat (ps : List Pt) (i : Nat) : Pt := ps.getD i default
/-- Points from a place on. -/
def PtAt (w : World) (g : Nat) (ps : List Pt) : Prop :=
  ∀ i, i < ps.length → w.cell? ⟨g, i * 3, none⟩ = some (.int .u32 (pat ps i).1) ∧ w.cell? ⟨g, i * 3 + 1, none⟩ = some (.int .i64 (pat ps i).2.1) ∧ w.cell? ⟨g, i * 3 + 2, none⟩ = some (.int .i64 (pat ps i).2.2)
theorem PtAt.grown {w w' : World} {g : Nat} {ps : List Pt} (h : PtAt w g ps) (hf : w.grownBy w' none) : PtAt w' g ps :=
  fun i hi => ⟨gb_cellN hf (h i hi).1, gb_cellN hf (h i hi).2.1, gb_cellN hf (h i hi).2.2⟩
theorem gb_grow (w : World) (q : Nat) (os : Array Obj) : w.grownBy (Sort.grow (w.drewN q) os) none :=
  ⟨rfl, rfl, rfl, by simp [Sort.grow, World.drewN], fun k hk _ => by
    show (w.heap ++ os)[k]? = w.heap[k]?
    exact Array.getElem?_append_left hk⟩
/-- Where a point would stand. -/
structure Lb (ps : List Pt) (m : Int) (i : Nat) : Prop where
  le : i ≤ ps.length
  lo : ∀ k, k < i → (pat ps k).1 < m
  hi : ∀ k, i ≤ k → k < ps.length → m ≤ (pat ps k).1
/-- Points rise. -/
def Rising (ps : List Pt) : Prop := ∀ i j, i < j → j < ps.length → (pat ps i).1 < (pat ps j).1
theorem Lb.uniq {ps : List Pt} {m : Int} {i j : Nat} (h : Lb ps m i) (k : Lb ps m j) : i = j := by
  have a1 := h.le
  have a2 := k.le
  rcases Nat.lt_trichotomy i j with hl | hl | hl
  · have b1 := k.lo i hl
    have b2 := h.hi i (Nat.le_refl _) (by omega)
    omega
  · exact hl
  · have b1 := h.lo j hl
    have b2 := k.hi j (Nat.le_refl _) (by omega)
    omega
theorem cmpI_neg (a b : Int) : decide (cmpI a b < 0) = decide (a < b) := by
  unfold cmpI
  by_cases h : a < b
  · simp [h]
  · by_cases h2 : b < a <;> simp [h, h2]

set_option maxHeartbeats 4000000 in
theorem search_55 (g n c : Nat) (ps : List Pt) (m : Int) (w : World) (hn : ps.length = n) (hn2 : n ≤ 281474976710656) (hP : PtAt w g ps) (hR : Rising ps) :
    Calls Try.prog 55 #[.slice (some ⟨g, 0, none⟩) n c, .int .u32 m, .func (.func 56) #[] #[]] w fun e w' => (∃ (i : Nat) (b : Bool), e = .returned (.tuple #[.int .i64 i, .bool b]) ∧ Lb ps m i) ∧ w.grownBy w' none := by
  go_enter Try.func55, Try.ntmps55
  go_wp2_with fail
  go_loopw [9, 10] (fun x y wr => ∃ (i j : Nat), i ≤ j ∧ j ≤ n ∧ x = .int .i64 i ∧ y = .int .i64 j ∧ (∀ k, k < i → (pat ps k).1 < m) ∧ (∀ k, j ≤ k → k < n → m ≤ (pat ps k).1) ∧ w.grownBy wr none) (fun x y _ => (intOf y).toNat - (intOf x).toNat)
  case atStart => exact ⟨0, n, by omega, by omega, rfl, rfl, by omega, by omega, gb_refl _ _⟩
  case round =>
    obtain ⟨i, j, hij, hj, rfl, rfl, hlo, hhi, hg⟩ := hrel
    by_cases hlt : i < j
    · have hd : decide (i < j) = true := by simp [hlt]
      have hP' := hP.grown hg
      obtain ⟨c0, c1, c2⟩ := hP' ((i + j) / 2) (by omega)
      have hcl := fun W => clo_56 (pat ps ((i + j) / 2)).1 (pat ps ((i + j) / 2)).2.1 (pat ps ((i + j) / 2)).2.2 m W
      have hneg := cmpI_neg (pat ps ((i + j) / 2)).1 m
      have HLT : Hid ((pat ps ((i + j) / 2)).1 < m → ∀ k, k < (i + j) / 2 + 1 → (pat ps k).1 < m) := fun hx k hk => by
        by_cases hk2 : k < (i + j) / 2
        · have := hR k ((i + j) / 2) hk2 (by omega)
          omega
        · obtain rfl : k = (i + j) / 2 := by omega
          exact hx
      have HGE : Hid (¬ (pat ps ((i + j) / 2)).1 < m → ∀ k, (i + j) / 2 ≤ k → k < n → m ≤ (pat ps k).1) := fun hx k hk1 hk2 => by
        by_cases hk3 : (i + j) / 2 < k
        · have := hR ((i + j) / 2) k hk3 (by omega)
          omega
        · obtain rfl : k = (i + j) / 2 := by omega
          omega
      have HLO : Hid _ := hlo
      have HHI : Hid _ := hhi
      generalize (pat ps ((i + j) / 2)).1 = pa at *
      generalize (pat ps ((i + j) / 2)).2.1 = pb at *
      generalize (pat ps ((i + j) / 2)).2.2 = pc at *
      generalize cmpI pa m = cv at *
      have HG : Hid (w.grownBy wr none) := hg
      clear hlo hhi hP hP' hg
      go_wp2_with (go_at_call 56; go_must (refine (hcl _).mono ?_); rintro y w' ⟨rfl, q, os, rfl⟩)
      · have hlt2 : pa < m := by assumption
        go_roundw
        case rel => exact ⟨(i + j) / 2 + 1, j, by omega, by omega, by go_num, rfl, HLT.out hlt2, HHI.out, gb_trans HG.out (gb_grow _ _ _)⟩
        case measure => simp [intOf]; omega
      · have hlt2 : m ≤ pa := by assumption
        go_roundw
        case rel => exact ⟨i, (i + j) / 2, by omega, by omega, rfl, by go_num, HLO.out, HGE.out (by omega), gb_trans HG.out (gb_grow _ _ _)⟩
        case measure => simp [intOf]; omega
    · obtain rfl : i = j := by omega
      have hlb : Hid (Lb ps m i) := ⟨by omega, hlo, fun k h1 h2 => hhi k h1 (by omega)⟩
      have HG : Hid (w.grownBy wr none) := hg
      by_cases hin : i < n
      · obtain ⟨c0, c1, c2⟩ := (hP.grown hg) i (by omega)
        have hcl := fun W => clo_56 (pat ps i).1 (pat ps i).2.1 (pat ps i).2.2 m W
        generalize (pat ps i).1 = pa at *
        generalize (pat ps i).2.1 = pb at *
        generalize (pat ps i).2.2 = pc at *
        generalize cmpI pa m = cv at *
        clear hlo hhi hP hg
        go_wp2_with (go_at_call 56; go_must (refine (hcl _).mono ?_); rintro y w' ⟨rfl, q, os, rfl⟩)
        go_ret2
        exact ⟨⟨_, _, rfl, hlb.out⟩, gb_trans HG.out (gb_grow _ _ _)⟩
      · clear hlo hhi hP hg
        go_wp2_with fail
        go_ret2
        exact ⟨⟨_, _, rfl, hlb.out⟩, HG.out⟩
end Go.Proofs.Ytphhofbdekbggaa

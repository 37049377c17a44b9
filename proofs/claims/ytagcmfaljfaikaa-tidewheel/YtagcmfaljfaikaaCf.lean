/-
  TideWheel: how it begins.
-/
import Derived.Test.YtagcmfaljfaikaaCe
namespace Go.Proofs.Ytagcmfaljfaikaa
open Go.RowKit
set_option linter.unusedVariables false

def ptN (b : Bool) (x : Nat) : Value := if b then .pointer (some ⟨x, 0, none⟩) else .pointer none
def suA (wb rb : Nat → Nat) (bb k : Nat) : Array Value := #[ptN (decide (0 < k)) (wb 0), ptN (decide (1 < k)) (wb 1), ptN (decide (0 < k)) (rb 0), ptN (decide (1 < k)) (rb 1), .pointer (some ⟨bb, 0, none⟩)]
theorem suA_set (wb rb : Nat → Nat) (bb j p q : Nat) (hj : j < 2) : ((suA wb rb bb j).setIfInBounds j (.pointer (some ⟨p, 0, none⟩))).setIfInBounds (2 + j) (.pointer (some ⟨q, 0, none⟩)) = suA (upd wb j p) (upd rb j q) bb (j + 1) := by
  rcases (show j = 0 ∨ j = 1 by omega) with rfl | rfl <;> rfl
/-- k wheels have been made. -/
structure Su (w : World) (B tb bb : Nat) (wb rb : Nat → Nat) (P : Nat → Nat → Prop) (k : Nat) : Prop where
  box : Box w 63 tb (suA wb rb bb k)
  pr : ∀ j, j < k → Pr w (wb j) (rb j) (P j) (P (2 + j)) [] 0
  bk : ∃ hv wv n V W D, Bk w bb (P 4) hv wv n 0 V W D
  p5 : P 5 tb
  dis : ∀ a b k, P a k → P b k → a = b
  fl : ∀ a k, P a k → k < w.heap.size
  lo : ∀ a k, P a k → B ≤ k
  hB : B ≤ w.heap.size
theorem Su.ws {w : World} {B tb bb : Nat} {wb rb : Nat → Nat} {P : Nat → Nat → Prop} (h : Su w B tb bb wb rb P 2) : Ws w B tb bb wb rb P (fun _ => []) (fun _ => 0) 0 0 :=
  ⟨h.box, h.pr, h.bk, h.p5, h.dis, h.fl, h.lo, fun _ _ => Nat.le_refl _, Nat.le_refl _, h.hB⟩
section
variable {w w2 w3 : World} {B tb bb : Nat} {wb rb : Nat → Nat} {P : Nat → Nat → Prop} {j : Nat}
theorem Su.fresh (h : Su w B tb bb wb rb P j) (hj : j < 2) {p q : Nat} {F : Nat → Prop} (hg : w.grownBy w2 none) (hF : ∀ k, F k → w.heap.size ≤ k) (hW : Wh w2 p F (fun _ => False) 0 0) (hq : q = w2.heap.size) :
    Kp (fun k => B ≤ k) w (((w2.setCell ⟨tb, j, none⟩ (.pointer (some ⟨p, 0, none⟩))).alloc (.cells #[.slice none 0 0] 67)).setCell ⟨tb, 2 + j, none⟩ (.pointer (some ⟨q, 0, none⟩))) ∧ ∃ wb rb P, Su (((w2.setCell ⟨tb, j, none⟩ (.pointer (some ⟨p, 0, none⟩))).alloc (.cells #[.slice none 0 0] 67)).setCell ⟨tb, 2 + j, none⟩ (.pointer (some ⟨q, 0, none⟩))) B tb bb wb rb P (j + 1) := by
  have hb2 := h.box.kept hg (by simp)
  have htl := h.fl 5 tb h.p5
  have hg3 : w2.grownBy (w2.setCell ⟨tb, j, none⟩ (.pointer (some ⟨p, 0, none⟩))) (some tb) := gb_setCell (gb_refl _ _) _
  have hg4 : w2.grownBy ((w2.setCell ⟨tb, j, none⟩ (.pointer (some ⟨p, 0, none⟩))).alloc (.cells #[.slice none 0 0] 67)) (some tb) := gb_alloc hg3 _
  have hg5 : w2.grownBy (((w2.setCell ⟨tb, j, none⟩ (.pointer (some ⟨p, 0, none⟩))).alloc (.cells #[.slice none 0 0] 67)).setCell ⟨tb, 2 + j, none⟩ (.pointer (some ⟨q, 0, none⟩))) (some tb) := gb_setCell hg4 _
  have hs2 := hg.size
  have hs3 : (w2.setCell ⟨tb, j, none⟩ (.pointer (some ⟨p, 0, none⟩))).heap.size = w2.heap.size := by simp
  have hbx : Box (((w2.setCell ⟨tb, j, none⟩ (.pointer (some ⟨p, 0, none⟩))).alloc (.cells #[.slice none 0 0] 67)).setCell ⟨tb, 2 + j, none⟩ (.pointer (some ⟨q, 0, none⟩))) 63 tb (suA (upd wb j p) (upd rb j q) bb (j + 1)) := by
    rw [← suA_set wb rb bb j p q hj]
    exact ((hb2.set j _).kept (World.grownBy_alloc _ _ none) (by simp)).set (2 + j) _
  have hbq : Box (((w2.setCell ⟨tb, j, none⟩ (.pointer (some ⟨p, 0, none⟩))).alloc (.cells #[.slice none 0 0] 67)).setCell ⟨tb, 2 + j, none⟩ (.pointer (some ⟨q, 0, none⟩))) 67 q #[.slice none 0 0] := by
    have h1 : Box ((w2.setCell ⟨tb, j, none⟩ (.pointer (some ⟨p, 0, none⟩))).alloc (.cells #[.slice none 0 0] 67)) 67 q #[.slice none 0 0] := by rw [hq, ← hs3]; exact heap_alloc_new _ _
    exact h1.kept (gb_setCell (gb_refl _ (some tb)) _) (by simp; omega)
  have hsz5 : w2.heap.size + 1 ≤ (((w2.setCell ⟨tb, j, none⟩ (.pointer (some ⟨p, 0, none⟩))).alloc (.cells #[.slice none 0 0] 67)).setCell ⟨tb, 2 + j, none⟩ (.pointer (some ⟨q, 0, none⟩))).heap.size := by simp
  generalize (((w2.setCell ⟨tb, j, none⟩ (.pointer (some ⟨p, 0, none⟩))).alloc (.cells #[.slice none 0 0] 67)).setCell ⟨tb, 2 + j, none⟩ (.pointer (some ⟨q, 0, none⟩))) = w5 at *
  clear hg3 hg4 hs3
  have hk : Kp (fun k => k = tb) w w5 := (Kp.of hg).step hg5 (fun k hk => .inl (Option.some.inj hk).symm)
  have hno : ∀ a, a ≠ 5 → ∀ k, P a k → k ≠ tb := fun a ha k hk e => ha (h.dis a 5 k hk (by rw [e]; exact h.p5))
  have hlo := h.lo 5 tb h.p5
  have hWf := hW.fl
  have hW5 : Wh w5 p F (fun y => y ∈ ([] : List En)) 0 ([] : List En).length := (hW.congr (fun y => by simp)).kept ((Kp.refl (fun k => k = tb) w2).step hg5 (fun k hk => .inl (Option.some.inj hk).symm)) (fun k hk e => by have := hF k hk; omega)
  have hp : Pr w5 p q F (fun k => k = q) [] 0 := ⟨hW5, ⟨.slice none 0 0, hbq, ⟨rfl, .inl ⟨rfl, rfl⟩⟩, rfl, by simp [Value.ownBlock], fun k hk => by subst hk; omega, fun _ => rfl⟩, by simp, by simp, by simp, by simp, by simp⟩
  have h4 : ∀ {a}, a ≠ j → a ≠ 2 + j → upd (upd P j F) (2 + j) (fun k => k = q) a = P a := fun h1 h2 => by rw [upd_other _ _ h2, upd_other _ _ h1]
  have lem : ∀ a k, upd (upd P j F) (2 + j) (fun k => k = q) a k → (a = 2 + j ∧ k = q) ∨ (a = j ∧ F k) ∨ (a ≠ j ∧ a ≠ 2 + j ∧ P a k) := fun a k ha => by
    by_cases e1 : a = 2 + j
    · subst e1; rw [upd_same] at ha; exact .inl ⟨rfl, ha⟩
    · rw [upd_other _ _ e1] at ha
      by_cases e2 : a = j
      · subst e2; rw [upd_same] at ha; exact .inr (.inl ⟨rfl, ha⟩)
      · rw [upd_other _ _ e2] at ha; exact .inr (.inr ⟨e2, e1, ha⟩)
  have hB := h.hB
  refine ⟨hk.mono (fun k hk => .inl (by omega)), upd wb j p, upd rb j q, upd (upd P j F) (2 + j) (fun k => k = q), hbx, fun i hi => ?_, ?_, ?_, ?_, ?_, ?_, Nat.le_trans h.hB hk.size⟩
  · by_cases e : i = j
    · subst e
      rw [upd_same, upd_same, upd_same, upd_other _ _ (by omega), upd_same]
      exact hp
    · rw [upd_other wb _ e, upd_other rb _ e, h4 e (by omega), h4 (by omega) (by omega)]
      exact (h.pr i (by omega)).kept hk (hno i (by omega)) (hno (2 + i) (by omega))
  · obtain ⟨hv, wv, n, V, W, D, b⟩ := h.bk
    rw [h4 (by omega) (by omega)]
    exact ⟨hv, wv, n, V, W, D, b.kept hk (hno 4 (by omega))⟩
  · rw [h4 (by omega) (by omega)]; exact h.p5
  · intro a b k h1 h2
    rcases lem a k h1 with ⟨e1, g1⟩ | ⟨e1, g1⟩ | ⟨e1, e1', g1⟩ <;> rcases lem b k h2 with ⟨e2, g2⟩ | ⟨e2, g2⟩ | ⟨e2, e2', g2⟩
    · omega
    · have := hWf k g2; omega
    · have := h.fl b k g2; omega
    · have := hWf k g1; omega
    · omega
    · have := h.fl b k g2; have := hF k g1; omega
    · have := h.fl a k g1; omega
    · have := h.fl a k g1; have := hF k g2; omega
    · exact h.dis a b k g1 g2
  · intro a k ha
    rcases lem a k ha with ⟨e1, g1⟩ | ⟨e1, g1⟩ | ⟨e1, e1', g1⟩
    · omega
    · have := hWf k g1; omega
    · have := h.fl a k g1; omega
  · intro a k ha
    rcases lem a k ha with ⟨e1, g1⟩ | ⟨e1, g1⟩ | ⟨e1, e1', g1⟩
    · omega
    · have := hF k g1; omega
    · exact h.lo a k g1

theorem su_zero (w : World) : Su ((w.alloc (.cells (bkA nilS nilS nilS nilS 0) 57)).alloc (.cells (suA (fun _ => 0) (fun _ => 0) w.heap.size 0) 63)) w.heap.size (w.heap.size + 1) w.heap.size (fun _ => 0) (fun _ => 0) (fun a k => (a = 4 ∧ k = w.heap.size) ∨ (a = 5 ∧ k = w.heap.size + 1)) 0 := by
  have hb1 : Box (w.alloc (.cells (bkA nilS nilS nilS nilS 0) 57)) 57 w.heap.size (bkA nilS nilS nilS nilS 0) := heap_alloc_new w _
  have hb2 := hb1.kept (World.grownBy_alloc _ (.cells (suA (fun _ => 0) (fun _ => 0) w.heap.size 0) 63) none) (by simp)
  have hs : (w.alloc (.cells (bkA nilS nilS nilS nilS 0) 57)).heap.size = w.heap.size + 1 := by simp
  refine ⟨?_, fun j hj => by omega, ⟨nilS, nilS, 0, fun _ => nilS, fun _ => nilS, fun _ => [], hb2, ⟨rfl, .inl ⟨rfl, rfl⟩⟩, ⟨rfl, .inl ⟨rfl, rfl⟩⟩, by simp [nilS, Value.ownBlock], fun i hi => by omega, fun i hi => by omega, fun i j g hi => by omega, fun i j g hi => by omega, fun i hi => by omega, .inl ⟨rfl, rfl⟩, by simp [nilS, Value.ownBlock], by simp [nilS, Value.ownBlock], fun i g hi => by omega, fun i g hi => by omega, fun k hk => by simp; omega, by omega⟩, .inr ⟨rfl, rfl⟩, fun a b k h1 h2 => by omega, fun a k hk => by simp; omega, fun a k hk => by omega, by simp; omega⟩
  rw [← hs]
  exact heap_alloc_new _ _
end

end Go.Proofs.Ytagcmfaljfaikaa

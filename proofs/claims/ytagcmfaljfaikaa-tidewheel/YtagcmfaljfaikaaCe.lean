/-
  TideWheel: a step: Fresh; a step.
-/
import Derived.Test.YtagcmfaljfaikaaCd
import Derived.Test.YtagcmfaljfaikaaT
namespace Go.Proofs.Ytagcmfaljfaikaa
open Go.RowKit
set_option linter.unusedVariables false

def wsA (wb rb : Nat → Nat) (bb : Nat) : Array Value := #[.pointer (some ⟨wb 0, 0, none⟩), .pointer (some ⟨wb 1, 0, none⟩), .pointer (some ⟨rb 0, 0, none⟩), .pointer (some ⟨rb 1, 0, none⟩), .pointer (some ⟨bb, 0, none⟩)]
theorem wsA_set (wb rb : Nat → Nat) (bb j p q : Nat) (hj : j < 2) : ((wsA wb rb bb).setIfInBounds j (.pointer (some ⟨p, 0, none⟩))).setIfInBounds (2 + j) (.pointer (some ⟨q, 0, none⟩)) = wsA (upd wb j p) (upd rb j q) bb := by
  rcases (show j = 0 ∨ j = 1 by omega) with rfl | rfl <;> rfl
section
variable {w w2 w3 : World} {B tb bb : Nat} {wb rb : Nat → Nat} {P : Nat → Nat → Prop} {l : Nat → List En} {sets : Nat → Nat} {N K j : Nat}
theorem Ws.fresh (h : Ws w B tb bb wb rb P l sets N K) (hj : j < 2) {p q : Nat} {F : Nat → Prop} (hg : w.grownBy w2 none) (hF : ∀ k, F k → w.heap.size ≤ k) (hW : Wh w2 p F (fun _ => False) 0 0) (hq : q = w2.heap.size) :
    StPost B tb bb N K w (((w2.setCell ⟨tb, j, none⟩ (.pointer (some ⟨p, 0, none⟩))).alloc (.cells #[.slice none 0 0] 67)).setCell ⟨tb, 2 + j, none⟩ (.pointer (some ⟨q, 0, none⟩))) := by
  have hb2 := h.box.kept hg (by simp)
  have htl := h.fl 5 tb h.p5
  have hg3 : w2.grownBy (w2.setCell ⟨tb, j, none⟩ (.pointer (some ⟨p, 0, none⟩))) (some tb) := gb_setCell (gb_refl _ _) _
  have hg4 : w2.grownBy ((w2.setCell ⟨tb, j, none⟩ (.pointer (some ⟨p, 0, none⟩))).alloc (.cells #[.slice none 0 0] 67)) (some tb) := gb_alloc hg3 _
  have hg5 : w2.grownBy (((w2.setCell ⟨tb, j, none⟩ (.pointer (some ⟨p, 0, none⟩))).alloc (.cells #[.slice none 0 0] 67)).setCell ⟨tb, 2 + j, none⟩ (.pointer (some ⟨q, 0, none⟩))) (some tb) := gb_setCell hg4 _
  have hs2 := hg.size
  have hs3 : (w2.setCell ⟨tb, j, none⟩ (.pointer (some ⟨p, 0, none⟩))).heap.size = w2.heap.size := by simp
  have hbx : Box (((w2.setCell ⟨tb, j, none⟩ (.pointer (some ⟨p, 0, none⟩))).alloc (.cells #[.slice none 0 0] 67)).setCell ⟨tb, 2 + j, none⟩ (.pointer (some ⟨q, 0, none⟩))) 63 tb (wsA (upd wb j p) (upd rb j q) bb) := by
    rw [← wsA_set wb rb bb j p q hj]
    exact ((hb2.set j _).kept (World.grownBy_alloc _ _ none) (by simp)).set (2 + j) _
  have hbq : Box (((w2.setCell ⟨tb, j, none⟩ (.pointer (some ⟨p, 0, none⟩))).alloc (.cells #[.slice none 0 0] 67)).setCell ⟨tb, 2 + j, none⟩ (.pointer (some ⟨q, 0, none⟩))) 67 q #[.slice none 0 0] := by
    have h1 : Box ((w2.setCell ⟨tb, j, none⟩ (.pointer (some ⟨p, 0, none⟩))).alloc (.cells #[.slice none 0 0] 67)) 67 q #[.slice none 0 0] := by rw [hq, ← hs3]; exact heap_alloc_new _ _
    exact h1.kept (gb_setCell (gb_refl _ (some tb)) _) (by simp; omega)
  have hsz5 : w2.heap.size + 1 ≤ (((w2.setCell ⟨tb, j, none⟩ (.pointer (some ⟨p, 0, none⟩))).alloc (.cells #[.slice none 0 0] 67)).setCell ⟨tb, 2 + j, none⟩ (.pointer (some ⟨q, 0, none⟩))).heap.size := by simp
  generalize (((w2.setCell ⟨tb, j, none⟩ (.pointer (some ⟨p, 0, none⟩))).alloc (.cells #[.slice none 0 0] 67)).setCell ⟨tb, 2 + j, none⟩ (.pointer (some ⟨q, 0, none⟩))) = w5 at *
  clear hg3 hg4 hs3
  have hk : Kp (fun k => k = tb) w w5 := (Kp.of hg).step hg5 (fun k hk => .inl (Option.some.inj hk).symm)
  have hno : ∀ a, a ≠ 5 → ∀ k, P a k → k ≠ tb := fun a ha k hk e => ha (h.dis a 5 k hk (by rw [e]; exact h.p5))
  have hlo := h.lo 5 tb h.p5
  have hWf := hW.fl
  have hW5 : Wh w5 p F (fun y => y ∈ ([] : List En)) 0 ([] : List En).length := (hW.congr (fun y => by simp)).kept ((Kp.refl (fun k => k = tb) w2).step hg5 (fun k hk => .inl (Option.some.inj hk).symm)) (fun k hk e => by have := hF k hk; omega)
  have hp : Pr w5 p q F (fun k => k = q) [] 0 := ⟨hW5, ⟨.slice none 0 0, hbq, ⟨rfl, .inl ⟨rfl, rfl⟩⟩, rfl, by simp [Value.ownBlock], fun k hk => by subst hk; omega, fun _ => rfl⟩, by simp, by simp, by simp, by simp, by simp⟩
  have h4 : ∀ {a}, a ≠ j → a ≠ 2 + j → upd (upd P j F) (2 + j) (fun k => k = q) a = P a := fun h1 h2 => by rw [upd_other _ _ h2, upd_other _ _ h1]
  have lem : ∀ a k, upd (upd P j F) (2 + j) (fun k => k = q) a k → (a = 2 + j ∧ k = q) ∨ (a = j ∧ F k) ∨ (a ≠ j ∧ a ≠ 2 + j ∧ P a k) := fun a k ha => by
    by_cases e1 : a = 2 + j
    · subst e1; rw [upd_same] at ha; exact .inl ⟨rfl, ha⟩
    · rw [upd_other _ _ e1] at ha
      by_cases e2 : a = j
      · subst e2; rw [upd_same] at ha; exact .inr (.inl ⟨rfl, ha⟩)
      · rw [upd_other _ _ e2] at ha; exact .inr (.inr ⟨e2, e1, ha⟩)
  have hB := h.hB
  refine ⟨hk.mono (fun k hk => .inl (by omega)), upd wb j p, upd rb j q, upd (upd P j F) (2 + j) (fun k => k = q), upd l j [], upd sets j 0, K, by omega, hbx, fun i hi => ?_, ?_, ?_, ?_, ?_, ?_, fun i hi => ?_, by have := h.kn; omega, Nat.le_trans h.hB hk.size⟩
  · by_cases e : i = j
    · subst e
      rw [upd_same, upd_same, upd_same, upd_same, upd_same, upd_other _ _ (by omega), upd_same]
      exact hp
    · rw [upd_other wb _ e, upd_other rb _ e, upd_other l _ e, upd_other sets _ e, h4 e (by omega), h4 (by omega) (by omega)]
      exact (h.pr i hi).kept hk (hno i (by omega)) (hno (2 + i) (by omega))
  · obtain ⟨hv, wv, n, V, W, D, b⟩ := h.bk
    rw [h4 (by omega) (by omega)]
    exact ⟨hv, wv, n, V, W, D, b.kept hk (hno 4 (by omega))⟩
  · rw [h4 (by omega) (by omega)]; exact h.p5
  · intro a b k h1 h2
    rcases lem a k h1 with ⟨e1, g1⟩ | ⟨e1, g1⟩ | ⟨e1, e1', g1⟩ <;> rcases lem b k h2 with ⟨e2, g2⟩ | ⟨e2, g2⟩ | ⟨e2, e2', g2⟩
    · omega
    · have := hWf k g2; omega
    · have := h.fl b k g2; omega
    · have := hWf k g1; omega
    · omega
    · have := h.fl b k g2; have := hF k g1; omega
    · have := h.fl a k g1; omega
    · have := h.fl a k g1; have := hF k g2; omega
    · exact h.dis a b k g1 g2
  · intro a k ha
    rcases lem a k ha with ⟨e1, g1⟩ | ⟨e1, g1⟩ | ⟨e1, e1', g1⟩
    · omega
    · have := hWf k g1; omega
    · have := h.fl a k g1; omega
  · intro a k ha
    rcases lem a k ha with ⟨e1, g1⟩ | ⟨e1, g1⟩ | ⟨e1, e1', g1⟩
    · omega
    · have := hF k g1; omega
    · exact h.lo a k g1
  · by_cases e : i = j
    · subst e; rw [upd_same]; omega
    · rw [upd_other _ _ e]; have := h.big i hi; omega

set_option maxRecDepth 100000 in
set_option maxHeartbeats 8000000 in
theorem step_fresh (h : Ws w B tb bb wb rb P l sets N K) (hj : j < 2) {x1 x2 x3 x4 : Int} (hbit : bits BinOp.and .i64 x1 1 = (j : Int)) :
    Calls Try.prog 22 #[.pointer (some ⟨tb, 0, none⟩), opV 8 x1 x2 x3 x4] w fun y w' => y = .returned (.bool true) ∧ StPost B tb bb N K w w' := by
  have hg0 := World.grownBy_alloc w (.cells (opA 8 x1 x2 x3 x4) 40) none
  have hA := h.kept0 hg0
  have hcw : (w.alloc (.cells (opA 8 x1 x2 x3 x4) 40)).cell? ⟨tb, j, none⟩ = some (.pointer (some ⟨wb j, 0, none⟩)) := by
    rw [hA.box.cell j]; rcases (show j = 0 ∨ j = 1 by omega) with rfl | rfl <;> rfl
  have hcr : (w.alloc (.cells (opA 8 x1 x2 x3 x4) 40)).cell? ⟨tb, 2 + j, none⟩ = some (.pointer (some ⟨rb j, 0, none⟩)) := by
    rw [hA.box.cell (2 + j)]; rcases (show j = 0 ∨ j = 1 by omega) with rfl | rfl <;> rfl
  have h21 := fun X => new_21 X
  have hjb : (j : Int) < 2 := by omega
  have HA : Hid (Ws (w.alloc (.cells (opA 8 x1 x2 x3 x4) 40)) B tb bb wb rb P l sets N K) := hA
  have HG : Hid (w.grownBy (w.alloc (.cells (opA 8 x1 x2 x3 x4) 40)) none) := hg0
  clear hA h hg0
  unfold opV
  go_enter Try.func22, Try.ntmps22
  unfold opA at *
  go_wp2
  generalize hX : w.alloc (.cells #[.int .i64 8, .int .i64 x1, .int .i64 x2, .int .i64 x3, .int .u64 x4] 40) = X at *
  clear hX
  go_region_law ((go_simp; go_at_call 21; refine (h21 _).mono ?_; rintro y w2 ⟨p, F, rfl, hg2', hF2', hW2⟩; have hg2 : X.grownBy w2 none := gb_trans (by first | exact gb_refl _ _ | exact gb_drew (gb_refl _ _)) hg2'; have hF2 : (∀ k, F k → X.heap.size ≤ k) := (fun k hk => hF2' k hk); have b2 := HA.out.box.kept hg2 (by simp); have k2 : w2.cell? ⟨tb, j, none⟩ = some (.pointer (some ⟨wb j, 0, none⟩)) := gb_cellN hg2 hcw; have f2 := b2.fz j))
  all_goals
    have b3 := (b2.set j (.pointer (some ⟨p, 0, none⟩))).kept (World.grownBy_alloc _ (.cells #[.slice none 0 0] 67) none) (by simp)
    have k3 : ((w2.setCell ⟨tb, j, none⟩ (.pointer (some ⟨p, 0, none⟩))).alloc (.cells #[.slice none 0 0] 67)).cell? ⟨tb, 2 + j, none⟩ = some (.pointer (some ⟨rb j, 0, none⟩)) := by
      rw [b3.cell (2 + j)]; rcases (show j = 0 ∨ j = 1 by omega) with rfl | rfl <;> rfl
    have f3 := b3.fz (2 + j)
    have b5 := b3.set (2 + j) (.pointer (some ⟨w2.heap.size, 0, none⟩))
    have k5 : (((w2.setCell ⟨tb, j, none⟩ (.pointer (some ⟨p, 0, none⟩))).alloc (.cells #[.slice none 0 0] 67)).setCell ⟨tb, 2 + j, none⟩ (.pointer (some ⟨w2.heap.size, 0, none⟩))).cell? ⟨tb, j, none⟩ = some (.pointer (some ⟨p, 0, none⟩)) := by
      rw [b5.cell j]; rcases (show j = 0 ∨ j = 1 by omega) with rfl | rfl <;> rfl
    have hfin := HA.out.fresh hj hg2 hF2 hW2 (q := w2.heap.size) rfl
    have HP : Hid _ := And.intro ((Kp.of HG.out : Kp (fun k => B ≤ k) w X).trans hfin.1 (fun _ h => h) (fun _ h => .inl h)) hfin.2
    clear hfin b5 b3 b2 hg2' hF2' hW2 hg2 hF2 k2 f2 hcw hcr HA HG h21
    go_wp2
    go_ret
    exact ⟨rfl, HP.out⟩
end

theorem bit_two (x : Int) : ∃ j : Nat, j < 2 ∧ bits BinOp.and .i64 x 1 = (j : Int) := ⟨(x % 2).toNat, by omega, by rw [i64_and1]; omega⟩

theorem step_22 {w : World} {B tb bb : Nat} {wb rb : Nat → Nat} {P : Nat → Nat → Prop} {l : Nat → List En} {sets : Nat → Nat} {N K : Nat} (h : Ws w B tb bb wb rb P l sets N K) {x0 x1 x2 x3 x4 : Int} (hN : N < 1000) (hx2 : isI x2) (hx3 : isI x3) (hx4 : isH x4) :
    Calls Try.prog 22 #[.pointer (some ⟨tb, 0, none⟩), opV x0 x1 x2 x3 x4] w fun y w' => y = .returned (.bool true) ∧ StPost B tb bb N K w w' := by
  obtain ⟨j, hj, hbit⟩ := bit_two x1
  by_cases h4 : x0 = 4
  · subst h4; exact step_set h hj hbit hN hx4
  by_cases h5 : x0 = 5
  · subst h5; exact step_take h hj hbit hN hx4
  by_cases h6 : x0 = 6
  · subst h6; exact step_first h hj hbit hN
  by_cases h7 : x0 = 7
  · subst h7; exact step_due h hj hbit hN hx2 hx3
  by_cases h8 : x0 = 8
  · subst h8; exact step_fresh h hj hbit
  exact step_none h hj hbit h4 h5 h6 h7 h8

end Go.Proofs.Ytagcmfaljfaikaa

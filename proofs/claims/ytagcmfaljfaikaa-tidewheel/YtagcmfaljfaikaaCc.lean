/-
  TideWheel: a step: Take, First, and what is none of them.
-/
import Derived.Test.YtagcmfaljfaikaaCb
namespace Go.Proofs.Ytagcmfaljfaikaa
open Go.RowKit
set_option linter.unusedVariables false

theorem anyH_iff {x : Int} {l : List En} : anyH x l = true ↔ ∃ e, e ∈ l ∧ e.h = x := by unfold anyH; simp
section
variable {w A w2 w3 : World} {B tb bb : Nat} {wb rb : Nat → Nat} {P : Nat → Nat → Prop} {l : Nat → List En} {sets : Nat → Nat} {N K j : Nat}
theorem take_33 {b : Nat} {F : Nat → Prop} {q : List En} {s : Nat} (h : Wh w b F (fun y => y ∈ q) s q.length) (hn : q.length < 900000) (hH : ∀ y, y ∈ q → isH y.h) {x : Int} (hx : isH x) :
    Calls Try.prog 33 #[.pointer (some ⟨b, 0, none⟩), .int .u64 x] w fun y w' => y = .returned (.bool (anyH x q)) ∧ Kp F w w' ∧ ∃ n0, Wh w' b F (fun y => y ∈ q ∧ y.h ≠ x) s n0 := by
  by_cases he : anyH x q = true
  · rw [he]
    obtain ⟨e, h1, rfl⟩ := anyH_iff.1 he
    obtain ⟨m, hm⟩ : ∃ m, q.length = m + 1 := ⟨q.length - 1, by have := List.length_pos_of_mem h1; omega⟩
    rw [hm] at h
    exact (take_yes h (by omega) hH h1).mono (fun y w' ⟨a1, a2, a3⟩ => ⟨a1, a2, m, a3⟩)
  · have hno : ∀ y, y ∈ q → y.h ≠ x := fun y hy e => he (anyH_iff.2 ⟨y, hy, e⟩)
    rw [show anyH x q = false by simpa using he]
    exact (take_no h hx hno).mono (fun y w' ⟨a1, a2⟩ => by subst a2; exact ⟨a1, Kp.refl _ _, _, h.congr (fun y => ⟨fun e => ⟨e, hno y e⟩, fun e => e.1⟩)⟩)

set_option maxRecDepth 100000 in
set_option maxHeartbeats 8000000 in
theorem step_take (h : Ws w B tb bb wb rb P l sets N K) (hj : j < 2) {x1 x2 x3 x4 : Int} (hbit : bits BinOp.and .i64 x1 1 = (j : Int)) (hN : N < 1000) (hx4 : isH x4) :
    Calls Try.prog 22 #[.pointer (some ⟨tb, 0, none⟩), opV 5 x1 x2 x3 x4] w fun y w' => y = .returned (.bool true) ∧ StPost B tb bb N K w w' := by
  have hg0 := World.grownBy_alloc w (.cells (opA 5 x1 x2 x3 x4) 40) none
  have hA := h.kept0 hg0
  have hbo : Box (w.alloc (.cells (opA 5 x1 x2 x3 x4) 40)) 40 w.heap.size (opA 5 x1 x2 x3 x4) := heap_alloc_new w _
  have hp := hA.pr j hj
  obtain ⟨lv0, hR0⟩ := hp.rw_
  have hbig := hA.big j hj
  have hlen := hp.len
  have hcw : (w.alloc (.cells (opA 5 x1 x2 x3 x4) 40)).cell? ⟨tb, j, none⟩ = some (.pointer (some ⟨wb j, 0, none⟩)) := by
    rw [hA.box.cell j]; rcases (show j = 0 ∨ j = 1 by omega) with rfl | rfl <;> rfl
  have hcr : (w.alloc (.cells (opA 5 x1 x2 x3 x4) 40)).cell? ⟨tb, 2 + j, none⟩ = some (.pointer (some ⟨rb j, 0, none⟩)) := by
    rw [hA.box.cell (2 + j)]; rcases (show j = 0 ∨ j = 1 by omega) with rfl | rfl <;> rfl
  have hno : ∀ k, P j k → k ≠ w.heap.size := fun k hk e => by have := h.fl j k hk; omega
  have h33 := take_33 hp.wh (by omega) hp.hh hx4
  have hkl := keepH_len x4 (l j)
  have HX : Hid (∀ w2 w3, (Kp (P j) (w.alloc (.cells (opA 5 x1 x2 x3 x4) 40)) w2) → (∃ n0, Wh w2 (wb j) (P j) (fun y => y ∈ l j ∧ y.h ≠ x4) (sets j) n0) → RsPost w2 (rb j) (keepH x4 (l j)) w3 → StPost B tb bb N K w w3) := fun w2 w3 hk ⟨n0, hW⟩ hr => by
    obtain ⟨r1, r2⟩ := hA.set_post hj hk (fun k hk => .inl hk) hW hr (fun y => by rw [keepH_mem]) (keepH_srt hp.srt) (keepH_one hp.one) (fun y hy => hp.hh y (keepH_mem.1 hy).1) (fun y hy => hp.tl y (keepH_mem.1 hy).1) (by omega) (by omega)
    exact ⟨(Kp.of hg0 : Kp (fun k => B ≤ k) w _).trans r1 (fun _ h => h) (fun _ h => .inl h), r2⟩
  have HR : Hid (∀ w2, Kp (P j) (w.alloc (.cells (opA 5 x1 x2 x3 x4) 40)) w2 → Box w2 40 w.heap.size (opA 5 x1 x2 x3 x4) ∧ Rw w2 (rb j) (P (2 + j)) lv0 (l j)) := fun w2 hk => ⟨hk.box hbo (fun e => hno _ e rfl), hR0.kept hk (fun k h1 h2 => by have := h.dis _ _ _ h1 h2; omega)⟩
  have h43 := fun w2 (hR : Rw w2 (rb j) (P (2 + j)) lv0 (l j)) => rtake_43 hR (show (l j).length < 1000000 by omega) x4
  generalize anyH x4 (l j) = an at *
  clear hR0 hp hA hbo h hno hlen hbig hg0 hkl
  unfold opV opA at *
  go_enter Try.func22, Try.ntmps22
  go_wp2_with (go_at_call 33; go_must (refine h33.mono ?_))
  rintro y w2 ⟨rfl, hk2, hW2⟩
  obtain ⟨hb2, hR2⟩ := HR.out w2 hk2
  have o4 : w2.cell? ⟨w.heap.size, 4, none⟩ = some (.int .u64 x4) := hb2.cell 4
  have h44 := h43 w2 hR2
  clear hb2 hR2 h43 h33 hcw hcr
  go_wp2_with (go_at_call 43; go_must (refine h44.mono ?_))
  rintro y w3 ⟨rfl, hr3⟩
  have HP : Hid _ := HX.out w2 w3 hk2 hW2 hr3
  clear HX HR h44 hk2 hW2 hr3 o4
  go_wp2
  go_ret
  exact ⟨rfl, HP.out⟩

theorem Ws.stay (h : Ws w B tb bb wb rb P l sets N K) (hf : w.grownBy w2 none) : StPost B tb bb N K w w2 := ⟨Kp.of hf, wb, rb, P, l, sets, K, by omega, (h.kept0 hf).more (by omega)⟩

theorem ah_same {q : List En} (hs : q.Pairwise (fun a b => a.t < b.t)) {a b : En} (ha : a ∈ q) (hb : b ∈ q) (h1 : ∀ y, y ∈ q → ¬ ah y a) (h2 : ∀ y, y ∈ q → ¬ ah y b) : a = b := by
  have e1 := h1 b hb
  have e2 := h2 a ha
  unfold ah at e1 e2
  have e3 : a.t = b.t := by omega
  obtain ⟨i, hi, rfl⟩ := mem_gt ha
  obtain ⟨k, hk, rfl⟩ := mem_gt hb
  rcases Nat.lt_trichotomy i k with h3 | h3 | h3
  · have := gt_turn hs h3 hk; omega
  · rw [h3]
  · have := gt_turn hs h3 hi; omega

set_option maxRecDepth 100000 in
set_option maxHeartbeats 8000000 in
theorem step_first (h : Ws w B tb bb wb rb P l sets N K) (hj : j < 2) {x1 x2 x3 x4 : Int} (hbit : bits BinOp.and .i64 x1 1 = (j : Int)) (hN : N < 1000) :
    Calls Try.prog 22 #[.pointer (some ⟨tb, 0, none⟩), opV 6 x1 x2 x3 x4] w fun y w' => y = .returned (.bool true) ∧ StPost B tb bb N K w w' := by
  have hg0 := World.grownBy_alloc w (.cells (opA 6 x1 x2 x3 x4) 40) none
  have hA := h.kept0 hg0
  have hp := hA.pr j hj
  obtain ⟨lv0, hR0⟩ := hp.rw_
  have hbig := hA.big j hj
  have hlen := hp.len
  have hcw : (w.alloc (.cells (opA 6 x1 x2 x3 x4) 40)).cell? ⟨tb, j, none⟩ = some (.pointer (some ⟨wb j, 0, none⟩)) := by
    rw [hA.box.cell j]; rcases (show j = 0 ∨ j = 1 by omega) with rfl | rfl <;> rfl
  have hcr : (w.alloc (.cells (opA 6 x1 x2 x3 x4) 40)).cell? ⟨tb, 2 + j, none⟩ = some (.pointer (some ⟨rb j, 0, none⟩)) := by
    rw [hA.box.cell (2 + j)]; rcases (show j = 0 ∨ j = 1 by omega) with rfl | rfl <;> rfl
  have HX : Hid (∀ w3, (w.alloc (.cells (opA 6 x1 x2 x3 x4) 40)).grownBy w3 none → StPost B tb bb N K w w3) := fun w3 hg => h.stay (gb_trans hg0 hg)
  have H : ∃ eh ex eb, (Calls Try.prog 32 #[.pointer (some ⟨wb j, 0, none⟩)] (w.alloc (.cells (opA 6 x1 x2 x3 x4) 40)) fun y w' => y = .returned (.tuple #[.int .u64 eh, .int .i64 ex, .bool eb]) ∧ (w.alloc (.cells (opA 6 x1 x2 x3 x4) 40)).grownBy w' none) ∧ ∀ w2, (w.alloc (.cells (opA 6 x1 x2 x3 x4) 40)).grownBy w2 none → Calls Try.prog 44 #[.pointer (some ⟨rb j, 0, none⟩)] w2 fun y w' => y = .returned (.tuple #[.int .u64 eh, .int .i64 ex, .bool eb]) ∧ w2.grownBy w' none := by
    by_cases h0 : l j = []
    · have hw := hp.wh
      rw [h0] at hw hR0
      exact ⟨0, 0, false, (first_no hw).mono (fun y w' ⟨a1, a2⟩ => by subst a2; exact ⟨a1, gb_refl _ _⟩), fun w2 hg => (rfirst_no (hR0.kept0 hg)).mono (fun y w' ⟨a1, a2⟩ => by subst a2; exact ⟨a1, gb_refl _ _⟩)⟩
    · have hl0 : 0 < (l j).length := List.length_pos_iff.2 h0
      obtain ⟨e, he, hmin, h32⟩ := first_yes hp.wh (by omega) hl0
      refine ⟨e.h, e.x, true, h32, fun w2 hg => ?_⟩
      obtain ⟨e', he', hmin', h44⟩ := rfirst_44 (hR0.kept0 hg) (by omega) hl0 hp.srt
      obtain rfl := ah_same hp.srt he he' hmin hmin'
      exact h44
  obtain ⟨eh, ex, eb, h32, h44⟩ := H
  clear hR0 hp hA h hlen hbig hg0
  unfold opV opA at *
  go_enter Try.func22, Try.ntmps22
  go_wp2_with (go_at_call 32; go_must (refine h32.mono ?_))
  rintro y w2 ⟨rfl, hg2⟩
  have h45 := h44 w2 hg2
  clear h32 h44 hcw hcr
  go_wp2_with (go_at_call 44; go_must (refine h45.mono ?_))
  rintro y w3 ⟨rfl, hg3⟩
  have HP : Hid _ := HX.out w3 (gb_trans hg2 hg3)
  clear HX h45 hg2 hg3
  go_wp2
  go_ret
  exact ⟨by simp, HP.out⟩

set_option maxRecDepth 100000 in
set_option maxHeartbeats 8000000 in
theorem step_none (h : Ws w B tb bb wb rb P l sets N K) (hj : j < 2) {x0 x1 x2 x3 x4 : Int} (hbit : bits BinOp.and .i64 x1 1 = (j : Int)) (h4 : x0 ≠ 4) (h5 : x0 ≠ 5) (h6 : x0 ≠ 6) (h7 : x0 ≠ 7) (h8 : x0 ≠ 8) :
    Calls Try.prog 22 #[.pointer (some ⟨tb, 0, none⟩), opV x0 x1 x2 x3 x4] w fun y w' => y = .returned (.bool true) ∧ StPost B tb bb N K w w' := by
  have hg0 := World.grownBy_alloc w (.cells (opA x0 x1 x2 x3 x4) 40) none
  have hA := h.kept0 hg0
  have hcw : (w.alloc (.cells (opA x0 x1 x2 x3 x4) 40)).cell? ⟨tb, j, none⟩ = some (.pointer (some ⟨wb j, 0, none⟩)) := by
    rw [hA.box.cell j]; rcases (show j = 0 ∨ j = 1 by omega) with rfl | rfl <;> rfl
  have hcr : (w.alloc (.cells (opA x0 x1 x2 x3 x4) 40)).cell? ⟨tb, 2 + j, none⟩ = some (.pointer (some ⟨rb j, 0, none⟩)) := by
    rw [hA.box.cell (2 + j)]; rcases (show j = 0 ∨ j = 1 by omega) with rfl | rfl <;> rfl
  have HP : Hid _ := h.stay hg0
  clear hA h hg0
  unfold opV opA at *
  go_enter Try.func22, Try.ntmps22
  go_wp2
  go_ret
  exact ⟨rfl, HP.out⟩
end

end Go.Proofs.Ytagcmfaljfaikaa

/-
  TideWheel: a step: Set, Take, First.
-/
import Derived.Test.YtagcmfaljfaikaaCa
namespace Go.Proofs.Ytagcmfaljfaikaa
open Go.RowKit
set_option linter.unusedVariables false

def opA (x0 x1 x2 x3 x4 : Int) : Array Value := #[.int .i64 x0, .int .i64 x1, .int .i64 x2, .int .i64 x3, .int .u64 x4]
def opV (x0 x1 x2 x3 x4 : Int) : Value := .agg (opA x0 x1 x2 x3 x4)

section
variable {w A w2 w3 : World} {B tb bb : Nat} {wb rb : Nat → Nat} {P : Nat → Nat → Prop} {l : Nat → List En} {sets : Nat → Nat} {N K j : Nat}
/-- What a step leaves. -/
def StPost (B tb bb N K : Nat) (w w' : World) : Prop :=
  Kp (fun k => B ≤ k) w w' ∧ ∃ wb rb P l sets K', K' ≤ K + 2 ∧ Ws w' B tb bb wb rb P l sets (N + 1) K'

theorem Ws.set_post (h : Ws A B tb bb wb rb P l sets N K) (hj : j < 2) {F' : Nat → Prop} {S' : En → Prop} {s' n0 : Nat} {l' : List En} (hk2 : Kp (P j) A w2) (hF : ∀ k, F' k → P j k ∨ A.heap.size ≤ k) (hw2 : Wh w2 (wb j) F' S' s' n0) (hr3 : RsPost w2 (rb j) l' w3) (hS : ∀ y, S' y ↔ y ∈ l')
    (srt : l'.Pairwise (fun a b => a.t < b.t)) (one : ∀ x y, x ∈ l' → y ∈ l' → x.h = y.h → x = y) (hh : ∀ y, y ∈ l' → isH y.h) (tl : ∀ y, y ∈ l' → y.t ≤ s') (len : l'.length ≤ s') (hs : s' ≤ N + 1) : StPost B tb bb N K A w3 := by
  obtain ⟨hk3, lv', G', hG, hR⟩ := hr3
  obtain ⟨lv0, hR0⟩ := (h.pr j hj).rw_
  have hrb : P (2 + j) (rb j) := hR0.gb
  have hrbl := h.fl _ _ hrb
  have hs2 := hk2.size
  have hFr : ∀ k, F' k → k ≠ rb j := fun k hk e => by
    subst e
    rcases hF _ hk with h1 | h1
    · have := h.dis _ _ _ h1 hrb; omega
    · omega
  have hw3 := (hw2.congr hS).kept hk3 hFr
  have hn := hw3.count srt
  subst hn
  have hp : Pr w3 (wb j) (rb j) F' G' l' s' := ⟨hw3, ⟨lv', hR⟩, srt, one, hh, tl, len⟩
  have hk : Kp (fun k => P j k ∨ P (2 + j) k) A w3 := hk2.trans hk3 (fun k hk => .inl hk) (fun k hk => .inl (.inr (by rw [hk]; exact hrb)))
  refine ⟨hk.mono (fun k hk => .inl (hk.elim (h.lo _ _) (h.lo _ _))), wb, rb, _, _, _, K, by omega, h.turn hj hk hF (fun k hk => ?_) (fun k h1 h2 => ?_) hp hs⟩
  · rcases hG k hk with h1 | h1
    · exact .inl (by rw [h1]; exact hrb)
    · exact .inr (by omega)
  · rcases hG k h2 with h3 | h3
    · exact hFr k h1 h3
    · have := hw2.fl k h1; omega

theorem keepH_one {l : List En} {x : Int} (h : ∀ a b, a ∈ l → b ∈ l → a.h = b.h → a = b) : ∀ a b, a ∈ keepH x l → b ∈ keepH x l → a.h = b.h → a = b := fun a b ha hb => h a b (keepH_mem.1 ha).1 (keepH_mem.1 hb).1

theorem add_srt {l : List En} {e : En} (h : l.Pairwise (fun a b => a.t < b.t)) (he : ∀ y, y ∈ l → y.t < e.t) : (l ++ [e]).Pairwise (fun a b => a.t < b.t) := by
  rw [List.pairwise_append]
  exact ⟨h, by simp, fun a ha b hb => by simp at hb; subst hb; exact he a ha⟩

set_option maxRecDepth 100000 in
set_option maxHeartbeats 8000000 in
theorem step_set (h : Ws w B tb bb wb rb P l sets N K) (hj : j < 2) {x1 x2 x3 x4 : Int} (hbit : bits BinOp.and .i64 x1 1 = (j : Int)) (hN : N < 1000) (hx4 : isH x4) :
    Calls Try.prog 22 #[.pointer (some ⟨tb, 0, none⟩), opV 4 x1 x2 x3 x4] w fun y w' => y = .returned (.bool true) ∧ StPost B tb bb N K w w' := by
  have hg0 := World.grownBy_alloc w (.cells (opA 4 x1 x2 x3 x4) 40) none
  have hA := h.kept0 hg0
  have hbo : Box (w.alloc (.cells (opA 4 x1 x2 x3 x4) 40)) 40 w.heap.size (opA 4 x1 x2 x3 x4) := heap_alloc_new w _
  have hp := hA.pr j hj
  obtain ⟨lv0, hR0⟩ := hp.rw_
  have hbig := hA.big j hj
  have hlen := hp.len
  have hcw : (w.alloc (.cells (opA 4 x1 x2 x3 x4) 40)).cell? ⟨tb, j, none⟩ = some (.pointer (some ⟨wb j, 0, none⟩)) := by
    rw [hA.box.cell j]; rcases (show j = 0 ∨ j = 1 by omega) with rfl | rfl <;> rfl
  have hcr : (w.alloc (.cells (opA 4 x1 x2 x3 x4) 40)).cell? ⟨tb, 2 + j, none⟩ = some (.pointer (some ⟨rb j, 0, none⟩)) := by
    rw [hA.box.cell (2 + j)]; rcases (show j = 0 ∨ j = 1 by omega) with rfl | rfl <;> rfl
  have hno : ∀ k, P j k → k ≠ w.heap.size := fun k hk e => by have := h.fl j k hk; omega
  have H : ∃ (S' : En → Prop) (s' : Nat) (l' : List En), (∀ y, S' y ↔ y ∈ l') ∧ l'.Pairwise (fun a b => a.t < b.t) ∧ (∀ x y, x ∈ l' → y ∈ l' → x.h = y.h → x = y) ∧ (∀ y, y ∈ l' → isH y.h) ∧ (∀ y, y ∈ l' → y.t ≤ (s' : Int)) ∧ l'.length ≤ s' ∧ s' ≤ N + 1 ∧
      (Calls Try.prog 30 #[.pointer (some ⟨wb j, 0, none⟩), .int .u64 x4, .int .i64 x3] (w.alloc (.cells (opA 4 x1 x2 x3 x4) 40)) fun y w' => y = .returned (.tuple #[]) ∧ Kp (P j) (w.alloc (.cells (opA 4 x1 x2 x3 x4) 40)) w' ∧ ∃ F' n0, (∀ k, F' k → P j k ∨ (w.alloc (.cells (opA 4 x1 x2 x3 x4) 40)).heap.size ≤ k) ∧ Wh w' (wb j) F' S' s' n0) ∧
      ∀ w2, Rw w2 (rb j) (P (2 + j)) lv0 (l j) → Calls Try.prog 42 #[.pointer (some ⟨rb j, 0, none⟩), .int .u64 x4, .int .i64 x3] w2 fun y w' => y = .returned (.tuple #[]) ∧ RsPost w2 (rb j) l' w' := by
    by_cases he : 0 < x3
    · obtain ⟨n0, hn0, h30⟩ := set_30_high hp.wh (by omega) (by omega) hp.hh hx4 (show ¬ x3 < 1 by omega)
      have hkl := keepH_len x4 (l j)
      refine ⟨_, sets j + 1, keepH x4 (l j) ++ [⟨x4, x3, (sets j + 1 : Nat)⟩], fun y => by rw [List.mem_append, keepH_mem, List.mem_singleton], add_srt (keepH_srt hp.srt) (fun y hy => by have := hp.tl y (keepH_mem.1 hy).1; simp; omega), ?_, ?_, ?_, by simp; omega, by omega, h30.mono (fun y w' hh => ?_), fun w2 hR => rset_high hR (by omega) x4 x3 _ he⟩
      · intro a b ha hb e
        simp at ha hb
        rcases ha with ha | rfl <;> rcases hb with hb | rfl
        · exact keepH_one hp.one a b ha hb e
        · exact absurd e (keepH_mem.1 ha).2
        · exact absurd e.symm (keepH_mem.1 hb).2
        · rfl
      · intro y hy
        simp at hy
        rcases hy with hy | rfl
        · exact hp.hh y (keepH_mem.1 hy).1
        · exact hx4
      · intro y hy
        simp at hy
        rcases hy with hy | rfl
        · have := hp.tl y (keepH_mem.1 hy).1; omega
        · simp
      · obtain ⟨e1, e2, F', e3, e4⟩ := hh; exact ⟨e1, e2, F', _, e3, e4⟩
    · obtain ⟨n0, hn0, h30⟩ := set_30_low hp.wh (by omega) hp.hh hx4 (show x3 < 1 by omega)
      have hkl := keepH_len x4 (l j)
      exact ⟨_, sets j, keepH x4 (l j), fun y => by rw [keepH_mem], keepH_srt hp.srt, keepH_one hp.one, fun y hy => hp.hh y (keepH_mem.1 hy).1, fun y hy => hp.tl y (keepH_mem.1 hy).1, by omega, by omega, h30.mono (fun y w' hh => ⟨hh.1, hh.2.1, P j, n0, fun k hk => .inl hk, hh.2.2⟩), fun w2 hR => rset_low hR (by omega) x4 x3 he⟩
  obtain ⟨S', s', l', q1, q2, q3, q4, q5, q6, q7, h30, h42⟩ := H
  have HX : Hid (∀ w2 w3, (Kp (P j) (w.alloc (.cells (opA 4 x1 x2 x3 x4) 40)) w2) → (∃ F' n0, (∀ k, F' k → P j k ∨ (w.alloc (.cells (opA 4 x1 x2 x3 x4) 40)).heap.size ≤ k) ∧ Wh w2 (wb j) F' S' s' n0) → RsPost w2 (rb j) l' w3 → StPost B tb bb N K w w3) := fun w2 w3 hk ⟨F', n0, hF, hW⟩ hr => by
    obtain ⟨r1, r2⟩ := hA.set_post hj hk hF hW hr q1 q2 q3 q4 q5 q6 q7
    exact ⟨(Kp.of hg0 : Kp (fun k => B ≤ k) w _).trans r1 (fun _ h => h) (fun _ h => .inl h), r2⟩
  have HR : Hid (∀ w2, Kp (P j) (w.alloc (.cells (opA 4 x1 x2 x3 x4) 40)) w2 → Box w2 40 w.heap.size (opA 4 x1 x2 x3 x4) ∧ Rw w2 (rb j) (P (2 + j)) lv0 (l j)) := fun w2 hk => ⟨hk.box hbo (fun e => hno _ e rfl), hR0.kept hk (fun k h1 h2 => by have := h.dis _ _ _ h1 h2; omega)⟩
  clear q1 q2 q3 q4 q5 q6 q7 hR0 hp hA hbo h hno hlen hbig hg0
  unfold opV opA at *
  go_enter Try.func22, Try.ntmps22
  go_wp2_with (go_at_call 30; go_must (refine h30.mono ?_))
  rintro y w2 ⟨rfl, hk2, hW2⟩
  obtain ⟨hb2, hR2⟩ := HR.out w2 hk2
  have o3 : w2.cell? ⟨w.heap.size, 3, none⟩ = some (.int .i64 x3) := hb2.cell 3
  have o4 : w2.cell? ⟨w.heap.size, 4, none⟩ = some (.int .u64 x4) := hb2.cell 4
  have h43 := h42 w2 hR2
  clear hb2 hR2 h42 h30 hcw hcr
  go_wp2_with (go_at_call 42; go_must (refine h43.mono ?_))
  rintro y w3 ⟨rfl, hr3⟩
  have HP : Hid _ := HX.out w2 w3 hk2 hW2 hr3
  clear HX HR h43 hk2 hW2 hr3 o3 o4
  go_wp2
  go_ret
  exact ⟨rfl, HP.out⟩
end

end Go.Proofs.Ytagcmfaljfaikaa

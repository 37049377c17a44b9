/-
  wakes.
-/
import Derived.Test.YtagcmfaljfaikaaP
namespace Go.Proofs.Ytagcmfaljfaikaa
open Go.RowKit
set_option linter.unusedVariables false

theorem set_30_new {w : World} {wb : Nat} {F : Nat → Prop} {S : En → Prop} {sets n : Nat} (h : Wh w wb F S sets n) (hn : n < 800000) (hs : sets < 800000) (hH : ∀ y, S y → isH y.h) {x e : Int} (hx : isH x) (h1 : ¬ e < 1) (hne : ∀ y, S y → y.h ≠ x) :
    Calls Try.prog 30 #[.pointer (some ⟨wb, 0, none⟩), .int .u64 x, .int .i64 e] w fun y w' => y = .returned (.tuple #[]) ∧ Kp F w w' ∧
      ∃ F', (∀ k, F' k → F k ∨ w.heap.size ≤ k) ∧ Wh w' wb F' (fun y => S y ∨ y = ⟨x, e, (sets + 1 : Nat)⟩) (sets + 1) (n + 1) := by
  obtain ⟨b0, n0, h2, h3, h4⟩ := rem_58 h (by omega) hH hx
  have hb : b0 = false := by
    cases b0 with
    | false => rfl
    | true => obtain ⟨y, hy, e'⟩ := h2.1 rfl; exact absurd e' (hne y hy)
  subst hb
  simp at h3
  subst h3
  refine (set_high h1 (by omega) (by omega) hx (fun y hy => hH y hy.1) (fun y hy => hy.2) h4).mono ?_
  rintro y w' ⟨rfl, hk, F', hF, hw⟩
  exact ⟨rfl, hk, F', hF, hw.congr (fun y => ⟨fun h => h.imp (fun h => h.1) id, fun h => h.imp (fun h => ⟨h, hne y h⟩) id⟩)⟩

def en1 : En := ⟨9, 4, 1⟩
def en2 : En := ⟨5, 4, 2⟩

set_option maxRecDepth 100000 in
set_option maxHeartbeats 8000000 in
theorem wakes_13 (w : World) : Calls Try.prog 13 #[] w fun y w' => y = .returned (.bool true) ∧ w.grownBy w' none := by
  have c25 := new_25 1 0 0 (by unfold badNew; omega) w
  have c9 := fun W => expiry_9 100 60 (by unfold isI; omega) (by unfold isI; omega) W
  rw [show expiry 100 60 = 160 from by decide] at c9
  have c11 := fun W => dead_11 160 1 160 0 W
  rw [show decide ((1 ≤ (160 : Int) ∧ (160 : Int) ≤ 160) ∨ (1 : Int) ≤ 0) = true from by decide] at c11
  have d11 := fun W => dead_11 160 1 159 0 W
  rw [show decide ((1 ≤ (160 : Int) ∧ (160 : Int) ≤ 159) ∨ (1 : Int) ≤ 0) = false from by decide] at d11
  have hB : Box (w.alloc (.cells (ckA ⟨1, 0, 0⟩) 102)) 102 w.heap.size (ckA ⟨1, 0, 0⟩) := Box.new _ _ _
  have hal := World.grownBy_alloc w (.cells (ckA ⟨1, 0, 0⟩) 102) none
  have hok : CkOk ⟨1, 0, 0⟩ := CkOk.new (by unfold badNew; omega) (by unfold isI; omega)
  have c18 := flush_18 hB hok 2 0 (by unfold isI; omega)
  rw [show Ck.flush ⟨1, 0, 0⟩ 2 0 = ⟨1, 0, 3⟩ from rfl] at c18
  have hok2 : CkOk ⟨1, 0, 3⟩ := CkOk.new (by unfold badNew; omega) (by unfold isI; omega)
  have c15 := fun W (hb : Box W 102 w.heap.size (ckA ⟨1, 0, 3⟩)) => move_15 hb hok2 2 7 (by omega) (by simp only []; omega)
  rw [show Ck.moved ⟨1, 0, 3⟩ 2 7 = ⟨3, 7, 0⟩ from rfl] at c15
  go_enter Try.func13, Try.ntmps13
  go_wp2_with fail
  refine c25.mono ?_
  rintro y w1 ⟨rfl, rfl⟩
  clear c25
  obtain ⟨cb, hcb⟩ : ∃ cb, cb = w.heap.size := ⟨_, rfl⟩
  rw [← hcb] at hB c18 c15 ⊢
  have hcbl : w.heap.size ≤ cb := by omega
  clear hcb
  generalize w.alloc (.cells (ckA ⟨1, 0, 0⟩) 102) = W at *
  go_wp2_with (first | (go_at_call 16; go_must (refine (num_16 _ _).mono ?_); rintro y w' ⟨rfl, rfl⟩) | (go_at_call 9; go_must (with_reducible refine (c9 _).mono ?_); rintro y w' ⟨rfl, rfl⟩) | (go_at_call 11; go_must (with_reducible first | refine (c11 _).mono ?_ | refine (d11 _).mono ?_); rintro y w' ⟨rfl, rfl⟩) | fail)
  refine c18.mono ?_
  rintro y w2 ⟨rfl, hg2, hb2⟩
  have hf2 := gb_mine hal hg2 hcbl
  have d15 := c15 w2 hb2
  clear c18 c15 hg2 hb2 hal hB c9 c11 d11
  go_wp2_with fail
  refine d15.mono ?_
  rintro y w3 ⟨rfl, hg3, hb3⟩
  have hf3 := gb_mine hf2 hg3 hcbl
  have c21 := new_21 w3
  clear d15 hg3 hf2
  go_wp2_with fail
  refine c21.mono ?_
  rintro y w4 ⟨wb, F, rfl, hg4, hF4, hW4⟩
  have hf4 := gb_trans hf3 hg4
  have hb4 := hb3.kept hg4 (by simp)
  have c27 := now_27 hb4
  have c28 := cut_28 hb4
  have c30 := set_30_new (x := 9) (e := 4) hW4 (by omega) (by omega) (fun _ h => h.elim) (by unfold isH; omega) (by omega) (fun _ h => h.elim)
  have hFw : ∀ k, F k → w.heap.size ≤ k := fun k hk => Nat.le_trans hf3.size (hF4 k hk)
  clear c21 hg4 hb3 hf3 hF4 hb4 hW4
  go_wp2_with (first | (go_at_call 16; go_must (refine (num_16 _ _).mono ?_); rintro y w' ⟨rfl, rfl⟩) | (go_at_call 28; go_must (refine c28.mono ?_); rintro y w' ⟨rfl, rfl⟩) | (go_at_call 27; go_must (refine c27.mono ?_); rintro y w' ⟨rfl, rfl⟩) | fail)
  refine c30.mono ?_
  rintro y w5 ⟨rfl, hk5, F5, hF5, hW5⟩
  have hf5 := gb_of_kp hf4 hk5 hFw
  have hF5w : ∀ k, F5 k → w.heap.size ≤ k := fun k hk => (hF5 k hk).elim (hFw k) (fun h => Nat.le_trans hf4.size h)
  replace hW5 := hW5.congr (S' := fun y => y = en1) (fun y => ⟨fun h => h.elim (fun h => h.elim) id, fun h => .inr h⟩)
  have d30 := set_30_new (x := 5) (e := 4) hW5 (by omega) (by omega) (fun y h => by rw [h]; unfold isH en1; simp only []; omega) (by unfold isH; omega) (by omega) (fun y h => by rw [h]; unfold en1; simp)
  clear c30 c27 c28 hk5 hF5 hW5
  go_wp2_with fail
  refine d30.mono ?_
  rintro y w6 ⟨rfl, hk6, F6, hF6, hW6⟩
  have hf6 := gb_of_kp hf5 hk6 hF5w
  replace hW6 := hW6.congr (S' := fun y => y = en1 ∨ y = en2) (fun y => ⟨fun h => h, fun h => h⟩)
  have hH6 : ∀ y, (y = en1 ∨ y = en2) → isH y.h := by
    rintro y (rfl | rfl)
    · unfold isH en1; simp only []; omega
    · unfold isH en2; simp only []; omega
  have hT6 : ∀ x y, (x = en1 ∨ x = en2) → (y = en1 ∨ y = en2) → x.t = y.t → x = y := by
    rintro x y (rfl | rfl) (rfl | rfl) h <;> first | rfl | (simp [en1, en2] at h)
  have c23 := len_23 hW6 (by omega)
  have c31 := due_31 hW6 (by omega) hH6 hT6 4 9 (by unfold isI; omega) (by unfold isI; omega)
  have d31 := fun W (hf : w6.grownBy W none) => due_31 (hW6.kept0 hf) (by omega) hH6 hT6 3 9 (by unfold isI; omega) (by unfold isI; omega)
  clear d30 hk6 hF6 hf5 hF5w hf4
  go_wp2_with (first | (go_at_call 23; go_must (refine c23.mono ?_); rintro y w' ⟨rfl, rfl⟩) | fail)
  refine c31.mono ?_
  rintro y w7 ⟨dv, ds, rfl, hg7, ht7, hr7⟩
  have hds : ds = [en1, en2] := told_two ht7 (fun y => Iff.rfl) (by unfold ah en1 en2; simp) (by unfold en1; simp) (by unfold en2; simp) (by omega) (fun _ => by omega)
  subst hds
  obtain ⟨a7, c7, hdv, hH7⟩ := HsH.of_row (xs := [9, 5]) hr7
  subst hdv
  have hf7 := gb_trans hf6 hg7
  have hal := World.grownBy_alloc w7 (.cells #[.int .u64 9, .int .u64 5] 89) none
  have hH8 : HsH (w7.alloc (.cells #[.int .u64 9, .int .u64 5] 89)) (some ⟨w7.heap.size, 0, none⟩) [9, 5] := fun _ => ⟨_, _, rfl, fun i hi => by
    rw [Nat.zero_add, (Box.new w7 89 #[.int .u64 9, .int .u64 5]).cell i]
    simp at hi
    rcases (show i = 0 ∨ i = 1 by omega) with rfl | rfl <;> rfl⟩
  have c35 := handles_35 (hH7.kept0 hal) hH8 c7 2 (by simp)
  have hf8 := gb_trans hg7 hal
  have hf9 := gb_trans hf7 hal
  clear c31 c23 ht7 hr7 hH7 hH8
  simp only [List.length_cons, List.length_nil] at c35 ⊢
  go_wp2_with fail
  refine c35.mono ?_
  rintro y w9 ⟨rfl, hg9⟩
  have e31 := d31 w9 (gb_trans hf8 hg9)
  have hf10 := gb_trans hf9 hg9
  clear c35 d31 hf8 hf9 hal
  go_wp2_with fail
  refine e31.mono ?_
  rintro y w10 ⟨dv, ds, rfl, hg10, ht10, hr10⟩
  have hds : ds = [] := by
    cases ds with
    | nil => rfl
    | cons d l =>
      have := ht10.inn d (by simp)
      rcases this with ⟨rfl | rfl, h⟩ <;> simp [en1, en2] at h
  subst hds
  obtain ⟨a10, c10, hdv, _⟩ := HsH.of_row (xs := []) hr10
  subst hdv
  simp only [List.length_nil]
  clear e31
  go_wp2
  go_ret
  exact ⟨rfl, gb_trans hf10 hg10⟩

end Go.Proofs.Ytagcmfaljfaikaa

/-
  The law's first run.
-/
import Derived.Test.YtonbkpfnpnlkpaaDoorI
import Derived.Test.YtonbkpfnpnlkpaaDoorL
namespace Go.Proofs.YtonbkpfnpnlkpaaDoor
open Go.RowKit
set_option linter.unusedVariables false
set_option linter.unusedSimpArgs false
attribute [local go_sem] Oper.semAt_some

theorem Wo.lt {w : World} (h : Wo w) : 0 < w.heap.size := World.block_lt_of_cell? _ _ (h 0 (by omega))
theorem N0_fit : Fit N0 := fun _ => by simp [N0]
theorem off_none (n c : Nat) (F : Nat → Prop) : Off (.slice none n c) F := fun a n c h => by simp at h
theorem flgs_nil (w : World) : Flgs w (.slice none 0 0) [] := ⟨none, 0, rfl, by simp, by unfold maxLen; omega, by simp, by simp⟩
theorem row_st {w : World} {B : Nat} {N : Cn} {g cap : Nat} (h : w.ownsRow B 60 2 (.slice (some ⟨g, 0, none⟩) 30 cap) 30 (stL N 30)) {i : Nat} (hi : i < 30) :
    w.cell? ⟨g, i * 2, none⟩ = some (sv (wrd (i + 1))) ∧ w.cell? ⟨g, i * 2 + 1, none⟩ = some (.int .u64 (N (i + 1) : Nat)) := by
  constructor
  · exact row_cell h _ _ ((rng_get (f := stF N) (s := 2) (fun i => rfl) hi (j := 0) (by omega)).trans rfl)
  · exact row_cell h _ _ ((rng_get (f := stF N) (s := 2) (fun i => rfl) hi (j := 1) (by omega)).trans rfl)
abbrev wkC (g : Nat) : Cm := ⟨1, some ⟨g, 0, none⟩, 2, 2, 0, 0, 0, 0, none, 0, 0, false, false, none, 0, 0, ⟨#[]⟩⟩
abbrev wkA : An := ⟨9, .slice none 0 0, .int .u64 0, [], .slice none 0 0⟩
abbrev wkM : Mt := ⟨0, 0, 0, 0, 0, 0⟩
theorem wkA_ok : wkA.Ok := ⟨⟨_, _, _, rfl⟩, ⟨_, rfl⟩, ⟨_, _, _, rfl⟩, by simp⟩
theorem wkM_ok : wkM.Ok := ⟨by decide, by decide, by decide⟩
def wkN : Cn := plus N0 (cmdD (wkC 0) wkA [] [0, 1] wkM)
theorem wkN_1 : wkN 1 = 2 := by decide
theorem wkN_6 : wkN 6 = 1 := by decide
theorem wkN_7 : wkN 7 = 1 := by decide
set_option maxRecDepth 100000 in
set_option maxHeartbeats 4000000 in
theorem wakes_10 (w : World) (hW : Wo w) : Calls Tryd.prog 10 #[] w fun e w' => e = .returned (.bool true) ∧ w.grownBy w' none := by
  have h0 := hW.lt
  have h11 := new_11 w
  go_enter Tryd.func10, Tryd.ntmps10
  go_wp2_with (go_at_call 11; (with_reducible refine h11.mono ?_); rintro e w1 ⟨rfl, hb1, hg1, hs1⟩)
  have W1 := hW.kept (Kp.of (F := fun _ => False) hg1) (fun h => h)
  have gA := World.grownBy_alloc w1 (.cells #[.string ⟨#[97]⟩, .string ⟨#[98]⟩] 9) none
  have gB := World.grownBy_alloc (w1.alloc (.cells #[.string ⟨#[97]⟩, .string ⟨#[98]⟩] 9)) (.cells #[.int .i64 0, .int .i64 1] 3) none
  have bx := Box.new (w1.alloc (.cells #[.string ⟨#[97]⟩, .string ⟨#[98]⟩] 9)) 3 #[.int .i64 0, .int .i64 1]
  rw [show (w1.alloc (.cells #[.string ⟨#[97]⟩, .string ⟨#[98]⟩] 9)).heap.size = w.heap.size + 1 + 1 from by simp [hs1]] at bx
  have gAB := gb_trans gA gB
  generalize (w1.alloc (.cells #[.string ⟨#[97]⟩, .string ⟨#[98]⟩] 9)).alloc (.cells #[.int .i64 0, .int .i64 1] 3) = w2 at *
  have hb2 : Bd w2 w.heap.size 0 N0 := Box.kept hb1 gAB (by simp)
  have W2 := W1.kept (Kp.of (F := fun _ => False) gAB) (fun h => h)
  have hy : Ints w2 (.slice (some ⟨w.heap.size + 1 + 1, 0, none⟩) 2 2) [0, 1] := by
    refine ⟨_, 2, rfl, by simp, by unfold maxLen; omega, fun i x hi => ⟨_, 0, rfl, ?_⟩⟩
    match i, hi with
    | 0, hi => simp at hi; subst hi; exact bx.cell 0
    | 1, hi => simp at hi; subst hi; exact bx.cell 1
    | i + 2, hi => simp at hi
  have h19 := command_19 w.heap.size N0 (wkC (w.heap.size + 1)) wkA (.slice (some ⟨w.heap.size + 1 + 1, 0, none⟩) 2 2) [] [0, 1] wkM w2 hb2 N0_fit wkA_ok (flgs_nil _) (off_none _ _ _) hy (fun a n c h _ => by simp at h; rw [← h.1]; simp; omega) wkM_ok
  refine h19.mono ?_
  rintro e w3 ⟨rfl, hb3, hk3⟩
  have hb3' : Bd w3 w.heap.size 0 wkN := hb3
  have W3 := W2.kept hk3 (by omega)
  have g3 : w.grownBy w3 none := (((Kp.of (F := (· = w.heap.size)) (gb_trans hg1 gAB)).then hk3)).grown (fun i h => by omega)
  clear h19 hb3 hb2 hb1 hy bx gA gB gAB W1 W2
  go_wp2_with fail
  refine (stats_15 w.heap.size wkN w3 hb3' W3 (by omega)).mono ?_
  rintro e w4 ⟨v, rfl, ⟨g, cap, rfl, hr⟩, hb4, hk4⟩
  have W4 := W3.kept hk4 (by omega)
  have g4 : w.grownBy w4 none := ((Kp.of (F := (· = w.heap.size)) g3).then hk4).grown (fun i h => by omega)
  have hrl := World.ownsRow.lt hr g rfl
  obtain ⟨s0, s1⟩ := row_st hr (i := 0) (by omega)
  have hg3 := g3.size
  have hgne : ¬ g = w.heap.size := by have := hb3'.lt; omega
  have hr17 := fun n (X : World) (hX : Bd X w.heap.size 0 wkN) => read_17 w.heap.size wkN n X hX
  have R1 : ∀ X, Bd X w.heap.size 0 wkN → Calls Tryd.prog 17 #[.pointer (some ⟨w.heap.size, 0, none⟩), .int .i64 1] X fun e w' => e = .returned (.int .u64 2) ∧ Bd w' w.heap.size 0 wkN ∧ Kp (· = w.heap.size) X w' := fun X hX => hr17 1 X hX
  have R6 : ∀ X, Bd X w.heap.size 0 wkN → Calls Tryd.prog 17 #[.pointer (some ⟨w.heap.size, 0, none⟩), .int .i64 6] X fun e w' => e = .returned (.int .u64 1) ∧ Bd w' w.heap.size 0 wkN ∧ Kp (· = w.heap.size) X w' := fun X hX => hr17 6 X hX
  have R7 : ∀ X, Bd X w.heap.size 0 wkN → Calls Tryd.prog 17 #[.pointer (some ⟨w.heap.size, 0, none⟩), .int .i64 7] X fun e w' => e = .returned (.int .u64 1) ∧ Bd w' w.heap.size 0 wkN ∧ Kp (· = w.heap.size) X w' := fun X hX => hr17 7 X hX
  clear hr17
  go_wp2_with fail
  refine (R1 _ hb4).mono ?_
  rintro e w5 ⟨rfl, hb5, hk5⟩
  go_wp2_with fail
  refine (R6 _ hb5).mono ?_
  rintro e w6 ⟨rfl, hb6, hk6⟩
  go_wp2_with fail
  refine (R7 _ hb6).mono ?_
  rintro e w7 ⟨rfl, hb7, hk7⟩
  have k7 := (hk5.then hk6).then hk7
  have c0 : w7.cell? ⟨g, 0, none⟩ = some (.string ⟨#[99, 109, 100, 95, 103, 101, 116]⟩) := k7.cell s0 hgne
  have c1 : w7.cell? ⟨g, 1, none⟩ = some (.int .u64 2) := k7.cell s1 hgne
  have W7 := W4.kept k7 (by omega)
  have h25 := name_25 26 w7 W7
  rw [show nmW 26 = [98, 121, 116, 101, 115] from by decide] at h25
  have g7 : w.grownBy w7 none := ((Kp.of (F := (· = w.heap.size)) g4).then k7).grown (fun i h => by omega)
  clear s0 s1 R1 R6 R7 hr
  go_wp2_with (go_at_call 25; (with_reducible refine h25.mono ?_); rintro e w8 ⟨rfl, h1⟩; (have h2 := h1.symm); subst h2)
  go_ret
  exact ⟨rfl, g7⟩
end Go.Proofs.YtonbkpfnpnlkpaaDoor

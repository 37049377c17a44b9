/-
  The tally: keys, touches, answers.
-/
import Derived.Test.YtonbkpfnpnlkpaaDoorC
namespace Go.Proofs.YtonbkpfnpnlkpaaDoor
open Go.RowKit
set_option linter.unusedVariables false
set_option linter.unusedSimpArgs false
attribute [local go_sem] Oper.semAt_some

def miss (y : Int) : Bool := y == 1 || y == 2 || y == 3
def keyL (y : Int) : List Nat := wh (y == 0) [1, 6] ++ wh (miss y) [1, 7] ++ wh (y == 2) [8] ++ wh (y == 3) [9]
def touchL (y : Int) : List Nat := wh (y == 0) [3, 19] ++ wh (miss y) [3, 20]
def keysL (l : List Int) : List Nat := l.flatMap keyL
def touchesL (l : List Int) : List Nat := l.flatMap touchL
/-- What an answer adds. -/
def ansL (v k : Int) : List Nat :=
  if v = 5 ∨ v = 6 ∨ v = 7 ∨ v = 8 ∨ v = 9 then [2] ++ wh (k == 1) [24]
  else if v = 10 then [2] ++ wh (k == 1) [24, 16] ++ wh (k == 3) [17] ++ wh (k == 4) [18]
  else if v = 11 then wh (k == 5) [10] ++ wh (k == 4) [11]
  else if v = 12 then wh (k == 7) [12] ++ wh (k == 4) [13]
  else if v = 13 then wh (k == 7) [14] ++ wh (k == 4) [15]
  else if v = 14 then [3] ++ wh (k == 6) [19] ++ wh (k == 4) [20]
  else if v = 15 then [4] else []
/-- A row of numbers in memory. -/
def Ints (w : World) (v : Value) (l : List Int) : Prop := ∃ ao c, v = .slice ao l.length c ∧ l.length ≤ c ∧ c ≤ maxLen ∧ (∀ i x, l[i]? = some x → ∃ g o, ao = some ⟨g, o, none⟩ ∧ w.cell? ⟨g, o + i, none⟩ = some (.int .i64 x))
/-- None of its cells lies in a block of F. -/
def Off (v : Value) (F : Nat → Prop) : Prop := ∀ a n c, v = .slice (some a) n c → 0 < n → ¬ F a.block
theorem Ints.kept {w w' : World} {v : Value} {l : List Int} (h : Ints w v l) {F : Nat → Prop} (hk : Kp F w w') (ho : Off v F) : Ints w' v l := by
  obtain ⟨ao, c, rfl, hlc, hc, hx⟩ := h
  refine ⟨ao, c, rfl, hlc, hc, fun i x hi => ?_⟩
  obtain ⟨g, o, rfl, hcell⟩ := hx i x hi
  have hlt := World.block_lt_of_cell? _ _ hcell
  have hn := ho _ _ _ rfl (by have := (List.getElem?_eq_some_iff.1 hi).1; omega)
  refine ⟨g, o, rfl, ?_⟩
  have h2 := hk.block g hlt hn
  simpa [World.cell?, h2] using hcell
theorem ints_len {w : World} {v : Value} {l : List Int} (h : Ints w v l) : l.length ≤ maxLen := by obtain ⟨ao, c, rfl, h1, h2, _⟩ := h; omega

set_option maxRecDepth 100000 in
set_option maxHeartbeats 4000000 in
theorem isMiss_92 (y : Int) (w : World) : Calls Tryd.prog 92 #[.int .i64 y] w fun e w' => e = .returned (.bool (miss y)) ∧ w' = w := by
  go_enter Tryd.func92, Tryd.ntmps92
  go_wp2
  all_goals (go_ret; refine ⟨?_, rfl⟩; simp_all [miss])
set_option maxRecDepth 100000 in
set_option maxHeartbeats 4000000 in
theorem key_91 (b : Nat) (k : Int) (N : Cn) (y : Int) (w : World) (hB : Bd w b k N) (hN : Fit N) :
    Calls Tryd.prog 91 #[.pointer (some ⟨b, 2, none⟩), .int .i64 y] w fun e w' => e = .returned (.tuple #[]) ∧ Bd w' b k (plus N (dl (keyL y))) ∧ Kp (· = b) w w' := by
  go_enter Tryd.func91, Tryd.ntmps91
  go_wp2_with fail
  refine (when2 b k _ _ 1 6 1 6 rfl rfl (by omega) (by omega) _ hB hN).mono ?_
  rintro f1 w1 ⟨rfl, hb1, hk1⟩
  go_wp2_with fail
  refine (isMiss_92 _ _).mono ?_
  rintro e2 w2m ⟨rfl, rfl⟩
  go_wp2_with fail
  refine (when2 b k _ _ 1 7 1 7 rfl rfl (by omega) (by omega) _ hb1 (plus_fit _ _)).mono ?_
  rintro f2 w2 ⟨rfl, hb2, hk2⟩
  go_wp2_with fail
  refine (when1 b k _ _ 8 8 rfl (by omega) _ hb2 (plus_fit _ _)).mono ?_
  rintro f3 w3 ⟨rfl, hb3, hk3⟩
  go_wp2_with fail
  refine (when1 b k _ _ 9 9 rfl (by omega) _ hb3 (plus_fit _ _)).mono ?_
  rintro f4 w4 ⟨rfl, hb4, hk4⟩
  go_wp2
  go_end0
  refine ⟨rfl, ?_, (((hk1.then hk2).then hk3).then hk4)⟩
  try simp only [plus_dl] at hb4
  exact hb4
set_option maxRecDepth 100000 in
set_option maxHeartbeats 4000000 in
theorem keys_60 (b : Nat) (k : Int) (N : Cn) (v : Value) (l : List Int) (w : World) (hB : Bd w b k N) (hN : Fit N) (hv : Ints w v l) (ho : Off v (· = b)) :
    Calls Tryd.prog 60 #[.pointer (some ⟨b, 2, none⟩), v] w fun e w' => e = .returned (.tuple #[]) ∧ Bd w' b k (plus N (dl (keysL l))) ∧ Kp (· = b) w w' := by
  have hlen := ints_len hv
  unfold maxLen at hlen
  obtain ⟨ao, c, rfl, hlc, hc, hx⟩ := hv
  go_enter Tryd.func60, Tryd.ntmps60
  go_wp2
  go_loopw [8] (fun v wr => ∃ i : Nat, i ≤ l.length ∧ v = .int .i64 i ∧ Bd wr b k (plus N (dl (keysL (l.take i)))) ∧ Kp (· = b) w wr) (fun v _ => l.length - (intOf v).toNat)
  case atStart => exact ⟨0, by omega, rfl, by rw [List.take_zero, show keysL [] = [] from rfl, plus_dl_nil hN]; exact hB, Kp.refl _ _⟩
  case round =>
    obtain ⟨i, hi, rfl, hb, hk⟩ := hrel
    rcases (by omega : i < l.length ∨ i = l.length) with hlt | rfl
    · obtain ⟨y, hy⟩ : ∃ y, l[i]? = some y := ⟨_, List.getElem?_eq_getElem hlt⟩
      obtain ⟨g, o, rfl, hcell0⟩ := hx i y hy
      have hgb : g ≠ b := ho _ _ _ rfl (by omega)
      have hcell : wr.cell? ⟨g, o + i, none⟩ = some (.int .i64 y) := by
        have h2 := hk.block g (World.block_lt_of_cell? _ _ hcell0) hgb
        simpa [World.cell?, h2] using hcell0
      have d1 : ((i : Int) < (l.length : Int)) := by omega
      have HT : plus (plus N (dl (keysL (l.take i)))) (dl (keyL y)) = plus N (dl (keysL (l.take (i + 1)))) := by
        rw [plus_dl, List.take_add_one, hy]; simp [keysL]
      have HL : Hid (l.length ≤ 1 ∨ True) := .inr trivial
      clear hx hcell0
      have h91 := key_91 b k (plus N (dl (keysL (l.take i)))) y wr hb (plus_fit _ _)
      rw [HT] at h91
      clear HT
      go_wp2_with (go_at_call 91; (with_reducible refine h91.mono ?_); rintro e w5 ⟨rfl, hb5, hk5⟩)
      refine ⟨⟨i + 1, by omega, by simp, hb5, hk.then hk5⟩, ?_⟩
      simp only [intOf]; omega
    · go_wp2
      go_end0
      exact ⟨rfl, by rw [List.take_length] at hb; exact hb, hk⟩
set_option maxRecDepth 100000 in
set_option maxHeartbeats 4000000 in
theorem touches_61 (b : Nat) (k : Int) (N : Cn) (v : Value) (l : List Int) (w : World) (hB : Bd w b k N) (hN : Fit N) (hv : Ints w v l) (ho : Off v (· = b)) :
    Calls Tryd.prog 61 #[.pointer (some ⟨b, 2, none⟩), v] w fun e w' => e = .returned (.tuple #[]) ∧ Bd w' b k (plus N (dl (touchesL l))) ∧ Kp (· = b) w w' := by
  have hlen := ints_len hv
  unfold maxLen at hlen
  obtain ⟨ao, c, rfl, hlc, hc, hx⟩ := hv
  go_enter Tryd.func61, Tryd.ntmps61
  go_wp2
  go_loopw [8] (fun v wr => ∃ i : Nat, i ≤ l.length ∧ v = .int .i64 i ∧ Bd wr b k (plus N (dl (touchesL (l.take i)))) ∧ Kp (· = b) w wr) (fun v _ => l.length - (intOf v).toNat)
  case atStart => exact ⟨0, by omega, rfl, by rw [List.take_zero, show touchesL [] = [] from rfl, plus_dl_nil hN]; exact hB, Kp.refl _ _⟩
  case round =>
    obtain ⟨i, hi, rfl, hb, hk⟩ := hrel
    rcases (by omega : i < l.length ∨ i = l.length) with hlt | rfl
    · obtain ⟨y, hy⟩ : ∃ y, l[i]? = some y := ⟨_, List.getElem?_eq_getElem hlt⟩
      obtain ⟨g, o, rfl, hcell0⟩ := hx i y hy
      have hgb : g ≠ b := ho _ _ _ rfl (by omega)
      have hcell : wr.cell? ⟨g, o + i, none⟩ = some (.int .i64 y) := by
        have h2 := hk.block g (World.block_lt_of_cell? _ _ hcell0) hgb
        simpa [World.cell?, h2] using hcell0
      have d1 : ((i : Int) < (l.length : Int)) := by omega
      have HT : plus (plus N (dl (touchesL (l.take i)))) (dl (touchL y)) = plus N (dl (touchesL (l.take (i + 1)))) := by
        rw [plus_dl, List.take_add_one, hy]; simp [touchesL]
      have HL : Hid (l.length ≤ 1 ∨ True) := .inr trivial
      clear hx hcell0
      go_wp2_with fail
      refine (when2 b k _ _ 3 19 3 19 rfl rfl (by omega) (by omega) _ hb (plus_fit _ _)).mono ?_
      rintro f1 w1 ⟨rfl, hb1, hk1⟩
      go_wp2_with fail
      refine (isMiss_92 _ _).mono ?_
      rintro e2 w2m ⟨rfl, rfl⟩
      go_wp2_with fail
      refine (when2 b k _ _ 3 20 3 20 rfl rfl (by omega) (by omega) _ hb1 (plus_fit _ _)).mono ?_
      rintro f2 w2 ⟨rfl, hb2, hk2⟩
      go_wp2
      rw [plus_dl] at hb2
      have hb3 : Bd w2 b k (plus N (dl (touchesL (l.take (i + 1))))) := by rw [← HT]; exact hb2
      refine ⟨⟨i + 1, by omega, by simp, hb3, (hk.then hk1).then hk2⟩, ?_⟩
      simp only [intOf]; omega
    · go_wp2
      go_end0
      exact ⟨rfl, by rw [List.take_length] at hb; exact hb, hk⟩
set_option maxRecDepth 100000 in
set_option maxHeartbeats 4000000 in
theorem first_64 (v : Value) (l : List Int) (w : World) (hv : Ints w v l) :
    Calls Tryd.prog 64 #[v] w fun e w' => e = .returned (.int .i64 (l.headD (-1))) ∧ w' = w := by
  have hlen := ints_len hv
  unfold maxLen at hlen
  obtain ⟨ao, c, rfl, hlc, hc, hx⟩ := hv
  match l, hx, hlen, hlc with
  | [], hx, hlen, hlc =>
    go_enter Tryd.func64, Tryd.ntmps64
    go_wp2
    go_ret
    exact ⟨rfl, rfl⟩
  | y :: l, hx, hlen, hlc =>
    obtain ⟨g, o, rfl, hcell⟩ := hx 0 y rfl
    simp only [List.length_cons, Nat.add_zero] at *
    have d1 : ¬ ((l.length : Int) + 1 = 0) := by omega
    have d2 : (0 : Int) < (l.length : Int) + 1 := by omega
    go_enter Tryd.func64, Tryd.ntmps64
    go_wp2
    go_ret
    exact ⟨rfl, rfl⟩
set_option maxRecDepth 100000 in
set_option maxHeartbeats 4000000 in
theorem answered_65 (b : Nat) (k : Int) (N : Cn) (v y : Int) (w : World) (hB : Bd w b k N) (hN : Fit N) :
    Calls Tryd.prog 65 #[.pointer (some ⟨b, 2, none⟩), .int .i64 v, .int .i64 y] w fun e w' => e = .returned (.tuple #[]) ∧ Bd w' b k (plus N (dl (ansL v y))) ∧ Kp (· = b) w w' := by
  by_cases c5 : v = 5
  · subst c5
    go_enter Tryd.func65, Tryd.ntmps65
    go_wp2_with fail
    refine (one1 b k _ 2 2 rfl (by omega) _ hB hN).mono ?_
    rintro f1 w1 ⟨rfl, hb1, hk1⟩
    go_wp2_with fail
    refine (when1 b k _ _ 24 24 rfl (by omega) _ hb1 (plus_fit _ _)).mono ?_
    rintro f2 w2 ⟨rfl, hb2, hk2⟩
    go_wp2
    go_end0
    refine ⟨rfl, ?_, (hk1.then hk2)⟩
    try simp only [plus_dl] at hb2
    exact hb2
  by_cases c6 : v = 6
  · subst c6
    go_enter Tryd.func65, Tryd.ntmps65
    go_wp2_with fail
    refine (one1 b k _ 2 2 rfl (by omega) _ hB hN).mono ?_
    rintro f1 w1 ⟨rfl, hb1, hk1⟩
    go_wp2_with fail
    refine (when1 b k _ _ 24 24 rfl (by omega) _ hb1 (plus_fit _ _)).mono ?_
    rintro f2 w2 ⟨rfl, hb2, hk2⟩
    go_wp2
    go_end0
    refine ⟨rfl, ?_, (hk1.then hk2)⟩
    try simp only [plus_dl] at hb2
    exact hb2
  by_cases c7 : v = 7
  · subst c7
    go_enter Tryd.func65, Tryd.ntmps65
    go_wp2_with fail
    refine (one1 b k _ 2 2 rfl (by omega) _ hB hN).mono ?_
    rintro f1 w1 ⟨rfl, hb1, hk1⟩
    go_wp2_with fail
    refine (when1 b k _ _ 24 24 rfl (by omega) _ hb1 (plus_fit _ _)).mono ?_
    rintro f2 w2 ⟨rfl, hb2, hk2⟩
    go_wp2
    go_end0
    refine ⟨rfl, ?_, (hk1.then hk2)⟩
    try simp only [plus_dl] at hb2
    exact hb2
  by_cases c8 : v = 8
  · subst c8
    go_enter Tryd.func65, Tryd.ntmps65
    go_wp2_with fail
    refine (one1 b k _ 2 2 rfl (by omega) _ hB hN).mono ?_
    rintro f1 w1 ⟨rfl, hb1, hk1⟩
    go_wp2_with fail
    refine (when1 b k _ _ 24 24 rfl (by omega) _ hb1 (plus_fit _ _)).mono ?_
    rintro f2 w2 ⟨rfl, hb2, hk2⟩
    go_wp2
    go_end0
    refine ⟨rfl, ?_, (hk1.then hk2)⟩
    try simp only [plus_dl] at hb2
    exact hb2
  by_cases c9 : v = 9
  · subst c9
    go_enter Tryd.func65, Tryd.ntmps65
    go_wp2_with fail
    refine (one1 b k _ 2 2 rfl (by omega) _ hB hN).mono ?_
    rintro f1 w1 ⟨rfl, hb1, hk1⟩
    go_wp2_with fail
    refine (when1 b k _ _ 24 24 rfl (by omega) _ hb1 (plus_fit _ _)).mono ?_
    rintro f2 w2 ⟨rfl, hb2, hk2⟩
    go_wp2
    go_end0
    refine ⟨rfl, ?_, (hk1.then hk2)⟩
    try simp only [plus_dl] at hb2
    exact hb2
  by_cases c10 : v = 10
  · subst c10
    go_enter Tryd.func65, Tryd.ntmps65
    go_wp2_with fail
    refine (one1 b k _ 2 2 rfl (by omega) _ hB hN).mono ?_
    rintro f1 w1 ⟨rfl, hb1, hk1⟩
    go_wp2_with fail
    refine (when2 b k _ _ 24 16 24 16 rfl rfl (by omega) (by omega) _ hb1 (plus_fit _ _)).mono ?_
    rintro f2 w2 ⟨rfl, hb2, hk2⟩
    go_wp2_with fail
    refine (when1 b k _ _ 17 17 rfl (by omega) _ hb2 (plus_fit _ _)).mono ?_
    rintro f3 w3 ⟨rfl, hb3, hk3⟩
    go_wp2_with fail
    refine (when1 b k _ _ 18 18 rfl (by omega) _ hb3 (plus_fit _ _)).mono ?_
    rintro f4 w4 ⟨rfl, hb4, hk4⟩
    go_wp2
    go_end0
    refine ⟨rfl, ?_, (((hk1.then hk2).then hk3).then hk4)⟩
    try simp only [plus_dl] at hb4
    exact hb4
  by_cases c11 : v = 11
  · subst c11
    go_enter Tryd.func65, Tryd.ntmps65
    go_wp2_with fail
    refine (when1 b k _ _ 10 10 rfl (by omega) _ hB hN).mono ?_
    rintro f1 w1 ⟨rfl, hb1, hk1⟩
    go_wp2_with fail
    refine (when1 b k _ _ 11 11 rfl (by omega) _ hb1 (plus_fit _ _)).mono ?_
    rintro f2 w2 ⟨rfl, hb2, hk2⟩
    go_wp2
    go_end0
    refine ⟨rfl, ?_, (hk1.then hk2)⟩
    try simp only [plus_dl] at hb2
    exact hb2
  by_cases c12 : v = 12
  · subst c12
    go_enter Tryd.func65, Tryd.ntmps65
    go_wp2_with fail
    refine (when1 b k _ _ 12 12 rfl (by omega) _ hB hN).mono ?_
    rintro f1 w1 ⟨rfl, hb1, hk1⟩
    go_wp2_with fail
    refine (when1 b k _ _ 13 13 rfl (by omega) _ hb1 (plus_fit _ _)).mono ?_
    rintro f2 w2 ⟨rfl, hb2, hk2⟩
    go_wp2
    go_end0
    refine ⟨rfl, ?_, (hk1.then hk2)⟩
    try simp only [plus_dl] at hb2
    exact hb2
  by_cases c13 : v = 13
  · subst c13
    go_enter Tryd.func65, Tryd.ntmps65
    go_wp2_with fail
    refine (when1 b k _ _ 14 14 rfl (by omega) _ hB hN).mono ?_
    rintro f1 w1 ⟨rfl, hb1, hk1⟩
    go_wp2_with fail
    refine (when1 b k _ _ 15 15 rfl (by omega) _ hb1 (plus_fit _ _)).mono ?_
    rintro f2 w2 ⟨rfl, hb2, hk2⟩
    go_wp2
    go_end0
    refine ⟨rfl, ?_, (hk1.then hk2)⟩
    try simp only [plus_dl] at hb2
    exact hb2
  by_cases c14 : v = 14
  · subst c14
    go_enter Tryd.func65, Tryd.ntmps65
    go_wp2_with fail
    refine (one1 b k _ 3 3 rfl (by omega) _ hB hN).mono ?_
    rintro f1 w1 ⟨rfl, hb1, hk1⟩
    go_wp2_with fail
    refine (when1 b k _ _ 19 19 rfl (by omega) _ hb1 (plus_fit _ _)).mono ?_
    rintro f2 w2 ⟨rfl, hb2, hk2⟩
    go_wp2_with fail
    refine (when1 b k _ _ 20 20 rfl (by omega) _ hb2 (plus_fit _ _)).mono ?_
    rintro f3 w3 ⟨rfl, hb3, hk3⟩
    go_wp2
    go_end0
    refine ⟨rfl, ?_, ((hk1.then hk2).then hk3)⟩
    try simp only [plus_dl] at hb3
    exact hb3
  by_cases c15 : v = 15
  · subst c15
    go_enter Tryd.func65, Tryd.ntmps65
    go_wp2_with fail
    refine (one1 b k _ 4 4 rfl (by omega) _ hB hN).mono ?_
    rintro f1 w1 ⟨rfl, hb1, hk1⟩
    go_wp2
    go_end0
    refine ⟨rfl, ?_, hk1⟩
    try simp only [plus_dl] at hb1
    exact hb1
  have e : ansL v y = [] := by simp [ansL, c5, c6, c7, c8, c9, c10, c11, c12, c13, c14, c15]
  rw [e, plus_dl_nil hN]
  go_enter Tryd.func65, Tryd.ntmps65
  go_wp2
  go_end0
  exact ⟨rfl, hB, Kp.refl _ _⟩
end Go.Proofs.YtonbkpfnpnlkpaaDoor

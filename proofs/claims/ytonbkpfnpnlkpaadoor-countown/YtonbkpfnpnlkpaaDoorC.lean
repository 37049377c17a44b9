/-
  The tally: add, when, one, some, work, key.
-/
import Derived.Test.YtonbkpfnpnlkpaaDoorB
namespace Go.Proofs.YtonbkpfnpnlkpaaDoor
open Go.RowKit
set_option linter.unusedVariables false
set_option linter.unusedSimpArgs false
attribute [local go_sem] Oper.semAt_some

theorem sat_eq (n x : Nat) (hn : n ≤ 18446744073709551615) (hx : x ≤ 18446744073709551615) : ((n : Int) + if 18446744073709551615 - (n : Int) < (x : Int) then 18446744073709551615 - (n : Int) else (x : Int)) = ((min (n + x) 18446744073709551615 : Nat) : Int) := by
  split <;> omega
set_option maxRecDepth 100000 in
set_option maxHeartbeats 4000000 in
theorem add_45 (b : Nat) (k : Int) (N : Cn) (i x : Nat) (w : World) (hB : Bd w b k N) (hi : i < 30) (hN : Fit N) (hx : x ≤ 18446744073709551615) :
    Calls Tryd.prog 45 #[.pointer (some ⟨b, 2, none⟩), .int .i64 ((i : Int) + 1), .int .u64 (x : Nat)] w fun e w' => e = .returned (.tuple #[]) ∧ Bd w' b k (plus N (sgl (i + 1) x)) ∧ Kp (· = b) w w' := by
  have hg := hB.get hi
  have hf := hB.fz (2 + i)
  have hn := hN (i + 1)
  go_enter Tryd.func45, Tryd.ntmps45
  have e1 : (i : Int) + 1 - 1 = (i : Int) := by omega
  have hi2 : (i : Int) < 30 := by omega
  go_region
  go_end0
  refine ⟨rfl, ?_, ?_⟩
  · rw [sat_eq _ _ hn hx, plus_sgl N hN]
    exact hB.set hi _
  · exact (Kp.setCell w b (2 + i) _).then (Kp.drew _ _)
theorem add_45n (b : Nat) (k : Int) (N : Cn) (n x : Nat) (z y : Int) (hz : z = n) (hy : y = x) (w : World) (hB : Bd w b k N) (hn : 1 ≤ n ∧ n ≤ 30) (hN : Fit N) (hx : x ≤ 18446744073709551615) :
    Calls Tryd.prog 45 #[.pointer (some ⟨b, 2, none⟩), .int .i64 z, .int .u64 y] w fun e w' => e = .returned (.tuple #[]) ∧ Bd w' b k (plus N (sgl n x)) ∧ Kp (· = b) w w' := by
  have h := add_45 b k N (n - 1) x w hB (by omega) hN hx
  rw [show n - 1 + 1 = n by omega, show ((n - 1 : Nat) : Int) + 1 = z by omega, show ((x : Nat) : Int) = y by omega] at h
  exact h

/-- A list, if something holds. -/
def wh (h : Bool) (l : List Nat) : List Nat := if h then l else []
theorem wh_t (l : List Nat) : wh true l = l := rfl
theorem wh_f (l : List Nat) : wh false l = [] := rfl
def Nms (l : List Nat) : Prop := ∀ n ∈ l, 1 ≤ n ∧ n ≤ 30
set_option maxRecDepth 100000 in
set_option maxHeartbeats 4000000 in
theorem when_41 (b : Nat) (k : Int) (N : Cn) (h : Bool) (l : List Nat) (g : Nat) (w : World) (hB : Bd w b k N) (hN : Fit N) (hl : Nms l) (hlen : l.length ≤ 1000) (hgb : g ≠ b)
    (hc : ∀ i n, l[i]? = some n → w.cell? ⟨g, i, none⟩ = some (.int .i64 (n : Nat))) :
    Calls Tryd.prog 41 #[.pointer (some ⟨b, 2, none⟩), .bool h, .slice (some ⟨g, 0, none⟩) l.length l.length] w fun e w' => e = .returned (.tuple #[]) ∧ Bd w' b k (plus N (dl (wh h l))) ∧ Kp (· = b) w w' := by
  cases h
  · go_enter Tryd.func41, Tryd.ntmps41
    go_wp2
    refine bodyPost_ret (results_none rfl _ _ _) rfl ?_
    exact ⟨rfl, by rw [wh_f, plus_dl_nil hN]; exact hB, Kp.refl _ _⟩
  · go_enter Tryd.func41, Tryd.ntmps41
    go_wp2
    go_loopw [12] (fun v wr => ∃ i : Nat, i ≤ l.length ∧ v = .int .i64 i ∧ Bd wr b k (plus N (dl (l.take i))) ∧ Kp (· = b) w wr) (fun v _ => l.length - (intOf v).toNat)
    case atStart => exact ⟨0, by omega, rfl, by rw [List.take_zero, plus_dl_nil hN]; exact hB, Kp.refl _ _⟩
    case round =>
      obtain ⟨i, hi, rfl, hb, hk⟩ := hrel
      rcases (by omega : i < l.length ∨ i = l.length) with hlt | rfl
      · obtain ⟨n, hn⟩ : ∃ n, l[i]? = some n := ⟨_, List.getElem?_eq_getElem hlt⟩
        have hcell : wr.cell? ⟨g, i, none⟩ = some (.int .i64 (n : Nat)) := by
          have h1 := hc i n hn
          have h2 := hk.block g (World.block_lt_of_cell? _ _ h1) hgb
          simpa [World.cell?, h2] using h1
        have hnm := hl n (List.mem_of_getElem? hn)
        have d1 : ((i : Int) < (l.length : Int)) := by omega
        have h45 := add_45n b k (plus N (dl (l.take i))) n 1 n 1 rfl rfl wr hb hnm (plus_fit _ _) (by omega)
        have ht : plus (plus N (dl (l.take i))) (sgl n 1) = plus N (dl (l.take (i + 1))) := by
          rw [← dl_one, plus_dl, List.take_add_one, hn]; rfl
        rw [ht] at h45
        have HT : Hid (l.take (i + 1) = l.take (i + 1)) := rfl
        clear ht hc
        go_wp2_with (go_at_call 45; (with_reducible refine h45.mono ?_); rintro e w5 ⟨rfl, hb5, hk5⟩)

        refine ⟨⟨i + 1, by omega, by simp, hb5, hk.then hk5⟩, by simp [intOf]; omega⟩
      · go_wp2
        go_end0
        exact ⟨rfl, by rw [List.take_length] at hb; exact hb, hk⟩
theorem when1 (b : Nat) (k : Int) (N : Cn) (h : Bool) (n : Nat) (z : Int) (hz : z = n) (hn : 1 ≤ n ∧ n ≤ 30) (w : World) (hB : Bd w b k N) (hN : Fit N) :
    Calls Tryd.prog 41 #[.pointer (some ⟨b, 2, none⟩), .bool h, .slice (some ⟨w.heap.size, 0, none⟩) 1 1] (w.alloc (.cells #[.int .i64 z] 3)) fun e w' => e = .returned (.tuple #[]) ∧ Bd w' b k (plus N (dl (wh h [n]))) ∧ Kp (· = b) w w' := by
  have ka : Kp (· = b) w (w.alloc (.cells #[.int .i64 z] 3)) := Kp.of (World.grownBy_alloc w _ none)
  have hlt := hB.lt
  have hc := Box.new w 3 #[.int .i64 z]
  refine (when_41 b k N h [n] w.heap.size _ (Box.kept hB (World.grownBy_alloc w _ none) (by simp)) hN (by intro m hm; simp at hm; subst hm; exact hn) (by simp) (by omega) ?_).mono ?_
  · intro i m hm
    match i, hm with
    | 0, hm => simp at hm; subst hm; rw [hc.cell 0, hz]; rfl
    | i + 1, hm => simp at hm
  · rintro e w' ⟨he, hb, hk⟩
    exact ⟨he, hb, ka.then hk⟩
theorem when2 (b : Nat) (k : Int) (N : Cn) (h : Bool) (n m : Nat) (z y : Int) (hz : z = n) (hy : y = m) (hn : 1 ≤ n ∧ n ≤ 30) (hm : 1 ≤ m ∧ m ≤ 30) (w : World) (hB : Bd w b k N) (hN : Fit N) :
    Calls Tryd.prog 41 #[.pointer (some ⟨b, 2, none⟩), .bool h, .slice (some ⟨w.heap.size, 0, none⟩) 2 2] (w.alloc (.cells #[.int .i64 z, .int .i64 y] 3)) fun e w' => e = .returned (.tuple #[]) ∧ Bd w' b k (plus N (dl (wh h [n, m]))) ∧ Kp (· = b) w w' := by
  have ka : Kp (· = b) w (w.alloc (.cells #[.int .i64 z, .int .i64 y] 3)) := Kp.of (World.grownBy_alloc w _ none)
  have hlt := hB.lt
  have hc := Box.new w 3 #[.int .i64 z, .int .i64 y]
  refine (when_41 b k N h [n, m] w.heap.size _ (Box.kept hB (World.grownBy_alloc w _ none) (by simp)) hN (by intro x hx; simp at hx; rcases hx with rfl | rfl; exact hn; exact hm) (by simp) (by omega) ?_).mono ?_
  · intro i x hx
    match i, hx with
    | 0, hx => simp at hx; subst hx; rw [hc.cell 0, hz]; rfl
    | 1, hx => simp at hx; subst hx; rw [hc.cell 1, hy]; rfl
    | i + 2, hx => simp at hx
  · rintro e w' ⟨he, hb, hk⟩
    exact ⟨he, hb, ka.then hk⟩
set_option maxRecDepth 100000 in
set_option maxHeartbeats 4000000 in
theorem one1 (b : Nat) (k : Int) (N : Cn) (n : Nat) (z : Int) (hz : z = n) (hn : 1 ≤ n ∧ n ≤ 30) (w : World) (hB : Bd w b k N) (hN : Fit N) :
    Calls Tryd.prog 62 #[.pointer (some ⟨b, 2, none⟩), .slice (some ⟨w.heap.size, 0, none⟩) 1 1] (w.alloc (.cells #[.int .i64 z] 3)) fun e w' => e = .returned (.tuple #[]) ∧ Bd w' b k (plus N (dl [n])) ∧ Kp (· = b) w w' := by
  have h41 := when1 b k N true n z hz hn w hB hN
  rw [wh_t] at h41
  clear hz
  go_enter Tryd.func62, Tryd.ntmps62
  go_wp2_with (go_at_call 41; (with_reducible refine h41.mono ?_); rintro e w5 ⟨rfl, hb5, hk5⟩)
  go_end0
  exact ⟨rfl, hb5, hk5⟩
set_option maxRecDepth 100000 in
set_option maxHeartbeats 4000000 in
theorem some_59 (b : Nat) (k : Int) (N : Cn) (n : Nat) (z m : Int) (hz : z = n) (hn : 1 ≤ n ∧ n ≤ 30) (hm : m ≤ 9223372036854775807) (w : World) (hB : Bd w b k N) (hN : Fit N) :
    Calls Tryd.prog 59 #[.pointer (some ⟨b, 2, none⟩), .int .i64 z, .int .i64 m] w fun e w' => e = .returned (.tuple #[]) ∧ Bd w' b k (plus N (sgl n m.toNat)) ∧ Kp (· = b) w w' := by
  rcases (by omega : 0 < m ∨ ¬ 0 < m) with h | h
  · have h45 := add_45n b k N n m.toNat z m hz (by omega) w hB hn hN (by omega)
    have e : IntKind.u64.wrap m = m := by simp only [IntKind.wrap_u64]; omega
    clear hz
    go_enter Tryd.func59, Tryd.ntmps59
    go_wp2_with (go_at_call 45; (with_reducible refine h45.mono ?_); rintro e w5 ⟨rfl, hb5, hk5⟩)
    go_end0
    exact ⟨rfl, hb5, hk5⟩
  · have e : plus N (sgl n m.toNat) = N := by
      rw [show m.toNat = 0 by omega, plus_sgl N hN]
      funext i; have := hN i; have := hN n; simp only [upd]; split
      · rename_i h; subst h; omega
      · rfl
    rw [e]
    go_enter Tryd.func59, Tryd.ntmps59
    go_wp2
    go_end0
    exact ⟨rfl, hB, Kp.refl _ _⟩
end Go.Proofs.YtonbkpfnpnlkpaaDoor

import Derived.Test.YtoaaaeefcipdcaaSr
import Derived.Test.YtoaaaeefcipdcaaSp
/-
  Take.
-/
namespace Go.Proofs.Ytoaaaeefcipdcaa
open Go.RowKit
set_option linter.unusedVariables false

/-- The row without its last number, one more taken. -/
def Ab.popt (A : Ab) (i : Nat) : Ab := (A.pop i).stk i (A.tk i + 1)
theorem popt_fit {A : Ab} (h : Fit2 A) {i : Nat} (hi : i < A.n) (hne : A.row i ≠ []) : Fit2 (A.popt i) := by
  refine ⟨⟨⟨⟨h.n1, h.n2, h.lo, h.hi, h.m8, h.up, h.pp, h.mm⟩, h.nm, fun c hc => ?_⟩, h.on⟩, h.gn⟩
  have h1 := h.rt c hc
  show (upd A.row i (A.row i).dropLast c).length + (upd A.tk i (A.tk i + 1) c) ≤ 16777216
  by_cases e : c = i
  · subst e
    rw [upd_same, upd_same]
    have : (A.row c).length ≠ 0 := by simpa using hne
    simp
    omega
  · rw [upd_other _ _ e, upd_other _ _ e]; exact h1

section
variable {w : World} {sb : Nat} {F : Nat → Prop} {B : Bl} {b c d e f g : Int} {A : Ab} {zs : List Int}

theorem take_arg (h : IsS w sb F B b c d e f g A zs) (hA : Szs A) (x : Int) (hx : ¬ (0 ≤ x ∧ x < A.n)) : Calls Try.prog 23 #[.pointer (some ⟨sb, 0, none⟩), .int .i64 x] w fun y w' => y = .returned (.tuple #[.int .u64 0, .int .i64 1]) ∧ w.grownBy w' none := by
  have hh := has_no h hA x hx
  clear h hx
  go_enter Try.func23, Try.ntmps23
  go_wp2_with (first | (go_at_call 57; go_must (refine hh.mono ?_); rintro y w' ⟨rfl, rfl⟩) | fail)
  go_ret2
  exact ⟨rfl, gb_refl _ _⟩

theorem take_room (h : IsS w sb F B b c d e f g A zs) (hA : Fit A) {i : Nat} (hi : i < A.n) (hr : A.row i = []) (hm : A.np = A.m) : Calls Try.prog 23 #[.pointer (some ⟨sb, 0, none⟩), .int .i64 i] w fun y w' => y = .returned (.tuple #[.int .u64 0, .int .i64 21]) ∧ w.grownBy w' none := by
  have hh := has_yes h hA.toSzs i hi
  have hfp := freePages_21 h hA
  have c8 := h.sc 8
  simp [setC] at c8
  have k2 := h.kcell hi (j := 2) (by omega)
  simp only [kindC, List.getElem?_cons_zero, List.getElem?_cons_succ] at k2
  obtain ⟨ao, cp, hrv, _, _, _, _⟩ := row_shape (h.rows i hi)
  rw [hrv, hr] at k2
  rw [hm, Nat.sub_self] at hfp
  have hn2 := hA.n2
  clear h hm hr hrv
  go_enter Try.func23, Try.ntmps23
  go_wp2_with (first | (go_at_call 57; go_must (refine hh.mono ?_); rintro y w' ⟨rfl, rfl⟩) | (go_at_call 58; go_must (refine hfp.mono ?_); rintro y w' ⟨rfl, q, rfl⟩) | fail)
  go_ret2
  exact ⟨rfl, gb_drewN (gb_refl _ _) _⟩

/-- What the rest of Take needs, from a world in which the row holds something. -/
structure TakeKit (w : World) (sb : Nat) (F : Nat → Prop) (B : Bl) (b c d e f g : Int) (A : Ab) (zs : List Int) (i p k gg cap n x : Nat) : Prop where
  hn : n + 1 ≤ cap ∧ cap ≤ maxLen ∧ n ≤ 100000000
  k2 : w.cell? ⟨B.kb, i * 4 + 2, none⟩ = some (.slice (some ⟨gg, 0, none⟩) (n + 1) cap)
  k3 : w.cell? ⟨B.kb, i * 4 + 3, none⟩ = some (.int .i64 (A.tk i))
  kz : ∀ j, w.frozen? ⟨B.kb, j, none⟩ = false
  tkb : A.tk i ≤ 16777216
  xc : w.cell? ⟨gg, n, none⟩ = some (.int .u32 (x : Int))
  pl : ∀ W, Calls Try.prog 60 #[.int .u32 (x : Int)] W fun y w' => y = .returned (.int .i64 (A.place p k)) ∧ W = w'
  fd : Calls Try.prog 61 #[.pointer (some ⟨sb, 0, none⟩), .int .i64 (A.place p k)] ((w.setCell ⟨B.kb, i * 4 + 2, none⟩ (.slice (some ⟨gg, 0, none⟩) n cap)).setCell ⟨B.kb, i * 4 + 3, none⟩ (.int .i64 ((A.tk i : Int) + 1))) fun y w3 => y = .returned (.tuple #[.pointer (some ⟨B.cb p, k * 2, none⟩), .int .i64 i]) ∧
    w3.cell? ⟨B.cb p, k * 2, none⟩ = some (.int .u32 (A.gen p k)) ∧ w3.cell? ⟨B.cb p, k * 2 + 1, none⟩ = some (.bool false) ∧ w3.frozen? ⟨B.cb p, k * 2 + 1, none⟩ = false ∧
    Calls Try.prog 62 #[.pointer (some ⟨sb, 0, none⟩), .int .i64 (A.place p k), .int .u32 (A.gen p k)] (w3.setCell ⟨B.cb p, k * 2 + 1, none⟩ (.bool true)) fun y w5 => y = .returned (.tuple #[]) ∧ w5.cell? ⟨B.cb p, k * 2, none⟩ = some (.int .u32 (A.gen p k)) ∧
      (∃ B', B'.kb = B.kb ∧ IsS w5 sb F B' b c d e f g (A.taken i p k) (headZ zs (A.place p k) (A.gen p k))) ∧ Kp F w w5
  ho : ∀ W, Calls Try.prog 63 #[.int .i64 (A.place p k), .int .u32 (A.gen p k)] W fun y w' => y = .returned (.int .u64 (A.hdl p k)) ∧ W = w'

theorem take_kit (h : IsS w sb F B b c d e f g A zs) (hA : Fit2 A) {i p k : Nat} (hi : i < A.n) (hp : p < A.np) (ho : A.own p = i) (hk : k < A.each i) (ht : A.tkn p k = false) (hl : (A.row i).getLast? = some (A.num p k)) : ∃ gg cap n, TakeKit w sb F B b c d e f g A zs i p k gg cap n (A.num p k) := by
  have hne : A.row i ≠ [] := by intro e; rw [e] at hl; simp at hl
  have hlz : (A.row i).length ≠ 0 := by simpa using hne
  obtain ⟨n, hn⟩ : ∃ n, (A.row i).length = n + 1 := ⟨(A.row i).length - 1, by omega⟩
  obtain ⟨ao, cap, hrv, _, h2, h3, h4⟩ := row_shape (h.rows i hi)
  obtain ⟨gg, rfl⟩ := h4 (by omega)
  have hri := h.rows i hi
  rw [hrv] at hri
  have hk' : k < A.each (A.own p) := by rw [ho]; exact hk
  have hget : (A.row i)[n]? = some (A.num p k) := by
    rw [List.getLast?_eq_getElem?, hn] at hl
    simpa using hl
  have hrt := hA.rt i hi
  obtain ⟨kcur, hkb⟩ := h.kbl
  obtain ⟨n1, n2, n3⟩ := num_lt hA.toFit1 hp hk'
  have hpl := (place_le hA.toFit1 hp hk').1
  have hgn := hA.gn p k
  have k2 := h.kcell hi (j := 2) (by omega)
  have k3 := h.kcell hi (j := 3) (by omega)
  simp only [kindC, List.getElem?_cons_zero, List.getElem?_cons_succ] at k2 k3
  rw [hrv, hn] at k2
  have hS1 := (h.pop hi hrv hn)
  have hK1 : Kp F w (w.setCell ⟨B.kb, i * 4 + 2, none⟩ (.slice (some ⟨gg, 0, none⟩) n cap)) := h.kp_set h.fk _
  have hS2 := hS1.stk (i := i) hi (A.tk i + 1)
  have hK2 := hS1.kp_set (k := B.kb) (j := i * 4 + 3) h.fk (.int .i64 ((A.tk i + 1 : Nat) : Int))
  have e1 : ((A.tk i + 1 : Nat) : Int) = (A.tk i : Int) + 1 := by omega
  change IsS _ sb F _ b c d e f g (A.popt i) zs at hS2
  rw [e1] at hS2 hK2
  have hF2 := popt_fit hA hi hne
  have hpl52 := fun W => placeOf_52 (A.num p k) n1 W
  rw [n3] at hpl52
  refine ⟨gg, cap, n, ⟨by omega, h3, by omega⟩, k2, k3, fun j => by simp [World.frozen?, hkb], by omega, ?_, hpl52, ?_, fun W => handleOf_55 (A.place p k) (A.gen p k) (by omega) hgn W⟩
  · refine row_cell hri n _ ?_
    simp [u32s, hget]
  · have hC : IsC (A.popt i) (A.place p k) p k := ⟨hp, hk', rfl⟩
    refine (find_yes hS2 hF2.toFit1 hC).mono ?_
    rintro y w3 ⟨rfl, hf⟩
    have hS3 := hS2.kept0 hf
    obtain ⟨cc0, cc1⟩ := ccell hS3 (p := p) (k := k) hp hk'
    have hcb := hS3.chunks p hp
    have hS4 := hS3.stkn (p := p) (k := k) hp hk' true
    have hK4 := hS3.kp_set (k := B.cb p) (j := k * 2 + 1) (h.fc p hp) (.bool true)
    have hl5 := lay_54 hS4 (A := (A.popt i).stkn p k true) ⟨⟨⟨hF2.n1, hF2.n2, hF2.lo, hF2.hi, hF2.m8, hF2.up, hF2.pp, hF2.mm⟩, hF2.nm, hF2.rt⟩, hF2.on⟩ (p := p) (k := k) hp hk' (A.gen p k) hgn
    refine ⟨?_, cc0, ?_, by simp [World.frozen?, show w3.heap[B.cb p]? = _ from hcb], hl5.mono ?_⟩
    · show Ending.returned (.tuple #[.pointer (some ⟨B.cb p, k * 2, none⟩), .int .i64 (A.own p)]) = _
      rw [ho]
    · have : (A.popt i).tkn p k = false := ht
      rw [this] at cc1
      exact cc1
    · rintro y w5 ⟨rfl, hS5, hK5⟩
      have cc5 := (ccell hS5 (p := p) (k := k) hp hk').1
      refine ⟨rfl, cc5, ⟨_, by rfl, hS5⟩, ?_⟩
      refine (((hK1.trans hK2 (fun _ h => h) (fun _ h => .inl h)).trans (Kp.of (F := F) hf) (fun _ h => h) (fun _ h => .inl h)).trans hK4 (fun _ h => h) (fun _ h => .inl h)).trans hK5 (fun _ h => h) (fun _ h => .inl h)

set_option maxHeartbeats 2000000 in
/-- Take where the row holds something. -/
theorem take_row (h : IsS w sb F B b c d e f g A zs) (hA : Fit2 A) {i p k : Nat} (hi : i < A.n) (hp : p < A.np) (ho : A.own p = i) (hk : k < A.each i) (ht : A.tkn p k = false) (hl : (A.row i).getLast? = some (A.num p k)) :
    Calls Try.prog 23 #[.pointer (some ⟨sb, 0, none⟩), .int .i64 i] w fun y w' => y = .returned (.tuple #[.int .u64 (A.hdl p k), .int .i64 0]) ∧ (∃ B', B'.kb = B.kb ∧ IsS w' sb F B' b c d e f g (A.taken i p k) (headZ zs (A.place p k) (A.gen p k))) ∧ Kp F w w' := by
  have hh := has_yes h hA.toSzs i hi
  have c8 := h.sc 8
  simp [setC] at c8
  obtain ⟨gg, cap, n, kit⟩ := take_kit h hA hi hp ho hk ht hl
  obtain ⟨⟨q1, q2, q3⟩, k2, k3, kz, tkb, xc, hpl, hfd, hho⟩ := kit
  have kz2 := kz (i * 4 + 2)
  have kz3 := kz (i * 4 + 3)
  have hn2 := hA.n2
  have hnz : ((n : Int) + 1 == 0) = false := by simp; omega
  have hnz2 : decide ((n : Int) + 1 = 0) = false := by simp; omega
  clear h hl ht kz
  generalize A.taken i p k = AT at *
  generalize A.hdl p k = hd at *
  generalize A.place p k = pl at *
  generalize A.num p k = x at *
  generalize A.gen p k = gn at *
  generalize A.tk i = tk at *
  generalize B.cb p = cb at *
  go_enter Try.func23, Try.ntmps23
  go_wp2_with (first | (go_at_call 57; go_must (refine hh.mono ?_); rintro y w' ⟨rfl, rfl⟩) | (go_at_call 60; go_must (refine (hpl _).mono ?_); rintro y w' ⟨rfl, rfl⟩) | (go_at_call 61; go_must (refine hfd.mono ?_); rintro y w3 ⟨rfl, g0, g1, gz, hlay⟩) | (go_at_call 62; go_must (refine hlay.mono ?_); rintro y w5 ⟨rfl, g5, hS5, hK5⟩) | (go_at_call 63; go_must (refine (hho _).mono ?_); rintro y w' ⟨rfl, rfl⟩) | fail)
  go_ret2
  exact ⟨rfl, hS5, hK5⟩

theorem nums_last (A : Ab) (i : Nat) (h : 0 < A.each i) : (A.nums i 0).getLast? = some ((A.np * A.ps + 0 * A.sz i) / 8 + 1) := by
  rw [← nums_step A i 0 h, List.getLast?_append]
  simp

set_option maxHeartbeats 2000000 in
/-- Take where the row is empty and a page is free. -/
theorem take_page (h : IsS w sb F B b c d e f g A zs) (hI : Inv A) {i : Nat} (hi : i < A.n) (hr : A.row i = []) (hm : A.np < A.m) :
    Calls Try.prog 23 #[.pointer (some ⟨sb, 0, none⟩), .int .i64 i] w fun y w' => y = .returned (.tuple #[.int .u64 ((A.owned i).hdl A.np 0), .int .i64 0]) ∧ Kp F w w' ∧ ∃ F' B', IsS w' sb F' B' b c d e f g ((A.owned i).taken i A.np 0) (headZ zs ((A.owned i).place A.np 0) ((A.owned i).gen A.np 0)) ∧ ∀ k, F' k → F k ∨ w.heap.size ≤ k := by
  have hA := hI.fit
  have hIo := hI.own hi hm
  have hh := has_yes h hA.toSzs i hi
  have hfp := freePages_21 h hA.toFit
  have c8 := h.sc 8
  simp [setC] at c8
  have k2 := h.kcell hi (j := 2) (by omega)
  simp only [kindC, List.getElem?_cons_zero, List.getElem?_cons_succ] at k2
  obtain ⟨ao, cp, hrv, _, _, _, _⟩ := row_shape (h.rows i hi)
  rw [hrv, hr] at k2
  have hn2 := hA.n2
  have hea := (hA.toSzs.each hi).1
  have hrow0 : ((A.owned i).row i).getLast? = some ((A.owned i).num A.np 0) := by
    rw [owned_row, if_pos rfl, hr, List.nil_append, nums_last A i (by omega), owned_num2]
  have hown := fun q => (own_51 (w := w.drewN q) (h.kept0 (gb_drewN (gb_refl _ none) q)) hA.toFit1 i hi hm).mono (R' := fun y w1 => y = .returned (.tuple #[]) ∧ ∃ F' B' gg cap n, TakeKit w1 sb F' B' b c d e f g (A.owned i) zs i A.np 0 gg cap n ((A.owned i).num A.np 0) ∧ B'.kb = B.kb ∧ Kp F w w1 ∧ ∀ k, F' k → F k ∨ w.heap.size ≤ k) (by
    rintro y w1 ⟨rfl, hK, F', B', hS', hkb, hF'⟩
    obtain ⟨gg, cap, n, kit⟩ := take_kit hS' hIo.fit (i := i) (p := A.np) (k := 0) (by rw [owned_n]; exact hi) (by rw [owned_np]; omega) (by rw [owned_own, if_pos rfl]) (by rw [owned_each]; omega) (by rw [owned_tkn, if_pos rfl]) hrow0
    exact ⟨rfl, F', B', gg, cap, n, kit, hkb, (Kp.of (F := F) (gb_drewN (gb_refl _ none) q)).trans hK (fun _ h => h) (fun _ h => .inl h), hF'⟩)
  obtain ⟨fp, hfpe⟩ : ∃ fp, fp = A.m - A.np := ⟨_, rfl⟩
  rw [← hfpe] at hfp
  have hfp0 : 0 < fp := by omega
  have hmm := hA.mm
  have hfp1 : fp ≤ 1024 := by omega
  have hd1 : decide ((fp : Int) = 0) = false := by simp; omega
  have hd2 : decide (fp = 0) = false := by simp; omega
  have hd3 : ((fp : Int) == 0) = false := by simp; omega
  clear h hm hr hrv hfpe hrow0 hI hIo
  generalize hAT : (A.owned i).taken i A.np 0 = AT at *
  go_enter Try.func23, Try.ntmps23
  go_wp2_with (first | (go_at_call 57; go_must (refine hh.mono ?_); rintro y w' ⟨rfl, rfl⟩) | (go_at_call 58; go_must (refine hfp.mono ?_); rintro y w' ⟨rfl, q, rfl⟩) | (go_at_call 59; go_must (refine (hown _).mono ?_); rintro y w1 ⟨rfl, F', B', gg, cap, n, kit, hkb, hK1, hF'⟩; obtain ⟨⟨q1, q2, q3⟩, k2', k3, kz, tkb, xc, hpl, hfd, hho⟩ := kit; rw [hkb] at k2' k3 hfd; (have kz2 := kz (i * 4 + 2)); (have kz3 := kz (i * 4 + 3)); rw [hkb] at kz2 kz3; rw [hAT] at hfd; clear hh hfp c8 k2 kz hown; generalize E1 : (A.owned i).hdl A.np 0 = hd at *; generalize E2 : (A.owned i).place A.np 0 = pl at *; generalize (A.owned i).num A.np 0 = x at *; generalize E3 : (A.owned i).gen A.np 0 = gn at *; generalize (A.owned i).tk i = tk at *; generalize B'.cb A.np = cb at *) | (go_at_call 60; go_must (refine (hpl _).mono ?_); rintro y w' ⟨rfl, rfl⟩) | (go_at_call 61; go_must (refine hfd.mono ?_); rintro y w3 ⟨rfl, g0, g1, gz, hlay⟩) | (go_at_call 62; go_must (refine hlay.mono ?_); rintro y w5 ⟨rfl, g5, hS5, hK5⟩) | (go_at_call 63; go_must (refine (hho _).mono ?_); rintro y w' ⟨rfl, rfl⟩) | fail)
  go_ret2
  obtain ⟨B'', _, hS5⟩ := hS5
  rw [E1, E2, E3]
  exact ⟨rfl, hK1.trans hK5 (fun _ h => h) (fun k hk => hF' k hk), F', B'', hS5, hF'⟩
end

end Go.Proofs.Ytoaaaeefcipdcaa

import Derived.Test.YtjkdflnnpdionaaGreatSr
import Derived.Test.YtjkdflnnpdionaaGreatSp
/-
  Take.
-/
namespace Go.Proofs.YtjkdflnnpdionaaGreat
open Go.RowKit
set_option linter.unusedVariables false

/-- The row without its last number, one more taken. -/
def Ab.popt (A : Ab) (i : Nat) : Ab := (A.pop i).stk i (A.tk i + 1)
theorem popt_fit {A : Ab} (h : Fit2 A) {i : Nat} (hi : i < A.n) (hne : A.row i ≠ []) : Fit2 (A.popt i) := by
  refine ⟨⟨⟨⟨h.n1, h.n2, h.lo, h.hi, h.m8, h.up, h.pp, h.mm⟩, h.nm, fun c hc => ?_⟩, h.on⟩, h.gn⟩
  have h1 := h.rt c hc
  show (upd A.row i (A.row i).dropLast c).length + (upd A.tk i (A.tk i + 1) c) ≤ 16777216
  by_cases e : c = i
  · subst e
    rw [upd_same, upd_same]
    have : (A.row c).length ≠ 0 := by simpa using hne
    simp
    omega
  · rw [upd_other _ _ e, upd_other _ _ e]; exact h1

section
variable {w : World} {sb : Nat} {F : Nat → Prop} {B : Bl} {b c d e f g : Int} {A : Ab} {zs : List Int}

theorem take_arg (h : IsS w sb F B b c d e f g A zs) (hA : Szs A) (x : Int) (hx : ¬ (0 ≤ x ∧ x < A.n)) : Calls Tryz.prog 69 #[.pointer (some ⟨sb, 0, none⟩), .int .i64 x] w fun y w' => y = .returned (.tuple #[.int .u64 0, .int .i64 1]) ∧ w.grownBy w' none := by
  have hh := has_no h hA x hx
  clear h hx
  go_enter Tryz.func69, Tryz.ntmps69
  go_wp2_with (first | (go_at_call 131; go_must (refine hh.mono ?_); rintro y w' ⟨rfl, rfl⟩) | fail)
  go_ret2
  exact ⟨rfl, gb_refl _ _⟩

theorem take_room (h : IsS w sb F B b c d e f g A zs) (hA : Fit A) {i : Nat} (hi : i < A.n) (hr : A.row i = []) (hm : A.np = A.m) : Calls Tryz.prog 69 #[.pointer (some ⟨sb, 0, none⟩), .int .i64 i] w fun y w' => y = .returned (.tuple #[.int .u64 0, .int .i64 21]) ∧ w.grownBy w' none := by
  have hh := has_yes h hA.toSzs i hi
  have hfp := freePages_21 h hA
  have c8 := h.sc 8
  simp [setC] at c8
  have k2 := h.kcell hi (j := 2) (by omega)
  simp only [kindC, List.getElem?_cons_zero, List.getElem?_cons_succ] at k2
  obtain ⟨ao, cp, hrv, _, _, _, _⟩ := row_shape (h.rows i hi)
  rw [hrv, hr] at k2
  rw [hm, Nat.sub_self] at hfp
  have hn2 := hA.n2
  clear h hm hr hrv
  go_enter Tryz.func69, Tryz.ntmps69
  go_wp2_with (first | (go_at_call 131; go_must (refine hh.mono ?_); rintro y w' ⟨rfl, rfl⟩) | (go_at_call 132; go_must (refine hfp.mono ?_); rintro y w' ⟨rfl, q, rfl⟩) | fail)
  go_ret2
  exact ⟨rfl, gb_drewN (gb_refl _ _) _⟩

/-- What the rest of Take needs, from a world in which the row holds something. -/
structure TakeKit (w : World) (sb : Nat) (F : Nat → Prop) (B : Bl) (b c d e f g : Int) (A : Ab) (zs : List Int) (i p k gg cap n x : Nat) : Prop where
  hn : n + 1 ≤ cap ∧ cap ≤ maxLen ∧ n ≤ 100000000
  k2 : w.cell? ⟨B.kb, i * 4 + 2, none⟩ = some (.slice (some ⟨gg, 0, none⟩) (n + 1) cap)
  k3 : w.cell? ⟨B.kb, i * 4 + 3, none⟩ = some (.int .i64 (A.tk i))
  kz : ∀ j, w.frozen? ⟨B.kb, j, none⟩ = false
  tkb : A.tk i ≤ 16777216
  xc : w.cell? ⟨gg, n, none⟩ = some (.int .u32 (x : Int))
  pl : ∀ W, Calls Tryz.prog 134 #[.int .u32 (x : Int)] W fun y w' => y = .returned (.int .i64 (A.place p k)) ∧ W = w'
  fd : Calls Tryz.prog 135 #[.pointer (some ⟨sb, 0, none⟩), .int .i64 (A.place p k)] ((w.setCell ⟨B.kb, i * 4 + 2, none⟩ (.slice (some ⟨gg, 0, none⟩) n cap)).setCell ⟨B.kb, i * 4 + 3, none⟩ (.int .i64 ((A.tk i : Int) + 1))) fun y w3 => y = .returned (.tuple #[.pointer (some ⟨B.cb p, k * 2, none⟩), .int .i64 i]) ∧
    w3.cell? ⟨B.cb p, k * 2, none⟩ = some (.int .u32 (A.gen p k)) ∧ w3.cell? ⟨B.cb p, k * 2 + 1, none⟩ = some (.bool false) ∧ w3.frozen? ⟨B.cb p, k * 2 + 1, none⟩ = false ∧
    Calls Tryz.prog 136 #[.pointer (some ⟨sb, 0, none⟩), .int .i64 (A.place p k), .int .u32 (A.gen p k)] (w3.setCell ⟨B.cb p, k * 2 + 1, none⟩ (.bool true)) fun y w5 => y = .returned (.tuple #[]) ∧ w5.cell? ⟨B.cb p, k * 2, none⟩ = some (.int .u32 (A.gen p k)) ∧
      (∃ B', B'.kb = B.kb ∧ IsS w5 sb F B' b c d e f g (A.taken i p k) (headZ zs (A.place p k) (A.gen p k))) ∧ Kp F w w5
  ho : ∀ W, Calls Tryz.prog 137 #[.int .i64 (A.place p k), .int .u32 (A.gen p k)] W fun y w' => y = .returned (.int .u64 (A.hdl p k)) ∧ W = w'

theorem take_kit (h : IsS w sb F B b c d e f g A zs) (hA : Fit2 A) {i p k : Nat} (hi : i < A.n) (hp : p < A.np) (ho : A.own p = i) (hk : k < A.each i) (ht : A.tkn p k = false) (hl : (A.row i).getLast? = some (A.num p k)) : ∃ gg cap n, TakeKit w sb F B b c d e f g A zs i p k gg cap n (A.num p k) := by
  have hne : A.row i ≠ [] := by intro e; rw [e] at hl; simp at hl
  have hlz : (A.row i).length ≠ 0 := by simpa using hne
  obtain ⟨n, hn⟩ : ∃ n, (A.row i).length = n + 1 := ⟨(A.row i).length - 1, by omega⟩
  obtain ⟨ao, cap, hrv, _, h2, h3, h4⟩ := row_shape (h.rows i hi)
  obtain ⟨gg, rfl⟩ := h4 (by omega)
  have hri := h.rows i hi
  rw [hrv] at hri
  have hk' : k < A.each (A.own p) := by rw [ho]; exact hk
  have hget : (A.row i)[n]? = some (A.num p k) := by
    rw [List.getLast?_eq_getElem?, hn] at hl
    simpa using hl
  have hrt := hA.rt i hi
  obtain ⟨kcur, hkb⟩ := h.kbl
  obtain ⟨n1, n2, n3⟩ := num_lt hA.toFit1 hp hk'
  have hpl := (place_le hA.toFit1 hp hk').1
  have hgn := hA.gn p k
  have k2 := h.kcell hi (j := 2) (by omega)
  have k3 := h.kcell hi (j := 3) (by omega)
  simp only [kindC, List.getElem?_cons_zero, List.getElem?_cons_succ] at k2 k3
  rw [hrv, hn] at k2
  have hS1 := (h.pop hi hrv hn)
  have hK1 : Kp F w (w.setCell ⟨B.kb, i * 4 + 2, none⟩ (.slice (some ⟨gg, 0, none⟩) n cap)) := h.kp_set h.fk _
  have hS2 := hS1.stk (i := i) hi (A.tk i + 1)
  have hK2 := hS1.kp_set (k := B.kb) (j := i * 4 + 3) h.fk (.int .i64 ((A.tk i + 1 : Nat) : Int))
  have e1 : ((A.tk i + 1 : Nat) : Int) = (A.tk i : Int) + 1 := by omega
  change IsS _ sb F _ b c d e f g (A.popt i) zs at hS2
  rw [e1] at hS2 hK2
  have hF2 := popt_fit hA hi hne
  have hpl52 := fun W => placeOf_52 (A.num p k) n1 W
  rw [n3] at hpl52
  refine ⟨gg, cap, n, ⟨by omega, h3, by omega⟩, k2, k3, fun j => by simp [World.frozen?, hkb], by omega, ?_, hpl52, ?_, fun W => handleOf_55 (A.place p k) (A.gen p k) (by omega) hgn W⟩
  · refine row_cell hri n _ ?_
    simp [u32s, hget]
  · have hC : IsC (A.popt i) (A.place p k) p k := ⟨hp, hk', rfl⟩
    refine (find_yes hS2 hF2.toFit1 hC).mono ?_
    rintro y w3 ⟨rfl, hf⟩
    have hS3 := hS2.kept0 hf
    obtain ⟨cc0, cc1⟩ := ccell hS3 (p := p) (k := k) hp hk'
    have hcb := hS3.chunks p hp
    have hS4 := hS3.stkn (p := p) (k := k) hp hk' true
    have hK4 := hS3.kp_set (k := B.cb p) (j := k * 2 + 1) (h.fc p hp) (.bool true)
    have hl5 := lay_54 hS4 (A := (A.popt i).stkn p k true) ⟨⟨⟨hF2.n1, hF2.n2, hF2.lo, hF2.hi, hF2.m8, hF2.up, hF2.pp, hF2.mm⟩, hF2.nm, hF2.rt⟩, hF2.on⟩ (p := p) (k := k) hp hk' (A.gen p k) hgn
    refine ⟨?_, cc0, ?_, by simp [World.frozen?, show w3.heap[B.cb p]? = _ from hcb], hl5.mono ?_⟩
    · show Ending.returned (.tuple #[.pointer (some ⟨B.cb p, k * 2, none⟩), .int .i64 (A.own p)]) = _
      rw [ho]
    · have : (A.popt i).tkn p k = false := ht
      rw [this] at cc1
      exact cc1
    · rintro y w5 ⟨rfl, hS5, hK5⟩
      have cc5 := (ccell hS5 (p := p) (k := k) hp hk').1
      refine ⟨rfl, cc5, ⟨_, by rfl, hS5⟩, ?_⟩
      refine (((hK1.trans hK2 (fun _ h => h) (fun _ h => .inl h)).trans (Kp.of (F := F) hf) (fun _ h => h) (fun _ h => .inl h)).trans hK4 (fun _ h => h) (fun _ h => .inl h)).trans hK5 (fun _ h => h) (fun _ h => .inl h)

set_option maxHeartbeats 2000000 in
/-- Take where the row holds something. -/
theorem take_row (h : IsS w sb F B b c d e f g A zs) (hA : Fit2 A) {i p k : Nat} (hi : i < A.n) (hp : p < A.np) (ho : A.own p = i) (hk : k < A.each i) (ht : A.tkn p k = false) (hl : (A.row i).getLast? = some (A.num p k)) :
    Calls Tryz.prog 69 #[.pointer (some ⟨sb, 0, none⟩), .int .i64 i] w fun y w' => y = .returned (.tuple #[.int .u64 (A.hdl p k), .int .i64 0]) ∧ (∃ B', B'.kb = B.kb ∧ IsS w' sb F B' b c d e f g (A.taken i p k) (headZ zs (A.place p k) (A.gen p k))) ∧ Kp F w w' := by
  have hh := has_yes h hA.toSzs i hi
  have c8 := h.sc 8
  simp [setC] at c8
  obtain ⟨gg, cap, n, kit⟩ := take_kit h hA hi hp ho hk ht hl
  obtain ⟨⟨q1, q2, q3⟩, k2, k3, kz, tkb, xc, hpl, hfd, hho⟩ := kit
  have kz2 := kz (i * 4 + 2)
  have kz3 := kz (i * 4 + 3)
  have hn2 := hA.n2
  have hnz : ((n : Int) + 1 == 0) = false := by simp; omega
  have hnz2 : decide ((n : Int) + 1 = 0) = false := by simp; omega
  clear h hl ht kz
  generalize A.taken i p k = AT at *
  generalize A.hdl p k = hd at *
  generalize A.place p k = pl at *
  generalize A.num p k = x at *
  generalize A.gen p k = gn at *
  generalize A.tk i = tk at *
  generalize B.cb p = cb at *
  go_enter Tryz.func69, Tryz.ntmps69
  go_wp2_with (first | (go_at_call 131; go_must (refine hh.mono ?_); rintro y w' ⟨rfl, rfl⟩) | (go_at_call 134; go_must (refine (hpl _).mono ?_); rintro y w' ⟨rfl, rfl⟩) | (go_at_call 135; go_must (refine hfd.mono ?_); rintro y w3 ⟨rfl, g0, g1, gz, hlay⟩) | (go_at_call 136; go_must (refine hlay.mono ?_); rintro y w5 ⟨rfl, g5, hS5, hK5⟩) | (go_at_call 137; go_must (refine (hho _).mono ?_); rintro y w' ⟨rfl, rfl⟩) | fail)
  go_ret2
  exact ⟨rfl, hS5, hK5⟩

theorem nums_last (A : Ab) (i : Nat) (h : 0 < A.each i) : (A.nums i 0).getLast? = some ((A.np * A.ps + 0 * A.sz i) / 8 + 1) := by
  rw [← nums_step A i 0 h, List.getLast?_append]
  simp

set_option maxHeartbeats 2000000 in
/-- Take where the row is empty and a page is free. -/
theorem take_page (h : IsS w sb F B b c d e f g A zs) (hI : Inv A) {i : Nat} (hi : i < A.n) (hr : A.row i = []) (hm : A.np < A.m) :
    Calls Tryz.prog 69 #[.pointer (some ⟨sb, 0, none⟩), .int .i64 i] w fun y w' => y = .returned (.tuple #[.int .u64 ((A.owned i).hdl A.np 0), .int .i64 0]) ∧ Kp F w w' ∧ ∃ F' B', IsS w' sb F' B' b c d e f g ((A.owned i).taken i A.np 0) (headZ zs ((A.owned i).place A.np 0) ((A.owned i).gen A.np 0)) ∧ ∀ k, F' k → F k ∨ w.heap.size ≤ k := by
  have hA := hI.fit
  have hIo := hI.own hi hm
  have hh := has_yes h hA.toSzs i hi
  have hfp := freePages_21 h hA.toFit
  have c8 := h.sc 8
  simp [setC] at c8
  have k2 := h.kcell hi (j := 2) (by omega)
  simp only [kindC, List.getElem?_cons_zero, List.getElem?_cons_succ] at k2
  obtain ⟨ao, cp, hrv, _, _, _, _⟩ := row_shape (h.rows i hi)
  rw [hrv, hr] at k2
  have hn2 := hA.n2
  have hea := (hA.toSzs.each hi).1
  have hrow0 : ((A.owned i).row i).getLast? = some ((A.owned i).num A.np 0) := by
    rw [owned_row, if_pos rfl, hr, List.nil_append, nums_last A i (by omega), owned_num2]
  have hown := fun q => (own_51 (w := w.drewN q) (h.kept0 (gb_drewN (gb_refl _ none) q)) hA.toFit1 i hi hm).mono (R' := fun y w1 => y = .returned (.tuple #[]) ∧ ∃ F' B' gg cap n, TakeKit w1 sb F' B' b c d e f g (A.owned i) zs i A.np 0 gg cap n ((A.owned i).num A.np 0) ∧ B'.kb = B.kb ∧ Kp F w w1 ∧ ∀ k, F' k → F k ∨ w.heap.size ≤ k) (by
    rintro y w1 ⟨rfl, hK, F', B', hS', hkb, hF'⟩
    obtain ⟨gg, cap, n, kit⟩ := take_kit hS' hIo.fit (i := i) (p := A.np) (k := 0) (by rw [owned_n]; exact hi) (by rw [owned_np]; omega) (by rw [owned_own, if_pos rfl]) (by rw [owned_each]; omega) (by rw [owned_tkn, if_pos rfl]) hrow0
    exact ⟨rfl, F', B', gg, cap, n, kit, hkb, (Kp.of (F := F) (gb_drewN (gb_refl _ none) q)).trans hK (fun _ h => h) (fun _ h => .inl h), hF'⟩)
  obtain ⟨fp, hfpe⟩ : ∃ fp, fp = A.m - A.np := ⟨_, rfl⟩
  rw [← hfpe] at hfp
  have hfp0 : 0 < fp := by omega
  have hmm := hA.mm
  have hfp1 : fp ≤ 1024 := by omega
  have hd1 : decide ((fp : Int) = 0) = false := by simp; omega
  have hd2 : decide (fp = 0) = false := by simp; omega
  have hd3 : ((fp : Int) == 0) = false := by simp; omega
  clear h hm hr hrv hfpe hrow0 hI hIo
  generalize hAT : (A.owned i).taken i A.np 0 = AT at *
  go_enter Tryz.func69, Tryz.ntmps69
  go_wp2_with (first | (go_at_call 131; go_must (refine hh.mono ?_); rintro y w' ⟨rfl, rfl⟩) | (go_at_call 132; go_must (refine hfp.mono ?_); rintro y w' ⟨rfl, q, rfl⟩) | (go_at_call 133; go_must (refine (hown _).mono ?_); rintro y w1 ⟨rfl, F', B', gg, cap, n, kit, hkb, hK1, hF'⟩; obtain ⟨⟨q1, q2, q3⟩, k2', k3, kz, tkb, xc, hpl, hfd, hho⟩ := kit; rw [hkb] at k2' k3 hfd; (have kz2 := kz (i * 4 + 2)); (have kz3 := kz (i * 4 + 3)); rw [hkb] at kz2 kz3; rw [hAT] at hfd; clear hh hfp c8 k2 kz hown; generalize E1 : (A.owned i).hdl A.np 0 = hd at *; generalize E2 : (A.owned i).place A.np 0 = pl at *; generalize (A.owned i).num A.np 0 = x at *; generalize E3 : (A.owned i).gen A.np 0 = gn at *; generalize (A.owned i).tk i = tk at *; generalize B'.cb A.np = cb at *) | (go_at_call 134; go_must (refine (hpl _).mono ?_); rintro y w' ⟨rfl, rfl⟩) | (go_at_call 135; go_must (refine hfd.mono ?_); rintro y w3 ⟨rfl, g0, g1, gz, hlay⟩) | (go_at_call 136; go_must (refine hlay.mono ?_); rintro y w5 ⟨rfl, g5, hS5, hK5⟩) | (go_at_call 137; go_must (refine (hho _).mono ?_); rintro y w' ⟨rfl, rfl⟩) | fail)
  go_ret2
  obtain ⟨B'', _, hS5⟩ := hS5
  rw [E1, E2, E3]
  exact ⟨rfl, hK1.trans hK5 (fun _ h => h) (fun k hk => hF' k hk), F', B'', hS5, hF'⟩
end

end Go.Proofs.YtjkdflnnpdionaaGreat
/-
  Give.
-/
namespace Go.Proofs.YtjkdflnnpdionaaGreat
open Go.RowKit
set_option linter.unusedVariables false

section
variable {w : World} {sb : Nat} {F : Nat → Prop} {B : Bl} {b c d e f g : Int} {A : Ab} {zs : List Int}

theorem give_no (h : IsS w sb F B b c d e f g A zs) (hA : Fit2 A) {H : Nat} (h64 : H < 18446744073709551616) (hH : ∀ p k, ¬ IsH A H p k) :
    Calls Tryz.prog 122 #[.pointer (some ⟨sb, 0, none⟩), .int .u64 H] w fun y w' => y = .returned (.int .i64 20) ∧ w.grownBy w' none := by
  have hg := good_no h hA h64 hH
  clear h hH
  go_enter Tryz.func122, Tryz.ntmps122
  go_wp2_with (first | (go_at_call 155; go_must (refine hg.mono ?_); rintro y w1 ⟨rfl, hf⟩) | fail)
  go_ret
  exact ⟨rfl, hf⟩

/-- A Set behind the first writes of Give. -/
def Ab.gave (A : Ab) (p k v : Nat) : Ab := ((A.stkn p k false).sgen p k v).stk (A.own p) (A.tk (A.own p) - 1)

set_option maxRecDepth 100000 in
set_option maxHeartbeats 4000000 in
theorem give_yes (h : IsS w sb F B b c d e f g A zs) (hI : Inv A) {H p k : Nat} (hH : IsH A H p k) (v : Nat) (hv : Hid (v = (A.gen p k + 1) % 4294967296)) :
    Calls Tryz.prog 122 #[.pointer (some ⟨sb, 0, none⟩), .int .u64 H] w fun y w' => y = .returned (.int .i64 0) ∧ Kp F w w' ∧ ∃ F' B', IsS w' sb F' B' b c d e f g (A.given p k v) zs ∧ ∀ k, F' k → F k ∨ w.heap.size ≤ k := by
  have hA := hI.fit
  have hp := hH.hp
  have hk := hH.hk
  have ht := hH.ht
  have ho := hA.on p hp
  obtain ⟨o, hoo⟩ : ∃ o, o = A.own p := ⟨_, rfl⟩
  have hpos : 1 ≤ A.tk o := by
    rw [hoo, hI.tc _ ho, tkc_give hp hk ht (A.own p)]; simp
  have hrt := hA.rt _ ho
  have hpl := (place_le hA.toFit1 hp hk).1
  have hgn := hA.gn p k
  have hg := (good_yes h hA hH).mono (R' := fun y w1 => y = .returned (.tuple #[.pointer (some ⟨B.cb p, k * 2, none⟩), .int .i64 (A.place p k), .int .i64 (A.own p)]) ∧ w.grownBy w1 none ∧ IsS w1 sb F B b c d e f g A zs) (by rintro y w1 ⟨rfl, hf⟩; exact ⟨rfl, hf, h.kept0 hf⟩)
  have hnum := fun W => numberOf_60 (A.place p k) (by omega) W
  rw [show A.place p k / 8 + 1 = A.num p k from rfl] at hnum
  -- all that is known of a world behind 'good'
  have pk : ∀ w1, IsS w1 sb F B b c d e f g A zs →
      (w1.cell? ⟨B.cb p, k * 2, none⟩ = some (.int .u32 (A.gen p k)) ∧ w1.cell? ⟨B.cb p, k * 2 + 1, none⟩ = some (.bool true) ∧ (∀ j, w1.frozen? ⟨B.cb p, j, none⟩ = false) ∧ w1.cell? ⟨sb, 8, none⟩ = some (.slice (some ⟨B.kb, 0, none⟩) A.n B.kc) ∧ w1.cell? ⟨B.kb, o * 4 + 3, none⟩ = some (.int .i64 (A.tk o)) ∧ (∀ j, w1.frozen? ⟨B.kb, j, none⟩ = false) ∧ B.cb p ≠ B.kb ∧ B.cb p ≠ sb ∧ B.kb ≠ sb) ∧
      IsS (((w1.setCell ⟨B.cb p, k * 2 + 1, none⟩ (.bool false)).setCell ⟨B.cb p, k * 2, none⟩ (.int .u32 (v : Int))).setCell ⟨B.kb, o * 4 + 3, none⟩ (.int .i64 ((A.tk o : Int) - 1))) sb F B b c d e f g (A.gave p k v) zs ∧
      Kp F w1 (((w1.setCell ⟨B.cb p, k * 2 + 1, none⟩ (.bool false)).setCell ⟨B.cb p, k * 2, none⟩ (.int .u32 (v : Int))).setCell ⟨B.kb, o * 4 + 3, none⟩ (.int .i64 ((A.tk o : Int) - 1))) := by
    intro w1 h1
    obtain ⟨c0, c1⟩ := ccell h1 hp hk
    rw [ht] at c1
    have hcb := h1.chunks p hp
    have c8 := h1.sc 8
    simp [setC] at c8
    obtain ⟨kcur, hkb⟩ := h1.kbl
    have k3 := h1.kcell ho (j := 3) (by omega)
    simp only [kindC, List.getElem?_cons_zero, List.getElem?_cons_succ] at k3
    rw [← hoo] at k3
    have s1 := h1.stkn hp hk false
    have s2 := s1.sgen (p := p) (k := k) hp hk v
    have s3 := s2.stk (i := A.own p) ho (A.tk (A.own p) - 1)
    have e1 : ((A.tk (A.own p) - 1 : Nat) : Int) = (A.tk o : Int) - 1 := by rw [← hoo]; omega
    rw [e1, ← hoo] at s3
    refine ⟨⟨c0, c1, fun j => by simp [World.frozen?, hcb], c8, k3, fun j => by simp [World.frozen?, hkb], ne_of_type hcb hkb (by decide), ne_of_type hcb h1.box (by decide), ne_of_type hkb h1.box (by decide)⟩, by unfold Ab.gave; rw [← hoo]; exact s3, ?_⟩
    exact ((h1.kp_set (h1.fc p hp) _).trans (s1.kp_set (h1.fc p hp) _) (fun _ h => h) (fun _ h => .inl h)).trans (s2.kp_set h1.fk _) (fun _ h => h) (fun _ h => .inl h)
  have hwv : IntKind.u32.wrap ((A.gen p k : Int) + 1) = v := by
    have := hv.out
    rw [IntKind.wrap_u32]; omega
  have hn2 := hA.n2
  have HG : Hid (∀ q : Ab, q = A.gave p k v → q.push o (A.num p k) = A.given p k v) := by
    intro q hq; rw [hq, hoo]; rfl
  rw [← hoo] at hg hrt ho
  have hrowe : (A.gave p k v).row = A.row := rfl
  have hne : (A.gave p k v).n = A.n := rfl
  clear h hH ht hI hv hoo
  generalize hAG : A.given p k v = AG at *
  generalize hAV : A.gave p k v = AV at *
  generalize A.place p k = pl at *
  generalize A.num p k = x at *
  generalize A.gen p k = gn at *
  go_enter Tryz.func122, Tryz.ntmps122
  go_wp2_with (first | (go_at_call 155; go_must (refine hg.mono ?_); rintro y w1 ⟨rfl, hf, hS1⟩; obtain ⟨⟨p0, p1, pz, p8, p3, kz, n1, n2, n3⟩, hS3, hK3⟩ := pk w1 hS1; (have pz0 := pz (k * 2)); (have pz1 := pz (k * 2 + 1)); (have kz3 := kz (o * 4 + 3)); clear pk hg) | fail)
  have hK1 : Kp F w (((w1.setCell ⟨B.cb p, k * 2 + 1, none⟩ (.bool false)).setCell ⟨B.cb p, k * 2, none⟩ (.int .u32 (v : Int))).setCell ⟨B.kb, o * 4 + 3, none⟩ (.int .i64 ((A.tk o : Int) - 1))) := (Kp.of (F := F) hf).trans hK3 (fun _ h => h) (fun _ h => .inl h)
  generalize ((w1.setCell ⟨B.cb p, k * 2 + 1, none⟩ (.bool false)).setCell ⟨B.cb p, k * 2, none⟩ (.int .u32 (v : Int))).setCell ⟨B.kb, o * 4 + 3, none⟩ (.int .i64 ((A.tk o : Int) - 1)) = W at *
  clear p0 p1 pz p8 p3 kz pz0 pz1 kz3 hK3 hS1 hf n1 n2 n3
  have hoAV : o < AV.n := by rw [hne]; exact ho
  have r2 := hS3.kcell (i := o) hoAV (j := 2) (by omega)
  simp only [kindC, List.getElem?_cons_zero, List.getElem?_cons_succ] at r2
  have hrow := hS3.rows o hoAV
  obtain ⟨cur, hcur⟩ := hS3.kbl
  have rz : W.frozen? ⟨B.kb, o * 4 + 2, none⟩ = false := by simp [World.frozen?, hcur]
  have hlen : (AV.row o).length ≤ 16777216 := by rw [hrowe]; omega
  have hnk : (B.rv o).ownBlock = some B.kb → False := fun e => by
    obtain ⟨cur2, hc2⟩ := row_block hrow _ e
    exact ne_of_type hcur hc2 (by decide) rfl
  have HS : Hid (IsS W sb F B b c d e f g AV zs) := hS3
  have HK : Hid (Kp F w W) := hK1
  have hsw : Hid (w.heap.size ≤ W.heap.size) := hK1.size
  obtain ⟨iu, hu0, hy0, hy1, hy2⟩ := info_parts Tryz.info205
  generalize hrl : (AV.row o).length = rl at *
  generalize hrx : u32s (AV.row o) = rx at *
  generalize hrvv : B.rv o = rvv at *
  have hbk : ∀ o', (W.alloc o').cell? ⟨B.kb, o * 4 + 2, none⟩ = some rvv := fun o' => gb_cellN (World.grownBy_alloc W o' none) r2
  clear hS3 hK1 hrowe hne
  go_wp2
  first | (go_region_law ((first | (go_simp; go_at_call 176; refine (hnum _).mono ?_; rintro y w6 ⟨rfl, rfl⟩) | (refine step_append_lies _ (by rfl) _ _ _ (by rfl) 0 205 iu _ 1 4 Tryz.underlying188 hu0 hy0 hy1 hy2 rfl (by omega) rvv rl rx (by rfl) (World.ownsRow.alloc (w := W) hrow _) ⟨W.heap.size, 0, none⟩ 1 1 [.int .u32 (x : Int)] (by rfl) (by rfl) (World.news_of_block (cs := #[.int .u32 (x : Int)]) (t := 205) (fr := (0, 0)) (heap_alloc_new W _)) (by simp [Value.oneCell']) (by omega) (by unfold maxLen; omega) (by omega) (Nat.zero_le _) (W.heap.size + 1) (by simp) ?_; intro g3 cap3 w7 hown7 hgrow7 hat7 hlt7; have hg7 : W.grownBy w7 rvv.ownBlock := gb_trans (by first | exact gb_drew (gb_alloc (gb_refl _ _) _) | exact gb_alloc (gb_drew (gb_refl _ _)) _) hgrow7; have hcur7 : w7.heap[B.kb]? = some (.cells cur 190 (0, 0)) := (by rw [hg7.block B.kb (lt_of_block hcur) (fun e => hnk e.symm)]; exact hcur); have b4 : w7.cell? ⟨B.kb, o * 4 + 2, none⟩ = some rvv := gb_cell hg7 r2 (fun e => hnk e.symm); have b5 : w7.frozen? ⟨B.kb, o * 4 + 2, none⟩ = false := (by simp [World.frozen?, hcur7]))))) | fail
  all_goals
    obtain ⟨hS8, hK8⟩ := HS.out.push (i := o) (x := x) hoAV (g2 := g3) (cap2 := cap3) (by rw [hrl, hrx]; exact hown7) (by rw [hrvv]; exact hg7) (by rw [hrvv]; rcases hat7 with h | h; exact .inl h; exact .inr (by omega))
    rw [hrl, HG.out AV rfl] at hS8
    rw [hrl] at hK8
    have HF9 : Hid (∀ k, (F k ∨ k = g3) → F k ∨ w.heap.size ≤ k) := by
      rintro k (hk | hk)
      · exact .inl hk
      · subst hk
        rcases hat7 with h | h
        · exact .inl (HS.out.fr o _ hoAV (by rw [hrvv]; exact h))
        · have := hsw.out; exact .inr (by omega)
    have HE : Hid (_ ∧ _) := ⟨hS8, HK.out.trans hK8 (fun _ h => h) (fun k hk => .inl hk)⟩
    clear hS8 hK8 b4 b5 hcur7 hg7 hown7 hgrow7 hat7 hlt7 hrow hcur r2 rz hbk hu0 hy0 hy1 hy2 hrl hrx hrvv hnum
    generalize w7.setCell ⟨B.kb, o * 4 + 2, none⟩ (.slice (some ⟨g3, 0, none⟩) (rl + 1) cap3) = W9 at *
    go_wp2
    go_ret
    exact ⟨rfl, HE.out.2, _, _, HE.out.1, HF9.out⟩
end

end Go.Proofs.YtjkdflnnpdionaaGreat

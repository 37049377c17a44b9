import Derived.Test.YtijpploeofdhbaaGreatZf
/-
  A queue: an item comes in, leaves.
-/
namespace Go.Proofs.YtijpploeofdhbaaGreat
open Go.RowKit
set_option linter.unusedVariables false

theorem met_ln (L : Ls) (c k x y : Nat) : (L.met c k x y).ln = L.ln := by
  unfold Ls.met
  split <;> split <;> rfl
section
variable {w : World} {sb qb gl gc : Nat} {F : Nat → Prop} {B : Bl} {b c d e f g : Int} {A : Ab} {m : Nat} {T : List Nat} {bs : Nat → It} {p n s : Nat → Nat} {L : Ls}

set_option maxRecDepth 100000 in
theorem q_mayEnter (h : QW w sb qb gl gc F B b c d e f g A m T bs p n s L) {H k : Nat} (hH : H ∈ T) (hk : k < 3) (hs : s H = 4) :
    Calls Tryz.prog 55 #[.pointer (some ⟨qb, 0, none⟩), .int .u64 H, .int .i64 ((k : Int) + 1)] w fun y w' => y = .returned (.int .i64 0) ∧ w.grownBy w' none := by
  obtain ⟨zs, hzl, h⟩ := h
  have c0 := h.box.cell 0
  simp at c0
  obtain ⟨x, i, hX, hI, hsz⟩ := h.its H hH
  have hk1 := hI.k1
  have hvn := hI.vn
  have hln := lengths_yes h.iss h.inv.fit hX _ hI.kl (by omega) _ hI.vl (by omega)
  have hst := fun W (hf : w.grownBy W none) => q_state (h.kept0 hf) hH
  rw [hs] at hst
  simp only [show ((4 : Nat) : Int) = 4 from rfl] at hst
  have hik := fun W => isKind_yes k hk W
  have hin := fun W => isKind_no 4 (by omega) W
  generalize (itm bs p n s H).key.length = kl at *
  generalize (itm bs p n s H).val.length = vl at *
  have hkl0 : ¬ kl = 0 := by omega
  have hkl1 : ¬ (kl : Int) = 0 := by omega
  clear h hX hI hs hsz
  go_enter Tryz.func55, Tryz.ntmps55
  go_wp2_with (first | (go_at_call 58; with_reducible refine (hik _).mono ?_; rintro y w' ⟨rfl, rfl⟩) | (go_at_call 58; with_reducible refine (hin _).mono ?_; rintro y w' ⟨rfl, rfl⟩) | (go_at_call 113; go_must (refine hln.mono ?_); rintro y w1 ⟨rfl, hf1⟩) | (go_at_call 59; go_must (refine (hst _ hf1).mono ?_); rintro y w2 ⟨rfl, hf2⟩) | fail)
  go_ret
  exact ⟨rfl, gb_trans hf1 hf2⟩

/-- The lists when an item has come in. -/
def Ls.entered (L : Ls) (c k x H y : Nat) : Ls := ((L.met c k x H).met c k H y).sLn c k (L.ln c k + 1)

set_option maxRecDepth 100000 in
set_option maxHeartbeats 1000000 in
theorem q_enter (h : QW w sb qb gl gc F B b c d e f g A m T bs p n s L) {H k x y o : Nat} (hH : H ∈ T) (hk : k < 3) (hx : x = 0 ∨ x ∈ T) (hy : y = 0 ∨ y ∈ T) (ho : ∀ X Y, IsH A H X Y → A.own X = o) (hln : L.ln o k ≤ 1099511627776) :
    Calls Tryz.prog 56 #[.pointer (some ⟨qb, 0, none⟩), .int .u64 H, .int .i64 ((k : Int) + 1), .int .u64 x, .int .u64 y] w fun z w' => z = .returned (.tuple #[]) ∧ Kp (fun k => F k ∨ k = gl) w w' ∧ QW w' sb qb gl gc F B b c d e f g A m T bs (mP (mP p x H) H y) (mN (mN n x H) H y) (upf s H (k + 1)) (L.entered o k x H y) := by
  obtain ⟨zs, hzl, h0⟩ := h
  obtain ⟨X, Y, hX, _⟩ := h0.its H hH
  have hoo := ho X Y hX
  have hof := q_of h0 hX hk
  rw [hoo] at hof
  have hc : o < A.n := hoo ▸ h0.inv.fit.on X hX.hp
  have h : QW w sb qb gl gc F B b c d e f g A m T bs p n s L := ⟨zs, hzl, h0⟩
  have hm1 := fun W (hf : w.grownBy W none) => q_meet (h.kept0 hf) hc hk hx (y := H) (.inr hH)
  have hm2 := fun W W0 (hf : w.grownBy W0 none) (hE : Hid (Kp (fun k => F k ∨ k = gl) W0 W ∧ QW W sb qb gl gc F B b c d e f g A m T bs (mP p x H) (mN n x H) s (L.met o k x H))) => (q_meet hE.out.2 hc hk (x := H) (.inr hH) hy).mono (R' := fun z w' => z = .returned (.tuple #[]) ∧ w'.cell? ⟨gl, o * 9 + k * 3 + 2, none⟩ = some (.int .i64 (L.ln o k)) ∧ w'.frozen? ⟨gl, o * 9 + k * 3 + 2, none⟩ = false ∧ (w'.setCell ⟨gl, o * 9 + k * 3 + 2, none⟩ (.int .i64 ((L.ln o k : Int) + 1))).cell? ⟨qb, 0, none⟩ = some (.pointer (some ⟨sb, 0, none⟩)) ∧ Hid (Kp (fun k => F k ∨ k = gl) w (w'.setCell ⟨gl, o * 9 + k * 3 + 2, none⟩ (.int .i64 ((L.ln o k : Int) + 1))) ∧ QW (w'.setCell ⟨gl, o * 9 + k * 3 + 2, none⟩ (.int .i64 ((L.ln o k : Int) + 1))) sb qb gl gc F B b c d e f g A m T bs (mP (mP p x H) H y) (mN (mN n x H) H y) s (L.entered o k x H y))) (by
    rintro z w' ⟨rfl, hE2⟩
    obtain ⟨hK2, h2⟩ := hE2.out
    obtain ⟨e1, e2, e3, e4, e5⟩ := h2.cells hc hk
    rw [met_ln, met_ln] at e3
    obtain ⟨h3, hK3⟩ := h2.ln hc hk (L.ln o k + 1)
    rw [show ((L.ln o k + 1 : Nat) : Int) = (L.ln o k : Int) + 1 by omega] at h3 hK3
    exact ⟨rfl, e3, e4 _, (h3.cells hc hk).2.2.2.2, (((Kp.of hf).trans hE.out.1 (fun _ h => h) (fun k hk => .inl hk)).trans hK2 (fun _ h => h) (fun k hk => .inl hk)).trans hK3 (fun _ h => h) (fun k hk => .inl (.inr hk)), h3⟩)
  have hst := fun W (hE : Hid (Kp (fun k => F k ∨ k = gl) w W ∧ QW W sb qb gl gc F B b c d e f g A m T bs (mP (mP p x H) H y) (mN (mN n x H) H y) s (L.entered o k x H y))) => (q_setS hE.out.2 hH (v := k + 1) (by omega) (by omega)).mono (R' := fun z w' => z = .returned (.int .i64 0) ∧ Hid (Kp (fun k => F k ∨ k = gl) w w' ∧ QW w' sb qb gl gc F B b c d e f g A m T bs (mP (mP p x H) H y) (mN (mN n x H) H y) (upf s H (k + 1)) (L.entered o k x H y))) (by
    rintro z w' ⟨rfl, hK3, h3⟩
    exact ⟨rfl, hE.out.1.trans hK3 (fun _ h => h) (fun k hk => .inl (.inl hk)), h3⟩)
  simp only [show ((k + 1 : Nat) : Int) = (k : Int) + 1 from rfl] at hst
  clear h h0 hX ho hoo hx hy hH
  generalize L.ln o k = ln at *
  go_enter Tryz.func56, Tryz.ntmps56
  go_wp2_with (first | (go_at_call 57; go_must (refine hof.mono ?_); rintro z w1 ⟨rfl, hf1⟩) | (go_at_call 114; with_reducible refine (hm1 _ hf1).mono ?_; rintro z w2 ⟨rfl, hE1⟩) | (go_at_call 114; with_reducible refine (hm2 _ _ hf1 hE1).mono ?_; rintro z w3 ⟨rfl, d1, d2, d3, hE2⟩) | (go_at_call 115; go_must (with_reducible refine (hst _ hE2).mono ?_); rintro z w4 ⟨rfl, hE3⟩) | fail)
  go_end0
  exact ⟨rfl, hE3.out⟩

/-- The lists when an item has left. -/
def Ls.left (L : Ls) (c k x y : Nat) : Ls := (L.met c k x y).sLn c k (L.ln c k - 1)

set_option maxRecDepth 100000 in
set_option maxHeartbeats 1000000 in
theorem q_leave (h : QW w sb qb gl gc F B b c d e f g A m T bs p n s L) {H k x y o : Nat} (hH : H ∈ T) (hk : k < 3) (hs : s H = k + 1) (hx : p H = x) (hy : n H = y) (ho : ∀ X Y, IsH A H X Y → A.own X = o) (hln : 1 ≤ L.ln o k ∧ L.ln o k ≤ 1099511627776) :
    Calls Tryz.prog 60 #[.pointer (some ⟨qb, 0, none⟩), .int .u64 H] w fun z w' => z = .returned (.tuple #[]) ∧ Kp (fun k => F k ∨ k = gl) w w' ∧ QW w' sb qb gl gc F B b c d e f g A m T bs (upf (mP p x y) H 0) (upf (mN n x y) H 0) (upf s H 4) (L.left o k x y) := by
  obtain ⟨zs, hzl, h0⟩ := h
  obtain ⟨X, Y, hX, _⟩ := h0.its H hH
  have hoo := ho X Y hX
  have hlk := h0.lk H hH
  rw [hx, hy] at hlk
  have hst := q_state h0 hH
  rw [hs, show ((k + 1 : Nat) : Int) = (k : Int) + 1 from rfl] at hst
  have hof := fun W (hf : w.grownBy W none) => q_of (h0.kept0 hf) hX hk
  rw [hoo] at hof
  have hn1 := fun W (hf : w.grownBy W none) => q_next (h0.kept0 hf) hH 1 (.inl rfl) x (by rw [if_pos rfl]; exact hx)
  have hn2 := fun W (hf : w.grownBy W none) => q_next (h0.kept0 hf) hH 2 (.inr rfl) y (by rw [if_neg (by decide)]; exact hy)
  simp only [show ((1 : Nat) : Int) = 1 from rfl, show ((2 : Nat) : Int) = 2 from rfl] at hn1 hn2
  have hc : o < A.n := hoo ▸ h0.inv.fit.on X hX.hp
  have h : QW w sb qb gl gc F B b c d e f g A m T bs p n s L := ⟨zs, hzl, h0⟩
  have hm := fun W0 (hf : w.grownBy W0 none) => (q_meet (h.kept0 hf) hc hk hlk.1 hlk.2).mono (R' := fun z w' => z = .returned (.tuple #[]) ∧ w'.cell? ⟨gl, o * 9 + k * 3 + 2, none⟩ = some (.int .i64 (L.ln o k)) ∧ w'.frozen? ⟨gl, o * 9 + k * 3 + 2, none⟩ = false ∧ (w'.setCell ⟨gl, o * 9 + k * 3 + 2, none⟩ (.int .i64 ((L.ln o k : Int) - 1))).cell? ⟨qb, 0, none⟩ = some (.pointer (some ⟨sb, 0, none⟩)) ∧ Hid (Kp (fun k => F k ∨ k = gl) w (w'.setCell ⟨gl, o * 9 + k * 3 + 2, none⟩ (.int .i64 ((L.ln o k : Int) - 1))) ∧ QW (w'.setCell ⟨gl, o * 9 + k * 3 + 2, none⟩ (.int .i64 ((L.ln o k : Int) - 1))) sb qb gl gc F B b c d e f g A m T bs (mP p x y) (mN n x y) s (L.left o k x y))) (by
    rintro z w' ⟨rfl, hE2⟩
    obtain ⟨hK2, h2⟩ := hE2.out
    obtain ⟨e1, e2, e3, e4, e5⟩ := h2.cells hc hk
    rw [met_ln] at e3
    obtain ⟨h3, hK3⟩ := h2.ln hc hk (L.ln o k - 1)
    rw [show ((L.ln o k - 1 : Nat) : Int) = (L.ln o k : Int) - 1 by omega] at h3 hK3
    exact ⟨rfl, e3, e4 _, (h3.cells hc hk).2.2.2.2, ((Kp.of hf).trans hK2 (fun _ h => h) (fun k hk => .inl hk)).trans hK3 (fun _ h => h) (fun k hk => .inl (.inr hk)), h3⟩)
  have hs1 := fun W (hE : Hid (Kp (fun k => F k ∨ k = gl) w W ∧ QW W sb qb gl gc F B b c d e f g A m T bs (mP p x y) (mN n x y) s (L.left o k x y))) => (q_set1 hE.out.2 hH (K := 0) (.inl rfl)).mono (R' := fun z w' => z = .returned (.int .i64 0) ∧ w'.cell? ⟨qb, 0, none⟩ = some (.pointer (some ⟨sb, 0, none⟩)) ∧ Hid (Kp (fun k => F k ∨ k = gl) w w' ∧ QW w' sb qb gl gc F B b c d e f g A m T bs (upf (mP p x y) H 0) (mN n x y) s (L.left o k x y))) (by
    rintro z w' ⟨rfl, hK3, h3⟩
    exact ⟨rfl, (h3.cells hc hk).2.2.2.2, hE.out.1.trans hK3 (fun _ h => h) (fun k hk => .inl (.inl hk)), h3⟩)
  have hs2 := fun W (hE : Hid (Kp (fun k => F k ∨ k = gl) w W ∧ QW W sb qb gl gc F B b c d e f g A m T bs (upf (mP p x y) H 0) (mN n x y) s (L.left o k x y))) => (q_set2 hE.out.2 hH (K := 0) (.inl rfl)).mono (R' := fun z w' => z = .returned (.int .i64 0) ∧ w'.cell? ⟨qb, 0, none⟩ = some (.pointer (some ⟨sb, 0, none⟩)) ∧ Hid (Kp (fun k => F k ∨ k = gl) w w' ∧ QW w' sb qb gl gc F B b c d e f g A m T bs (upf (mP p x y) H 0) (upf (mN n x y) H 0) s (L.left o k x y))) (by
    rintro z w' ⟨rfl, hK3, h3⟩
    exact ⟨rfl, (h3.cells hc hk).2.2.2.2, hE.out.1.trans hK3 (fun _ h => h) (fun k hk => .inl (.inl hk)), h3⟩)
  have hs3 := fun W (hE : Hid (Kp (fun k => F k ∨ k = gl) w W ∧ QW W sb qb gl gc F B b c d e f g A m T bs (upf (mP p x y) H 0) (upf (mN n x y) H 0) s (L.left o k x y))) => (q_setS hE.out.2 hH (v := 4) (by omega) (by omega)).mono (R' := fun z w' => z = .returned (.int .i64 0) ∧ Hid (Kp (fun k => F k ∨ k = gl) w w' ∧ QW w' sb qb gl gc F B b c d e f g A m T bs (upf (mP p x y) H 0) (upf (mN n x y) H 0) (upf s H 4) (L.left o k x y))) (by
    rintro z w' ⟨rfl, hK3, h3⟩
    exact ⟨rfl, hE.out.1.trans hK3 (fun _ h => h) (fun k hk => .inl (.inl hk)), h3⟩)
  simp only [show ((0 : Nat) : Int) = 0 from rfl, show ((4 : Nat) : Int) = 4 from rfl] at hs1 hs2 hs3
  clear h h0 hX ho hoo hx hy hH hlk hs
  generalize L.ln o k = ln at *
  go_enter Tryz.func60, Tryz.ntmps60
  go_wp2_with (first | (go_at_call 59; go_must (refine hst.mono ?_); rintro z w1 ⟨rfl, hf1⟩) | (go_at_call 57; go_must (refine (hof _ hf1).mono ?_); rintro z w2 ⟨rfl, hf2⟩; (have hf12 := gb_trans hf1 hf2)) | (go_at_call 92; with_reducible refine (hn1 _ hf12).mono ?_; rintro z w3 ⟨rfl, hf3⟩; (have hf13 := gb_trans hf12 hf3)) | (go_at_call 92; with_reducible refine (hn2 _ hf13).mono ?_; rintro z w4 ⟨rfl, hf4⟩; (have hf14 := gb_trans hf13 hf4)) | (go_at_call 114; go_must (with_reducible refine (hm _ hf14).mono ?_); rintro z w5 ⟨rfl, d1, d2, d3, hE2⟩) | (go_at_call 116; with_reducible refine (hs1 _ hE2).mono ?_; rintro z w6 ⟨rfl, d6, hE6⟩) | (go_at_call 116; with_reducible refine (hs2 _ hE6).mono ?_; rintro z w7 ⟨rfl, d7, hE7⟩) | (go_at_call 115; go_must (with_reducible refine (hs3 _ hE7).mono ?_); rintro z w8 ⟨rfl, hE8⟩) | fail)
  go_end0
  exact ⟨rfl, hE8.out⟩
end
end Go.Proofs.YtijpploeofdhbaaGreat

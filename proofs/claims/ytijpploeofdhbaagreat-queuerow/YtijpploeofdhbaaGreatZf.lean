import Derived.Test.YtijpploeofdhbaaGreatMc
import Derived.Test.YtijpploeofdhbaaGreatUa
/-
  A queue: links and states are set; meet.
-/
namespace Go.Proofs.YtijpploeofdhbaaGreat
open Go.RowKit
set_option linter.unusedVariables false

theorem nm_lt (K : Nat) : nm K < 4294967296 := by unfold nm; omega

/-- Some Set and bytes: the queue lies there. -/
def QW (w : World) (sb qb gl gc : Nat) (F : Nat → Prop) (B : Bl) (b c d e f g : Int) (A : Ab) (m : Nat) (T : List Nat) (bs : Nat → It) (p n s : Nat → Nat) (L : Ls) : Prop := ∃ zs : List Int, zs.length = m ∧ QM w sb qb gl gc F B b c d e f g A zs T bs p n s L

section
variable {w : World} {sb qb gl gc : Nat} {F : Nat → Prop} {B : Bl} {b c d e f g : Int} {A : Ab} {m : Nat} {T : List Nat} {bs : Nat → It} {p n s : Nat → Nat} {L : Ls}
theorem QW.kept0 {w' : World} (h : QW w sb qb gl gc F B b c d e f g A m T bs p n s L) (hf : w.grownBy w' none) : QW w' sb qb gl gc F B b c d e f g A m T bs p n s L :=
  let ⟨zs, h1, h2⟩ := h
  ⟨zs, h1, h2.kept0 hf⟩

/-- Link 1 is set. -/
theorem q_set1 (h : QW w sb qb gl gc F B b c d e f g A m T bs p n s L) {H K : Nat} (hH : H ∈ T) (hK : K = 0 ∨ K ∈ T) :
    Calls Tryz.prog 116 #[.pointer (some ⟨sb, 0, none⟩), .int .u64 H, .int .i64 1, .int .u64 K] w fun y w' => y = .returned (.int .i64 0) ∧ Kp F w w' ∧ QW w' sb qb gl gc F B b c d e f g A m T bs (upf p H K) n s L := by
  obtain ⟨zs, hzl, h⟩ := h
  obtain ⟨x, k, hX, hI, hs⟩ := h.its H hH
  have hA := h.inv.fit
  have hk1 := hI.k1
  have hlen : A.place x k + 58 ≤ zs.length := by
    have := hI.lies.le
    rw [It.len] at this
    omega
  have fin : ∀ w', IsS w' sb F B b c d e f g A (lay zs (A.place x k + 4) (be 4 ((nm K : Nat) : Int))) → Kp F w w' → QW w' sb qb gl gc F B b c d e f g A m T bs (upf p H K) n s L := fun w' hS hKp =>
    ⟨_, by rw [length_lay (by rw [be_len]; omega)]; exact hzl, h.turn hH hX (by rw [be_len]; omega) hS hKp (upf p H K) n s (fun G hG => ⟨upf_ne _ _ hG, rfl, rfl⟩) (fun hI0 => by
      have := hI0.setL1 ((nm K : Nat) : Int) ⟨by omega, by have := nm_lt K; omega⟩
      unfold itm at this ⊢
      rw [upf_same]
      exact this) ⟨by rw [upf_same]; exact hK, (h.lk H hH).2⟩⟩
  rcases hK with rfl | hK
  · refine (setLink_zero h.iss hA hX _ hI.kl (by omega) 1 (by omega)).mono ?_
    rintro y w' ⟨rfl, hKp, hS⟩
    exact ⟨rfl, hKp, fin w' hS hKp⟩
  · obtain ⟨x2, k2, hX2, _⟩ := h.its K hK
    refine (setLink_to h.iss hA hX _ hI.kl (by omega) 1 (by omega) hX2).mono ?_
    rintro y w' ⟨rfl, hKp, hS⟩
    exact ⟨rfl, hKp, fin w' hS hKp⟩
/-- Link 2 is set. -/
theorem q_set2 (h : QW w sb qb gl gc F B b c d e f g A m T bs p n s L) {H K : Nat} (hH : H ∈ T) (hK : K = 0 ∨ K ∈ T) :
    Calls Tryz.prog 116 #[.pointer (some ⟨sb, 0, none⟩), .int .u64 H, .int .i64 2, .int .u64 K] w fun y w' => y = .returned (.int .i64 0) ∧ Kp F w w' ∧ QW w' sb qb gl gc F B b c d e f g A m T bs p (upf n H K) s L := by
  obtain ⟨zs, hzl, h⟩ := h
  obtain ⟨x, k, hX, hI, hs⟩ := h.its H hH
  have hA := h.inv.fit
  have hk1 := hI.k1
  have hlen : A.place x k + 58 ≤ zs.length := by
    have := hI.lies.le
    rw [It.len] at this
    omega
  have fin : ∀ w', IsS w' sb F B b c d e f g A (lay zs (A.place x k + 8) (be 4 ((nm K : Nat) : Int))) → Kp F w w' → QW w' sb qb gl gc F B b c d e f g A m T bs p (upf n H K) s L := fun w' hS hKp =>
    ⟨_, by rw [length_lay (by rw [be_len]; omega)]; exact hzl, h.turn hH hX (by rw [be_len]; omega) hS hKp p (upf n H K) s (fun G hG => ⟨rfl, upf_ne _ _ hG, rfl⟩) (fun hI0 => by
      have := hI0.setL2 ((nm K : Nat) : Int) ⟨by omega, by have := nm_lt K; omega⟩
      unfold itm at this ⊢
      rw [upf_same]
      exact this) ⟨(h.lk H hH).1, by rw [upf_same]; exact hK⟩⟩
  rcases hK with rfl | hK
  · refine (setLink_zero h.iss hA hX _ hI.kl (by omega) 2 (by omega)).mono ?_
    rintro y w' ⟨rfl, hKp, hS⟩
    exact ⟨rfl, hKp, fin w' hS hKp⟩
  · obtain ⟨x2, k2, hX2, _⟩ := h.its K hK
    refine (setLink_to h.iss hA hX _ hI.kl (by omega) 2 (by omega) hX2).mono ?_
    rintro y w' ⟨rfl, hKp, hS⟩
    exact ⟨rfl, hKp, fin w' hS hKp⟩
/-- The state is set. -/
theorem q_setS (h : QW w sb qb gl gc F B b c d e f g A m T bs p n s L) {H v : Nat} (hH : H ∈ T) (h1 : 1 ≤ v) (h2 : v ≤ 4) :
    Calls Tryz.prog 115 #[.pointer (some ⟨sb, 0, none⟩), .int .u64 H, .int .i64 v] w fun y w' => y = .returned (.int .i64 0) ∧ Kp F w w' ∧ QW w' sb qb gl gc F B b c d e f g A m T bs p n (upf s H v) L := by
  obtain ⟨zs, hzl, h⟩ := h
  obtain ⟨x, k, hX, hI, hs⟩ := h.its H hH
  have hA := h.inv.fit
  have hk1 := hI.k1
  have hlen : A.place x k + 58 ≤ zs.length := by
    have := hI.lies.le
    rw [It.len] at this
    omega
  refine (setState_yes h.iss hA hX _ hI.kl (by omega) v h1 h2).mono ?_
  rintro y w' ⟨rfl, hKp, hS⟩
  refine ⟨rfl, hKp, _, by rw [length_lay (by rw [be_len]; omega)]; exact hzl, h.turn hH hX (by rw [be_len]; omega) hS hKp p n (upf s H v) (fun G hG => ⟨rfl, rfl, upf_ne _ _ hG⟩) (fun hI0 => ?_) (h.lk H hH)⟩
  have := hI0.setSt ((v : Nat) : Int) ⟨by omega, by omega⟩
  unfold itm at this ⊢
  rw [upf_same]
  exact this

/-- A list's cells are turned. -/
def Ls.sHd (L : Ls) (c k v : Nat) : Ls := { L with hd := fun c2 k2 => if c2 = c ∧ k2 = k then v else L.hd c2 k2 }
def Ls.sTl (L : Ls) (c k v : Nat) : Ls := { L with tl := fun c2 k2 => if c2 = c ∧ k2 = k then v else L.tl c2 k2 }
def Ls.sLn (L : Ls) (c k v : Nat) : Ls := { L with ln := fun c2 k2 => if c2 = c ∧ k2 = k then v else L.ln c2 k2 }
theorem QW.hd (h : QW w sb qb gl gc F B b c d e f g A m T bs p n s L) {ci k : Nat} (hc : ci < A.n) (hk : k < 3) (v : Nat) :
    QW (w.setCell ⟨gl, ci * 9 + k * 3, none⟩ (.int .u64 v)) sb qb gl gc F B b c d e f g A m T bs p n s (L.sHd ci k v) ∧ Kp (fun x => x = gl) w (w.setCell ⟨gl, ci * 9 + k * 3, none⟩ (.int .u64 v)) := by
  obtain ⟨zs, hzl, h⟩ := h
  have := h.setL hc hk (j := 0) (by omega) (.int .u64 v) (L.sHd ci k v) (by simp [lC, Ls.sHd]) (fun c2 k2 hne => by simp only [lC, Ls.sHd, if_neg hne])
  exact ⟨⟨zs, hzl, this.1⟩, this.2⟩
theorem QW.tl (h : QW w sb qb gl gc F B b c d e f g A m T bs p n s L) {ci k : Nat} (hc : ci < A.n) (hk : k < 3) (v : Nat) :
    QW (w.setCell ⟨gl, ci * 9 + k * 3 + 1, none⟩ (.int .u64 v)) sb qb gl gc F B b c d e f g A m T bs p n s (L.sTl ci k v) ∧ Kp (fun x => x = gl) w (w.setCell ⟨gl, ci * 9 + k * 3 + 1, none⟩ (.int .u64 v)) := by
  obtain ⟨zs, hzl, h⟩ := h
  have := h.setL hc hk (j := 1) (by omega) (.int .u64 v) (L.sTl ci k v) (by simp [lC, Ls.sTl]) (fun c2 k2 hne => by simp only [lC, Ls.sTl, if_neg hne])
  exact ⟨⟨zs, hzl, this.1⟩, this.2⟩
theorem QW.ln (h : QW w sb qb gl gc F B b c d e f g A m T bs p n s L) {ci k : Nat} (hc : ci < A.n) (hk : k < 3) (v : Nat) :
    QW (w.setCell ⟨gl, ci * 9 + k * 3 + 2, none⟩ (.int .i64 v)) sb qb gl gc F B b c d e f g A m T bs p n s (L.sLn ci k v) ∧ Kp (fun x => x = gl) w (w.setCell ⟨gl, ci * 9 + k * 3 + 2, none⟩ (.int .i64 v)) := by
  obtain ⟨zs, hzl, h⟩ := h
  have := h.setL hc hk (j := 2) (by omega) (.int .i64 v) (L.sLn ci k v) (by simp [lC, Ls.sLn]) (fun c2 k2 hne => by simp only [lC, Ls.sLn, if_neg hne])
  exact ⟨⟨zs, hzl, this.1⟩, this.2⟩
theorem QW.cells (h : QW w sb qb gl gc F B b c d e f g A m T bs p n s L) {ci k : Nat} (hc : ci < A.n) (hk : k < 3) : w.cell? ⟨gl, ci * 9 + k * 3, none⟩ = some (.int .u64 (L.hd ci k)) ∧ w.cell? ⟨gl, ci * 9 + k * 3 + 1, none⟩ = some (.int .u64 (L.tl ci k)) ∧ w.cell? ⟨gl, ci * 9 + k * 3 + 2, none⟩ = some (.int .i64 (L.ln ci k)) ∧ (∀ i, w.frozen? ⟨gl, i, none⟩ = false) ∧ w.cell? ⟨qb, 0, none⟩ = some (.pointer (some ⟨sb, 0, none⟩)) := by
  obtain ⟨zs, hzl, h⟩ := h
  exact ⟨h.lcell hc hk (j := 0) (by omega), h.lcell hc hk (j := 1) (by omega), h.lcell hc hk (j := 2) (by omega), h.fz, h.box.cell 0⟩

/-- What meet makes of the lists. -/
def Ls.met (L : Ls) (c k x y : Nat) : Ls := (if y = 0 then (if x = 0 then L.sHd c k y else L).sTl c k x else (if x = 0 then L.sHd c k y else L))

set_option maxRecDepth 100000 in
set_option maxHeartbeats 1000000 in
theorem q_meet (h : QW w sb qb gl gc F B b c d e f g A m T bs p n s L) {ci k : Nat} (hc : ci < A.n) (hk : k < 3) {x y : Nat} (hx : x = 0 ∨ x ∈ T) (hy : y = 0 ∨ y ∈ T) :
    Calls Tryz.prog 114 #[.pointer (some ⟨qb, 0, none⟩), .pointer (some ⟨gl, ci * 9 + k * 3, none⟩), .int .u64 x, .int .u64 y] w fun z w' => z = .returned (.tuple #[]) ∧ Hid (Kp (fun k => F k ∨ k = gl) w w' ∧ QW w' sb qb gl gc F B b c d e f g A m T bs (mP p x y) (mN n x y) s (L.met ci k x y)) := by
  have hz : ∀ {K}, K ∈ T → ¬ K = 0 := fun hK => h.choose_spec.2.nz hK
  obtain ⟨c1, c2, c3, c4, c5⟩ := h.cells hc hk
  have f1 := c4 (ci * 9 + k * 3)
  have f2 := c4 (ci * 9 + k * 3 + 1)
  by_cases hx0 : x = 0
  · subst hx0
    obtain ⟨h1, hK1⟩ := h.hd hc hk y
    obtain ⟨e1, e2, e3, e4, e5⟩ := h1.cells hc hk
    have e4' := e4 (ci * 9 + k * 3 + 1)
    have l1 : Kp (fun k => F k ∨ k = gl) w (w.setCell ⟨gl, ci * 9 + k * 3, none⟩ (.int .u64 y)) := hK1.mono (fun k hk => .inl (.inr hk))
    by_cases hy0 : y = 0
    · subst hy0
      obtain ⟨h2, hK2⟩ := h1.tl hc hk 0
      have hE : Hid (Kp (fun k => F k ∨ k = gl) w ((w.setCell ⟨gl, ci * 9 + k * 3, none⟩ (.int .u64 ((0 : Nat) : Int))).setCell ⟨gl, ci * 9 + k * 3 + 1, none⟩ (.int .u64 ((0 : Nat) : Int))) ∧ QW ((w.setCell ⟨gl, ci * 9 + k * 3, none⟩ (.int .u64 ((0 : Nat) : Int))).setCell ⟨gl, ci * 9 + k * 3 + 1, none⟩ (.int .u64 ((0 : Nat) : Int))) sb qb gl gc F B b c d e f g A m T bs (mP p 0 0) (mN n 0 0) s (L.met ci k 0 0)) := ⟨l1.trans hK2 (fun _ h => h) (fun k hk => .inl (.inr hk)), h2⟩
      simp only [show ((0 : Nat) : Int) = 0 from rfl] at *
      clear h h1 h2 hK1 hK2 hz l1
      go_enter Tryz.func114, Tryz.ntmps114
      go_wp2
      go_end0
      exact ⟨rfl, hE⟩
    · have hyT : y ∈ T := hy.resolve_left hy0
      have hyz : ¬ (y : Int) = 0 := by omega
      have hs := (q_set1 h1 hyT (K := 0) (.inl rfl)).mono (R' := fun z w' => z = .returned (.int .i64 0) ∧ Hid (Kp (fun k => F k ∨ k = gl) w w' ∧ QW w' sb qb gl gc F B b c d e f g A m T bs (mP p 0 y) (mN n 0 y) s (L.met ci k 0 y))) (by
        rintro z w' ⟨rfl, hK2, h2⟩
        refine ⟨rfl, l1.trans hK2 (fun _ h => h) (fun k hk => .inl (.inl hk)), ?_⟩
        unfold mP mN Ls.met
        rw [if_neg hy0, if_pos rfl, if_neg hy0, if_pos rfl]
        exact h2)
      simp only [show ((0 : Nat) : Int) = 0 from rfl] at *
      clear h h1 hK1 hz l1 hy hyT
      go_enter Tryz.func114, Tryz.ntmps114
      go_wp2_with (first | (go_at_call 116; go_must (with_reducible refine hs.mono ?_); rintro z w1 ⟨rfl, hE⟩) | fail)
      go_end0
      exact ⟨rfl, hE⟩
  · have hxT : x ∈ T := hx.resolve_left hx0
    have hxz : ¬ (x : Int) = 0 := by omega
    by_cases hy0 : y = 0
    · subst hy0
      have hs := (q_set2 h hxT (K := 0) (.inl rfl)).mono (R' := fun z w' => z = .returned (.int .i64 0) ∧ (∃ v, w'.cell? ⟨gl, ci * 9 + k * 3 + 1, none⟩ = some (.int .u64 v)) ∧ w'.frozen? ⟨gl, ci * 9 + k * 3 + 1, none⟩ = false ∧ Hid (Kp (fun k => F k ∨ k = gl) w (w'.setCell ⟨gl, ci * 9 + k * 3 + 1, none⟩ (.int .u64 x)) ∧ QW (w'.setCell ⟨gl, ci * 9 + k * 3 + 1, none⟩ (.int .u64 x)) sb qb gl gc F B b c d e f g A m T bs (mP p x 0) (mN n x 0) s (L.met ci k x 0))) (by
        rintro z w' ⟨rfl, hK2, h2⟩
        obtain ⟨e1, e2, e3, e4, e5⟩ := h2.cells hc hk
        obtain ⟨h3, hK3⟩ := h2.tl hc hk x
        refine ⟨rfl, ⟨_, e2⟩, e4 _, (hK2.mono (fun k hk => .inl (.inl hk))).trans hK3 (fun _ h => h) (fun k hk => .inl (.inr hk)), ?_⟩
        unfold mP mN Ls.met
        rw [if_pos rfl, if_neg hx0, if_pos rfl, if_neg hx0]
        exact h3)
      simp only [show ((0 : Nat) : Int) = 0 from rfl] at *
      clear h hz hx hxT
      go_enter Tryz.func114, Tryz.ntmps114
      go_wp2_with (first | (go_at_call 116; go_must (with_reducible refine hs.mono ?_); rintro z w1 ⟨rfl, ⟨v, d1⟩, d2, hE⟩) | fail)
      go_end0
      exact ⟨rfl, hE⟩
    · have hyT : y ∈ T := hy.resolve_left hy0
      have hyz : ¬ (y : Int) = 0 := by omega
      have hs := (q_set2 h hxT (K := y) hy).mono (R' := fun z w' => z = .returned (.int .i64 0) ∧ w'.cell? ⟨qb, 0, none⟩ = some (.pointer (some ⟨sb, 0, none⟩)) ∧ Hid (Kp (fun k => F k ∨ k = gl) w w' ∧ QW w' sb qb gl gc F B b c d e f g A m T bs p (upf n x y) s L)) (by
        rintro z w' ⟨rfl, hK2, h2⟩
        exact ⟨rfl, (h2.cells hc hk).2.2.2.2, hK2.mono (fun k hk => .inl (.inl hk)), h2⟩)
      have hs2 := fun W (hE : Hid (Kp (fun k => F k ∨ k = gl) w W ∧ QW W sb qb gl gc F B b c d e f g A m T bs p (upf n x y) s L)) => (q_set1 hE.out.2 hyT (K := x) (.inr hxT)).mono (R' := fun z w' => z = .returned (.int .i64 0) ∧ Hid (Kp (fun k => F k ∨ k = gl) w w' ∧ QW w' sb qb gl gc F B b c d e f g A m T bs (mP p x y) (mN n x y) s (L.met ci k x y))) (by
        rintro z w' ⟨rfl, hK2, h2⟩
        refine ⟨rfl, hE.out.1.trans hK2 (fun _ h => h) (fun k hk => .inl (.inl hk)), ?_⟩
        unfold mP mN Ls.met
        rw [if_neg hy0, if_neg hx0, if_neg hy0, if_neg hx0]
        exact h2)
      clear h hz hx hxT hy hyT
      go_enter Tryz.func114, Tryz.ntmps114
      go_wp2_with (first | (go_at_call 116; with_reducible refine hs.mono ?_; rintro z w1 ⟨rfl, d1, hE1⟩) | (go_at_call 116; go_must (with_reducible refine (hs2 _ hE1).mono ?_); rintro z w2 ⟨rfl, hE⟩) | fail)
      go_end0
      exact ⟨rfl, hE⟩
end
end Go.Proofs.YtijpploeofdhbaaGreat

import Derived.Test.YtjkdflnnpdionaaGreatMh
import Derived.Test.YtjkdflnnpdionaaGreatMk
/-
  A queue: links and states are set; meet.
-/
namespace Go.Proofs.YtjkdflnnpdionaaGreat
open Go.RowKit
set_option linter.unusedVariables false

theorem nm_lt (K : Nat) : nm K < 4294967296 := by unfold nm; omega

/-- The bytes are those of m, but for the items' links 1 and 2 and their states. -/
structure Zk (A : Ab) (T : List Nat) (m zs : List Int) : Prop where
  len : zs.length = m.length
  out : ∀ q, (∀ H, H ∈ T → ∀ x k, IsH A H x k → (q < A.place x k + 4 ∨ A.place x k + 12 ≤ q) ∧ q ≠ A.place x k + 45) → zs[q]? = m[q]?
theorem Zk.refl (A : Ab) (T : List Nat) (m : List Int) : Zk A T m m := ⟨rfl, fun _ _ => rfl⟩
theorem lay_out {zs ys : List Int} {x q : Nat} (h : x + ys.length ≤ zs.length) (hq : q < x ∨ x + ys.length ≤ q) : (lay zs x ys)[q]? = zs[q]? := by
  unfold lay
  rcases hq with hq | hq
  · rw [List.append_assoc, List.getElem?_append_left (by simp; omega), List.getElem?_take_of_lt hq]
  · rw [List.getElem?_append_right (by simp; omega), List.getElem?_drop]
    congr 1
    simp
    omega
theorem Zk.lay {A : Ab} {T : List Nat} {m zs ys : List Int} {H x k off : Nat} (h : Zk A T m zs) (hH : H ∈ T) (hX : IsH A H x k) (ho : (4 ≤ off ∧ off + ys.length ≤ 12) ∨ (off = 45 ∧ ys.length = 1)) (h58 : off + ys.length ≤ 58) (hl : A.place x k + 58 ≤ zs.length) : Zk A T m (lay zs (A.place x k + off) ys) :=
  ⟨by rw [length_lay (by omega)]; exact h.len, fun q hq => by
    have := hq H hH x k hX
    rw [lay_out (by omega) (by omega)]
    exact h.out q hq⟩
/-- Some Set and bytes: the queue lies there. -/
def QW (w : World) (sb qb gl gc : Nat) (F : Nat → Prop) (B : Bl) (b c d e f g : Int) (A : Ab) (m : List Int) (T : List Nat) (bs : Nat → It) (p n s : Nat → Nat) (L : Ls) : Prop := ∃ zs : List Int, Zk A T m zs ∧ QM w sb qb gl gc F B b c d e f g A zs T bs p n s L

section
variable {w : World} {sb qb gl gc : Nat} {F : Nat → Prop} {B : Bl} {b c d e f g : Int} {A : Ab} {m : List Int} {T : List Nat} {bs : Nat → It} {p n s : Nat → Nat} {L : Ls}
theorem QW.kept0 {w' : World} (h : QW w sb qb gl gc F B b c d e f g A m T bs p n s L) (hf : w.grownBy w' none) : QW w' sb qb gl gc F B b c d e f g A m T bs p n s L :=
  let ⟨zs, h1, h2⟩ := h
  ⟨zs, h1, h2.kept0 hf⟩

/-- Link 1 is set. -/
theorem q_set1 (h : QW w sb qb gl gc F B b c d e f g A m T bs p n s L) {H K : Nat} (hH : H ∈ T) (hK : K = 0 ∨ K ∈ T) :
    Calls Tryz.prog 154 #[.pointer (some ⟨sb, 0, none⟩), .int .u64 H, .int .i64 1, .int .u64 K] w fun y w' => y = .returned (.int .i64 0) ∧ Kp F w w' ∧ QW w' sb qb gl gc F B b c d e f g A m T bs (upf p H K) n s L := by
  obtain ⟨zs, hzl, h⟩ := h
  obtain ⟨x, k, hX, hI, hs⟩ := h.its H hH
  have hA := h.inv.fit
  have hk1 := hI.k1
  have hlen : A.place x k + 58 ≤ zs.length := by
    have := hI.lies.le
    rw [It.len] at this
    omega
  have fin : ∀ w', IsS w' sb F B b c d e f g A (lay zs (A.place x k + 4) (be 4 ((nm K : Nat) : Int))) → Kp F w w' → QW w' sb qb gl gc F B b c d e f g A m T bs (upf p H K) n s L := fun w' hS hKp =>
    ⟨_, hzl.lay hH hX (by rw [be_len]; omega) (by rw [be_len]; omega) hlen, h.turn hH hX (by rw [be_len]; omega) hS hKp (upf p H K) n s (fun G hG => ⟨upf_ne _ _ hG, rfl, rfl⟩) (fun hI0 => by
      have := hI0.setL1 ((nm K : Nat) : Int) ⟨by omega, by have := nm_lt K; omega⟩
      unfold itm at this ⊢
      rw [upf_same]
      exact this) ⟨by rw [upf_same]; exact hK, (h.lk H hH).2⟩⟩
  rcases hK with rfl | hK
  · refine (setLink_zero h.iss hA hX _ hI.kl (by omega) 1 (by omega)).mono ?_
    rintro y w' ⟨rfl, hKp, hS⟩
    exact ⟨rfl, hKp, fin w' hS hKp⟩
  · obtain ⟨x2, k2, hX2, _⟩ := h.its K hK
    refine (setLink_to h.iss hA hX _ hI.kl (by omega) 1 (by omega) hX2).mono ?_
    rintro y w' ⟨rfl, hKp, hS⟩
    exact ⟨rfl, hKp, fin w' hS hKp⟩
/-- Link 2 is set. -/
theorem q_set2 (h : QW w sb qb gl gc F B b c d e f g A m T bs p n s L) {H K : Nat} (hH : H ∈ T) (hK : K = 0 ∨ K ∈ T) :
    Calls Tryz.prog 154 #[.pointer (some ⟨sb, 0, none⟩), .int .u64 H, .int .i64 2, .int .u64 K] w fun y w' => y = .returned (.int .i64 0) ∧ Kp F w w' ∧ QW w' sb qb gl gc F B b c d e f g A m T bs p (upf n H K) s L := by
  obtain ⟨zs, hzl, h⟩ := h
  obtain ⟨x, k, hX, hI, hs⟩ := h.its H hH
  have hA := h.inv.fit
  have hk1 := hI.k1
  have hlen : A.place x k + 58 ≤ zs.length := by
    have := hI.lies.le
    rw [It.len] at this
    omega
  have fin : ∀ w', IsS w' sb F B b c d e f g A (lay zs (A.place x k + 8) (be 4 ((nm K : Nat) : Int))) → Kp F w w' → QW w' sb qb gl gc F B b c d e f g A m T bs p (upf n H K) s L := fun w' hS hKp =>
    ⟨_, hzl.lay hH hX (by rw [be_len]; omega) (by rw [be_len]; omega) hlen, h.turn hH hX (by rw [be_len]; omega) hS hKp p (upf n H K) s (fun G hG => ⟨rfl, upf_ne _ _ hG, rfl⟩) (fun hI0 => by
      have := hI0.setL2 ((nm K : Nat) : Int) ⟨by omega, by have := nm_lt K; omega⟩
      unfold itm at this ⊢
      rw [upf_same]
      exact this) ⟨(h.lk H hH).1, by rw [upf_same]; exact hK⟩⟩
  rcases hK with rfl | hK
  · refine (setLink_zero h.iss hA hX _ hI.kl (by omega) 2 (by omega)).mono ?_
    rintro y w' ⟨rfl, hKp, hS⟩
    exact ⟨rfl, hKp, fin w' hS hKp⟩
  · obtain ⟨x2, k2, hX2, _⟩ := h.its K hK
    refine (setLink_to h.iss hA hX _ hI.kl (by omega) 2 (by omega) hX2).mono ?_
    rintro y w' ⟨rfl, hKp, hS⟩
    exact ⟨rfl, hKp, fin w' hS hKp⟩
/-- The state is set. -/
theorem q_setS (h : QW w sb qb gl gc F B b c d e f g A m T bs p n s L) {H v : Nat} (hH : H ∈ T) (h1 : 1 ≤ v) (h2 : v ≤ 4) :
    Calls Tryz.prog 153 #[.pointer (some ⟨sb, 0, none⟩), .int .u64 H, .int .i64 v] w fun y w' => y = .returned (.int .i64 0) ∧ Kp F w w' ∧ QW w' sb qb gl gc F B b c d e f g A m T bs p n (upf s H v) L := by
  obtain ⟨zs, hzl, h⟩ := h
  obtain ⟨x, k, hX, hI, hs⟩ := h.its H hH
  have hA := h.inv.fit
  have hk1 := hI.k1
  have hlen : A.place x k + 58 ≤ zs.length := by
    have := hI.lies.le
    rw [It.len] at this
    omega
  refine (setState_yes h.iss hA hX _ hI.kl (by omega) v h1 h2).mono ?_
  rintro y w' ⟨rfl, hKp, hS⟩
  refine ⟨rfl, hKp, _, hzl.lay hH hX (by rw [be_len]; omega) (by rw [be_len]; omega) hlen, h.turn hH hX (by rw [be_len]; omega) hS hKp p n (upf s H v) (fun G hG => ⟨rfl, rfl, upf_ne _ _ hG⟩) (fun hI0 => ?_) (h.lk H hH)⟩
  have := hI0.setSt ((v : Nat) : Int) ⟨by omega, by omega⟩
  unfold itm at this ⊢
  rw [upf_same]
  exact this

/-- A list's cells are turned. -/
def Ls.sHd (L : Ls) (c k v : Nat) : Ls := { L with hd := fun c2 k2 => if c2 = c ∧ k2 = k then v else L.hd c2 k2 }
def Ls.sTl (L : Ls) (c k v : Nat) : Ls := { L with tl := fun c2 k2 => if c2 = c ∧ k2 = k then v else L.tl c2 k2 }
def Ls.sLn (L : Ls) (c k v : Nat) : Ls := { L with ln := fun c2 k2 => if c2 = c ∧ k2 = k then v else L.ln c2 k2 }
theorem QW.hd (h : QW w sb qb gl gc F B b c d e f g A m T bs p n s L) {ci k : Nat} (hc : ci < A.n) (hk : k < 3) (v : Nat) :
    QW (w.setCell ⟨gl, ci * 9 + k * 3, none⟩ (.int .u64 v)) sb qb gl gc F B b c d e f g A m T bs p n s (L.sHd ci k v) ∧ Kp (fun x => x = gl) w (w.setCell ⟨gl, ci * 9 + k * 3, none⟩ (.int .u64 v)) := by
  obtain ⟨zs, hzl, h⟩ := h
  have := h.setL hc hk (j := 0) (by omega) (.int .u64 v) (L.sHd ci k v) (by simp [lC, Ls.sHd]) (fun c2 k2 hne => by simp only [lC, Ls.sHd, if_neg hne])
  exact ⟨⟨zs, hzl, this.1⟩, this.2⟩
theorem QW.tl (h : QW w sb qb gl gc F B b c d e f g A m T bs p n s L) {ci k : Nat} (hc : ci < A.n) (hk : k < 3) (v : Nat) :
    QW (w.setCell ⟨gl, ci * 9 + k * 3 + 1, none⟩ (.int .u64 v)) sb qb gl gc F B b c d e f g A m T bs p n s (L.sTl ci k v) ∧ Kp (fun x => x = gl) w (w.setCell ⟨gl, ci * 9 + k * 3 + 1, none⟩ (.int .u64 v)) := by
  obtain ⟨zs, hzl, h⟩ := h
  have := h.setL hc hk (j := 1) (by omega) (.int .u64 v) (L.sTl ci k v) (by simp [lC, Ls.sTl]) (fun c2 k2 hne => by simp only [lC, Ls.sTl, if_neg hne])
  exact ⟨⟨zs, hzl, this.1⟩, this.2⟩
theorem QW.ln (h : QW w sb qb gl gc F B b c d e f g A m T bs p n s L) {ci k : Nat} (hc : ci < A.n) (hk : k < 3) (v : Nat) :
    QW (w.setCell ⟨gl, ci * 9 + k * 3 + 2, none⟩ (.int .i64 v)) sb qb gl gc F B b c d e f g A m T bs p n s (L.sLn ci k v) ∧ Kp (fun x => x = gl) w (w.setCell ⟨gl, ci * 9 + k * 3 + 2, none⟩ (.int .i64 v)) := by
  obtain ⟨zs, hzl, h⟩ := h
  have := h.setL hc hk (j := 2) (by omega) (.int .i64 v) (L.sLn ci k v) (by simp [lC, Ls.sLn]) (fun c2 k2 hne => by simp only [lC, Ls.sLn, if_neg hne])
  exact ⟨⟨zs, hzl, this.1⟩, this.2⟩
theorem QW.cells (h : QW w sb qb gl gc F B b c d e f g A m T bs p n s L) {ci k : Nat} (hc : ci < A.n) (hk : k < 3) : w.cell? ⟨gl, ci * 9 + k * 3, none⟩ = some (.int .u64 (L.hd ci k)) ∧ w.cell? ⟨gl, ci * 9 + k * 3 + 1, none⟩ = some (.int .u64 (L.tl ci k)) ∧ w.cell? ⟨gl, ci * 9 + k * 3 + 2, none⟩ = some (.int .i64 (L.ln ci k)) ∧ (∀ i, w.frozen? ⟨gl, i, none⟩ = false) ∧ w.cell? ⟨qb, 0, none⟩ = some (.pointer (some ⟨sb, 0, none⟩)) := by
  obtain ⟨zs, hzl, h⟩ := h
  exact ⟨h.lcell hc hk (j := 0) (by omega), h.lcell hc hk (j := 1) (by omega), h.lcell hc hk (j := 2) (by omega), h.fz, h.box.cell 0⟩

/-- What meet makes of the lists. -/
def Ls.met (L : Ls) (c k x y : Nat) : Ls := (if y = 0 then (if x = 0 then L.sHd c k y else L).sTl c k x else (if x = 0 then L.sHd c k y else L))

set_option maxRecDepth 100000 in
set_option maxHeartbeats 1000000 in
theorem q_meet (h : QW w sb qb gl gc F B b c d e f g A m T bs p n s L) {ci k : Nat} (hc : ci < A.n) (hk : k < 3) {x y : Nat} (hx : x = 0 ∨ x ∈ T) (hy : y = 0 ∨ y ∈ T) :
    Calls Tryz.prog 152 #[.pointer (some ⟨qb, 0, none⟩), .pointer (some ⟨gl, ci * 9 + k * 3, none⟩), .int .u64 x, .int .u64 y] w fun z w' => z = .returned (.tuple #[]) ∧ Hid (Kp (fun k => F k ∨ k = gl) w w' ∧ QW w' sb qb gl gc F B b c d e f g A m T bs (mP p x y) (mN n x y) s (L.met ci k x y)) := by
  have hz : ∀ {K}, K ∈ T → ¬ K = 0 := fun hK => h.choose_spec.2.nz hK
  obtain ⟨c1, c2, c3, c4, c5⟩ := h.cells hc hk
  have f1 := c4 (ci * 9 + k * 3)
  have f2 := c4 (ci * 9 + k * 3 + 1)
  by_cases hx0 : x = 0
  · subst hx0
    obtain ⟨h1, hK1⟩ := h.hd hc hk y
    obtain ⟨e1, e2, e3, e4, e5⟩ := h1.cells hc hk
    have e4' := e4 (ci * 9 + k * 3 + 1)
    have l1 : Kp (fun k => F k ∨ k = gl) w (w.setCell ⟨gl, ci * 9 + k * 3, none⟩ (.int .u64 y)) := hK1.mono (fun k hk => .inl (.inr hk))
    by_cases hy0 : y = 0
    · subst hy0
      obtain ⟨h2, hK2⟩ := h1.tl hc hk 0
      have hE : Hid (Kp (fun k => F k ∨ k = gl) w ((w.setCell ⟨gl, ci * 9 + k * 3, none⟩ (.int .u64 ((0 : Nat) : Int))).setCell ⟨gl, ci * 9 + k * 3 + 1, none⟩ (.int .u64 ((0 : Nat) : Int))) ∧ QW ((w.setCell ⟨gl, ci * 9 + k * 3, none⟩ (.int .u64 ((0 : Nat) : Int))).setCell ⟨gl, ci * 9 + k * 3 + 1, none⟩ (.int .u64 ((0 : Nat) : Int))) sb qb gl gc F B b c d e f g A m T bs (mP p 0 0) (mN n 0 0) s (L.met ci k 0 0)) := ⟨l1.trans hK2 (fun _ h => h) (fun k hk => .inl (.inr hk)), h2⟩
      simp only [show ((0 : Nat) : Int) = 0 from rfl] at *
      clear h h1 h2 hK1 hK2 hz l1
      go_enter Tryz.func152, Tryz.ntmps152
      go_wp2
      go_end0
      exact ⟨rfl, hE⟩
    · have hyT : y ∈ T := hy.resolve_left hy0
      have hyz : ¬ (y : Int) = 0 := by omega
      have hs := (q_set1 h1 hyT (K := 0) (.inl rfl)).mono (R' := fun z w' => z = .returned (.int .i64 0) ∧ Hid (Kp (fun k => F k ∨ k = gl) w w' ∧ QW w' sb qb gl gc F B b c d e f g A m T bs (mP p 0 y) (mN n 0 y) s (L.met ci k 0 y))) (by
        rintro z w' ⟨rfl, hK2, h2⟩
        refine ⟨rfl, l1.trans hK2 (fun _ h => h) (fun k hk => .inl (.inl hk)), ?_⟩
        unfold mP mN Ls.met
        rw [if_neg hy0, if_pos rfl, if_neg hy0, if_pos rfl]
        exact h2)
      simp only [show ((0 : Nat) : Int) = 0 from rfl] at *
      clear h h1 hK1 hz l1 hy hyT
      go_enter Tryz.func152, Tryz.ntmps152
      go_wp2_with (first | (go_at_call 154; go_must (with_reducible refine hs.mono ?_); rintro z w1 ⟨rfl, hE⟩) | fail)
      go_end0
      exact ⟨rfl, hE⟩
  · have hxT : x ∈ T := hx.resolve_left hx0
    have hxz : ¬ (x : Int) = 0 := by omega
    by_cases hy0 : y = 0
    · subst hy0
      have hs := (q_set2 h hxT (K := 0) (.inl rfl)).mono (R' := fun z w' => z = .returned (.int .i64 0) ∧ (∃ v, w'.cell? ⟨gl, ci * 9 + k * 3 + 1, none⟩ = some (.int .u64 v)) ∧ w'.frozen? ⟨gl, ci * 9 + k * 3 + 1, none⟩ = false ∧ Hid (Kp (fun k => F k ∨ k = gl) w (w'.setCell ⟨gl, ci * 9 + k * 3 + 1, none⟩ (.int .u64 x)) ∧ QW (w'.setCell ⟨gl, ci * 9 + k * 3 + 1, none⟩ (.int .u64 x)) sb qb gl gc F B b c d e f g A m T bs (mP p x 0) (mN n x 0) s (L.met ci k x 0))) (by
        rintro z w' ⟨rfl, hK2, h2⟩
        obtain ⟨e1, e2, e3, e4, e5⟩ := h2.cells hc hk
        obtain ⟨h3, hK3⟩ := h2.tl hc hk x
        refine ⟨rfl, ⟨_, e2⟩, e4 _, (hK2.mono (fun k hk => .inl (.inl hk))).trans hK3 (fun _ h => h) (fun k hk => .inl (.inr hk)), ?_⟩
        unfold mP mN Ls.met
        rw [if_pos rfl, if_neg hx0, if_pos rfl, if_neg hx0]
        exact h3)
      simp only [show ((0 : Nat) : Int) = 0 from rfl] at *
      clear h hz hx hxT
      go_enter Tryz.func152, Tryz.ntmps152
      go_wp2_with (first | (go_at_call 154; go_must (with_reducible refine hs.mono ?_); rintro z w1 ⟨rfl, ⟨v, d1⟩, d2, hE⟩) | fail)
      go_end0
      exact ⟨rfl, hE⟩
    · have hyT : y ∈ T := hy.resolve_left hy0
      have hyz : ¬ (y : Int) = 0 := by omega
      have hs := (q_set2 h hxT (K := y) hy).mono (R' := fun z w' => z = .returned (.int .i64 0) ∧ w'.cell? ⟨qb, 0, none⟩ = some (.pointer (some ⟨sb, 0, none⟩)) ∧ Hid (Kp (fun k => F k ∨ k = gl) w w' ∧ QW w' sb qb gl gc F B b c d e f g A m T bs p (upf n x y) s L)) (by
        rintro z w' ⟨rfl, hK2, h2⟩
        exact ⟨rfl, (h2.cells hc hk).2.2.2.2, hK2.mono (fun k hk => .inl (.inl hk)), h2⟩)
      have hs2 := fun W (hE : Hid (Kp (fun k => F k ∨ k = gl) w W ∧ QW W sb qb gl gc F B b c d e f g A m T bs p (upf n x y) s L)) => (q_set1 hE.out.2 hyT (K := x) (.inr hxT)).mono (R' := fun z w' => z = .returned (.int .i64 0) ∧ Hid (Kp (fun k => F k ∨ k = gl) w w' ∧ QW w' sb qb gl gc F B b c d e f g A m T bs (mP p x y) (mN n x y) s (L.met ci k x y))) (by
        rintro z w' ⟨rfl, hK2, h2⟩
        refine ⟨rfl, hE.out.1.trans hK2 (fun _ h => h) (fun k hk => .inl (.inl hk)), ?_⟩
        unfold mP mN Ls.met
        rw [if_neg hy0, if_neg hx0, if_neg hy0, if_neg hx0]
        exact h2)
      clear h hz hx hxT hy hyT
      go_enter Tryz.func152, Tryz.ntmps152
      go_wp2_with (first | (go_at_call 154; with_reducible refine hs.mono ?_; rintro z w1 ⟨rfl, d1, hE1⟩) | (go_at_call 154; go_must (with_reducible refine (hs2 _ hE1).mono ?_); rintro z w2 ⟨rfl, hE⟩) | fail)
      go_end0
      exact ⟨rfl, hE⟩
end
end Go.Proofs.YtjkdflnnpdionaaGreat
/-
  A queue: an item comes in, leaves.
-/
namespace Go.Proofs.YtjkdflnnpdionaaGreat
open Go.RowKit
set_option linter.unusedVariables false

theorem met_ln (L : Ls) (c k x y : Nat) : (L.met c k x y).ln = L.ln := by
  unfold Ls.met
  split <;> split <;> rfl
section
variable {w : World} {sb qb gl gc : Nat} {F : Nat → Prop} {B : Bl} {b c d e f g : Int} {A : Ab} {m : List Int} {T : List Nat} {bs : Nat → It} {p n s : Nat → Nat} {L : Ls}

set_option maxRecDepth 100000 in
theorem q_mayEnter (h : QW w sb qb gl gc F B b c d e f g A m T bs p n s L) {H k : Nat} (hH : H ∈ T) (hk : k < 3) (hs : s H = 4) :
    Calls Tryz.prog 73 #[.pointer (some ⟨qb, 0, none⟩), .int .u64 H, .int .i64 ((k : Int) + 1)] w fun y w' => y = .returned (.int .i64 0) ∧ w.grownBy w' none := by
  obtain ⟨zs, hzl, h⟩ := h
  have c0 := h.box.cell 0
  simp at c0
  obtain ⟨x, i, hX, hI, hsz⟩ := h.its H hH
  have hk1 := hI.k1
  have hvn := hI.vn
  have hln := lengths_yes h.iss h.inv.fit hX _ hI.kl (by omega) _ hI.vl (by omega)
  have hst := fun W (hf : w.grownBy W none) => q_state (h.kept0 hf) hH
  rw [hs] at hst
  simp only [show ((4 : Nat) : Int) = 4 from rfl] at hst
  have hik := fun W => isKind_yes k hk W
  have hin := fun W => isKind_no 4 (by omega) W
  generalize (itm bs p n s H).key.length = kl at *
  generalize (itm bs p n s H).val.length = vl at *
  have hkl0 : ¬ kl = 0 := by omega
  have hkl1 : ¬ (kl : Int) = 0 := by omega
  clear h hX hI hs hsz
  go_enter Tryz.func73, Tryz.ntmps73
  go_wp2_with (first | (go_at_call 76; with_reducible refine (hik _).mono ?_; rintro y w' ⟨rfl, rfl⟩) | (go_at_call 76; with_reducible refine (hin _).mono ?_; rintro y w' ⟨rfl, rfl⟩) | (go_at_call 151; go_must (refine hln.mono ?_); rintro y w1 ⟨rfl, hf1⟩) | (go_at_call 77; go_must (refine (hst _ hf1).mono ?_); rintro y w2 ⟨rfl, hf2⟩) | fail)
  go_ret
  exact ⟨rfl, gb_trans hf1 hf2⟩

/-- The lists when an item has come in. -/
def Ls.entered (L : Ls) (c k x H y : Nat) : Ls := ((L.met c k x H).met c k H y).sLn c k (L.ln c k + 1)

set_option maxRecDepth 100000 in
set_option maxHeartbeats 1000000 in
theorem q_enter (h : QW w sb qb gl gc F B b c d e f g A m T bs p n s L) {H k x y o : Nat} (hH : H ∈ T) (hk : k < 3) (hx : x = 0 ∨ x ∈ T) (hy : y = 0 ∨ y ∈ T) (ho : ∀ X Y, IsH A H X Y → A.own X = o) (hln : L.ln o k ≤ 1099511627776) :
    Calls Tryz.prog 74 #[.pointer (some ⟨qb, 0, none⟩), .int .u64 H, .int .i64 ((k : Int) + 1), .int .u64 x, .int .u64 y] w fun z w' => z = .returned (.tuple #[]) ∧ Kp (fun k => F k ∨ k = gl) w w' ∧ QW w' sb qb gl gc F B b c d e f g A m T bs (mP (mP p x H) H y) (mN (mN n x H) H y) (upf s H (k + 1)) (L.entered o k x H y) := by
  obtain ⟨zs, hzl, h0⟩ := h
  obtain ⟨X, Y, hX, _⟩ := h0.its H hH
  have hoo := ho X Y hX
  have hof := q_of h0 hX hk
  rw [hoo] at hof
  have hc : o < A.n := hoo ▸ h0.inv.fit.on X hX.hp
  have h : QW w sb qb gl gc F B b c d e f g A m T bs p n s L := ⟨zs, hzl, h0⟩
  have hm1 := fun W (hf : w.grownBy W none) => q_meet (h.kept0 hf) hc hk hx (y := H) (.inr hH)
  have hm2 := fun W W0 (hf : w.grownBy W0 none) (hE : Hid (Kp (fun k => F k ∨ k = gl) W0 W ∧ QW W sb qb gl gc F B b c d e f g A m T bs (mP p x H) (mN n x H) s (L.met o k x H))) => (q_meet hE.out.2 hc hk (x := H) (.inr hH) hy).mono (R' := fun z w' => z = .returned (.tuple #[]) ∧ w'.cell? ⟨gl, o * 9 + k * 3 + 2, none⟩ = some (.int .i64 (L.ln o k)) ∧ w'.frozen? ⟨gl, o * 9 + k * 3 + 2, none⟩ = false ∧ (w'.setCell ⟨gl, o * 9 + k * 3 + 2, none⟩ (.int .i64 ((L.ln o k : Int) + 1))).cell? ⟨qb, 0, none⟩ = some (.pointer (some ⟨sb, 0, none⟩)) ∧ Hid (Kp (fun k => F k ∨ k = gl) w (w'.setCell ⟨gl, o * 9 + k * 3 + 2, none⟩ (.int .i64 ((L.ln o k : Int) + 1))) ∧ QW (w'.setCell ⟨gl, o * 9 + k * 3 + 2, none⟩ (.int .i64 ((L.ln o k : Int) + 1))) sb qb gl gc F B b c d e f g A m T bs (mP (mP p x H) H y) (mN (mN n x H) H y) s (L.entered o k x H y))) (by
    rintro z w' ⟨rfl, hE2⟩
    obtain ⟨hK2, h2⟩ := hE2.out
    obtain ⟨e1, e2, e3, e4, e5⟩ := h2.cells hc hk
    rw [met_ln, met_ln] at e3
    obtain ⟨h3, hK3⟩ := h2.ln hc hk (L.ln o k + 1)
    rw [show ((L.ln o k + 1 : Nat) : Int) = (L.ln o k : Int) + 1 by omega] at h3 hK3
    exact ⟨rfl, e3, e4 _, (h3.cells hc hk).2.2.2.2, (((Kp.of hf).trans hE.out.1 (fun _ h => h) (fun k hk => .inl hk)).trans hK2 (fun _ h => h) (fun k hk => .inl hk)).trans hK3 (fun _ h => h) (fun k hk => .inl (.inr hk)), h3⟩)
  have hst := fun W (hE : Hid (Kp (fun k => F k ∨ k = gl) w W ∧ QW W sb qb gl gc F B b c d e f g A m T bs (mP (mP p x H) H y) (mN (mN n x H) H y) s (L.entered o k x H y))) => (q_setS hE.out.2 hH (v := k + 1) (by omega) (by omega)).mono (R' := fun z w' => z = .returned (.int .i64 0) ∧ Hid (Kp (fun k => F k ∨ k = gl) w w' ∧ QW w' sb qb gl gc F B b c d e f g A m T bs (mP (mP p x H) H y) (mN (mN n x H) H y) (upf s H (k + 1)) (L.entered o k x H y))) (by
    rintro z w' ⟨rfl, hK3, h3⟩
    exact ⟨rfl, hE.out.1.trans hK3 (fun _ h => h) (fun k hk => .inl (.inl hk)), h3⟩)
  simp only [show ((k + 1 : Nat) : Int) = (k : Int) + 1 from rfl] at hst
  clear h h0 hX ho hoo hx hy hH
  generalize L.ln o k = ln at *
  go_enter Tryz.func74, Tryz.ntmps74
  go_wp2_with (first | (go_at_call 75; go_must (refine hof.mono ?_); rintro z w1 ⟨rfl, hf1⟩) | (go_at_call 152; with_reducible refine (hm1 _ hf1).mono ?_; rintro z w2 ⟨rfl, hE1⟩) | (go_at_call 152; with_reducible refine (hm2 _ _ hf1 hE1).mono ?_; rintro z w3 ⟨rfl, d1, d2, d3, hE2⟩) | (go_at_call 153; go_must (with_reducible refine (hst _ hE2).mono ?_); rintro z w4 ⟨rfl, hE3⟩) | fail)
  go_end0
  exact ⟨rfl, hE3.out⟩

/-- The lists when an item has left. -/
def Ls.left (L : Ls) (c k x y : Nat) : Ls := (L.met c k x y).sLn c k (L.ln c k - 1)

set_option maxRecDepth 100000 in
set_option maxHeartbeats 1000000 in
theorem q_leave (h : QW w sb qb gl gc F B b c d e f g A m T bs p n s L) {H k x y o : Nat} (hH : H ∈ T) (hk : k < 3) (hs : s H = k + 1) (hx : p H = x) (hy : n H = y) (ho : ∀ X Y, IsH A H X Y → A.own X = o) (hln : 1 ≤ L.ln o k ∧ L.ln o k ≤ 1099511627776) :
    Calls Tryz.prog 78 #[.pointer (some ⟨qb, 0, none⟩), .int .u64 H] w fun z w' => z = .returned (.tuple #[]) ∧ Kp (fun k => F k ∨ k = gl) w w' ∧ QW w' sb qb gl gc F B b c d e f g A m T bs (upf (mP p x y) H 0) (upf (mN n x y) H 0) (upf s H 4) (L.left o k x y) := by
  obtain ⟨zs, hzl, h0⟩ := h
  obtain ⟨X, Y, hX, _⟩ := h0.its H hH
  have hoo := ho X Y hX
  have hlk := h0.lk H hH
  rw [hx, hy] at hlk
  have hst := q_state h0 hH
  rw [hs, show ((k + 1 : Nat) : Int) = (k : Int) + 1 from rfl] at hst
  have hof := fun W (hf : w.grownBy W none) => q_of (h0.kept0 hf) hX hk
  rw [hoo] at hof
  have hn1 := fun W (hf : w.grownBy W none) => q_next (h0.kept0 hf) hH 1 (.inl rfl) x (by rw [if_pos rfl]; exact hx)
  have hn2 := fun W (hf : w.grownBy W none) => q_next (h0.kept0 hf) hH 2 (.inr rfl) y (by rw [if_neg (by decide)]; exact hy)
  simp only [show ((1 : Nat) : Int) = 1 from rfl, show ((2 : Nat) : Int) = 2 from rfl] at hn1 hn2
  have hc : o < A.n := hoo ▸ h0.inv.fit.on X hX.hp
  have h : QW w sb qb gl gc F B b c d e f g A m T bs p n s L := ⟨zs, hzl, h0⟩
  have hm := fun W0 (hf : w.grownBy W0 none) => (q_meet (h.kept0 hf) hc hk hlk.1 hlk.2).mono (R' := fun z w' => z = .returned (.tuple #[]) ∧ w'.cell? ⟨gl, o * 9 + k * 3 + 2, none⟩ = some (.int .i64 (L.ln o k)) ∧ w'.frozen? ⟨gl, o * 9 + k * 3 + 2, none⟩ = false ∧ (w'.setCell ⟨gl, o * 9 + k * 3 + 2, none⟩ (.int .i64 ((L.ln o k : Int) - 1))).cell? ⟨qb, 0, none⟩ = some (.pointer (some ⟨sb, 0, none⟩)) ∧ Hid (Kp (fun k => F k ∨ k = gl) w (w'.setCell ⟨gl, o * 9 + k * 3 + 2, none⟩ (.int .i64 ((L.ln o k : Int) - 1))) ∧ QW (w'.setCell ⟨gl, o * 9 + k * 3 + 2, none⟩ (.int .i64 ((L.ln o k : Int) - 1))) sb qb gl gc F B b c d e f g A m T bs (mP p x y) (mN n x y) s (L.left o k x y))) (by
    rintro z w' ⟨rfl, hE2⟩
    obtain ⟨hK2, h2⟩ := hE2.out
    obtain ⟨e1, e2, e3, e4, e5⟩ := h2.cells hc hk
    rw [met_ln] at e3
    obtain ⟨h3, hK3⟩ := h2.ln hc hk (L.ln o k - 1)
    rw [show ((L.ln o k - 1 : Nat) : Int) = (L.ln o k : Int) - 1 by omega] at h3 hK3
    exact ⟨rfl, e3, e4 _, (h3.cells hc hk).2.2.2.2, ((Kp.of hf).trans hK2 (fun _ h => h) (fun k hk => .inl hk)).trans hK3 (fun _ h => h) (fun k hk => .inl (.inr hk)), h3⟩)
  have hs1 := fun W (hE : Hid (Kp (fun k => F k ∨ k = gl) w W ∧ QW W sb qb gl gc F B b c d e f g A m T bs (mP p x y) (mN n x y) s (L.left o k x y))) => (q_set1 hE.out.2 hH (K := 0) (.inl rfl)).mono (R' := fun z w' => z = .returned (.int .i64 0) ∧ w'.cell? ⟨qb, 0, none⟩ = some (.pointer (some ⟨sb, 0, none⟩)) ∧ Hid (Kp (fun k => F k ∨ k = gl) w w' ∧ QW w' sb qb gl gc F B b c d e f g A m T bs (upf (mP p x y) H 0) (mN n x y) s (L.left o k x y))) (by
    rintro z w' ⟨rfl, hK3, h3⟩
    exact ⟨rfl, (h3.cells hc hk).2.2.2.2, hE.out.1.trans hK3 (fun _ h => h) (fun k hk => .inl (.inl hk)), h3⟩)
  have hs2 := fun W (hE : Hid (Kp (fun k => F k ∨ k = gl) w W ∧ QW W sb qb gl gc F B b c d e f g A m T bs (upf (mP p x y) H 0) (mN n x y) s (L.left o k x y))) => (q_set2 hE.out.2 hH (K := 0) (.inl rfl)).mono (R' := fun z w' => z = .returned (.int .i64 0) ∧ w'.cell? ⟨qb, 0, none⟩ = some (.pointer (some ⟨sb, 0, none⟩)) ∧ Hid (Kp (fun k => F k ∨ k = gl) w w' ∧ QW w' sb qb gl gc F B b c d e f g A m T bs (upf (mP p x y) H 0) (upf (mN n x y) H 0) s (L.left o k x y))) (by
    rintro z w' ⟨rfl, hK3, h3⟩
    exact ⟨rfl, (h3.cells hc hk).2.2.2.2, hE.out.1.trans hK3 (fun _ h => h) (fun k hk => .inl (.inl hk)), h3⟩)
  have hs3 := fun W (hE : Hid (Kp (fun k => F k ∨ k = gl) w W ∧ QW W sb qb gl gc F B b c d e f g A m T bs (upf (mP p x y) H 0) (upf (mN n x y) H 0) s (L.left o k x y))) => (q_setS hE.out.2 hH (v := 4) (by omega) (by omega)).mono (R' := fun z w' => z = .returned (.int .i64 0) ∧ Hid (Kp (fun k => F k ∨ k = gl) w w' ∧ QW w' sb qb gl gc F B b c d e f g A m T bs (upf (mP p x y) H 0) (upf (mN n x y) H 0) (upf s H 4) (L.left o k x y))) (by
    rintro z w' ⟨rfl, hK3, h3⟩
    exact ⟨rfl, hE.out.1.trans hK3 (fun _ h => h) (fun k hk => .inl (.inl hk)), h3⟩)
  simp only [show ((0 : Nat) : Int) = 0 from rfl, show ((4 : Nat) : Int) = 4 from rfl] at hs1 hs2 hs3
  clear h h0 hX ho hoo hx hy hH hlk hs
  generalize L.ln o k = ln at *
  go_enter Tryz.func78, Tryz.ntmps78
  go_wp2_with (first | (go_at_call 77; go_must (refine hst.mono ?_); rintro z w1 ⟨rfl, hf1⟩) | (go_at_call 75; go_must (refine (hof _ hf1).mono ?_); rintro z w2 ⟨rfl, hf2⟩; (have hf12 := gb_trans hf1 hf2)) | (go_at_call 130; with_reducible refine (hn1 _ hf12).mono ?_; rintro z w3 ⟨rfl, hf3⟩; (have hf13 := gb_trans hf12 hf3)) | (go_at_call 130; with_reducible refine (hn2 _ hf13).mono ?_; rintro z w4 ⟨rfl, hf4⟩; (have hf14 := gb_trans hf13 hf4)) | (go_at_call 152; go_must (with_reducible refine (hm _ hf14).mono ?_); rintro z w5 ⟨rfl, d1, d2, d3, hE2⟩) | (go_at_call 154; with_reducible refine (hs1 _ hE2).mono ?_; rintro z w6 ⟨rfl, d6, hE6⟩) | (go_at_call 154; with_reducible refine (hs2 _ hE6).mono ?_; rintro z w7 ⟨rfl, d7, hE7⟩) | (go_at_call 153; go_must (with_reducible refine (hs3 _ hE7).mono ?_); rintro z w8 ⟨rfl, hE8⟩) | fail)
  go_end0
  exact ⟨rfl, hE8.out⟩
end
end Go.Proofs.YtjkdflnnpdionaaGreat
/-
  What lists a queue has.
-/
namespace Go.Proofs.YtjkdflnnpdionaaGreat
open Go.RowKit
set_option linter.unusedVariables false

/-- The lists X of classes and kinds are those of a queue. -/
structure LI (cls : Nat → Nat) (T : List Nat) (p n s : Nat → Nat) (L : Ls) (X : Nat → Nat → List Nat) : Prop where
  sub : ∀ c k H, H ∈ X c k → H ∈ T ∧ s H = k + 1 ∧ cls H = c
  k3 : ∀ c k H, H ∈ X c k → k < 3
  nd : ∀ c k, (X c k).Nodup
  lk : ∀ c k, Lk p n (X c k)
  hd : ∀ c k, L.hd c k = (X c k).headD 0
  tl : ∀ c k, L.tl c k = (X c k).getLastD 0
  ln : ∀ c k, L.ln c k = (X c k).length
  st : ∀ H, H ∈ T → 1 ≤ s H ∧ s H ≤ 4
  out : ∀ H, H ∈ T → s H ≤ 3 → H ∈ X (cls H) (s H - 1)
  non : ∀ H, H ∈ T → s H = 4 → p H = 0 ∧ n H = 0
  z : 0 ∉ T
def upX (X : Nat → Nat → List Nat) (c k : Nat) (v : List Nat) : Nat → Nat → List Nat := fun c2 k2 => if c2 = c ∧ k2 = k then v else X c2 k2
theorem upX_same (X : Nat → Nat → List Nat) (c k : Nat) (v : List Nat) : upX X c k v c k = v := by simp [upX]
theorem upX_ne (X : Nat → Nat → List Nat) {c k c2 k2 : Nat} (v : List Nat) (h : ¬ (c2 = c ∧ k2 = k)) : upX X c k v c2 k2 = X c2 k2 := by simp only [upX, if_neg h]
theorem Lk.congr {p n p' n' : Nat → Nat} {L : List Nat} (h : Lk p n L) (he : ∀ G, G ∈ L → p' G = p G ∧ n' G = n G) : Lk p' n' L := fun U G V hL => by
  have hG : G ∈ L := by rw [hL]; simp
  rw [(he G hG).1, (he G hG).2]
  exact h U G V hL
theorem lastD_zero {U : List Nat} (hz : 0 ∉ U) : U.getLastD 0 = 0 ↔ U = [] := by
  constructor
  · intro e
    by_cases h : U = []
    · exact h
    · exact absurd (e ▸ lastD_mem h) hz
  · rintro rfl; rfl
theorem headD_zero {U : List Nat} (hz : 0 ∉ U) : U.headD 0 = 0 ↔ U = [] := by
  constructor
  · intro e
    by_cases h : U = []
    · exact h
    · exact absurd (e ▸ headD_mem h) hz
  · rintro rfl; rfl
theorem lastD_in {U : List Nat} {P : Nat → Prop} (h : ∀ G, G ∈ U → P G) : U.getLastD 0 = 0 ∨ P (U.getLastD 0) := by
  by_cases e : U = []
  · subst e; exact .inl rfl
  · exact .inr (h _ (lastD_mem e))
theorem headD_in {U : List Nat} {P : Nat → Prop} (h : ∀ G, G ∈ U → P G) : U.headD 0 = 0 ∨ P (U.headD 0) := by
  by_cases e : U = []
  · subst e; exact .inl rfl
  · exact .inr (h _ (headD_mem e))

theorem entered_hd (L : Ls) (c k a H b : Nat) (hz : H ≠ 0) (c2 k2 : Nat) : (L.entered c k a H b).hd c2 k2 = if c2 = c ∧ k2 = k then (if a = 0 then H else L.hd c2 k2) else L.hd c2 k2 := by
  unfold Ls.entered Ls.met
  rw [if_neg hz, if_neg hz]
  by_cases a0 : a = 0 <;> by_cases b0 : b = 0 <;> by_cases e : c2 = c ∧ k2 = k <;> simp [Ls.sLn, Ls.sTl, Ls.sHd, a0, b0, e]
theorem entered_tl (L : Ls) (c k a H b : Nat) (hz : H ≠ 0) (c2 k2 : Nat) : (L.entered c k a H b).tl c2 k2 = if c2 = c ∧ k2 = k then (if b = 0 then H else L.tl c2 k2) else L.tl c2 k2 := by
  unfold Ls.entered Ls.met
  rw [if_neg hz, if_neg hz]
  by_cases a0 : a = 0 <;> by_cases b0 : b = 0 <;> by_cases e : c2 = c ∧ k2 = k <;> simp [Ls.sLn, Ls.sTl, Ls.sHd, a0, b0, e]
theorem left_hd (L : Ls) (c k a b : Nat) (c2 k2 : Nat) : (L.left c k a b).hd c2 k2 = if c2 = c ∧ k2 = k then (if a = 0 then b else L.hd c2 k2) else L.hd c2 k2 := by
  unfold Ls.left Ls.met
  by_cases a0 : a = 0 <;> by_cases b0 : b = 0 <;> by_cases e : c2 = c ∧ k2 = k <;> simp [Ls.sLn, Ls.sTl, Ls.sHd, a0, b0, e]
theorem left_tl (L : Ls) (c k a b : Nat) (c2 k2 : Nat) : (L.left c k a b).tl c2 k2 = if c2 = c ∧ k2 = k then (if b = 0 then a else L.tl c2 k2) else L.tl c2 k2 := by
  unfold Ls.left Ls.met
  by_cases a0 : a = 0 <;> by_cases b0 : b = 0 <;> by_cases e : c2 = c ∧ k2 = k <;> simp [Ls.sLn, Ls.sTl, Ls.sHd, a0, b0, e]

section
variable {cls : Nat → Nat} {T : List Nat} {p n s : Nat → Nat} {L : Ls} {X : Nat → Nat → List Nat}

theorem LI.enter (h : LI cls T p n s L X) {H k : Nat} (hH : H ∈ T) (hk : k < 3) (hs : s H = 4) (U V : List Nat) (hX : X (cls H) k = U ++ V) :
    LI cls T (mP (mP p (U.getLastD 0) H) H (V.headD 0)) (mN (mN n (U.getLastD 0) H) H (V.headD 0)) (upf s H (k + 1)) (L.entered (cls H) k (U.getLastD 0) H (V.headD 0)) (upX X (cls H) k (U ++ H :: V)) := by
  have hz : H ≠ 0 := fun e => h.z (e ▸ hH)
  have hmem : ∀ G, G ∈ U ++ V → G ∈ T ∧ s G = k + 1 ∧ cls G = cls H := fun G hG => h.sub _ _ G (by rw [hX]; exact hG)
  have hHn : H ∉ U ++ V := fun hm => by have := (hmem H hm).2.1; omega
  have h0 : 0 ∉ U ++ V := fun hm => h.z (hmem 0 hm).1
  have hnd : (U ++ V).Nodup := hX ▸ h.nd _ _
  have hlk : Lk p n (U ++ V) := hX ▸ h.lk _ _
  have h0U : 0 ∉ U := fun hm => h0 (List.mem_append_left _ hm)
  have h0V : 0 ∉ V := fun hm => h0 (List.mem_append_right _ hm)
  have hUl := lastD_in (U := U) (P := fun G => s G = k + 1 ∧ cls G = cls H) (fun G hG => (hmem G (List.mem_append_left _ hG)).2)
  have hVh := headD_in (U := V) (P := fun G => s G = k + 1 ∧ cls G = cls H) (fun G hG => (hmem G (List.mem_append_right _ hG)).2)
  have hoth : ∀ G, G ≠ H → G ≠ U.getLastD 0 → G ≠ V.headD 0 → mP (mP p (U.getLastD 0) H) H (V.headD 0) G = p G ∧ mN (mN n (U.getLastD 0) H) H (V.headD 0) G = n G := fun G h1 h2 h3 => ⟨by rw [mP_ne h3, mP_ne h1], by rw [mN_ne h1, mN_ne h2]⟩
  refine ⟨fun c2 k2 G hG => ?_, fun c2 k2 G hG => ?_, fun c2 k2 => ?_, fun c2 k2 => ?_, fun c2 k2 => ?_, fun c2 k2 => ?_, fun c2 k2 => ?_, fun G hG => ?_, fun G hG hsG => ?_, fun G hG hsG => ?_, h.z⟩
  · by_cases e : c2 = cls H ∧ k2 = k
    · obtain ⟨rfl, rfl⟩ := e
      rw [upX_same] at hG
      by_cases e2 : G = H
      · subst e2
        exact ⟨hH, upf_same _ _ _, rfl⟩
      · rw [upf_ne _ _ e2]
        refine hmem G ?_
        simp [e2] at hG ⊢
        exact hG
    · rw [upX_ne _ _ e] at hG
      have := h.sub c2 k2 G hG
      have hk3 := h.k3 c2 k2 G hG
      have e2 : G ≠ H := fun e2 => by subst e2; omega
      rw [upf_ne _ _ e2]
      exact this
  · by_cases e : c2 = cls H ∧ k2 = k
    · exact e.2 ▸ hk
    · rw [upX_ne _ _ e] at hG
      exact h.k3 c2 k2 G hG
  · by_cases e : c2 = cls H ∧ k2 = k
    · obtain ⟨rfl, rfl⟩ := e
      rw [upX_same]
      rw [List.nodup_append] at hnd ⊢
      refine ⟨hnd.1, List.nodup_cons.2 ⟨fun hm => hHn (List.mem_append_right _ hm), hnd.2.1⟩, fun a ha b hb => ?_⟩
      rcases List.mem_cons.1 hb with rfl | hb
      · exact fun e => hHn (e ▸ List.mem_append_left _ ha)
      · exact hnd.2.2 a ha b hb
    · rw [upX_ne _ _ e]; exact h.nd _ _
  · by_cases e : c2 = cls H ∧ k2 = k
    · obtain ⟨rfl, rfl⟩ := e
      rw [upX_same]
      exact hlk.enter hz h0 hHn hnd
    · rw [upX_ne _ _ e]
      refine (h.lk c2 k2).congr fun G hG => ?_
      obtain ⟨g1, g2, g3⟩ := h.sub c2 k2 G hG
      have gz : G ≠ 0 := fun e2 => h.z (e2 ▸ g1)
      have hk3 := h.k3 c2 k2 G hG
      refine hoth G (fun e2 => by subst e2; omega) (fun e2 => ?_) (fun e2 => ?_)
      · rcases hUl with h1 | h1
        · exact gz (e2.trans h1)
        · rw [← e2] at h1; exact e ⟨by omega, by omega⟩
      · rcases hVh with h1 | h1
        · exact gz (e2.trans h1)
        · rw [← e2] at h1; exact e ⟨by omega, by omega⟩
  · rw [entered_hd _ _ _ _ _ _ hz]
    by_cases e : c2 = cls H ∧ k2 = k
    · rw [if_pos e]
      obtain ⟨rfl, rfl⟩ := e
      rw [upX_same, h.hd, hX]
      by_cases a0 : U = []
      · subst a0; rfl
      · rw [if_neg (fun e => a0 ((lastD_zero h0U).1 e))]
        cases U with
        | nil => exact absurd rfl a0
        | cons u U => rfl
    · rw [if_neg e, upX_ne _ _ e]; exact h.hd _ _
  · rw [entered_tl _ _ _ _ _ _ hz]
    by_cases e : c2 = cls H ∧ k2 = k
    · rw [if_pos e]
      obtain ⟨rfl, rfl⟩ := e
      rw [upX_same, h.tl, hX]
      by_cases b0 : V = []
      · subst b0
        rw [if_pos (show ([] : List Nat).headD 0 = 0 from rfl), lastD_app]; rfl
      · rw [if_neg (fun e => b0 ((headD_zero h0V).1 e))]
        cases V with
        | nil => exact absurd rfl b0
        | cons v V =>
          rw [lastD_snoc, lastD_app]
          exact lastD_any (by simp) _ _
    · rw [if_neg e, upX_ne _ _ e]; exact h.tl _ _
  · show (((L.met _ k _ H).met _ k H _).sLn _ k _).ln c2 k2 = _
    simp only [Ls.sLn, met_ln]
    by_cases e : c2 = cls H ∧ k2 = k
    · rw [if_pos e]
      obtain ⟨rfl, rfl⟩ := e
      rw [upX_same, h.ln, hX]
      simp; omega
    · rw [if_neg e, upX_ne _ _ e]; exact h.ln _ _
  · by_cases e2 : G = H
    · subst e2; rw [upf_same]; omega
    · rw [upf_ne _ _ e2]; exact h.st G hG
  · by_cases e2 : G = H
    · subst e2
      rw [upf_same, Nat.add_sub_cancel, upX_same]
      simp
    · rw [upf_ne _ _ e2] at hsG ⊢
      have h1 := h.out G hG hsG
      by_cases e : cls G = cls H ∧ s G - 1 = k
      · rw [e.1, e.2, upX_same]
        rw [e.1, e.2, hX] at h1
        simp [e2] at h1 ⊢
        exact h1
      · rw [upX_ne _ _ e]; exact h1
  · by_cases e2 : G = H
    · subst e2; rw [upf_same] at hsG; omega
    · rw [upf_ne _ _ e2] at hsG
      have gz : G ≠ 0 := fun e3 => h.z (e3 ▸ hG)
      have h1 := hoth G e2 (fun e3 => by
        rcases hUl with h1 | h1
        · exact gz (e3.trans h1)
        · rw [← e3] at h1; omega) (fun e3 => by
        rcases hVh with h1 | h1
        · exact gz (e3.trans h1)
        · rw [← e3] at h1; omega)
      rw [h1.1, h1.2]
      exact h.non G hG hsG

theorem LI.leave (h : LI cls T p n s L X) {H k : Nat} (hk : k < 3) (U V : List Nat) (hX : X (cls H) k = U ++ H :: V) :
    LI cls T (upf (mP p (U.getLastD 0) (V.headD 0)) H 0) (upf (mN n (U.getLastD 0) (V.headD 0)) H 0) (upf s H 4) (L.left (cls H) k (U.getLastD 0) (V.headD 0)) (upX X (cls H) k (U ++ V)) := by
  have hmem : ∀ G, G ∈ U ++ H :: V → G ∈ T ∧ s G = k + 1 ∧ cls G = cls H := fun G hG => h.sub _ _ G (by rw [hX]; exact hG)
  have hHm := hmem H (by simp)
  have h0 : 0 ∉ U ++ H :: V := fun hm => h.z (hmem 0 hm).1
  have hnd : (U ++ H :: V).Nodup := hX ▸ h.nd _ _
  have hlk : Lk p n (U ++ H :: V) := hX ▸ h.lk _ _
  have h0U : 0 ∉ U := fun hm => h0 (List.mem_append_left _ hm)
  have h0V : 0 ∉ V := fun hm => h0 (List.mem_append_right _ (List.mem_cons_of_mem _ hm))
  have hUl := lastD_in (U := U) (P := fun G => s G = k + 1 ∧ cls G = cls H) (fun G hG => (hmem G (List.mem_append_left _ hG)).2)
  have hVh := headD_in (U := V) (P := fun G => s G = k + 1 ∧ cls G = cls H) (fun G hG => (hmem G (List.mem_append_right _ (List.mem_cons_of_mem _ hG))).2)
  have hnd2 := hnd
  rw [List.nodup_append] at hnd2
  obtain ⟨nU, nHV, nUV⟩ := hnd2
  rw [List.nodup_cons] at nHV
  have hHn : H ∉ U ++ V := fun hm => by
    rcases List.mem_append.1 hm with hm | hm
    · exact nUV H hm H (by simp) rfl
    · exact nHV.1 hm
  have hsubm : ∀ G, G ∈ U ++ V → G ∈ U ++ H :: V := fun G hG => by simp at hG ⊢; rcases hG with h1 | h1; exact .inl h1; exact .inr (.inr h1)
  have hoth : ∀ G, G ≠ H → G ≠ U.getLastD 0 → G ≠ V.headD 0 → upf (mP p (U.getLastD 0) (V.headD 0)) H 0 G = p G ∧ upf (mN n (U.getLastD 0) (V.headD 0)) H 0 G = n G := fun G h1 h2 h3 => ⟨by rw [upf_ne _ _ h1, mP_ne h3], by rw [upf_ne _ _ h1, mN_ne h2]⟩
  refine ⟨fun c2 k2 G hG => ?_, fun c2 k2 G hG => ?_, fun c2 k2 => ?_, fun c2 k2 => ?_, fun c2 k2 => ?_, fun c2 k2 => ?_, fun c2 k2 => ?_, fun G hG => ?_, fun G hG hsG => ?_, fun G hG hsG => ?_, h.z⟩
  · by_cases e : c2 = cls H ∧ k2 = k
    · obtain ⟨rfl, rfl⟩ := e
      rw [upX_same] at hG
      have e2 : G ≠ H := fun e2 => hHn (e2 ▸ hG)
      rw [upf_ne _ _ e2]
      exact hmem G (hsubm G hG)
    · rw [upX_ne _ _ e] at hG
      have h1 := h.sub c2 k2 G hG
      have e2 : G ≠ H := fun e2 => by subst e2; exact e ⟨by omega, by omega⟩
      rw [upf_ne _ _ e2]
      exact h1
  · by_cases e : c2 = cls H ∧ k2 = k
    · exact e.2 ▸ hk
    · rw [upX_ne _ _ e] at hG
      exact h.k3 c2 k2 G hG
  · by_cases e : c2 = cls H ∧ k2 = k
    · obtain ⟨rfl, rfl⟩ := e
      rw [upX_same, List.nodup_append]
      exact ⟨nU, nHV.2, fun a ha b hb => nUV a ha b (List.mem_cons_of_mem _ hb)⟩
    · rw [upX_ne _ _ e]; exact h.nd _ _
  · by_cases e : c2 = cls H ∧ k2 = k
    · obtain ⟨rfl, rfl⟩ := e
      rw [upX_same]
      refine (hlk.leave h0 hnd).congr fun G hG => ?_
      have e2 : G ≠ H := fun e2 => hHn (e2 ▸ hG)
      exact ⟨upf_ne _ _ e2, upf_ne _ _ e2⟩
    · rw [upX_ne _ _ e]
      refine (h.lk c2 k2).congr fun G hG => ?_
      obtain ⟨g1, g2, g3⟩ := h.sub c2 k2 G hG
      have gz : G ≠ 0 := fun e2 => h.z (e2 ▸ g1)
      refine hoth G (fun e2 => by subst e2; exact e ⟨by omega, by omega⟩) (fun e2 => ?_) (fun e2 => ?_)
      · rcases hUl with h1 | h1
        · exact gz (e2.trans h1)
        · rw [← e2] at h1; exact e ⟨by omega, by omega⟩
      · rcases hVh with h1 | h1
        · exact gz (e2.trans h1)
        · rw [← e2] at h1; exact e ⟨by omega, by omega⟩
  · rw [left_hd]
    by_cases e : c2 = cls H ∧ k2 = k
    · rw [if_pos e]
      obtain ⟨rfl, rfl⟩ := e
      rw [upX_same, h.hd, hX]
      by_cases a0 : U = []
      · subst a0; rfl
      · rw [if_neg (fun e => a0 ((lastD_zero h0U).1 e))]
        cases U with
        | nil => exact absurd rfl a0
        | cons u U => rfl
    · rw [if_neg e, upX_ne _ _ e]; exact h.hd _ _
  · rw [left_tl]
    by_cases e : c2 = cls H ∧ k2 = k
    · rw [if_pos e]
      obtain ⟨rfl, rfl⟩ := e
      rw [upX_same, h.tl, hX]
      by_cases b0 : V = []
      · subst b0
        rw [List.append_nil]; rfl
      · rw [if_neg (fun e => b0 ((headD_zero h0V).1 e))]
        cases V with
        | nil => exact absurd rfl b0
        | cons v V =>
          rw [lastD_snoc, lastD_app]
          exact lastD_any (by simp) _ _
    · rw [if_neg e, upX_ne _ _ e]; exact h.tl _ _
  · simp only [Ls.left, Ls.sLn, met_ln]
    by_cases e : c2 = cls H ∧ k2 = k
    · rw [if_pos e]
      obtain ⟨rfl, rfl⟩ := e
      rw [upX_same, h.ln, hX]
      simp
    · rw [if_neg e, upX_ne _ _ e]; exact h.ln _ _
  · by_cases e2 : G = H
    · subst e2; rw [upf_same]; omega
    · rw [upf_ne _ _ e2]; exact h.st G hG
  · by_cases e2 : G = H
    · subst e2; rw [upf_same] at hsG; omega
    · rw [upf_ne _ _ e2] at hsG ⊢
      have h1 := h.out G hG hsG
      by_cases e : cls G = cls H ∧ s G - 1 = k
      · rw [e.1, e.2, upX_same]
        rw [e.1, e.2, hX] at h1
        simp [e2] at h1 ⊢
        exact h1
      · rw [upX_ne _ _ e]; exact h1
  · by_cases e2 : G = H
    · subst e2; exact ⟨upf_same _ _ _, upf_same _ _ _⟩
    · rw [upf_ne _ _ e2] at hsG
      have gz : G ≠ 0 := fun e3 => h.z (e3 ▸ hG)
      have h1 := hoth G e2 (fun e3 => by
        rcases hUl with h1 | h1
        · exact gz (e3.trans h1)
        · rw [← e3] at h1; omega) (fun e3 => by
        rcases hVh with h1 | h1
        · exact gz (e3.trans h1)
        · rw [← e3] at h1; omega)
      rw [h1.1, h1.2]
      exact h.non G hG hsG
theorem LI.split (h : LI cls T p n s L X) {c k H : Nat} (hm : H ∈ X c k) : ∃ U V, X c k = U ++ H :: V ∧ p H = U.getLastD 0 ∧ n H = V.headD 0 := by
  obtain ⟨U, V, hUV⟩ := List.append_of_mem hm
  have := h.lk c k U H V hUV
  exact ⟨U, V, hUV, this.1, this.2⟩
end
end Go.Proofs.YtjkdflnnpdionaaGreat
/-
  A queue: Push, Last, Drop, Shift.
-/
namespace Go.Proofs.YtjkdflnnpdionaaGreat
open Go.RowKit
set_option linter.unusedVariables false

/-- A queue with its lists. -/
structure QL (w : World) (sb qb gl gc : Nat) (F : Nat → Prop) (B : Bl) (b c d e f g : Int) (A : Ab) (m : List Int) (T : List Nat) (bs : Nat → It) (cls : Nat → Nat) (X : Nat → Nat → List Nat) : Prop where
  cl : ∀ H, H ∈ T → ∀ x y, IsH A H x y → A.own x = cls H
  tn : ∀ c k, (X c k).length ≤ 1099511627776
  ex : ∃ p n s L, QW w sb qb gl gc F B b c d e f g A m T bs p n s L ∧ LI cls T p n s L X

section
variable {w : World} {sb qb gl gc : Nat} {F : Nat → Prop} {B : Bl} {b c d e f g : Int} {A : Ab} {m : List Int} {T : List Nat} {bs : Nat → It} {cls : Nat → Nat} {X : Nat → Nat → List Nat}
theorem QL.kept0 {w' : World} (h : QL w sb qb gl gc F B b c d e f g A m T bs cls X) (hf : w.grownBy w' none) : QL w' sb qb gl gc F B b c d e f g A m T bs cls X := by
  obtain ⟨p, n, s, L, h1, h2⟩ := h.ex
  exact ⟨h.cl, h.tn, p, n, s, L, h1.kept0 hf, h2⟩
theorem QL.kept {w' : World} {G : Nat → Prop} (h : QL w sb qb gl gc F B b c d e f g A m T bs cls X) (hK : Kp G w w') (h1 : ∀ k, F k → ¬ G k) (h2 : ¬ G qb) (h3 : ¬ G gl) : QL w' sb qb gl gc F B b c d e f g A m T bs cls X := by
  obtain ⟨p, n, s, L, ⟨zs, hz, hq⟩, hl⟩ := h.ex
  exact ⟨h.cl, h.tn, p, n, s, L, ⟨zs, hz, hq.kept hK h1 h2 h3⟩, hl⟩

set_option maxRecDepth 100000 in
theorem q_push (h : QL w sb qb gl gc F B b c d e f g A m T bs cls X) {H k : Nat} (hH : H ∈ T) (hk : k < 3) (hno : ∀ k2, H ∉ X (cls H) k2) (hl : (X (cls H) k).length < 1099511627776) :
    Calls Tryz.prog 23 #[.pointer (some ⟨qb, 0, none⟩), .int .u64 H, .int .i64 ((k : Int) + 1)] w fun y w' => y = .returned (.int .i64 0) ∧ Kp (fun k => F k ∨ k = gl) w w' ∧ QL w' sb qb gl gc F B b c d e f g A m T bs cls (upX X (cls H) k (H :: X (cls H) k)) := by
  obtain ⟨p, n, s, L, hW, hI⟩ := h.ex
  have hs4 : s H = 4 := by
    have h1 := hI.st H hH
    rcases Nat.lt_or_ge (s H) 4 with h2 | h2
    · exact absurd (hI.out H hH (by omega)) (hno _)
    · omega
  have hme := q_mayEnter hW hH hk hs4
  obtain ⟨zs, hzl, hq⟩ := hW
  obtain ⟨x, y, hX, _⟩ := hq.its H hH
  have ho := h.cl H hH x y hX
  have hc : cls H < A.n := ho ▸ hq.inv.fit.on x hX.hp
  have hhd := hI.hd (cls H) k
  have hof := fun W (hf : w.grownBy W none) => (q_of (hq.kept0 hf) hX hk).mono (R' := fun z w' => z = .returned (.pointer (some ⟨gl, cls H * 9 + k * 3, none⟩)) ∧ W.grownBy w' none ∧ w'.cell? ⟨gl, cls H * 9 + k * 3, none⟩ = some (.int .u64 (L.hd (cls H) k))) (by
    rintro z w' ⟨rfl, hf2⟩
    rw [ho]
    exact ⟨rfl, hf2, ((hq.kept0 hf).kept0 hf2).lcell hc hk (j := 0) (by omega)⟩)
  have hmem : L.hd (cls H) k = 0 ∨ L.hd (cls H) k ∈ T := by
    rw [hhd]
    exact headD_in (P := fun G => G ∈ T) (fun G hG => (hI.sub _ _ G hG).1)
  have hen := fun W (hf : w.grownBy W none) => (q_enter (QW.kept0 ⟨zs, hzl, hq⟩ hf) hH hk (x := 0) (.inl rfl) (y := L.hd (cls H) k) hmem (h.cl H hH) (by rw [hI.ln]; exact h.tn _ _)).mono (R' := fun z w' => z = .returned (.tuple #[]) ∧ Hid (Kp (fun k => F k ∨ k = gl) w w' ∧ QL w' sb qb gl gc F B b c d e f g A m T bs cls (upX X (cls H) k (H :: X (cls H) k)))) (by
    rintro z w' ⟨rfl, hK, hW2⟩
    refine ⟨rfl, (Kp.of hf).trans hK (fun _ h => h) (fun k hk => .inl hk), h.cl, fun c2 k2 => ?_, _, _, _, _, hW2, ?_⟩
    · by_cases e : c2 = cls H ∧ k2 = k
      · rw [e.1, e.2, upX_same]; simp; omega
      · rw [upX_ne _ _ e]; exact h.tn _ _
    · have := hI.enter hH hk hs4 [] (X (cls H) k) rfl
      rw [← hhd] at this
      exact this)
  simp only [show ((0 : Nat) : Int) = 0 from rfl] at hen
  clear h hI hq hX hhd hmem
  generalize L.hd (cls H) k = hv at *
  go_enter Tryz.func23, Tryz.ntmps23
  go_wp2_with (first | (go_at_call 73; go_must (refine hme.mono ?_); rintro z w1 ⟨rfl, hf1⟩) | (go_at_call 75; go_must (refine (hof _ hf1).mono ?_); rintro z w2 ⟨rfl, hf2, d2⟩; (have hf12 := gb_trans hf1 hf2)) | (go_at_call 74; go_must (with_reducible refine (hen _ hf12).mono ?_); rintro z w3 ⟨rfl, hE⟩) | fail)
  go_ret
  exact ⟨rfl, hE.out⟩

set_option maxRecDepth 100000 in
theorem q_last (h : QL w sb qb gl gc F B b c d e f g A m T bs cls X) {H k : Nat} (hH : H ∈ T) (hk : k < 3) (hno : ∀ k2, H ∉ X (cls H) k2) (hl : (X (cls H) k).length < 1099511627776) :
    Calls Tryz.prog 24 #[.pointer (some ⟨qb, 0, none⟩), .int .u64 H, .int .i64 ((k : Int) + 1)] w fun y w' => y = .returned (.int .i64 0) ∧ Kp (fun k => F k ∨ k = gl) w w' ∧ QL w' sb qb gl gc F B b c d e f g A m T bs cls (upX X (cls H) k (X (cls H) k ++ [H])) := by
  obtain ⟨p, n, s, L, hW, hI⟩ := h.ex
  have hs4 : s H = 4 := by
    have h1 := hI.st H hH
    rcases Nat.lt_or_ge (s H) 4 with h2 | h2
    · exact absurd (hI.out H hH (by omega)) (hno _)
    · omega
  have hme := q_mayEnter hW hH hk hs4
  obtain ⟨zs, hzl, hq⟩ := hW
  obtain ⟨x, y, hX, _⟩ := hq.its H hH
  have ho := h.cl H hH x y hX
  have hc : cls H < A.n := ho ▸ hq.inv.fit.on x hX.hp
  have htl := hI.tl (cls H) k
  have hof := fun W (hf : w.grownBy W none) => (q_of (hq.kept0 hf) hX hk).mono (R' := fun z w' => z = .returned (.pointer (some ⟨gl, cls H * 9 + k * 3, none⟩)) ∧ W.grownBy w' none ∧ w'.cell? ⟨gl, cls H * 9 + k * 3 + 1, none⟩ = some (.int .u64 (L.tl (cls H) k))) (by
    rintro z w' ⟨rfl, hf2⟩
    rw [ho]
    exact ⟨rfl, hf2, ((hq.kept0 hf).kept0 hf2).lcell hc hk (j := 1) (by omega)⟩)
  have hmem : L.tl (cls H) k = 0 ∨ L.tl (cls H) k ∈ T := by
    rw [htl]
    exact lastD_in (P := fun G => G ∈ T) (fun G hG => (hI.sub _ _ G hG).1)
  have hen := fun W (hf : w.grownBy W none) => (q_enter (QW.kept0 ⟨zs, hzl, hq⟩ hf) hH hk (x := L.tl (cls H) k) hmem (y := 0) (.inl rfl) (h.cl H hH) (by rw [hI.ln]; exact h.tn _ _)).mono (R' := fun z w' => z = .returned (.tuple #[]) ∧ Hid (Kp (fun k => F k ∨ k = gl) w w' ∧ QL w' sb qb gl gc F B b c d e f g A m T bs cls (upX X (cls H) k (X (cls H) k ++ [H])))) (by
    rintro z w' ⟨rfl, hK, hW2⟩
    refine ⟨rfl, (Kp.of hf).trans hK (fun _ h => h) (fun k hk => .inl hk), h.cl, fun c2 k2 => ?_, _, _, _, _, hW2, ?_⟩
    · by_cases e : c2 = cls H ∧ k2 = k
      · rw [e.1, e.2, upX_same]; simp; omega
      · rw [upX_ne _ _ e]; exact h.tn _ _
    · have := hI.enter hH hk hs4 (X (cls H) k) [] (by simp)
      rw [← htl] at this
      exact this)
  simp only [show ((0 : Nat) : Int) = 0 from rfl] at hen
  clear h hI hq hX htl hmem
  generalize L.tl (cls H) k = hv at *
  go_enter Tryz.func24, Tryz.ntmps24
  go_wp2_with (first | (go_at_call 73; go_must (refine hme.mono ?_); rintro z w1 ⟨rfl, hf1⟩) | (go_at_call 75; go_must (refine (hof _ hf1).mono ?_); rintro z w2 ⟨rfl, hf2, d2⟩; (have hf12 := gb_trans hf1 hf2)) | (go_at_call 74; go_must (with_reducible refine (hen _ hf12).mono ?_); rintro z w3 ⟨rfl, hE⟩) | fail)
  go_ret
  exact ⟨rfl, hE.out⟩

/-- leave, of an item of a list. -/
theorem q_leaveL (h : QL w sb qb gl gc F B b c d e f g A m T bs cls X) {H k : Nat} {U V : List Nat} (hX : X (cls H) k = U ++ H :: V) :
    Calls Tryz.prog 78 #[.pointer (some ⟨qb, 0, none⟩), .int .u64 H] w fun z w' => z = .returned (.tuple #[]) ∧ Kp (fun k => F k ∨ k = gl) w w' ∧ QL w' sb qb gl gc F B b c d e f g A m T bs cls (upX X (cls H) k (U ++ V)) := by
  obtain ⟨p, n, s, L, hW, hI⟩ := h.ex
  have hm : H ∈ X (cls H) k := by rw [hX]; simp
  obtain ⟨hT, hs, _⟩ := hI.sub _ _ H hm
  have hk := hI.k3 _ _ H hm
  have hpn := hI.lk _ _ U H V hX
  have hln := hI.ln (cls H) k
  have htn := h.tn (cls H) k
  refine (q_leave hW hT hk hs hpn.1 hpn.2 (h.cl H hT) ?_).mono ?_
  · rw [hln, hX] at *
    simp at *
    omega
  · rintro z w' ⟨rfl, hK, hW2⟩
    refine ⟨rfl, hK, h.cl, fun c2 k2 => ?_, _, _, _, _, hW2, hI.leave hk U V hX⟩
    by_cases e : c2 = cls H ∧ k2 = k
    · rw [e.1, e.2, upX_same]
      rw [hX] at htn
      simp at htn ⊢
      omega
    · rw [upX_ne _ _ e]; exact h.tn _ _

/-- The state of an item of a list is its kind. -/
theorem q_stateL (h : QL w sb qb gl gc F B b c d e f g A m T bs cls X) {H k : Nat} (hm : H ∈ X (cls H) k) :
    Calls Tryz.prog 77 #[.pointer (some ⟨qb, 0, none⟩), .int .u64 H] w fun z w' => z = .returned (.int .i64 ((k : Int) + 1)) ∧ w.grownBy w' none := by
  obtain ⟨p, n, s, L, ⟨zs, hzl, hq⟩, hI⟩ := h.ex
  obtain ⟨hT, hs, _⟩ := hI.sub _ _ H hm
  have := q_state hq hT
  rw [hs] at this
  exact this

set_option maxRecDepth 100000 in
theorem q_drop (h : QL w sb qb gl gc F B b c d e f g A m T bs cls X) {H k : Nat} {U V : List Nat} (hX : X (cls H) k = U ++ H :: V) :
    Calls Tryz.prog 25 #[.pointer (some ⟨qb, 0, none⟩), .int .u64 H] w fun z w' => z = .returned (.int .i64 0) ∧ Kp (fun k => F k ∨ k = gl) w w' ∧ QL w' sb qb gl gc F B b c d e f g A m T bs cls (upX X (cls H) k (U ++ V)) := by
  have hm : H ∈ X (cls H) k := by rw [hX]; simp
  have hst := q_stateL h hm
  have hk : k < 3 := by obtain ⟨p, n, s, L, _, hI⟩ := h.ex; exact hI.k3 _ _ H hm
  have hik := fun W => isKind_yes k hk W
  have hlv := fun W (hf : w.grownBy W none) => (q_leaveL (h.kept0 hf) hX).mono (R' := fun z w' => z = .returned (.tuple #[]) ∧ Hid (Kp (fun k => F k ∨ k = gl) w w' ∧ QL w' sb qb gl gc F B b c d e f g A m T bs cls (upX X (cls H) k (U ++ V)))) (by
    rintro z w' ⟨rfl, hK, h2⟩
    exact ⟨rfl, (Kp.of hf).trans hK (fun _ h => h) (fun k hk => .inl hk), h2⟩)
  clear h hX hm
  go_enter Tryz.func25, Tryz.ntmps25
  go_wp2_with (first | (go_at_call 77; go_must (refine hst.mono ?_); rintro z w1 ⟨rfl, hf1⟩) | (go_at_call 76; go_must (refine (hik _).mono ?_); rintro z w' ⟨rfl, rfl⟩) | (go_at_call 78; go_must (with_reducible refine (hlv _ hf1).mono ?_); rintro z w3 ⟨rfl, hE⟩) | fail)
  go_ret
  exact ⟨rfl, hE.out⟩

set_option maxRecDepth 100000 in
theorem q_shift (h : QL w sb qb gl gc F B b c d e f g A m T bs cls X) {H k k2 : Nat} {U V : List Nat} (hX : X (cls H) k = U ++ H :: V) (hk2 : k2 < 3) (hl : (X (cls H) k2).length < 1099511627776) :
    Calls Tryz.prog 26 #[.pointer (some ⟨qb, 0, none⟩), .int .u64 H, .int .i64 ((k2 : Int) + 1)] w fun z w' => z = .returned (.int .i64 0) ∧ Kp (fun k => F k ∨ k = gl) w w' ∧ QL w' sb qb gl gc F B b c d e f g A m T bs cls (upX (upX X (cls H) k (U ++ V)) (cls H) k2 (H :: (upX X (cls H) k (U ++ V)) (cls H) k2)) := by
  have hm : H ∈ X (cls H) k := by rw [hX]; simp
  have hst := q_stateL h hm
  have hk : k < 3 := by obtain ⟨p, n, s, L, _, hI⟩ := h.ex; exact hI.k3 _ _ H hm
  have hik := fun W => isKind_yes k hk W
  have hik2 := fun W => isKind_yes k2 hk2 W
  have hT : H ∈ T := by obtain ⟨p, n, s, L, _, hI⟩ := h.ex; exact (hI.sub _ _ H hm).1
  have hlv := fun W (hf : w.grownBy W none) => (q_leaveL (h.kept0 hf) hX).mono (R' := fun z w' => z = .returned (.tuple #[]) ∧ Hid (Kp (fun k => F k ∨ k = gl) w w' ∧ QL w' sb qb gl gc F B b c d e f g A m T bs cls (upX X (cls H) k (U ++ V)))) (by
    rintro z w' ⟨rfl, hK, h2⟩
    exact ⟨rfl, (Kp.of hf).trans hK (fun _ h => h) (fun k hk => .inl hk), h2⟩)
  have hno : ∀ k3, H ∉ upX X (cls H) k (U ++ V) (cls H) k3 := fun k3 hm3 => by
    obtain ⟨p, n, s, L, _, hI⟩ := h.ex
    have hs := (hI.sub _ _ H hm).2.1
    by_cases e : k3 = k
    · subst e
      rw [upX_same] at hm3
      have hnd := hI.nd (cls H) k3
      rw [hX, List.nodup_append] at hnd
      rcases List.mem_append.1 hm3 with h1 | h1
      · exact hnd.2.2 H h1 H (by simp) rfl
      · exact (List.nodup_cons.1 hnd.2.1).1 h1
    · rw [upX_ne _ _ (fun e2 => e e2.2)] at hm3
      have := (hI.sub _ _ H hm3).2.1
      omega
  have hl2 : ((upX X (cls H) k (U ++ V)) (cls H) k2).length < 1099511627776 := by
    by_cases e : k2 = k
    · subst e
      rw [upX_same]
      rw [hX] at hl
      simp at hl ⊢
      omega
    · rw [upX_ne _ _ (fun e2 => e e2.2)]; exact hl
  generalize upX X (cls H) k (U ++ V) = X2 at *
  have hof := fun W (hE : Hid (Kp (fun k => F k ∨ k = gl) w W ∧ QL W sb qb gl gc F B b c d e f g A m T bs cls X2)) => (show Calls Tryz.prog 75 #[.pointer (some ⟨qb, 0, none⟩), .int .u64 H, .int .i64 ((k2 : Int) + 1)] W (fun z w' => ∃ v : Nat, z = .returned (.pointer (some ⟨gl, cls H * 9 + k2 * 3, none⟩)) ∧ w'.cell? ⟨gl, cls H * 9 + k2 * 3, none⟩ = some (.int .u64 v) ∧ Hid (v = (X2 (cls H) k2).headD 0) ∧ Hid (Kp (fun k => F k ∨ k = gl) w w' ∧ QL w' sb qb gl gc F B b c d e f g A m T bs cls X2)) by
    obtain ⟨hK, hQ⟩ := hE.out
    obtain ⟨p, n, s, L, ⟨zs, hzl, hq⟩, hI⟩ := hQ.ex
    obtain ⟨x, y, hXX, _⟩ := hq.its H hT
    have ho := hQ.cl H hT x y hXX
    have hc : cls H < A.n := ho ▸ hq.inv.fit.on x hXX.hp
    refine (q_of hq hXX hk2).mono ?_
    rintro z w' ⟨rfl, hf2⟩
    rw [ho]
    exact ⟨L.hd (cls H) k2, rfl, (hq.kept0 hf2).lcell hc hk2 (j := 0) (by omega), hI.hd _ _, hK.step hf2 (by simp), hQ.kept0 hf2⟩)
  have hen := fun W (v : Nat) (hv : Hid (v = (X2 (cls H) k2).headD 0)) (hE : Hid (Kp (fun k => F k ∨ k = gl) w W ∧ QL W sb qb gl gc F B b c d e f g A m T bs cls X2)) => (show Calls Tryz.prog 74 #[.pointer (some ⟨qb, 0, none⟩), .int .u64 H, .int .i64 ((k2 : Int) + 1), .int .u64 0, .int .u64 v] W (fun z w' => z = .returned (.tuple #[]) ∧ Hid (Kp (fun k => F k ∨ k = gl) w w' ∧ QL w' sb qb gl gc F B b c d e f g A m T bs cls (upX X2 (cls H) k2 (H :: X2 (cls H) k2)))) by
    obtain ⟨hK, hQ⟩ := hE.out
    obtain ⟨p, n, s, L, hW, hI⟩ := hQ.ex
    have hs4 : s H = 4 := by
      have h1 := hI.st H hT
      rcases Nat.lt_or_ge (s H) 4 with h2 | h2
      · exact absurd (hI.out H hT (by omega)) (hno _)
      · omega
    have hvv := hv.out
    have hmem : v = 0 ∨ v ∈ T := by
      rw [hvv]
      exact headD_in (P := fun G => G ∈ T) (fun G hG => (hI.sub _ _ G hG).1)
    refine (q_enter hW hT hk2 (x := 0) (.inl rfl) (y := v) hmem (hQ.cl H hT) (by rw [hI.ln]; exact hQ.tn _ _)).mono ?_
    rintro z w' ⟨rfl, hK2, hW2⟩
    refine ⟨rfl, hK.trans hK2 (fun _ h => h) (fun k hk => .inl hk), hQ.cl, fun c3 k3 => ?_, _, _, _, _, hW2, ?_⟩
    · by_cases e : c3 = cls H ∧ k3 = k2
      · rw [e.1, e.2, upX_same]; simp; omega
      · rw [upX_ne _ _ e]; exact hQ.tn _ _
    · have := hI.enter hT hk2 hs4 [] (X2 (cls H) k2) rfl
      rw [← hvv] at this
      exact this)
  clear h hX hm hno hl hl2
  go_enter Tryz.func26, Tryz.ntmps26
  go_wp2_with (first | (go_at_call 76; with_reducible refine (hik2 _).mono ?_; rintro z w' ⟨rfl, rfl⟩) | (go_at_call 76; with_reducible refine (hik _).mono ?_; rintro z w' ⟨rfl, rfl⟩) | (go_at_call 77; go_must (refine hst.mono ?_); rintro z w1 ⟨rfl, hf1⟩) | (go_at_call 78; go_must (with_reducible refine (hlv _ hf1).mono ?_); rintro z w3 ⟨rfl, hE3⟩) | (go_at_call 75; go_must (with_reducible refine (hof _ hE3).mono ?_); rintro z w4 ⟨v, rfl, d4, hv, hE4⟩) | (go_at_call 74; go_must (with_reducible refine (hen _ _ hv hE4).mono ?_); rintro z w5 ⟨rfl, hE⟩) | fail)
  go_ret
  exact ⟨rfl, hE.out⟩
end
end Go.Proofs.YtjkdflnnpdionaaGreat

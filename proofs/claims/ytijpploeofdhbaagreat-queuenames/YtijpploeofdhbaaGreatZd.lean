import Derived.Test.YtijpploeofdhbaaGreatZc
/-
  A queue in memory.
-/
namespace Go.Proofs.YtijpploeofdhbaaGreat
open Go.RowKit
set_option linter.unusedVariables false

/-- Head, tail, length of the list of a class and a kind (0 to 2). -/
structure Ls where
  hd : Nat → Nat → Nat
  tl : Nat → Nat → Nat
  ln : Nat → Nat → Nat
def lC (L : Ls) (c k : Nat) : List Value := [.int .u64 (L.hd c k), .int .u64 (L.tl c k), .int .i64 (L.ln c k)]
theorem lC_len (L : Ls) (c k : Nat) : (lC L c k).length = 3 := rfl
def lsC (L : Ls) (c : Nat) : List Value := rng 3 (lC L c)
theorem lsC_len (L : Ls) (c : Nat) : (lsC L c).length = 9 := by unfold lsC; rw [rng_len (lC_len L c)]

/-- An item, with its links and its state as handles and a number. -/
def itm (bs : Nat → It) (p n s : Nat → Nat) (H : Nat) : It := { bs H with l1 := ((nm (p H) : Nat) : Int), l2 := ((nm (n H) : Nat) : Int), st := ((s H : Nat) : Int) }
theorem itm_key (bs : Nat → It) (p n s : Nat → Nat) (H : Nat) : (itm bs p n s H).key = (bs H).key ∧ (itm bs p n s H).val = (bs H).val := ⟨rfl, rfl⟩
theorem itm_congr {bs : Nat → It} {p n s p' n' s' : Nat → Nat} {H : Nat} (h1 : p' H = p H) (h2 : n' H = n H) (h3 : s' H = s H) : itm bs p' n' s' H = itm bs p n s H := by unfold itm; rw [h1, h2, h3]

structure QM (w : World) (sb qb gl gc : Nat) (F : Nat → Prop) (B : Bl) (b c d e f g : Int) (A : Ab) (zs : List Int) (T : List Nat) (bs : Nat → It) (p n s : Nat → Nat) (L : Ls) : Prop where
  iss : IsS w sb F B b c d e f g A zs
  inv : Inv A
  box : Box w 89 qb #[.pointer (some ⟨sb, 0, none⟩), .slice (some ⟨gl, 0, none⟩) A.n gc]
  row : w.ownsRow 0 185 9 (.slice (some ⟨gl, 0, none⟩) A.n gc) A.n (rng A.n (lsC L))
  nq : ¬ F qb
  ng : ¬ F gl
  its : ∀ H, H ∈ T → ∃ x k, IsH A H x k ∧ IsI zs (A.place x k) (itm bs p n s H) ∧ 58 + (bs H).key.length + (bs H).val.length ≤ A.sz (A.own x)
  lk : ∀ H, H ∈ T → (p H = 0 ∨ p H ∈ T) ∧ (n H = 0 ∨ n H ∈ T)

section
variable {w : World} {sb qb gl gc : Nat} {F : Nat → Prop} {B : Bl} {b c d e f g : Int} {A : Ab} {zs : List Int} {T : List Nat} {bs : Nat → It} {p n s : Nat → Nat} {L : Ls}
theorem QM.qne (h : QM w sb qb gl gc F B b c d e f g A zs T bs p n s L) : qb ≠ gl := by
  intro e1
  obtain ⟨cur, hc⟩ := row_block h.row gl rfl
  exact ne_of_type h.box hc (by decide) e1
theorem QM.kept {w' : World} {G : Nat → Prop} (h : QM w sb qb gl gc F B b c d e f g A zs T bs p n s L) (hK : Kp G w w') (h1 : ∀ k, F k → ¬ G k) (h2 : ¬ G qb) (h3 : ¬ G gl) : QM w' sb qb gl gc F B b c d e f g A zs T bs p n s L := by
  refine ⟨h.iss.kept hK h1, h.inv, hK.box h.box h2, row_same h.row (fun k hk => ?_), h.nq, h.ng, h.its, h.lk⟩
  simp [Value.ownBlock] at hk
  subst hk
  obtain ⟨cur, hc⟩ := row_block h.row gl rfl
  exact hK.block _ (lt_of_block hc) h3
theorem QM.kept0 {w' : World} (h : QM w sb qb gl gc F B b c d e f g A zs T bs p n s L) (hf : w.grownBy w' none) : QM w' sb qb gl gc F B b c d e f g A zs T bs p n s L :=
  ⟨h.iss.kept0 hf, h.inv, h.box.kept hf (by simp), row_kept h.row hf (by simp), h.nq, h.ng, h.its, h.lk⟩
theorem QM.nz (h : QM w sb qb gl gc F B b c d e f g A zs T bs p n s L) {H : Nat} (hH : H ∈ T) : ¬ H = 0 := by
  obtain ⟨x, k, h1, _⟩ := h.its H hH
  have h2 := (h1.parts h.inv.fit).1
  have h3 := (num_lt h.inv.fit.toFit1 h1.hp h1.hk).2.1
  omega
theorem QM.h64 (h : QM w sb qb gl gc F B b c d e f g A zs T bs p n s L) {H : Nat} (hH : H ∈ T) : H < 18446744073709551616 := by
  obtain ⟨x, k, h1, _⟩ := h.its H hH
  exact (h1.parts h.inv.fit).2.2

/-- An item's bytes are turned. -/
theorem QM.turn (h : QM w sb qb gl gc F B b c d e f g A zs T bs p n s L) {H x k off : Nat} {ys : List Int} {w' : World} (hH : H ∈ T) (hX : IsH A H x k) (hoff : off + ys.length ≤ 58)
    (hS : IsS w' sb F B b c d e f g A (lay zs (A.place x k + off) ys)) (hK : Kp F w w') (p' n' s' : Nat → Nat) (he : ∀ G, G ≠ H → p' G = p G ∧ n' G = n G ∧ s' G = s G)
    (hI : IsI zs (A.place x k) (itm bs p n s H) → IsI (lay zs (A.place x k + off) ys) (A.place x k) (itm bs p' n' s' H)) (hlk : (p' H = 0 ∨ p' H ∈ T) ∧ (n' H = 0 ∨ n' H ∈ T)) :
    QM w' sb qb gl gc F B b c d e f g A (lay zs (A.place x k + off) ys) T bs p' n' s' L := by
  have hA := h.inv.fit
  have hP := pl_of h.iss hA.toFit1 hX.hp hX.hk
  obtain ⟨x1, k1, hX1, hI1, hs1⟩ := h.its H hH
  have hxk : x1 = x ∧ k1 = k := by
    have e1 := (hX1.parts hA).1
    have e2 := (hX.parts hA).1
    exact num_inj hA.toFit1 hX1.hp hX1.hk hX.hp hX.hk (by omega)
  obtain ⟨rfl, rfl⟩ := hxk
  have hle := hI1.lies.le
  rw [It.len] at hle
  have hkk := itm_key bs p n s H
  rw [hkk.1, hkk.2] at hle
  refine ⟨hS, h.inv, hK.box h.box h.nq, row_same h.row (fun k hk => ?_), h.nq, h.ng, fun G hG => ?_, fun G hG => ?_⟩
  · simp [Value.ownBlock] at hk
    subst hk
    obtain ⟨cur, hc⟩ := row_block h.row gl rfl
    exact hK.block _ (lt_of_block hc) h.ng
  · by_cases e1 : G = H
    · subst e1
      exact ⟨x1, k1, hX1, hI hI1, hs1⟩
    · obtain ⟨x2, k2, hX2, hI2, hs2⟩ := h.its G hG
      obtain ⟨a1, a2, a3⟩ := he G e1
      refine ⟨x2, k2, hX2, ?_, hs2⟩
      rw [itm_congr a1 a2 a3]
      have hne : ¬ (x2 = x1 ∧ k2 = k1) := by
        rintro ⟨rfl, rfl⟩
        exact e1 (by rw [hX2.hH, hX1.hH])
      have hap := place_apart hA.toFit1 hX2.hp hX2.hk hX1.hp hX1.hk hne
      have hk2 := itm_key bs p n s G
      refine hI2.far ?_ ?_
      · omega
      · rw [hk2.1, hk2.2]; omega
  · by_cases e1 : G = H
    · subst e1; exact hlk
    · obtain ⟨a1, a2, a3⟩ := he G e1
      rw [a1, a2]; exact h.lk G hG

/-- A cell of a list is turned. -/
theorem QM.setL (h : QM w sb qb gl gc F B b c d e f g A zs T bs p n s L) {ci k j : Nat} (hc : ci < A.n) (hk : k < 3) (hj : j < 3) (v : Value) (L' : Ls) (h1 : lC L' ci k = (lC L ci k).set j v) (h2 : ∀ c2 k2, ¬ (c2 = ci ∧ k2 = k) → lC L' c2 k2 = lC L c2 k2) :
    QM (w.setCell ⟨gl, ci * 9 + (k * 3 + j), none⟩ v) sb qb gl gc F B b c d e f g A zs T bs p n s L' ∧ Kp (fun x => x = gl) w (w.setCell ⟨gl, ci * 9 + (k * 3 + j), none⟩ v) := by
  have hg : w.grownBy (w.setCell ⟨gl, ci * 9 + (k * 3 + j), none⟩ v) (some gl) := gb_setCell (gb_refl _ _) _
  have hK : Kp (fun x => x = gl) w (w.setCell ⟨gl, ci * 9 + (k * 3 + j), none⟩ v) := (Kp.refl _ _).step hg (fun i hi => .inl (by simpa using hi.symm))
  refine ⟨⟨h.iss.kept hK (fun k hk e1 => h.ng (e1 ▸ hk)), h.inv, hK.box h.box h.qne, ?_, h.nq, h.ng, h.its, h.lk⟩, hK⟩
  have hr := row_set h.row (ci * 9 + (k * 3 + j)) v
  have e1 : (rng A.n (lsC L)).set (ci * 9 + (k * 3 + j)) v = rng A.n (lsC L') := rng_set (lsC_len L) (by omega) v (fun c2 hc2 => rng_congr fun k2 _ => h2 c2 k2 (fun e1 => hc2 e1.1)) (rng_set (lC_len L ci) hj v (fun k2 hk2 => h2 ci k2 (fun e1 => hk2 e1.2)) h1 hk).symm hc
  rw [e1] at hr
  exact hr
theorem QM.lcell (h : QM w sb qb gl gc F B b c d e f g A zs T bs p n s L) {ci k j : Nat} (hc : ci < A.n) (hk : k < 3) (hj : j < 3) : w.cell? ⟨gl, ci * 9 + (k * 3 + j), none⟩ = (lC L ci k)[j]? := by
  have e := rng_get (lsC_len L) (n := A.n) (i := ci) (j := k * 3 + j) hc (by omega)
  have e2 : (lsC L ci)[k * 3 + j]? = (lC L ci k)[j]? := rng_get (lC_len L ci) hk hj
  rw [e2] at e
  have hl : j < (lC L ci k).length := hj
  rw [List.getElem?_eq_getElem hl] at e ⊢
  exact row_cell h.row _ _ e
theorem QM.fz (h : QM w sb qb gl gc F B b c d e f g A zs T bs p n s L) (i : Nat) : w.frozen? ⟨gl, i, none⟩ = false := by
  obtain ⟨cur, hc⟩ := row_block h.row gl rfl
  simp [World.frozen?, hc]
end
end Go.Proofs.YtijpploeofdhbaaGreat

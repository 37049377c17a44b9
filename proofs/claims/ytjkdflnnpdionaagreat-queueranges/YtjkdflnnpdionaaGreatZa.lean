import Derived.Test.YtjkdflnnpdionaaGreatMg
import Derived.Test.YtjkdflnnpdionaaGreatSq
import Derived.Deep.RegionHeld3
/-
  Lists that hang together: links as functions.
-/
namespace Go.Proofs.YtjkdflnnpdionaaGreat
open Go.RowKit
set_option linter.unusedVariables false
def nm (h : Nat) : Nat := h % 4294967296
/-- Links of a list's items. -/
def Lk (p n : Nat → Nat) (L : List Nat) : Prop := ∀ X H Y, L = X ++ H :: Y → p H = X.getLastD 0 ∧ n H = Y.headD 0
def upf (f : Nat → Nat) (i v : Nat) : Nat → Nat := fun k => if k = i then v else f k
theorem upf_same (f : Nat → Nat) (i v : Nat) : upf f i v i = v := by simp [upf]
theorem upf_ne (f : Nat → Nat) {i k : Nat} (v : Nat) (h : k ≠ i) : upf f i v k = f k := by simp [upf, h]
/-- What meet makes of the links. -/
def mP (p : Nat → Nat) (a b : Nat) : Nat → Nat := if b = 0 then p else upf p b a
def mN (n : Nat → Nat) (a b : Nat) : Nat → Nat := if a = 0 then n else upf n a b
theorem mP_ne {p : Nat → Nat} {a b k : Nat} (h : k ≠ b) : mP p a b k = p k := by
  unfold mP; split
  · rfl
  · exact upf_ne _ _ h
theorem mN_ne {n : Nat → Nat} {a b k : Nat} (h : k ≠ a) : mN n a b k = n k := by
  unfold mN; split
  · rfl
  · exact upf_ne _ _ h
theorem mP_at {p : Nat → Nat} {a b : Nat} (h : b ≠ 0) : mP p a b b = a := by
  unfold mP; rw [if_neg h]; exact upf_same _ _ _
theorem mN_at {n : Nat → Nat} {a b : Nat} (h : a ≠ 0) : mN n a b a = b := by
  unfold mN; rw [if_neg h]; exact upf_same _ _ _

theorem headD_app (X Y : List Nat) (d : Nat) : (X ++ Y).headD d = X.headD (Y.headD d) := by cases X <;> simp
theorem lastD_app (X Y : List Nat) (d : Nat) : (X ++ Y).getLastD d = Y.getLastD (X.getLastD d) := by
  cases Y with
  | nil => simp
  | cons y t =>
    rw [List.getLastD_eq_getLast?, List.getLastD_eq_getLast?, List.getLast?_append]
    have : (y :: t).getLast? = some ((y :: t).getLast (by simp)) := List.getLast?_eq_some_getLast (by simp)
    rw [this]; rfl
theorem lastD_any {Z : List Nat} (h : Z ≠ []) (d e : Nat) : Z.getLastD d = Z.getLastD e := by
  rw [List.getLastD_eq_getLast?, List.getLastD_eq_getLast?, List.getLast?_eq_some_getLast h]; rfl
theorem lastD_snoc (X : List Nat) (G z : Nat) (Z : List Nat) : (X ++ G :: z :: Z).getLastD 0 = (z :: Z).getLastD 0 := by
  rw [show X ++ G :: z :: Z = (X ++ [G]) ++ (z :: Z) by simp, lastD_app]
  exact lastD_any (by simp) _ _
theorem headD_mem {Y : List Nat} (h : Y ≠ []) : Y.headD 0 ∈ Y := by cases Y with | nil => exact absurd rfl h | cons a t => simp
theorem lastD_mem {X : List Nat} (h : X ≠ []) : X.getLastD 0 ∈ X := by
  rw [List.getLastD_eq_getLast?, List.getLast?_eq_some_getLast h]
  exact List.getLast_mem h

/-- Between two parts of a list an item is laid. -/
theorem Lk.enter {p n : Nat → Nat} {X Y : List Nat} {h : Nat} (hl : Lk p n (X ++ Y)) (h0 : h ≠ 0) (hz : 0 ∉ X ++ Y) (hh : h ∉ X ++ Y) (nd : (X ++ Y).Nodup) :
    Lk (mP (mP p (X.getLastD 0) h) h (Y.headD 0)) (mN (mN n (X.getLastD 0) h) h (Y.headD 0)) (X ++ h :: Y) := by
  intro X' G Y' he
  rw [List.append_eq_append_iff] at he
  have hxh : X.getLastD 0 ≠ h := fun e => by
    by_cases hx : X = []
    · subst hx; exact h0 (by simpa using e.symm)
    · exact hh (List.mem_append_left _ (e ▸ lastD_mem hx))
  have hyh : Y.headD 0 ≠ h := fun e => by
    by_cases hx : Y = []
    · subst hx; exact h0 (by simpa using e.symm)
    · exact hh (List.mem_append_right _ (e ▸ headD_mem hx))
  rcases he with ⟨Z, rfl, hz2⟩ | ⟨Z, rfl, hz2⟩
  · -- X' = X ++ Z, h :: Y = Z ++ G :: Y'
    cases Z with
    | nil =>
      simp only [List.nil_append, List.cons.injEq] at hz2
      obtain ⟨rfl, rfl⟩ := hz2
      rw [List.append_nil]
      refine ⟨?_, mN_at h0⟩
      rw [mP_ne (fun e => hyh e.symm)]
      exact mP_at h0
    | cons z Z =>
      simp only [List.cons_append, List.cons.injEq] at hz2
      obtain ⟨rfl, rfl⟩ := hz2
      have old := hl (X ++ Z) G Y' (by simp)
      have hG : G ∈ X ++ (Z ++ G :: Y') := by simp
      have hGh : G ≠ h := fun e => hh (e ▸ hG)
      have hGz : G ≠ 0 := fun e => hz (e ▸ hG)
      constructor
      · rw [lastD_app]
        cases Z with
        | nil =>
          show mP _ h G G = _
          rw [mP_at hGz]; simp
        | cons z Z =>
          have hGz2 : G ≠ z := fun e => by
            subst e
            rw [List.nodup_append] at nd
            have := nd.2.1
            simp at this
          rw [mP_ne (by simpa using hGz2), mP_ne hGh, old.1, lastD_app]
          simp
      · rw [mN_ne hGh]
        by_cases e : G = X.getLastD 0
        · exfalso
          have hx : X ≠ [] := fun e2 => by subst e2; simp at e; exact hGz e
          rw [List.nodup_append] at nd
          exact nd.2.2 G (e ▸ lastD_mem hx) G (by simp) rfl
        · rw [mN_ne e]; exact old.2
  · -- X = X' ++ Z, G :: Y' = Z ++ h :: Y
    cases Z with
    | nil =>
      simp only [List.nil_append, List.cons.injEq] at hz2
      obtain ⟨rfl, rfl⟩ := hz2
      simp only [List.append_nil] at *
      refine ⟨?_, mN_at h0⟩
      rw [mP_ne (fun e => hyh e.symm)]
      exact mP_at h0
    | cons z Z =>
      simp only [List.cons_append, List.cons.injEq] at hz2
      obtain ⟨rfl, rfl⟩ := hz2
      have old := hl X' G (Z ++ Y) (by simp)
      have hG : G ∈ X' ++ G :: Z ++ Y := by simp
      have hGh : G ≠ h := fun e => hh (e ▸ hG)
      have hGz : G ≠ 0 := fun e => hz (e ▸ hG)
      constructor
      · by_cases e : G = Y.headD 0
        · exfalso
          have hy : Y ≠ [] := fun e2 => by subst e2; simp at e; exact hGz e
          rw [List.nodup_append] at nd
          exact nd.2.2 G (by simp) G (e ▸ headD_mem hy) rfl
        · rw [mP_ne e, mP_ne hGh]; exact old.1
      · rw [mN_ne hGh]
        cases Z with
        | nil =>
          have : (X' ++ [G]).getLastD 0 = G := by rw [lastD_app]; simp
          rw [this, mN_at hGz]; simp
        | cons z Z =>
          have hGl : G ≠ (X' ++ G :: z :: Z).getLastD 0 := fun e => by
            rw [lastD_snoc] at e
            have hm : G ∈ z :: Z := e ▸ lastD_mem (by simp)
            rw [List.nodup_append] at nd
            have := nd.1
            rw [List.nodup_append] at this
            have := this.2.1
            rw [List.nodup_cons] at this
            exact this.1 hm
          rw [mN_ne hGl, old.2]; simp
/-- An item leaves from between. -/
theorem Lk.leave {p n : Nat → Nat} {X Y : List Nat} {h : Nat} (hl : Lk p n (X ++ h :: Y)) (hz : 0 ∉ X ++ h :: Y) (nd : (X ++ h :: Y).Nodup) :
    Lk (mP p (X.getLastD 0) (Y.headD 0)) (mN n (X.getLastD 0) (Y.headD 0)) (X ++ Y) := by
  intro X' G Y' he
  rw [List.append_eq_append_iff] at he
  rcases he with ⟨Z, rfl, rfl⟩ | ⟨Z, rfl, hz2⟩
  · -- X' = X ++ Z, Y = Z ++ G :: Y'
    have old := hl (X ++ h :: Z) G Y' (by simp)
    have hGz : G ≠ 0 := fun e => hz (e ▸ by simp)
    have hGX : G ∉ X := fun hm => by
      rw [List.nodup_append] at nd
      exact nd.2.2 G hm G (by simp) rfl
    constructor
    · cases Z with
      | nil =>
        show mP p _ G G = _
        rw [mP_at hGz]; simp
      | cons z Z =>
        have hGz2 : G ≠ z := fun e => by
          subst e
          rw [List.nodup_append] at nd
          have := nd.2.1
          simp at this
        rw [mP_ne (by simpa using hGz2), old.1, lastD_app, lastD_app]; simp
    · rw [mN_ne (fun e => ?_)]
      · exact old.2
      · by_cases hx : X = []
        · subst hx; exact hGz (by simpa using e)
        · exact hGX (e ▸ lastD_mem hx)
  · cases Z with
    | nil =>
      simp only [List.nil_append] at hz2
      subst hz2
      simp only [List.append_nil] at *
      have old := hl (X' ++ [h]) G Y' (by simp)
      have hGz : G ≠ 0 := fun e => hz (e ▸ by simp)
      have hGX : G ∉ X' := fun hm => by
        rw [List.nodup_append] at nd
        exact nd.2.2 G hm G (by simp) rfl
      constructor
      · show mP p _ G G = _
        rw [mP_at hGz]
      · rw [mN_ne (fun e => ?_)]
        · exact old.2
        · by_cases hx : X' = []
          · subst hx; exact hGz (by simpa using e)
          · exact hGX (e ▸ lastD_mem hx)
    | cons z Z =>
      simp only [List.cons_append, List.cons.injEq] at hz2
      obtain ⟨rfl, rfl⟩ := hz2
      have old := hl X' G (Z ++ h :: Y) (by simp)
      have hGz : G ≠ 0 := fun e => hz (e ▸ by simp)
      constructor
      · by_cases e : G = Y.headD 0
        · exfalso
          have hy : Y ≠ [] := fun e2 => by subst e2; simp at e; exact hGz e
          rw [List.nodup_append] at nd
          exact nd.2.2 G (by simp) G (by simp; exact Or.inr (e ▸ headD_mem hy)) rfl
        · rw [mP_ne e]; exact old.1
      · cases Z with
        | nil =>
          have : (X' ++ [G]).getLastD 0 = G := by rw [lastD_app]; simp
          rw [this, mN_at hGz]; simp
        | cons z Z =>
          have hGl : G ≠ (X' ++ G :: z :: Z).getLastD 0 := fun e => by
            rw [lastD_snoc] at e
            have hm : G ∈ z :: Z := e ▸ lastD_mem (by simp)
            rw [List.nodup_append] at nd
            have := nd.1
            rw [List.nodup_append] at this
            have := this.2.1
            rw [List.nodup_cons] at this
            exact this.1 hm
          rw [mN_ne hGl, old.2]; simp

/-! An item's links and state are set; chunks are apart. -/
section
variable {zs : List Int} {pl : Nat} {t : It}
theorem IsI.piece (h : IsI zs pl t) (i x n : Nat) (v : Int) (hx : ((lens t.L).take i).sum = x) (s : List Int) (hs : t.L[i]? = some s) (hn : s.length = n) (hl : x + n ≤ 58) : Lies (lay zs (pl + x) (be n v)) pl (t.L.set i (be n v)).flatten := by
  have hlen := t.len
  rw [h.lies.part x (be n v) (by rw [be_len]; omega), ← hx, lay_seg t.L i s (be n v) hs (by rw [be_len, hn])]
  have hle := h.lies.le
  refine lies_lay ?_
  have h1 : (t.L.set i (be n v)).flatten.length = t.L.flatten.length := by
    rw [← lay_seg t.L i s (be n v) hs (by rw [be_len, hn]), length_lay (by rw [hx, be_len]; omega)]
  rw [h1]; exact hle
theorem IsI.setL1 (h : IsI zs pl t) (v : Int) (hv : 0 ≤ v ∧ v < 4294967296) : IsI (lay zs (pl + 4) (be 4 v)) pl { t with l1 := v } :=
  ⟨h.piece 1 4 4 v (by rw [It.lens]; rfl) _ rfl (be_len _ _) (by omega), h.l0, hv, h.l2, h.gn, h.ex, h.to, h.tk, h.fl, h.st, h.ms, h.cl, h.k1, h.vn, h.kb, h.vb⟩
theorem IsI.setL2 (h : IsI zs pl t) (v : Int) (hv : 0 ≤ v ∧ v < 4294967296) : IsI (lay zs (pl + 8) (be 4 v)) pl { t with l2 := v } :=
  ⟨h.piece 2 8 4 v (by rw [It.lens]; rfl) _ rfl (be_len _ _) (by omega), h.l0, h.l1, hv, h.gn, h.ex, h.to, h.tk, h.fl, h.st, h.ms, h.cl, h.k1, h.vn, h.kb, h.vb⟩
theorem IsI.setSt (h : IsI zs pl t) (v : Int) (hv : 0 ≤ v ∧ v < 256) : IsI (lay zs (pl + 45) (be 1 v)) pl { t with st := v } :=
  ⟨h.piece 9 45 1 v (by rw [It.lens]; rfl) _ rfl (be_len _ _) (by omega), h.l0, h.l1, h.l2, h.gn, h.ex, h.to, h.tk, h.fl, hv, h.ms, h.cl, h.k1, h.vn, h.kb, h.vb⟩
theorem IsI.link1 (h : IsI zs pl t) : getL zs (pl + 4) 4 0 0 = t.l1 := lies_get h.lies 1 4 4 _ rfl (by rw [It.lens]; rfl) h.l1.1 (by rw [pw4]; exact h.l1.2)
theorem IsI.link2 (h : IsI zs pl t) : getL zs (pl + 8) 4 0 0 = t.l2 := lies_get h.lies 2 8 4 _ rfl (by rw [It.lens]; rfl) h.l2.1 (by rw [pw4]; exact h.l2.2)
theorem IsI.far (h : IsI zs pl t) {q : Nat} {bs : List Int} (hz : q + bs.length ≤ zs.length) (hd : pl + (58 + t.key.length + t.val.length) ≤ q ∨ q + bs.length ≤ pl) : IsI (lay zs q bs) pl t := by
  have hl : Lies (lay zs q bs) pl t.L.flatten := by
    refine ⟨?_, by rw [length_lay hz]; exact h.lies.le⟩
    rw [cut_far zs q bs hz pl t.L.flatten.length (by rw [It.len]; omega)]
    exact h.lies.eq
  exact ⟨hl, h.l0, h.l1, h.l2, h.gn, h.ex, h.to, h.tk, h.fl, h.st, h.ms, h.cl, h.k1, h.vn, h.kb, h.vb⟩
end
theorem place_apart {A : Ab} (hA : Fit1 A) {p k q l : Nat} (hp : p < A.np) (hk : k < A.each (A.own p)) (hq : q < A.np) (hl : l < A.each (A.own q)) (hne : ¬ (p = q ∧ k = l)) : A.place p k + A.sz (A.own p) ≤ A.place q l ∨ A.place q l + A.sz (A.own q) ≤ A.place p k := by
  have h1 := (place_div hA hp hk).2.2
  have h2 := (place_div hA hq hl).2.2
  rcases Nat.lt_trichotomy p q with h3 | h3 | h3
  · left
    have h4 : (p + 1) * A.ps ≤ q * A.ps := Nat.mul_le_mul_right _ h3
    have h5 : q * A.ps ≤ A.place q l := by unfold Ab.place; omega
    omega
  · subst h3
    unfold Ab.place
    rcases Nat.lt_trichotomy k l with h4 | h4 | h4
    · left
      have h5 : (k + 1) * A.sz (A.own p) ≤ l * A.sz (A.own p) := Nat.mul_le_mul_right _ h4
      rw [Nat.add_mul, Nat.one_mul] at h5
      omega
    · exact absurd ⟨rfl, h4⟩ hne
    · right
      have h5 : (l + 1) * A.sz (A.own p) ≤ k * A.sz (A.own p) := Nat.mul_le_mul_right _ h4
      rw [Nat.add_mul, Nat.one_mul] at h5
      omega
  · right
    have h4 : (q + 1) * A.ps ≤ p * A.ps := Nat.mul_le_mul_right _ h3
    have h5 : p * A.ps ≤ A.place p k := by unfold Ab.place; omega
    omega
end Go.Proofs.YtjkdflnnpdionaaGreat

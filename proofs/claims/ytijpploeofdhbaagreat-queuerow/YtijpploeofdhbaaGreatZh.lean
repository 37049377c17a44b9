import Derived.Test.YtijpploeofdhbaaGreatZg
/-
  What lists a queue has.
-/
namespace Go.Proofs.YtijpploeofdhbaaGreat
open Go.RowKit
set_option linter.unusedVariables false

/-- The lists X of classes and kinds are those of a queue. -/
structure LI (cls : Nat → Nat) (T : List Nat) (p n s : Nat → Nat) (L : Ls) (X : Nat → Nat → List Nat) : Prop where
  sub : ∀ c k H, H ∈ X c k → H ∈ T ∧ s H = k + 1 ∧ cls H = c
  k3 : ∀ c k H, H ∈ X c k → k < 3
  nd : ∀ c k, (X c k).Nodup
  lk : ∀ c k, Lk p n (X c k)
  hd : ∀ c k, L.hd c k = (X c k).headD 0
  tl : ∀ c k, L.tl c k = (X c k).getLastD 0
  ln : ∀ c k, L.ln c k = (X c k).length
  st : ∀ H, H ∈ T → 1 ≤ s H ∧ s H ≤ 4
  out : ∀ H, H ∈ T → s H ≤ 3 → H ∈ X (cls H) (s H - 1)
  non : ∀ H, H ∈ T → s H = 4 → p H = 0 ∧ n H = 0
  z : 0 ∉ T
def upX (X : Nat → Nat → List Nat) (c k : Nat) (v : List Nat) : Nat → Nat → List Nat := fun c2 k2 => if c2 = c ∧ k2 = k then v else X c2 k2
theorem upX_same (X : Nat → Nat → List Nat) (c k : Nat) (v : List Nat) : upX X c k v c k = v := by simp [upX]
theorem upX_ne (X : Nat → Nat → List Nat) {c k c2 k2 : Nat} (v : List Nat) (h : ¬ (c2 = c ∧ k2 = k)) : upX X c k v c2 k2 = X c2 k2 := by simp only [upX, if_neg h]
theorem Lk.congr {p n p' n' : Nat → Nat} {L : List Nat} (h : Lk p n L) (he : ∀ G, G ∈ L → p' G = p G ∧ n' G = n G) : Lk p' n' L := fun U G V hL => by
  have hG : G ∈ L := by rw [hL]; simp
  rw [(he G hG).1, (he G hG).2]
  exact h U G V hL
theorem lastD_zero {U : List Nat} (hz : 0 ∉ U) : U.getLastD 0 = 0 ↔ U = [] := by
  constructor
  · intro e
    by_cases h : U = []
    · exact h
    · exact absurd (e ▸ lastD_mem h) hz
  · rintro rfl; rfl
theorem headD_zero {U : List Nat} (hz : 0 ∉ U) : U.headD 0 = 0 ↔ U = [] := by
  constructor
  · intro e
    by_cases h : U = []
    · exact h
    · exact absurd (e ▸ headD_mem h) hz
  · rintro rfl; rfl
theorem lastD_in {U : List Nat} {P : Nat → Prop} (h : ∀ G, G ∈ U → P G) : U.getLastD 0 = 0 ∨ P (U.getLastD 0) := by
  by_cases e : U = []
  · subst e; exact .inl rfl
  · exact .inr (h _ (lastD_mem e))
theorem headD_in {U : List Nat} {P : Nat → Prop} (h : ∀ G, G ∈ U → P G) : U.headD 0 = 0 ∨ P (U.headD 0) := by
  by_cases e : U = []
  · subst e; exact .inl rfl
  · exact .inr (h _ (headD_mem e))

theorem entered_hd (L : Ls) (c k a H b : Nat) (hz : H ≠ 0) (c2 k2 : Nat) : (L.entered c k a H b).hd c2 k2 = if c2 = c ∧ k2 = k then (if a = 0 then H else L.hd c2 k2) else L.hd c2 k2 := by
  unfold Ls.entered Ls.met
  rw [if_neg hz, if_neg hz]
  by_cases a0 : a = 0 <;> by_cases b0 : b = 0 <;> by_cases e : c2 = c ∧ k2 = k <;> simp [Ls.sLn, Ls.sTl, Ls.sHd, a0, b0, e]
theorem entered_tl (L : Ls) (c k a H b : Nat) (hz : H ≠ 0) (c2 k2 : Nat) : (L.entered c k a H b).tl c2 k2 = if c2 = c ∧ k2 = k then (if b = 0 then H else L.tl c2 k2) else L.tl c2 k2 := by
  unfold Ls.entered Ls.met
  rw [if_neg hz, if_neg hz]
  by_cases a0 : a = 0 <;> by_cases b0 : b = 0 <;> by_cases e : c2 = c ∧ k2 = k <;> simp [Ls.sLn, Ls.sTl, Ls.sHd, a0, b0, e]
theorem left_hd (L : Ls) (c k a b : Nat) (c2 k2 : Nat) : (L.left c k a b).hd c2 k2 = if c2 = c ∧ k2 = k then (if a = 0 then b else L.hd c2 k2) else L.hd c2 k2 := by
  unfold Ls.left Ls.met
  by_cases a0 : a = 0 <;> by_cases b0 : b = 0 <;> by_cases e : c2 = c ∧ k2 = k <;> simp [Ls.sLn, Ls.sTl, Ls.sHd, a0, b0, e]
theorem left_tl (L : Ls) (c k a b : Nat) (c2 k2 : Nat) : (L.left c k a b).tl c2 k2 = if c2 = c ∧ k2 = k then (if b = 0 then a else L.tl c2 k2) else L.tl c2 k2 := by
  unfold Ls.left Ls.met
  by_cases a0 : a = 0 <;> by_cases b0 : b = 0 <;> by_cases e : c2 = c ∧ k2 = k <;> simp [Ls.sLn, Ls.sTl, Ls.sHd, a0, b0, e]

section
variable {cls : Nat → Nat} {T : List Nat} {p n s : Nat → Nat} {L : Ls} {X : Nat → Nat → List Nat}

theorem LI.enter (h : LI cls T p n s L X) {H k : Nat} (hH : H ∈ T) (hk : k < 3) (hs : s H = 4) (U V : List Nat) (hX : X (cls H) k = U ++ V) :
    LI cls T (mP (mP p (U.getLastD 0) H) H (V.headD 0)) (mN (mN n (U.getLastD 0) H) H (V.headD 0)) (upf s H (k + 1)) (L.entered (cls H) k (U.getLastD 0) H (V.headD 0)) (upX X (cls H) k (U ++ H :: V)) := by
  have hz : H ≠ 0 := fun e => h.z (e ▸ hH)
  have hmem : ∀ G, G ∈ U ++ V → G ∈ T ∧ s G = k + 1 ∧ cls G = cls H := fun G hG => h.sub _ _ G (by rw [hX]; exact hG)
  have hHn : H ∉ U ++ V := fun hm => by have := (hmem H hm).2.1; omega
  have h0 : 0 ∉ U ++ V := fun hm => h.z (hmem 0 hm).1
  have hnd : (U ++ V).Nodup := hX ▸ h.nd _ _
  have hlk : Lk p n (U ++ V) := hX ▸ h.lk _ _
  have h0U : 0 ∉ U := fun hm => h0 (List.mem_append_left _ hm)
  have h0V : 0 ∉ V := fun hm => h0 (List.mem_append_right _ hm)
  have hUl := lastD_in (U := U) (P := fun G => s G = k + 1 ∧ cls G = cls H) (fun G hG => (hmem G (List.mem_append_left _ hG)).2)
  have hVh := headD_in (U := V) (P := fun G => s G = k + 1 ∧ cls G = cls H) (fun G hG => (hmem G (List.mem_append_right _ hG)).2)
  have hoth : ∀ G, G ≠ H → G ≠ U.getLastD 0 → G ≠ V.headD 0 → mP (mP p (U.getLastD 0) H) H (V.headD 0) G = p G ∧ mN (mN n (U.getLastD 0) H) H (V.headD 0) G = n G := fun G h1 h2 h3 => ⟨by rw [mP_ne h3, mP_ne h1], by rw [mN_ne h1, mN_ne h2]⟩
  refine ⟨fun c2 k2 G hG => ?_, fun c2 k2 G hG => ?_, fun c2 k2 => ?_, fun c2 k2 => ?_, fun c2 k2 => ?_, fun c2 k2 => ?_, fun c2 k2 => ?_, fun G hG => ?_, fun G hG hsG => ?_, fun G hG hsG => ?_, h.z⟩
  · by_cases e : c2 = cls H ∧ k2 = k
    · obtain ⟨rfl, rfl⟩ := e
      rw [upX_same] at hG
      by_cases e2 : G = H
      · subst e2
        exact ⟨hH, upf_same _ _ _, rfl⟩
      · rw [upf_ne _ _ e2]
        refine hmem G ?_
        simp [e2] at hG ⊢
        exact hG
    · rw [upX_ne _ _ e] at hG
      have := h.sub c2 k2 G hG
      have hk3 := h.k3 c2 k2 G hG
      have e2 : G ≠ H := fun e2 => by subst e2; omega
      rw [upf_ne _ _ e2]
      exact this
  · by_cases e : c2 = cls H ∧ k2 = k
    · exact e.2 ▸ hk
    · rw [upX_ne _ _ e] at hG
      exact h.k3 c2 k2 G hG
  · by_cases e : c2 = cls H ∧ k2 = k
    · obtain ⟨rfl, rfl⟩ := e
      rw [upX_same]
      rw [List.nodup_append] at hnd ⊢
      refine ⟨hnd.1, List.nodup_cons.2 ⟨fun hm => hHn (List.mem_append_right _ hm), hnd.2.1⟩, fun a ha b hb => ?_⟩
      rcases List.mem_cons.1 hb with rfl | hb
      · exact fun e => hHn (e ▸ List.mem_append_left _ ha)
      · exact hnd.2.2 a ha b hb
    · rw [upX_ne _ _ e]; exact h.nd _ _
  · by_cases e : c2 = cls H ∧ k2 = k
    · obtain ⟨rfl, rfl⟩ := e
      rw [upX_same]
      exact hlk.enter hz h0 hHn hnd
    · rw [upX_ne _ _ e]
      refine (h.lk c2 k2).congr fun G hG => ?_
      obtain ⟨g1, g2, g3⟩ := h.sub c2 k2 G hG
      have gz : G ≠ 0 := fun e2 => h.z (e2 ▸ g1)
      have hk3 := h.k3 c2 k2 G hG
      refine hoth G (fun e2 => by subst e2; omega) (fun e2 => ?_) (fun e2 => ?_)
      · rcases hUl with h1 | h1
        · exact gz (e2.trans h1)
        · rw [← e2] at h1; exact e ⟨by omega, by omega⟩
      · rcases hVh with h1 | h1
        · exact gz (e2.trans h1)
        · rw [← e2] at h1; exact e ⟨by omega, by omega⟩
  · rw [entered_hd _ _ _ _ _ _ hz]
    by_cases e : c2 = cls H ∧ k2 = k
    · rw [if_pos e]
      obtain ⟨rfl, rfl⟩ := e
      rw [upX_same, h.hd, hX]
      by_cases a0 : U = []
      · subst a0; rfl
      · rw [if_neg (fun e => a0 ((lastD_zero h0U).1 e))]
        cases U with
        | nil => exact absurd rfl a0
        | cons u U => rfl
    · rw [if_neg e, upX_ne _ _ e]; exact h.hd _ _
  · rw [entered_tl _ _ _ _ _ _ hz]
    by_cases e : c2 = cls H ∧ k2 = k
    · rw [if_pos e]
      obtain ⟨rfl, rfl⟩ := e
      rw [upX_same, h.tl, hX]
      by_cases b0 : V = []
      · subst b0
        rw [if_pos (show ([] : List Nat).headD 0 = 0 from rfl), lastD_app]; rfl
      · rw [if_neg (fun e => b0 ((headD_zero h0V).1 e))]
        cases V with
        | nil => exact absurd rfl b0
        | cons v V =>
          rw [lastD_snoc, lastD_app]
          exact lastD_any (by simp) _ _
    · rw [if_neg e, upX_ne _ _ e]; exact h.tl _ _
  · show (((L.met _ k _ H).met _ k H _).sLn _ k _).ln c2 k2 = _
    simp only [Ls.sLn, met_ln]
    by_cases e : c2 = cls H ∧ k2 = k
    · rw [if_pos e]
      obtain ⟨rfl, rfl⟩ := e
      rw [upX_same, h.ln, hX]
      simp; omega
    · rw [if_neg e, upX_ne _ _ e]; exact h.ln _ _
  · by_cases e2 : G = H
    · subst e2; rw [upf_same]; omega
    · rw [upf_ne _ _ e2]; exact h.st G hG
  · by_cases e2 : G = H
    · subst e2
      rw [upf_same, Nat.add_sub_cancel, upX_same]
      simp
    · rw [upf_ne _ _ e2] at hsG ⊢
      have h1 := h.out G hG hsG
      by_cases e : cls G = cls H ∧ s G - 1 = k
      · rw [e.1, e.2, upX_same]
        rw [e.1, e.2, hX] at h1
        simp [e2] at h1 ⊢
        exact h1
      · rw [upX_ne _ _ e]; exact h1
  · by_cases e2 : G = H
    · subst e2; rw [upf_same] at hsG; omega
    · rw [upf_ne _ _ e2] at hsG
      have gz : G ≠ 0 := fun e3 => h.z (e3 ▸ hG)
      have h1 := hoth G e2 (fun e3 => by
        rcases hUl with h1 | h1
        · exact gz (e3.trans h1)
        · rw [← e3] at h1; omega) (fun e3 => by
        rcases hVh with h1 | h1
        · exact gz (e3.trans h1)
        · rw [← e3] at h1; omega)
      rw [h1.1, h1.2]
      exact h.non G hG hsG

theorem LI.leave (h : LI cls T p n s L X) {H k : Nat} (hk : k < 3) (U V : List Nat) (hX : X (cls H) k = U ++ H :: V) :
    LI cls T (upf (mP p (U.getLastD 0) (V.headD 0)) H 0) (upf (mN n (U.getLastD 0) (V.headD 0)) H 0) (upf s H 4) (L.left (cls H) k (U.getLastD 0) (V.headD 0)) (upX X (cls H) k (U ++ V)) := by
  have hmem : ∀ G, G ∈ U ++ H :: V → G ∈ T ∧ s G = k + 1 ∧ cls G = cls H := fun G hG => h.sub _ _ G (by rw [hX]; exact hG)
  have hHm := hmem H (by simp)
  have h0 : 0 ∉ U ++ H :: V := fun hm => h.z (hmem 0 hm).1
  have hnd : (U ++ H :: V).Nodup := hX ▸ h.nd _ _
  have hlk : Lk p n (U ++ H :: V) := hX ▸ h.lk _ _
  have h0U : 0 ∉ U := fun hm => h0 (List.mem_append_left _ hm)
  have h0V : 0 ∉ V := fun hm => h0 (List.mem_append_right _ (List.mem_cons_of_mem _ hm))
  have hUl := lastD_in (U := U) (P := fun G => s G = k + 1 ∧ cls G = cls H) (fun G hG => (hmem G (List.mem_append_left _ hG)).2)
  have hVh := headD_in (U := V) (P := fun G => s G = k + 1 ∧ cls G = cls H) (fun G hG => (hmem G (List.mem_append_right _ (List.mem_cons_of_mem _ hG))).2)
  have hnd2 := hnd
  rw [List.nodup_append] at hnd2
  obtain ⟨nU, nHV, nUV⟩ := hnd2
  rw [List.nodup_cons] at nHV
  have hHn : H ∉ U ++ V := fun hm => by
    rcases List.mem_append.1 hm with hm | hm
    · exact nUV H hm H (by simp) rfl
    · exact nHV.1 hm
  have hsubm : ∀ G, G ∈ U ++ V → G ∈ U ++ H :: V := fun G hG => by simp at hG ⊢; rcases hG with h1 | h1; exact .inl h1; exact .inr (.inr h1)
  have hoth : ∀ G, G ≠ H → G ≠ U.getLastD 0 → G ≠ V.headD 0 → upf (mP p (U.getLastD 0) (V.headD 0)) H 0 G = p G ∧ upf (mN n (U.getLastD 0) (V.headD 0)) H 0 G = n G := fun G h1 h2 h3 => ⟨by rw [upf_ne _ _ h1, mP_ne h3], by rw [upf_ne _ _ h1, mN_ne h2]⟩
  refine ⟨fun c2 k2 G hG => ?_, fun c2 k2 G hG => ?_, fun c2 k2 => ?_, fun c2 k2 => ?_, fun c2 k2 => ?_, fun c2 k2 => ?_, fun c2 k2 => ?_, fun G hG => ?_, fun G hG hsG => ?_, fun G hG hsG => ?_, h.z⟩
  · by_cases e : c2 = cls H ∧ k2 = k
    · obtain ⟨rfl, rfl⟩ := e
      rw [upX_same] at hG
      have e2 : G ≠ H := fun e2 => hHn (e2 ▸ hG)
      rw [upf_ne _ _ e2]
      exact hmem G (hsubm G hG)
    · rw [upX_ne _ _ e] at hG
      have h1 := h.sub c2 k2 G hG
      have e2 : G ≠ H := fun e2 => by subst e2; exact e ⟨by omega, by omega⟩
      rw [upf_ne _ _ e2]
      exact h1
  · by_cases e : c2 = cls H ∧ k2 = k
    · exact e.2 ▸ hk
    · rw [upX_ne _ _ e] at hG
      exact h.k3 c2 k2 G hG
  · by_cases e : c2 = cls H ∧ k2 = k
    · obtain ⟨rfl, rfl⟩ := e
      rw [upX_same, List.nodup_append]
      exact ⟨nU, nHV.2, fun a ha b hb => nUV a ha b (List.mem_cons_of_mem _ hb)⟩
    · rw [upX_ne _ _ e]; exact h.nd _ _
  · by_cases e : c2 = cls H ∧ k2 = k
    · obtain ⟨rfl, rfl⟩ := e
      rw [upX_same]
      refine (hlk.leave h0 hnd).congr fun G hG => ?_
      have e2 : G ≠ H := fun e2 => hHn (e2 ▸ hG)
      exact ⟨upf_ne _ _ e2, upf_ne _ _ e2⟩
    · rw [upX_ne _ _ e]
      refine (h.lk c2 k2).congr fun G hG => ?_
      obtain ⟨g1, g2, g3⟩ := h.sub c2 k2 G hG
      have gz : G ≠ 0 := fun e2 => h.z (e2 ▸ g1)
      refine hoth G (fun e2 => by subst e2; exact e ⟨by omega, by omega⟩) (fun e2 => ?_) (fun e2 => ?_)
      · rcases hUl with h1 | h1
        · exact gz (e2.trans h1)
        · rw [← e2] at h1; exact e ⟨by omega, by omega⟩
      · rcases hVh with h1 | h1
        · exact gz (e2.trans h1)
        · rw [← e2] at h1; exact e ⟨by omega, by omega⟩
  · rw [left_hd]
    by_cases e : c2 = cls H ∧ k2 = k
    · rw [if_pos e]
      obtain ⟨rfl, rfl⟩ := e
      rw [upX_same, h.hd, hX]
      by_cases a0 : U = []
      · subst a0; rfl
      · rw [if_neg (fun e => a0 ((lastD_zero h0U).1 e))]
        cases U with
        | nil => exact absurd rfl a0
        | cons u U => rfl
    · rw [if_neg e, upX_ne _ _ e]; exact h.hd _ _
  · rw [left_tl]
    by_cases e : c2 = cls H ∧ k2 = k
    · rw [if_pos e]
      obtain ⟨rfl, rfl⟩ := e
      rw [upX_same, h.tl, hX]
      by_cases b0 : V = []
      · subst b0
        rw [List.append_nil]; rfl
      · rw [if_neg (fun e => b0 ((headD_zero h0V).1 e))]
        cases V with
        | nil => exact absurd rfl b0
        | cons v V =>
          rw [lastD_snoc, lastD_app]
          exact lastD_any (by simp) _ _
    · rw [if_neg e, upX_ne _ _ e]; exact h.tl _ _
  · simp only [Ls.left, Ls.sLn, met_ln]
    by_cases e : c2 = cls H ∧ k2 = k
    · rw [if_pos e]
      obtain ⟨rfl, rfl⟩ := e
      rw [upX_same, h.ln, hX]
      simp
    · rw [if_neg e, upX_ne _ _ e]; exact h.ln _ _
  · by_cases e2 : G = H
    · subst e2; rw [upf_same]; omega
    · rw [upf_ne _ _ e2]; exact h.st G hG
  · by_cases e2 : G = H
    · subst e2; rw [upf_same] at hsG; omega
    · rw [upf_ne _ _ e2] at hsG ⊢
      have h1 := h.out G hG hsG
      by_cases e : cls G = cls H ∧ s G - 1 = k
      · rw [e.1, e.2, upX_same]
        rw [e.1, e.2, hX] at h1
        simp [e2] at h1 ⊢
        exact h1
      · rw [upX_ne _ _ e]; exact h1
  · by_cases e2 : G = H
    · subst e2; exact ⟨upf_same _ _ _, upf_same _ _ _⟩
    · rw [upf_ne _ _ e2] at hsG
      have gz : G ≠ 0 := fun e3 => h.z (e3 ▸ hG)
      have h1 := hoth G e2 (fun e3 => by
        rcases hUl with h1 | h1
        · exact gz (e3.trans h1)
        · rw [← e3] at h1; omega) (fun e3 => by
        rcases hVh with h1 | h1
        · exact gz (e3.trans h1)
        · rw [← e3] at h1; omega)
      rw [h1.1, h1.2]
      exact h.non G hG hsG
theorem LI.split (h : LI cls T p n s L X) {c k H : Nat} (hm : H ∈ X c k) : ∃ U V, X c k = U ++ H :: V ∧ p H = U.getLastD 0 ∧ n H = V.headD 0 := by
  obtain ⟨U, V, hUV⟩ := List.append_of_mem hm
  have := h.lk c k U H V hUV
  exact ⟨U, V, hUV, this.1, this.2⟩
end
end Go.Proofs.YtijpploeofdhbaaGreat

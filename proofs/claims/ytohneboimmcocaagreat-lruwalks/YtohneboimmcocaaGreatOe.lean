import Derived.Test.YtohneboimmcocaaGreatPd
import Derived.Test.YtohneboimmcocaaGreatOd
/-
  Balance as lists: it comes to rest.
-/
namespace Go.Proofs.YtohneboimmcocaaGreat
open Go.RowKit
set_option linter.unusedVariables false

/-- How often an item may still move. -/
def wt (ma : Nat → Nat) (k H : Nat) : Nat := if k = 2 then 2 * (ma H % 2) else 1 + ma H % 2
def potK (S : Lm) (ci k : Nat) : Nat := ((S.X ci k).map (wt S.ma k)).sum
def pot (S : Lm) (ci : Nat) : Nat := potK S ci 0 + potK S ci 1 + potK S ci 2
/-- No item twice. -/
structure Dj (X : Nat → Nat → List Nat) (ci : Nat) : Prop where
  nd : ∀ k, k < 3 → (X ci k).Nodup
  dj : ∀ j k H, j < 3 → k < 3 → H ∈ X ci j → H ∈ X ci k → j = k

theorem sum_le (f : Nat → Nat) (b : Nat) (h : ∀ H, f H ≤ b) : ∀ l : List Nat, (l.map f).sum ≤ b * l.length
  | [] => by simp
  | x :: l => by
    have h1 := sum_le f b h l
    have h2 := h x
    simp only [List.map_cons, List.sum_cons, List.length_cons]
    rw [Nat.mul_add, Nat.mul_one]
    omega
theorem wt_le (ma : Nat → Nat) (k H : Nat) : wt ma k H ≤ 2 := by unfold wt; split <;> omega
theorem pot_le (S : Lm) (ci : Nat) : pot S ci ≤ 2 * tot S.X ci := by
  have h0 := sum_le _ 2 (wt_le S.ma 0) (S.X ci 0)
  have h1 := sum_le _ 2 (wt_le S.ma 1) (S.X ci 1)
  have h2 := sum_le _ 2 (wt_le S.ma 2) (S.X ci 2)
  unfold pot potK tot
  omega
theorem map_upf {ma : Nat → Nat} {H v k : Nat} {l : List Nat} (h : H ∉ l) : l.map (wt (upf ma H v) k) = l.map (wt ma k) :=
  List.map_congr_left fun G hG => by
    have hne : G ≠ H := fun e => h (e ▸ hG)
    unfold wt
    rw [upf_ne _ _ hne]
theorem snoc_of {l : List Nat} (h : 0 < l.length) : ∃ U H, l = U ++ [H] := by
  rcases List.eq_nil_or_concat l with rfl | ⟨U, H, rfl⟩
  · simp at h
  · exact ⟨U, H, by simp⟩
/-- The lists behind a move. -/
theorem mvd_X {S : Lm} {ci k k2 H : Nat} {U : List Nat} (hX : S.X ci k = U ++ [H]) (j : Nat) : (mvd S ci k k2).X ci j = (if j = k2 then [H] else []) ++ (if j = k then U else S.X ci j) := by
  have e1 : (S.X ci k).dropLast = U := by rw [hX]; simp
  have e2 : (S.X ci k).getLastD 0 = H := by rw [hX]; simp
  unfold mvd
  rw [e1, e2]
  show upX (upX S.X ci k U) ci k2 (H :: (upX S.X ci k U) ci k2) ci j = _
  by_cases e : j = k2
  · subst e
    rw [upX_same, if_pos rfl]
    by_cases e2 : j = k
    · subst e2
      rw [upX_same, if_pos rfl]; rfl
    · rw [upX_ne _ _ (by omega), if_neg e2]; rfl
  · rw [upX_ne _ _ (by omega), if_neg e]
    by_cases e2 : j = k
    · subst e2
      rw [upX_same, if_pos rfl]; rfl
    · rw [upX_ne _ _ (by omega), if_neg e2]; rfl
theorem mvd_ma {S : Lm} {ci k k2 H : Nat} {U : List Nat} (hX : S.X ci k = U ++ [H]) : (mvd S ci k k2).ma = upf S.ma H (S.ma H - S.ma H % 2) := by
  have e2 : (S.X ci k).getLastD 0 = H := by rw [hX]; simp
  unfold mvd
  rw [e2]
theorem mvd_other (S : Lm) (ci k k2 c j : Nat) (h : c ≠ ci) : (mvd S ci k k2).X c j = S.X c j := by
  show upX (upX S.X ci k (S.X ci k).dropLast) ci k2 _ c j = _
  rw [upX_ne _ _ (by omega), upX_ne _ _ (by omega)]
section
variable {S : Lm} {ci k k2 H : Nat} {U : List Nat}
theorem Dj.left (h : Dj S.X ci) (hk : k < 3) (hX : S.X ci k = U ++ [H]) : U.Nodup ∧ H ∉ U ∧ H ∈ S.X ci k ∧ ∀ j G, j < 3 → G ∈ (if j = k then U else S.X ci j) → G ∈ S.X ci j ∧ G ≠ H := by
  have hn := h.nd k hk
  rw [hX] at hn
  obtain ⟨n1, _, n3⟩ := List.nodup_append.1 hn
  have hHU : H ∉ U := fun hm => n3 _ hm H (by simp) rfl
  have hHk : H ∈ S.X ci k := by rw [hX]; simp
  refine ⟨n1, hHU, hHk, fun j G hj hG => ?_⟩
  by_cases e : j = k
  · subst e
    rw [if_pos rfl] at hG
    exact ⟨by rw [hX]; exact List.mem_append_left _ hG, fun e => hHU (e ▸ hG)⟩
  · rw [if_neg e] at hG
    exact ⟨hG, fun e2 => e (h.dj j k H hj hk (e2 ▸ hG) hHk)⟩
theorem Dj.mvd (h : Dj S.X ci) (hk : k < 3) (hk2 : k2 < 3) (hX : S.X ci k = U ++ [H]) : Dj (mvd S ci k k2).X ci := by
  obtain ⟨n1, hHU, hHk, mem⟩ := h.left hk hX
  refine ⟨fun j hj => ?_, fun i j G hi hj h1 h2 => ?_⟩
  · rw [mvd_X hX]
    have hnd2 : (if j = k then U else S.X ci j).Nodup := by
      split
      · exact n1
      · exact h.nd j hj
    by_cases e : j = k2
    · rw [if_pos e]
      exact List.nodup_cons.2 ⟨fun hm => (mem j _ hj hm).2 rfl, hnd2⟩
    · rw [if_neg e]; exact hnd2
  · rw [mvd_X hX] at h1 h2
    have cs : ∀ j, j < 3 → G ∈ (if j = k2 then [H] else []) ++ (if j = k then U else S.X ci j) → (G = H ∧ j = k2) ∨ (G ≠ H ∧ G ∈ S.X ci j) := fun j hj hm => by
      rcases List.mem_append.1 hm with hm | hm
      · by_cases e : j = k2
        · rw [if_pos e] at hm; exact .inl ⟨by simpa using hm, e⟩
        · rw [if_neg e] at hm; simp at hm
      · have := mem j G hj hm
        exact .inr ⟨this.2, this.1⟩
    rcases cs i hi h1 with ⟨e1, e2⟩ | ⟨e1, e2⟩ <;> rcases cs j hj h2 with ⟨f1, f2⟩ | ⟨f1, f2⟩
    · omega
    · exact absurd e1 f1
    · exact absurd f1 e1
    · exact h.dj i j G hi hj e2 f2
theorem potK_mvd (h : Dj S.X ci) (hk : k < 3) (hX : S.X ci k = U ++ [H]) (j : Nat) (hj : j < 3) : potK (Go.Proofs.YtohneboimmcocaaGreat.mvd S ci k k2) ci j + (if j = k then wt S.ma k H else 0) = potK S ci j + (if j = k2 then (if j = 2 then 0 else 1) else 0) := by
  obtain ⟨n1, hHU, hHk, mem⟩ := h.left hk hX
  have hno : H ∉ (if j = k then U else S.X ci j) := fun hm => (mem j H hj hm).2 rfl
  have hw : wt (upf S.ma H (S.ma H - S.ma H % 2)) j H = if j = 2 then 0 else 1 := by
    unfold wt
    rw [upf_same]
    have : (S.ma H - S.ma H % 2) % 2 = 0 := by omega
    rw [this]
  unfold potK
  rw [mvd_X hX, mvd_ma hX, List.map_append, List.sum_append, map_upf hno]
  have h1 : (((if j = k2 then [H] else [] : List Nat)).map (wt (upf S.ma H (S.ma H - S.ma H % 2)) j)).sum = if j = k2 then (if j = 2 then 0 else 1) else 0 := by
    by_cases e : j = k2
    · rw [if_pos e, if_pos e]; simpa using hw
    · rw [if_neg e, if_neg e]; rfl
  rw [h1]
  by_cases e : j = k
  · subst e
    rw [if_pos rfl, if_pos rfl, hX, List.map_append, List.sum_append]
    simp only [List.map_cons, List.map_nil, List.sum_cons, List.sum_nil]
    omega
  · rw [if_neg e, if_neg e]
    omega
end
theorem bhd_eq {X : Nat → Nat → List Nat} {ci hot warm k : Nat} {act : Bool} (hk : k < 3) (h : bhd X ci hot warm k act ≠ 0) : (bhd X ci hot warm k act = if act then 2 else 3) ∧ (k = 2 → act = true) := by
  have hk3 : k = 0 ∨ k = 1 ∨ k = 2 := by omega
  unfold bhd spl at *
  rcases hk3 with rfl | rfl | rfl
  · simp only [if_true] at h ⊢
    split at h
    · exact absurd rfl h
    · rename_i hh
      rw [if_neg hh]
      exact ⟨rfl, by omega⟩
  · simp only [if_neg (show ¬ (1 : Nat) = 0 by omega), if_true] at h ⊢
    split at h
    · exact absurd rfl h
    · rename_i hh
      rw [if_neg hh]
      exact ⟨rfl, by omega⟩
  · simp only [if_neg (show ¬ (2 : Nat) = 0 by omega), if_neg (show ¬ (2 : Nat) = 1 by omega)] at h ⊢
    cases act <;> simp_all
/-- What a step is. -/
theorem nxt8_some {S S' : Lm} {ci hot warm : Nat} (h : nxt8 S ci hot warm = some S') : ∃ k U H, k < 3 ∧ S.X ci k = U ++ [H] ∧ (∀ j, j < k → due S.X S.ma ci hot warm j = 0) ∧ due S.X S.ma ci hot warm k ≠ 0 ∧ S' = mvd S ci k (if S.ma H % 2 = 1 then 1 else 2) ∧ (k = 2 → S.ma H % 2 = 1) := by
  have key : ∀ k, k < 3 → due S.X S.ma ci hot warm k ≠ 0 → ∃ U H, S.X ci k = U ++ [H] ∧ due S.X S.ma ci hot warm k - 1 = (if S.ma H % 2 = 1 then 1 else 2) ∧ (k = 2 → S.ma H % 2 = 1) := fun k hk hd => by
    obtain ⟨U, H, hX⟩ := snoc_of (due_ne hd)
    have hd2 : due S.X S.ma ci hot warm k = bhd S.X ci hot warm k (decide (S.ma H % 2 = 1)) := by
      unfold due
      rw [hX, List.getLast?_concat]
    rw [hd2] at hd
    obtain ⟨e1, e2⟩ := bhd_eq hk hd
    refine ⟨U, H, hX, ?_, fun hk2 => by simpa using e2 hk2⟩
    rw [hd2, e1]
    by_cases e : S.ma H % 2 = 1
    · simp [e]
    · simp [e]
  unfold nxt8 at h
  by_cases h0 : due S.X S.ma ci hot warm 0 ≠ 0
  · rw [if_pos h0] at h
    obtain ⟨U, H, a1, a2, a3⟩ := key 0 (by omega) h0
    refine ⟨0, U, H, by omega, a1, fun j hj => by omega, h0, ?_, a3⟩
    rw [← a2]; exact (Option.some.inj h).symm
  · rw [if_neg h0] at h
    have h0' : due S.X S.ma ci hot warm 0 = 0 := by simpa using h0
    by_cases h1 : due S.X S.ma ci hot warm 1 ≠ 0
    · rw [if_pos h1] at h
      obtain ⟨U, H, a1, a2, a3⟩ := key 1 (by omega) h1
      refine ⟨1, U, H, by omega, a1, fun j hj => (show j = 0 by omega) ▸ h0', h1, ?_, a3⟩
      rw [← a2]; exact (Option.some.inj h).symm
    · rw [if_neg h1] at h
      have h1' : due S.X S.ma ci hot warm 1 = 0 := by simpa using h1
      by_cases h2 : due S.X S.ma ci hot warm 2 ≠ 0
      · rw [if_pos h2] at h
        obtain ⟨U, H, a1, a2, a3⟩ := key 2 (by omega) h2
        refine ⟨2, U, H, by omega, a1, fun j hj => (show j = 0 ∨ j = 1 by omega).elim (fun e => e ▸ h0') (fun e => e ▸ h1'), h2, ?_, a3⟩
        rw [← a2]; exact (Option.some.inj h).symm
      · rw [if_neg h2] at h
        cases h
theorem nxt8_none {S : Lm} {ci hot warm : Nat} (h : nxt8 S ci hot warm = none) : ∀ k, k < 3 → due S.X S.ma ci hot warm k = 0 := by
  unfold nxt8 at h
  by_cases h0 : due S.X S.ma ci hot warm 0 ≠ 0
  · rw [if_pos h0] at h; cases h
  · rw [if_neg h0] at h
    by_cases h1 : due S.X S.ma ci hot warm 1 ≠ 0
    · rw [if_pos h1] at h; cases h
    · rw [if_neg h1] at h
      by_cases h2 : due S.X S.ma ci hot warm 2 ≠ 0
      · rw [if_pos h2] at h; cases h
      · intro k hk
        have : k = 0 ∨ k = 1 ∨ k = 2 := by omega
        rcases this with rfl | rfl | rfl
        · simpa using h0
        · simpa using h1
        · simpa using h2
theorem nxt8_pot {S S' : Lm} {ci hot warm : Nat} (hd : Dj S.X ci) (h : nxt8 S ci hot warm = some S') : Dj S'.X ci ∧ pot S' ci + 1 = pot S ci := by
  obtain ⟨k, U, H, hk, hX, _, _, rfl, h2⟩ := nxt8_some h
  obtain ⟨k2, hk2⟩ : ∃ k2, (if S.ma H % 2 = 1 then 1 else 2) = k2 := ⟨_, rfl⟩
  rw [hk2]
  have hk23 : k2 < 3 := by rw [← hk2]; split <;> omega
  refine ⟨hd.mvd hk hk23 hX, ?_⟩
  have p0 := potK_mvd (k2 := k2) hd hk hX 0 (by omega)
  have p1 := potK_mvd (k2 := k2) hd hk hX 1 (by omega)
  have p2 := potK_mvd (k2 := k2) hd hk hX 2 (by omega)
  have hw : wt S.ma k H = if k = 2 then 2 * (S.ma H % 2) else 1 + S.ma H % 2 := rfl
  have h3 : k = 0 ∨ k = 1 ∨ k = 2 := by omega
  unfold pot
  by_cases ha : S.ma H % 2 = 1
  · rw [if_pos ha] at hk2
    subst hk2
    rw [ha] at hw
    rcases h3 with rfl | rfl | rfl <;> simp at p0 p1 p2 hw <;> omega
  · rw [if_neg ha] at hk2
    subst hk2
    have ha0 : S.ma H % 2 = 0 := by omega
    rw [ha0] at hw
    rcases h3 with rfl | rfl | rfl
    · simp at p0 p1 p2 hw; omega
    · simp at p0 p1 p2 hw; omega
    · exact absurd (h2 rfl) ha
/-- Steps enough: it rests. -/
theorem bal_pot (ci hot warm : Nat) : ∀ n (S : Lm), Dj S.X ci → pot S ci ≤ n → bal ci hot warm n S = bal ci hot warm (pot S ci) S ∧ nxt8 (bal ci hot warm n S).2 ci hot warm = none
  | 0, S, hd, hp => by
    have e : pot S ci = 0 := by omega
    rw [e]
    refine ⟨rfl, ?_⟩
    show nxt8 S ci hot warm = none
    cases h : nxt8 S ci hot warm with
    | none => rfl
    | some S' => have := (nxt8_pot hd h).2; omega
  | n + 1, S, hd, hp => by
    cases h : nxt8 S ci hot warm with
    | none =>
      have e1 : bal ci hot warm (n + 1) S = (0, S) := by rw [bal, h]
      have e2 : bal ci hot warm (pot S ci) S = (0, S) := by
        cases hq : pot S ci with
        | zero => rfl
        | succ m => rw [bal, h]
      rw [e1, e2]
      exact ⟨rfl, h⟩
    | some S' =>
      obtain ⟨hd', hp'⟩ := nxt8_pot hd h
      obtain ⟨i1, i2⟩ := bal_pot ci hot warm n S' hd' (by omega)
      have e1 : bal ci hot warm (n + 1) S = ((bal ci hot warm n S').1 + 1, (bal ci hot warm n S').2) := by rw [bal, h]
      have e2 : bal ci hot warm (pot S ci) S = ((bal ci hot warm (pot S' ci) S').1 + 1, (bal ci hot warm (pot S' ci) S').2) := by rw [← hp', bal, h]
      rw [e1, e2, i1]
      exact ⟨rfl, by rw [i1] at i2; exact i2⟩
theorem bal_same (ci hot warm : Nat) {a b : Nat} {S : Lm} (hd : Dj S.X ci) (ha : pot S ci ≤ a) (hb : pot S ci ≤ b) : bal ci hot warm a S = bal ci hot warm b S := by
  rw [(bal_pot ci hot warm a S hd ha).1, (bal_pot ci hot warm b S hd hb).1]
theorem bal_min (ci hot warm : Nat) {links : Nat} {S : Lm} (hd : Dj S.X ci) (h : 2 * tot S.X ci ≤ 2000) : bal ci hot warm (min links (2 * tot S.X ci)) S = bal ci hot warm (min links 2000) S := by
  have hp := pot_le S ci
  by_cases e : links ≤ 2 * tot S.X ci
  · rw [Nat.min_eq_left e, Nat.min_eq_left (by omega)]
  · exact bal_same ci hot warm hd (by omega) (by omega)
/-- The items that move. -/
def mvs (ci hot warm : Nat) : Nat → Lm → List Nat
  | 0, S => []
  | n + 1, S => match nxt8 S ci hot warm with
    | none => []
    | some S' => ((if due S.X S.ma ci hot warm 0 ≠ 0 then S.X ci 0 else if due S.X S.ma ci hot warm 1 ≠ 0 then S.X ci 1 else S.X ci 2).getLastD 0) :: mvs ci hot warm n S'
theorem mvs_len (ci hot warm : Nat) : ∀ n (S : Lm), (mvs ci hot warm n S).length = (bal ci hot warm n S).1
  | 0, S => rfl
  | n + 1, S => by
    cases h : nxt8 S ci hot warm with
    | none => rw [bal, mvs, h]; rfl
    | some S' => rw [bal, mvs, h]; simp [mvs_len ci hot warm n S']
end Go.Proofs.YtohneboimmcocaaGreat
/-
  The document's Lru: due.
-/
namespace Go.Proofs.YtohneboimmcocaaGreat
open Go.RowKit
set_option linter.unusedVariables false

/-- The document's lists and marks are these. -/
structure Dm (T : List Nat) (Y : Nat → List Nat) (xa : List Nat) (S : Lm) : Prop where
  ys : ∀ c k, c < 3 → k < 3 → Y (3 * c + k) = S.X c k
  ac : ∀ H, H ∈ T → (H ∈ xa ↔ S.ma H % 2 = 1)
/-- The lists are of these items. -/
structure Lt (T : List Nat) (S : Lm) : Prop where
  sub : ∀ c k H, H ∈ S.X c k → H ∈ T ∧ c < 3 ∧ k < 3
  z : 0 ∉ T
  ln : ∀ c, tot S.X c < 900
  nd : ∀ c k, (S.X c k).Nodup
  one : ∀ c k c' k' H, H ∈ S.X c k → H ∈ S.X c' k' → c = c' ∧ k = k'
theorem Lt.dj {T : List Nat} {S : Lm} (h : Lt T S) (ci : Nat) : Dj S.X ci := ⟨fun k _ => h.nd ci k, fun j k H _ _ h1 h2 => (h.one _ _ _ _ H h1 h2).2⟩
/-- A move keeps that. -/
theorem Lt.mvd {T : List Nat} {S : Lm} (h : Lt T S) {ci k k2 H : Nat} {U : List Nat} (hc : ci < 3) (hk : k < 3) (hk2 : k2 < 3) (hX : S.X ci k = U ++ [H]) : Lt T (mvd S ci k k2) := by
  have hHk : H ∈ S.X ci k := by rw [hX]; simp
  have hdj := (h.dj ci).mvd hk hk2 hX
  have mem : ∀ c j G, G ∈ (Go.Proofs.YtohneboimmcocaaGreat.mvd S ci k k2).X c j → (G = H ∧ c = ci ∧ j = k2) ∨ (G ∈ S.X c j ∧ ¬ (c = ci ∧ j = k ∧ G = H)) := fun c j G hG => by
    by_cases e : c = ci
    · subst e
      rw [mvd_X hX] at hG
      rcases List.mem_append.1 hG with hG | hG
      · by_cases e : j = k2
        · rw [if_pos e] at hG; exact .inl ⟨by simpa using hG, rfl, e⟩
        · rw [if_neg e] at hG; simp at hG
      · by_cases e : j = k
        · subst e
          rw [if_pos rfl] at hG
          refine .inr ⟨by rw [hX]; exact List.mem_append_left _ hG, fun hh => ?_⟩
          exact ((h.dj c).left hk hX).2.1 (hh.2.2 ▸ hG)
        · rw [if_neg e] at hG; exact .inr ⟨hG, fun hh => e hh.2.1⟩
    · rw [mvd_other S ci k k2 c j e] at hG
      exact .inr ⟨hG, fun hh => e hh.1⟩
  refine ⟨fun c j G hG => ?_, h.z, fun c => ?_, fun c j => ?_, fun c j c' j' G h1 h2 => ?_⟩
  · rcases mem c j G hG with ⟨rfl, rfl, rfl⟩ | ⟨hh, _⟩
    · exact ⟨(h.sub _ _ _ hHk).1, hc, hk2⟩
    · exact h.sub _ _ _ hh
  · by_cases e : c = ci
    · subst e
      rw [mvd_tot S c k k2 hk hk2 (by rw [hX]; simp)]
      exact h.ln c
    · have : tot (Go.Proofs.YtohneboimmcocaaGreat.mvd S ci k k2).X c = tot S.X c := by unfold tot; rw [mvd_other _ _ _ _ _ _ e, mvd_other _ _ _ _ _ _ e, mvd_other _ _ _ _ _ _ e]
      rw [this]; exact h.ln c
  · by_cases e : c = ci
    · subst e
      by_cases hj : j < 3
      · exact hdj.nd j hj
      · rw [mvd_X hX, if_neg (by omega), if_neg (by omega)]
        exact h.nd c j
    · rw [mvd_other _ _ _ _ _ _ e]; exact h.nd c j
  · rcases mem c j G h1 with ⟨a1, a2, a3⟩ | ⟨a1, a2⟩ <;> rcases mem c' j' G h2 with ⟨b1, b2, b3⟩ | ⟨b1, b2⟩
    · exact ⟨a2.trans b2.symm, a3.trans b3.symm⟩
    · have hb := h.one _ _ _ _ H (a1 ▸ b1) hHk
      exact absurd ⟨hb.1, hb.2, a1⟩ b2
    · have hb := h.one _ _ _ _ H (b1 ▸ a1) hHk
      exact absurd ⟨hb.1, hb.2, b1⟩ a2
    · exact h.one _ _ _ _ G a1 b1
theorem Lt.nxt {T : List Nat} {S S' : Lm} (h : Lt T S) {ci hot warm : Nat} (hc : ci < 3) (hn : nxt8 S ci hot warm = some S') : Lt T S' := by
  obtain ⟨k, U, H, hk, hX, _, _, rfl, _⟩ := nxt8_some hn
  exact h.mvd hc hk (by split <;> omega) hX
def dueK (S : Lm) (ci hot warm : Nat) : Nat := if due S.X S.ma ci hot warm 0 ≠ 0 then 1 else if due S.X S.ma ci hot warm 1 ≠ 0 then 2 else if due S.X S.ma ci hot warm 2 ≠ 0 then 3 else 0
theorem due_0 (X : Nat → Nat → List Nat) (mk : Nat → Nat) (ci hot warm : Nat) : due X mk ci hot warm 0 ≠ 0 ↔ ¬ 100 * (X ci 0).length ≤ hot * tot X ci := by
  unfold due
  cases h : (X ci 0).getLast? with
  | none =>
    have : X ci 0 = [] := List.getLast?_eq_none_iff.1 h
    simp [this]
  | some H =>
    simp only [bhd, if_true, spl]
    split
    · simp_all
    · rename_i hh
      simp only [ne_eq, hh, not_false_eq_true, iff_true]
      split <;> decide
theorem due_1 (X : Nat → Nat → List Nat) (mk : Nat → Nat) (ci hot warm : Nat) : due X mk ci hot warm 1 ≠ 0 ↔ ¬ 100 * (X ci 1).length ≤ warm * tot X ci := by
  unfold due
  cases h : (X ci 1).getLast? with
  | none =>
    have : X ci 1 = [] := List.getLast?_eq_none_iff.1 h
    simp [this]
  | some H =>
    simp only [bhd, if_neg (show ¬ (1 : Nat) = 0 by omega), if_true, spl]
    split
    · simp_all
    · rename_i hh
      simp only [ne_eq, hh, not_false_eq_true, iff_true]
      split <;> decide
theorem due_2 (X : Nat → Nat → List Nat) (mk : Nat → Nat) (ci hot warm : Nat) (hz : 0 ∉ X ci 2) : due X mk ci hot warm 2 ≠ 0 ↔ (¬ (X ci 2).getLastD 0 = 0 ∧ mk ((X ci 2).getLastD 0) % 2 = 1) := by
  unfold due
  cases h : (X ci 2).getLast? with
  | none =>
    have : X ci 2 = [] := List.getLast?_eq_none_iff.1 h
    simp [this]
  | some H =>
    have e : (X ci 2).getLastD 0 = H := by rw [List.getLastD_eq_getLast?, h]; rfl
    have hne : ¬ H = 0 := fun e2 => hz (e2 ▸ List.mem_of_getLast? h)
    simp only [bhd, if_neg (show ¬ (2 : Nat) = 0 by omega), if_neg (show ¬ (2 : Nat) = 1 by omega), e]
    by_cases e2 : mk H % 2 = 1
    · simp [e2, hne]
    · simp [e2]
theorem dueK_nxt (S : Lm) (ci hot warm : Nat) : (dueK S ci hot warm = 0 ↔ nxt8 S ci hot warm = none) := by
  unfold dueK nxt8
  by_cases h0 : due S.X S.ma ci hot warm 0 ≠ 0
  · rw [if_pos h0, if_pos h0]; simp
  · rw [if_neg h0, if_neg h0]
    by_cases h1 : due S.X S.ma ci hot warm 1 ≠ 0
    · rw [if_pos h1, if_pos h1]; simp
    · rw [if_neg h1, if_neg h1]
      by_cases h2 : due S.X S.ma ci hot warm 2 ≠ 0
      · rw [if_pos h2, if_pos h2]; simp
      · rw [if_neg h2, if_neg h2]; simp

section
variable {w : World} {mb lb rb lsb : Nat} {lv : Value} {vs : Nat → Value} {Y : Nat → List Nat} {szb szc : Nat} {av : Value} {xa : List Nat} {hot warm : Nat} {T : List Nat} {S : Lm}
set_option maxRecDepth 100000 in
set_option maxHeartbeats 2000000 in
theorem d_due (h : DS w mb lb rb lsb lv vs Y szb szc av xa hot warm) (hm : Dm T Y xa S) (hL : Lt T S) (hl : xa.length ≤ 1000000) {ci : Nat} (hc : ci < 3) (hsh : hot ≤ 100) (hsw : warm ≤ 100) :
    Calls Tryz.prog 63 #[.pointer (some ⟨mb, 0, none⟩), .int .i64 ci] w fun y w' => y = .returned (.int .i64 (dueK S ci hot warm)) ∧ w.grownBy w' none := by
  have hlen := d_len h hc
  have y0 := hm.ys ci 0 hc (by omega)
  rw [Nat.add_zero] at y0
  have y1 := hm.ys ci 1 hc (by omega)
  have y2 := hm.ys ci 2 hc (by omega)
  rw [y0, y1, y2] at hlen
  have htot := hL.ln ci
  have hz : 0 ∉ S.X ci 2 := fun hh => hL.z (hL.sub _ _ _ hh).1
  obtain ⟨v, hv⟩ : ∃ v, (S.X ci 2).getLastD 0 = v := ⟨_, rfl⟩
  have htl := fun W (hf : w.grownBy W none) => tail_64 (h.kept0 hf).rq hc (k := 2) (by omega) v (by rw [y2]; exact hv) (by rw [y2]; exact hz)
  simp only [show ((2 : Nat) : Int) + 1 = 3 from rfl] at htl
  have hvT : ¬ v = 0 → v ∈ T := fun hne => by
    rcases lastD_in (U := S.X ci 2) (P := fun G => G ∈ T) (fun G hG => (hL.sub _ _ _ hG).1) with h1 | h1
    · exact absurd (hv ▸ h1) hne
    · exact hv ▸ h1
  have his := fun W (hf : w.grownBy W none) => ris_45 (h.kept0 hf).mbx (h.kept0 hf).arow hl v
  have hac := hm.ac v
  have d0 := due_0 S.X S.ma ci hot warm
  have d1 := due_1 S.X S.ma ci hot warm
  have d2 := due_2 S.X S.ma ci hot warm hz
  rw [hv] at d2
  have hdk : dueK S ci hot warm = if ¬ 100 * (S.X ci 0).length ≤ hot * tot S.X ci then 1 else if ¬ 100 * (S.X ci 1).length ≤ warm * tot S.X ci then 2 else if (¬ v = 0 ∧ S.ma v % 2 = 1) then 3 else 0 := by
    unfold dueK
    simp only [d0, d1, d2]
  have htt : tot S.X ci = (S.X ci 0).length + (S.X ci 1).length + (S.X ci 2).length := rfl
  have hCC : ∀ W, w.grownBy W none → W.cell? ⟨mb, 0, none⟩ = some (.pointer (some ⟨lb, 0, none⟩)) ∧ W.cell? ⟨mb, 1, none⟩ = some (.int .i64 hot) ∧ W.cell? ⟨mb, 2, none⟩ = some (.int .i64 warm) := fun W hf => ⟨(h.kept0 hf).mbx.cell 0, (h.kept0 hf).mbx.cell 1, (h.kept0 hf).mbx.cell 2⟩
  rw [hdk]
  generalize tot S.X ci = tt at *
  generalize (S.X ci 0).length = n0 at *
  generalize (S.X ci 1).length = n1 at *
  generalize (S.X ci 2).length = n2 at *
  clear h hm hL hdk d0 d1 d2 y0 y1 y2 hv hz
  have e1 : IntKind.i64.wrap ((n0 : Int) + n1) = (n0 : Int) + n1 := by rw [IntKind.wrap_i64]; omega
  have e2 : IntKind.i64.wrap ((n0 : Int) + n1 + n2) = (tt : Int) := by rw [IntKind.wrap_i64]; omega
  have e3 : IntKind.i64.wrap (100 * (n0 : Int)) = 100 * (n0 : Int) := by rw [IntKind.wrap_i64]; omega
  have e4 : IntKind.i64.wrap (100 * (n1 : Int)) = 100 * (n1 : Int) := by rw [IntKind.wrap_i64]; omega
  have m1 : tt * hot ≤ 900 * 100 := Nat.mul_le_mul (by omega) hsh
  have m2 : tt * warm ≤ 900 * 100 := Nat.mul_le_mul (by omega) hsw
  have e5 : IntKind.i64.wrap ((tt : Int) * hot) = ((tt * hot : Nat) : Int) := by rw [← Int.natCast_mul, IntKind.wrap_i64]; omega
  have e6 : IntKind.i64.wrap ((tt : Int) * warm) = ((tt * warm : Nat) : Int) := by rw [← Int.natCast_mul, IntKind.wrap_i64]; omega
  rw [Nat.mul_comm hot tt, Nat.mul_comm warm tt]
  have HE : Hid _ := And.intro htt htot
  clear htt htot
  generalize tt * hot = th at *
  generalize tt * warm = tw at *
  by_cases h1 : 100 * n0 ≤ th
  · have h1b : decide (100 * (n0 : Int) > th) = false := decide_eq_false (by omega)
    have h1c : ¬ (th : Int) < 100 * (n0 : Int) := by omega
    have h1d : decide ((th : Int) < 100 * (n0 : Int)) = false := decide_eq_false h1c
    rw [if_neg (by omega)]
    by_cases h2 : 100 * n1 ≤ tw
    · have h2b : decide (100 * (n1 : Int) > tw) = false := decide_eq_false (by omega)
      have h2c : ¬ (tw : Int) < 100 * (n1 : Int) := by omega
      have h2d : decide ((tw : Int) < 100 * (n1 : Int)) = false := decide_eq_false h2c
      rw [if_neg (by omega)]
      by_cases hv0 : v = 0
      · rw [decide_eq_false (fun h => h hv0)] at htl
        rw [if_neg (fun hh => hh.1 hv0)]
        clear hv0 hvT hac
        go_enter Tryz.func63, Tryz.ntmps63
        go_wp2_with (first | (go_at_call 42; go_must (refine hlen.mono ?_); rintro y w1 ⟨rfl, hf1⟩; (obtain ⟨c0, c1, c2⟩ := hCC _ hf1)) | (go_at_call 64; go_must (refine (htl _ hf1).mono ?_); rintro y w2 ⟨rfl, hf2⟩; (have hf12 := gb_trans hf1 hf2)) | fail)
        go_ret
        exact ⟨rfl, hf12⟩
      · rw [decide_eq_true hv0] at htl
        have hac2 := hac (hvT hv0)
        by_cases hx : v ∈ xa
        · rw [decide_eq_true hx] at his
          rw [if_pos ⟨hv0, hac2.1 hx⟩]
          clear hvT hac hac2 hv0
          go_enter Tryz.func63, Tryz.ntmps63
          go_wp2_with (first | (go_at_call 42; go_must (refine hlen.mono ?_); rintro y w1 ⟨rfl, hf1⟩; (obtain ⟨c0, c1, c2⟩ := hCC _ hf1)) | (go_at_call 64; go_must (refine (htl _ hf1).mono ?_); rintro y w2 ⟨rfl, hf2⟩; (have hf12 := gb_trans hf1 hf2)) | (go_at_call 45; go_must (refine (his _ hf12).mono ?_); rintro y w3 ⟨rfl, rfl⟩) | fail)
          go_ret
          exact ⟨rfl, hf12⟩
        · rw [decide_eq_false hx] at his
          rw [if_neg (fun hh => hx (hac2.2 hh.2))]
          clear hvT hac hac2 hv0
          go_enter Tryz.func63, Tryz.ntmps63
          go_wp2_with (first | (go_at_call 42; go_must (refine hlen.mono ?_); rintro y w1 ⟨rfl, hf1⟩; (obtain ⟨c0, c1, c2⟩ := hCC _ hf1)) | (go_at_call 64; go_must (refine (htl _ hf1).mono ?_); rintro y w2 ⟨rfl, hf2⟩; (have hf12 := gb_trans hf1 hf2)) | (go_at_call 45; go_must (refine (his _ hf12).mono ?_); rintro y w3 ⟨rfl, rfl⟩) | fail)
          go_ret
          exact ⟨rfl, hf12⟩
    · have h2b : decide (100 * (n1 : Int) > tw) = true := decide_eq_true (by omega)
      have h2c : (tw : Int) < 100 * (n1 : Int) := by omega
      have h2d : decide ((tw : Int) < 100 * (n1 : Int)) = true := decide_eq_true h2c
      rw [if_pos h2]
      go_enter Tryz.func63, Tryz.ntmps63
      go_wp2_with (first | (go_at_call 42; go_must (refine hlen.mono ?_); rintro y w1 ⟨rfl, hf1⟩; (obtain ⟨c0, c1, c2⟩ := hCC _ hf1)) | fail)
      go_ret
      exact ⟨rfl, hf1⟩
  · rw [if_pos h1]
    have h1b : decide (100 * (n0 : Int) > th) = true := decide_eq_true (by omega)
    have h1c : (th : Int) < 100 * (n0 : Int) := by omega
    have h1d : decide ((th : Int) < 100 * (n0 : Int)) = true := decide_eq_true h1c
    go_enter Tryz.func63, Tryz.ntmps63
    go_wp2_with (first | (go_at_call 42; go_must (refine hlen.mono ?_); rintro y w1 ⟨rfl, hf1⟩; (obtain ⟨c0, c1, c2⟩ := hCC _ hf1)) | fail)
    go_ret
    exact ⟨rfl, hf1⟩
end
end Go.Proofs.YtohneboimmcocaaGreat
/-
  The document's Lru: Balance.
-/
namespace Go.Proofs.YtohneboimmcocaaGreat
open Go.RowKit
set_option linter.unusedVariables false

theorem Lt.len {T : List Nat} {S : Lm} (h : Lt T S) (c k : Nat) (hk : k < 3) : (S.X c k).length < 900 := Nat.lt_of_le_of_lt (len_tot S.X c k hk) (h.ln c)
/-- Where an item of a list stands. -/
theorem Dm.stands {T : List Nat} {Y : Nat → List Nat} {xa : List Nat} {S : Lm} (hm : Dm T Y xa S) (hL : Lt T S) {c k H : Nat} {U V : List Nat} (hc : c < 3) (hk : k < 3) (hX : S.X c k = U ++ H :: V) : Stands Y H (3 * c + k) U V := by
  have hH : H ∈ S.X c k := by rw [hX]; simp
  refine ⟨by omega, by rw [hm.ys c k hc hk]; exact hX, ?_, fun j hj hm2 => ?_⟩
  · have hn := hL.nd c k
    rw [hX] at hn
    obtain ⟨_, _, n3⟩ := List.nodup_append.1 hn
    exact fun hh => n3 _ hh H (by simp) rfl
  · have e := hm.ys (j / 3) (j % 3) (by omega) (by omega)
    rw [show 3 * (j / 3) + j % 3 = j by omega] at e
    rw [e] at hm2
    have := hL.one _ _ _ _ H hm2 hH
    omega
theorem Dm.nowhere {T : List Nat} {Y : Nat → List Nat} {xa : List Nat} {S : Lm} (hm : Dm T Y xa S) {H : Nat} (hn : ∀ c k, H ∉ S.X c k) : Nowhere Y H := fun j hj hm2 => by
  have e := hm.ys (j / 3) (j % 3) (by omega) (by omega)
  rw [show 3 * (j / 3) + j % 3 = j by omega] at e
  rw [e] at hm2
  exact hn _ _ hm2
theorem Dm.lens {T : List Nat} {Y : Nat → List Nat} {xa : List Nat} {S : Lm} (hm : Dm T Y xa S) (hL : Lt T S) : ∀ i, i < 9 → (Y i).length < 1000 := fun i hi => by
  have e := hm.ys (i / 3) (i % 3) (by omega) (by omega)
  rw [show 3 * (i / 3) + i % 3 = i by omega] at e
  rw [e]
  have := hL.len (i / 3) (i % 3) (by omega)
  omega
/-- What a move makes of the document's lists. -/
theorem Dm.mvd {T : List Nat} {Y : Nat → List Nat} {xa : List Nat} {S : Lm} (hm : Dm T Y xa S) {ci k k2 H : Nat} {U : List Nat} (hc : ci < 3) (hk : k < 3) (hk2 : k2 < 3) (hX : S.X ci k = U ++ [H]) : Dm T (upY (upY Y (3 * ci + k) (U ++ [])) (3 * ci + k2) (H :: upY Y (3 * ci + k) (U ++ []) (3 * ci + k2))) (nox H xa) (mvd S ci k k2) := by
  rw [List.append_nil]
  refine ⟨fun c j hc2 hj => ?_, fun G hG => ?_⟩
  · have hy : ∀ i, upY Y (3 * ci + k) U (3 * ci + i) = if i = k then U else Y (3 * ci + i) := fun i => by
      by_cases e : i = k
      · subst e; rw [upY_same, if_pos rfl]
      · rw [upY_ne _ _ (by omega), if_neg e]
    by_cases e : c = ci
    · subst e
      rw [mvd_X hX]
      by_cases e2 : j = k2
      · subst e2
        rw [upY_same, if_pos rfl, hy, hm.ys c j hc hj]
        rfl
      · rw [upY_ne _ _ (by omega), if_neg e2, hy, hm.ys c j hc hj]
        rfl
    · rw [upY_ne _ _ (by omega), upY_ne _ _ (by omega), mvd_other _ _ _ _ _ _ e]
      exact hm.ys c j hc2 hj
  · rw [mvd_ma hX]
    unfold nox
    by_cases e : G = H
    · subst e
      rw [upf_same]
      have : (S.ma G - S.ma G % 2) % 2 = 0 := by omega
      simp [this]
    · rw [upf_ne _ _ e]
      simp [e]
      exact hm.ac G hG

def slen : Value → Nat
  | .slice _ n _ => n
  | _ => 0
/-- A row apart from the document's lists and marks. -/
def Apt (vs : Nat → Value) (av v : Value) : Prop := ∀ k, v.ownBlock = some k → (∀ i, i < 9 → (vs i).ownBlock ≠ some k) ∧ av.ownBlock ≠ some k
section
variable {w : World} {mb lb rb lsb : Nat} {lv : Value} {vs : Nat → Value} {Y : Nat → List Nat} {szb szc : Nat} {av : Value} {xa : List Nat} {hot warm : Nat} {T : List Nat} {S : Lm}
/-- A row that is apart is turned. -/
theorem DS.apart {w' : World} (h : DS w mb lb rb lsb lv vs Y szb szc av xa hot warm) {v : Value} (hf : w.grownBy w' v.ownBlock) (ha : Apt vs av v) (hn : ∀ k, v.ownBlock = some k → k ≠ mb ∧ k ≠ lb ∧ k ≠ rb ∧ k ≠ lsb) : DS w' mb lb rb lsb lv vs Y szb szc av xa hot warm := by
  refine ⟨⟨h.rq.box.kept hf (fun e => (hn _ e.symm).2.1 rfl), ⟨h.rq.rl.blk.kept hf (fun e => (hn _ e.symm).2.2.2 rfl), fun j hj => row_kept (h.rq.rl.ls j hj) hf (fun k hk e => (ha k e.symm).1 j hj hk), h.rq.rl.ln⟩, gb_cell hf h.rq.sz (fun e => (hn _ e.symm).2.2.1 rfl)⟩, h.mbx.kept hf (fun e => (hn _ e.symm).1 rfl), row_kept h.arow hf (fun k hk e => (ha k e.symm).2 hk), h.nl, h.nm, h.ap⟩
theorem DS.lt (h : DS w mb lb rb lsb lv vs Y szb szc av xa hot warm) : mb < w.heap.size ∧ lb < w.heap.size ∧ rb < w.heap.size ∧ lsb < w.heap.size := ⟨h.mbx.lt, h.rq.box.lt, World.block_lt_of_cell? _ _ h.rq.sz, h.rq.rl.blk.lt⟩

theorem mvd_mem {S : Lm} {ci k k2 H : Nat} {U : List Nat} (hX : S.X ci k = U ++ [H]) {j G : Nat} (hG : G ∈ (mvd S ci k k2).X ci j) : ∃ j', G ∈ S.X ci j' := by
  rw [mvd_X hX] at hG
  rcases List.mem_append.1 hG with hG | hG
  · by_cases e : j = k2
    · rw [if_pos e] at hG
      have : G = H := by simpa using hG
      exact ⟨k, by rw [hX, this]; simp⟩
    · rw [if_neg e] at hG; simp at hG
  · by_cases e : j = k
    · rw [if_pos e] at hG
      exact ⟨k, by rw [hX]; exact List.mem_append_left _ hG⟩
    · rw [if_neg e] at hG; exact ⟨j, hG⟩
/-- Where Balance stands. -/
structure Bst (w wr : World) (mb lb rb lsb : Nat) (lv : Value) (vs : Nat → Value) (szb szc : Nat) (av : Value) (hot warm : Nat) (T : List Nat) (cl : Nat → Nat) (ci : Nat) (S1 : Lm) (v : Value) (xs : List Nat) (nx : Nat) : Prop where
  kp : Kp (fun k => k = lsb ∨ k = mb) w wr
  lt : Lt T S1
  cm : ∀ k G, G ∈ S1.X ci k → cl G = ci
  row : wr.ownsRow w.heap.size 27 1 v xs.length (uvs xs)
  ex : ∃ vs1 Y1 av1 xa1, DS wr mb lb rb lsb lv vs1 Y1 szb szc av1 xa1 hot warm ∧ Dm T Y1 xa1 S1 ∧ (∀ i, i < 9 → NewV w.heap.size (vs i) (vs1 i)) ∧ NewV w.heap.size av av1 ∧ Apt vs1 av1 v ∧ xa1.length ≤ nx
theorem Bst.kept0 {wr w' : World} {cl : Nat → Nat} {ci nx : Nat} {S1 : Lm} {v : Value} {xs : List Nat} (h : Bst w wr mb lb rb lsb lv vs szb szc av hot warm T cl ci S1 v xs nx) (hf : wr.grownBy w' none) : Bst w w' mb lb rb lsb lv vs szb szc av hot warm T cl ci S1 v xs nx := by
  obtain ⟨vs1, Y1, av1, xa1, a1, a2, a3, a4, a5, a6⟩ := h.ex
  exact ⟨h.kp.step hf (by simp), h.lt, h.cm, row_kept h.row hf (by simp), vs1, Y1, av1, xa1, a1.kept0 hf, a2, a3, a4, a5, a6⟩
theorem dueK_some {S S' : Lm} {ci hot warm : Nat} (h : nxt8 S ci hot warm = some S') : ∃ k U H, k < 3 ∧ S.X ci k = U ++ [H] ∧ dueK S ci hot warm = k + 1 ∧ S' = mvd S ci k (if S.ma H % 2 = 1 then 1 else 2) ∧ ∀ n, mvs ci hot warm (n + 1) S = H :: mvs ci hot warm n S' := by
  obtain ⟨k, U, H, hk, hX, hlo, hne, hS', _⟩ := nxt8_some h
  have e2 : (S.X ci k).getLastD 0 = H := by rw [hX]; simp
  have h3 : k = 0 ∨ k = 1 ∨ k = 2 := by omega
  refine ⟨k, U, H, hk, hX, ?_, hS', fun n => ?_⟩
  · unfold dueK
    rcases h3 with rfl | rfl | rfl
    · rw [if_pos hne]
    · rw [if_neg (by rw [hlo 0 (by omega)]; simp), if_pos hne]
    · rw [if_neg (by rw [hlo 0 (by omega)]; simp), if_neg (by rw [hlo 1 (by omega)]; simp), if_pos hne]
  · rw [mvs, h]
    simp only []
    rcases h3 with rfl | rfl | rfl
    · rw [if_pos hne, e2]
    · rw [if_neg (by rw [hlo 0 (by omega)]; simp), if_pos hne, e2]
    · rw [if_neg (by rw [hlo 0 (by omega)]; simp), if_neg (by rw [hlo 1 (by omega)]; simp), e2]

variable {wr : World} {cl : Nat → Nat} {ci nx : Nat} {S1 : Lm} {v : Value} {xs : List Nat}
/-- What a step is, of which item. -/
structure Nxh (S1 : Lm) (ci hot warm k H : Nat) (U : List Nat) : Prop where
  k3 : k < 3
  X : S1.X ci k = U ++ [H]
  nx : nxt8 S1 ci hot warm = some (mvd S1 ci k (if S1.ma H % 2 = 1 then 1 else 2))
  mv : ∀ n, mvs ci hot warm (n + 1) S1 = H :: mvs ci hot warm n (mvd S1 ci k (if S1.ma H % 2 = 1 then 1 else 2))
theorem b_due (hB : Bst w wr mb lb rb lsb lv vs szb szc av hot warm T cl ci S1 v xs nx) (hnx : nx ≤ 1000000) (hc : ci < 3) (hsh : hot ≤ 100) (hsw : warm ≤ 100) :
    Calls Tryz.prog 63 #[.pointer (some ⟨mb, 0, none⟩), .int .i64 ci] wr fun y w' => (y = .returned (.int .i64 0) ∧ Hid (nxt8 S1 ci hot warm = none ∧ Bst w w' mb lb rb lsb lv vs szb szc av hot warm T cl ci S1 v xs nx)) ∨ ∃ (k H : Nat) (U : List Nat), y = .returned (.int .i64 ((k : Int) + 1)) ∧ Hid (Nxh S1 ci hot warm k H U ∧ Bst w w' mb lb rb lsb lv vs szb szc av hot warm T cl ci S1 v xs nx) := by
  obtain ⟨vs1, Y1, av1, xa1, a1, a2, a3, a4, a5, a6⟩ := hB.ex
  refine (d_due a1 a2 hB.lt (by omega) hc hsh hsw).mono ?_
  rintro y w' ⟨rfl, hf⟩
  cases hn : nxt8 S1 ci hot warm with
  | none =>
    rw [(dueK_nxt S1 ci hot warm).2 hn]
    exact .inl ⟨rfl, rfl, hB.kept0 hf⟩
  | some S' =>
    obtain ⟨k, U, H, hk, hX, hd, hS', hmv⟩ := dueK_some hn
    subst hS'
    rw [hd]
    exact .inr ⟨k, H, U, rfl, ⟨hk, hX, hn, hmv⟩, hB.kept0 hf⟩
theorem Bst.inT (hB : Bst w wr mb lb rb lsb lv vs szb szc av hot warm T cl ci S1 v xs nx) {k H : Nat} {U : List Nat} (hX : S1.X ci k = U ++ [H]) : H ∈ T ∧ ¬ H = 0 := by
  have := (hB.lt.sub ci k H (by rw [hX]; simp)).1
  exact ⟨this, fun e => hB.lt.z (e ▸ this)⟩
theorem b_tail (hB : Bst w wr mb lb rb lsb lv vs szb szc av hot warm T cl ci S1 v xs nx) (hc : ci < 3) {k H : Nat} {U : List Nat} (hX : Nxh S1 ci hot warm k H U) :
    Calls Tryz.prog 64 #[.pointer (some ⟨lb, 0, none⟩), .int .i64 ci, .int .i64 ((k : Int) + 1)] wr fun y w' => y = .returned (.tuple #[.int .u64 H, .bool true]) ∧ Bst w w' mb lb rb lsb lv vs szb szc av hot warm T cl ci S1 v xs nx := by
  obtain ⟨vs1, Y1, av1, xa1, a1, a2, a3, a4, a5, a6⟩ := hB.ex
  have e := a2.ys ci k hc hX.k3
  have := tail_64 a1.rq hc hX.k3 H (by rw [e, hX.X]; simp) (by rw [e]; exact fun hh => hB.lt.z (hB.lt.sub _ _ _ hh).1)
  rw [decide_eq_true (hB.inT hX.X).2] at this
  refine this.mono ?_
  rintro y w' ⟨rfl, hf⟩
  exact ⟨rfl, hB.kept0 hf⟩
theorem b_is (hB : Bst w wr mb lb rb lsb lv vs szb szc av hot warm T cl ci S1 v xs nx) (hnx : nx ≤ 1000000) {H : Nat} (hH : H ∈ T) :
    Calls Tryz.prog 45 #[.pointer (some ⟨mb, 0, none⟩), .int .u64 H] wr fun y w' => y = .returned (.bool (decide (S1.ma H % 2 = 1))) ∧ wr = w' := by
  obtain ⟨vs1, Y1, av1, xa1, a1, a2, a3, a4, a5, a6⟩ := hB.ex
  have := ris_45 a1.mbx a1.arow (by omega) H
  rw [show decide (H ∈ xa1) = decide (S1.ma H % 2 = 1) from decide_eq_decide.2 (a2.ac H hH)] at this
  exact this
/-- Behind a Shift. -/
structure Bsh (w wr : World) (mb lb rb lsb : Nat) (lv : Value) (vs : Nat → Value) (szb szc : Nat) (av : Value) (hot warm : Nat) (T : List Nat) (cl : Nat → Nat) (ci : Nat) (S1 : Lm) (H : Nat) (v : Value) (xs : List Nat) (nx : Nat) : Prop where
  kp : Kp (fun k => k = lsb ∨ k = mb) w wr
  lt : Lt T S1
  cm : ∀ k G, G ∈ S1.X ci k → cl G = ci
  row : wr.ownsRow w.heap.size 27 1 v xs.length (uvs xs)
  ex : ∃ vs1 Y1 av1 xa1, DS wr mb lb rb lsb lv vs1 Y1 szb szc av1 xa1 hot warm ∧ Dm T Y1 (nox H xa1) S1 ∧ (∀ i, i < 9 → NewV w.heap.size (vs i) (vs1 i)) ∧ NewV w.heap.size av av1 ∧ Apt vs1 av1 v ∧ xa1.length ≤ nx
theorem b_shift (hB : Bst w wr mb lb rb lsb lv vs szb szc av hot warm T cl ci S1 v xs nx) (hlt : lsb < w.heap.size) (hc : ci < 3) {k H k2 : Nat} {U : List Nat} (hk : k < 3) (hX : S1.X ci k = U ++ [H]) (hk2 : k2 < 3) {pl : Nat → Int} (hAt : ∀ W H, Kp (fun k => k = lsb ∨ k = mb) w W → H ∈ T → Calls Tryz.prog 148 #[.pointer (some ⟨rb, 0, none⟩), .int .u64 H] W fun y w' => y = .returned (.tuple #[.int .i64 (pl H), .int .i64 (cl H), .int .i64 0]) ∧ W.grownBy w' none) :
    Calls Tryz.prog 57 #[.pointer (some ⟨lb, 0, none⟩), .int .u64 H, .int .i64 ((k2 : Int) + 1)] wr fun y w' => y = .returned (.int .i64 0) ∧ Bsh w w' mb lb rb lsb lv vs szb szc av hot warm T cl ci (mvd S1 ci k k2) H v xs nx := by
  obtain ⟨vs1, Y1, av1, xa1, a1, a2, a3, a4, a5, a6⟩ := hB.ex
  have hHT := (hB.inT hX).1
  have hat := fun W (hK : Kp (fun k => k = lsb) wr W) => hAt W H (hB.kp.trans hK (fun _ h => h) (fun k hk => .inl (.inl hk))) hHT
  rw [hB.cm k H (by rw [hX]; simp)] at hat
  refine (shift_yes a1.rq a1.nl (a2.stands hB.lt hc hk (V := []) (by rw [hX])) hc hk2 (a2.lens hB.lt) hat).mono ?_
  rintro y w' ⟨rfl, hK, vs2, hq, hv⟩
  have hv2 : ∀ i, i < 9 → NewV wr.heap.size (vs1 i) (vs2 i) := hv
  have hD := a1.lists hK hq hv2
  refine ⟨rfl, hB.kp.trans hK (fun _ h => h) (fun k hk => .inl (.inl hk)), hB.lt.mvd hc hk hk2 hX, fun j G hG => ?_, row_same hB.row (fun k hk => hK.block k (hB.row.lt k hk).2 (fun e => by have := (hB.row.lt k hk).1; omega)), vs2, _, av1, xa1, hD, a2.mvd hc hk hk2 hX, fun i hi => (a3 i hi).trans (hv2 i hi) hB.kp.size, a4, fun k hk => ⟨fun i hi e => ?_, (a5 k hk).2⟩, a6⟩
  · obtain ⟨j', hj'⟩ := mvd_mem hX hG
    exact hB.cm j' G hj'
  · rcases hv2 i hi with e2 | e2
    · rw [e2] at e; exact (a5 k hk).1 i hi e
    · have h1 := e2 k e
      have h2 := (hB.row.lt k hk).2
      omega
theorem b_set {H : Nat} (hB : Bsh w wr mb lb rb lsb lv vs szb szc av hot warm T cl ci S1 H v xs nx) (hlt : mb < w.heap.size) (hnx : nx ≤ 1000000) :
    Calls Tryz.prog 65 #[.pointer (some ⟨mb, 0, none⟩), .int .u64 H, .bool false] wr fun y w' => y = .returned (.tuple #[]) ∧ Bst w w' mb lb rb lsb lv vs szb szc av hot warm T cl ci S1 v xs nx := by
  obtain ⟨vs1, Y1, av1, xa1, a1, a2, a3, a4, a5, a6⟩ := hB.ex
  refine (d_set a1 (by omega) H false).mono ?_
  rintro y w' ⟨rfl, hK, av2, hD, ha⟩
  have e : (nox H xa1 ++ if false = true then [H] else []) = nox H xa1 := by simp
  rw [e] at hD
  refine ⟨rfl, hB.kp.trans hK (fun _ h => h) (fun k hk => .inl (.inr hk)), hB.lt, hB.cm, row_same hB.row (fun k hk => hK.block k (hB.row.lt k hk).2 (fun e => by have := (hB.row.lt k hk).1; omega)), vs1, Y1, av2, _, hD, a2, a3, a4.trans ha hB.kp.size, fun k hk => ⟨(a5 k hk).1, fun e => ?_⟩, ?_⟩
  · rcases ha with e2 | e2
    · rw [e2] at e; exact (a5 k hk).2 e
    · have h1 := e2 k e
      have h2 := (hB.row.lt k hk).2
      omega
  · have : (nox H xa1).length ≤ xa1.length := List.length_filter_le _ _
    omega
/-- The row of what was moved is longer. -/
theorem Bst.push (hB : Bst w wr mb lb rb lsb lv vs szb szc av hot warm T cl ci S1 v xs nx) (hlt : mb < w.heap.size ∧ lb < w.heap.size ∧ rb < w.heap.size ∧ lsb < w.heap.size) {w' : World} {g cap H : Nat} (ho : w'.ownsRow w.heap.size 27 1 (.slice (some ⟨g, 0, none⟩) (xs.length + 1) cap) (xs.length + 1) (uvs xs ++ [.int .u64 (H : Int)])) (hf : wr.grownBy w' v.ownBlock) (hat : v.ownBlock = some g ∨ wr.heap.size ≤ g) :
    Bst w w' mb lb rb lsb lv vs szb szc av hot warm T cl ci S1 (.slice (some ⟨g, 0, none⟩) (xs.length + 1) cap) (xs ++ [H]) nx := by
  obtain ⟨vs1, Y1, av1, xa1, a1, a2, a3, a4, a5, a6⟩ := hB.ex
  have hn : ∀ k, v.ownBlock = some k → k ≠ mb ∧ k ≠ lb ∧ k ≠ rb ∧ k ≠ lsb := fun k hk => by
    have := (hB.row.lt k hk).1
    omega
  refine ⟨hB.kp.step hf (fun k hk => .inr ?_), hB.lt, hB.cm, by rw [List.length_append, uvs_app]; exact ho, vs1, Y1, av1, xa1, a1.apart hf a5 hn, a2, a3, a4, fun k hk => ?_, a6⟩
  · exact (hB.row.lt k hk).1
  · simp [Value.ownBlock] at hk
    subst hk
    rcases hat with h1 | h1
    · exact a5 _ h1
    · refine ⟨fun i hi e => ?_, fun e => ?_⟩
      · have := row_lt (a1.rq.rl.ls i hi) _ e; omega
      · have := row_lt a1.arow _ e; omega
theorem Bst.begin (h : DS w mb lb rb lsb lv vs Y szb szc av xa hot warm) (hm : Dm T Y xa S) (hL : Lt T S) (hl : xa.length ≤ nx) (hcm : ∀ k G, G ∈ S.X ci k → cl G = ci) : Bst w w mb lb rb lsb lv vs szb szc av hot warm T cl ci S (.slice none 0 0) [] nx :=
  ⟨Kp.refl _ _, hL, hcm, World.ownsRow_nil _ _ _ _, vs, Y, av, xa, h, hm, fun i _ => NewV.refl _ _, NewV.refl _ _, fun k hk => by simp [Value.ownBlock] at hk, hl⟩

set_option maxRecDepth 100000 in
set_option maxHeartbeats 4000000 in
theorem d_balance (h : DS w mb lb rb lsb lv vs Y szb szc av xa hot warm) (hm : Dm T Y xa S) (hL : Lt T S) (hl : xa.length ≤ nx) (hnx : nx ≤ 1000000) (hc : ci < 3) (hsh : hot ≤ 100) (hsw : warm ≤ 100) {links : Int} {lk : Nat} (hlk : ∀ n : Nat, (n : Int) < links ↔ n < lk) (hl2 : lk ≤ 2000) (hcm : ∀ k G, G ∈ S.X ci k → cl G = ci) {pl : Nat → Int}
    (hAt : ∀ W H, Kp (fun k => k = lsb ∨ k = mb) w W → H ∈ T → Calls Tryz.prog 148 #[.pointer (some ⟨rb, 0, none⟩), .int .u64 H] W fun y w' => y = .returned (.tuple #[.int .i64 (pl H), .int .i64 (cl H), .int .i64 0]) ∧ W.grownBy w' none) :
    Calls Tryz.prog 21 #[.pointer (some ⟨mb, 0, none⟩), .int .i64 ci, .int .i64 links] w fun y w' => ∃ v, y = .returned v ∧ Bst w w' mb lb rb lsb lv vs szb szc av hot warm T cl ci (bal ci hot warm lk S).2 v (mvs ci hot warm lk S) nx := by
  have hlt := h.lt
  have hB0 : Hid _ := Bst.begin (ci := ci) (cl := cl) h hm hL hl hcm
  have hC : ∀ (wr : World) (S1 : Lm) (v : Value) (xs : List Nat), Bst w wr mb lb rb lsb lv vs szb szc av hot warm T cl ci S1 v xs nx → wr.cell? ⟨mb, 0, none⟩ = some (.pointer (some ⟨lb, 0, none⟩)) := fun wr S1 v xs hB => by
    obtain ⟨vs1, Y1, av1, xa1, a1, _⟩ := hB.ex
    exact a1.mbx.cell 0
  have hdue := fun (wr : World) (S1 : Lm) (v : Value) (xs : List Nat) (hB : Bst w wr mb lb rb lsb lv vs szb szc av hot warm T cl ci S1 v xs nx) => (b_due hB hnx hc hsh hsw).mono (R' := fun y w' => (y = .returned (.int .i64 0) ∧ Hid (nxt8 S1 ci hot warm = none ∧ Bst w w' mb lb rb lsb lv vs szb szc av hot warm T cl ci S1 v xs nx)) ∨ ∃ (k H : Nat) (U : List Nat), y = .returned (.int .i64 ((k : Int) + 1)) ∧ w'.cell? ⟨mb, 0, none⟩ = some (.pointer (some ⟨lb, 0, none⟩)) ∧ ¬ ((k : Int) + 1 = 0) ∧ (((k : Int) + 1) == 0) = false ∧ Hid (Nxh S1 ci hot warm k H U ∧ Bst w w' mb lb rb lsb lv vs szb szc av hot warm T cl ci S1 v xs nx)) (by
    rintro y w' (⟨rfl, h1⟩ | ⟨k, H, U, rfl, h1⟩)
    · exact .inl ⟨rfl, h1⟩
    · exact .inr ⟨k, H, U, rfl, hC _ _ _ _ h1.out.2, by omega, by simp; omega, h1⟩)
  have htl := fun (wr : World) (S1 : Lm) (v : Value) (xs : List Nat) (k H : Nat) (U : List Nat) (hB : Hid (Nxh S1 ci hot warm k H U ∧ Bst w wr mb lb rb lsb lv vs szb szc av hot warm T cl ci S1 v xs nx)) => (b_tail hB.out.2 hc hB.out.1).mono (R' := fun y w' => y = .returned (.tuple #[.int .u64 H, .bool true]) ∧ Hid (Nxh S1 ci hot warm k H U ∧ Bst w w' mb lb rb lsb lv vs szb szc av hot warm T cl ci S1 v xs nx)) (by
    rintro y w' ⟨rfl, h1⟩
    exact ⟨rfl, hB.out.1, h1⟩)
  have his := fun (wr : World) (S1 : Lm) (v : Value) (xs : List Nat) (k H : Nat) (U : List Nat) (hB : Hid (Nxh S1 ci hot warm k H U ∧ Bst w wr mb lb rb lsb lv vs szb szc av hot warm T cl ci S1 v xs nx)) => b_is hB.out.2 hnx (hB.out.2.inT hB.out.1.X).1
  have hsf := fun (k2 : Nat) (hk2 : k2 < 3) (wr : World) (S1 : Lm) (v : Value) (xs : List Nat) (k H : Nat) (U : List Nat) (hB : Hid (Nxh S1 ci hot warm k H U ∧ Bst w wr mb lb rb lsb lv vs szb szc av hot warm T cl ci S1 v xs nx)) => (b_shift hB.out.2 hlt.2.2.2 hc hB.out.1.k3 hB.out.1.X hk2 hAt).mono (R' := fun y w' => y = .returned (.int .i64 0) ∧ Hid (Nxh S1 ci hot warm k H U ∧ Bsh w w' mb lb rb lsb lv vs szb szc av hot warm T cl ci (mvd S1 ci k k2) H v xs nx)) (by
    rintro y w' ⟨rfl, h1⟩
    exact ⟨rfl, hB.out.1, h1⟩)
  have hst := fun (k2 : Nat) (wr : World) (S1 : Lm) (v : Value) (xs : List Nat) (k H : Nat) (U : List Nat) (hB : Hid (Nxh S1 ci hot warm k H U ∧ Bsh w wr mb lb rb lsb lv vs szb szc av hot warm T cl ci (mvd S1 ci k k2) H v xs nx)) => (b_set hB.out.2 hlt.1 hnx).mono (R' := fun y w' => y = .returned (.tuple #[]) ∧ Hid (Nxh S1 ci hot warm k H U ∧ Bst w w' mb lb rb lsb lv vs szb szc av hot warm T cl ci (mvd S1 ci k k2) v xs nx)) (by
    rintro y w' ⟨rfl, h1⟩
    exact ⟨rfl, hB.out.1, h1⟩)
  clear h hm hL hAt hcm
  have hIs := his
  go_enter Tryz.func21, Tryz.ntmps21
  go_wp2
  go_loopw [7] (fun mv wr => ∃ (n : Nat) (ao : Option Addr) (cp : Nat) (S1 : Lm) (xs : List Nat), mv = .slice ao n cp ∧ n ≤ lk ∧ Hid (xs.length = n ∧ Bst w wr mb lb rb lsb lv vs szb szc av hot warm T cl ci S1 (.slice ao n cp) xs nx) ∧ Hid ((bal ci hot warm lk S).2 = (bal ci hot warm (lk - n) S1).2 ∧ mvs ci hot warm lk S = xs ++ mvs ci hot warm (lk - n) S1)) (fun mv _ => lk - slen mv)
  case atStart => exact ⟨0, none, 0, S, [], rfl, by omega, ⟨rfl, hB0.out⟩, rfl, rfl⟩
  case round =>
    obtain ⟨n, ao, cp, S1, xs, rfl, hn, hE0, hB⟩ := hrel
    have hnn := hlk n
    have hxn := hE0.out.1
    clear hlk hB0
    by_cases hlt2 : n < lk
    · have hz1 : (n : Int) < links := hnn.2 hlt2
      have hz2 : decide ((n : Int) < links) = true := decide_eq_true hz1
      have hd1 := hdue _ _ _ _ hE0.out.2
      clear hnn
      go_wp2_with (go_at_call 63; go_must (with_reducible refine hd1.mono ?_); rintro y w1 (⟨rfl, hE1⟩ | ⟨k, H, U, rfl, c1, hk0, hk1, hE1⟩))
      · go_ret
        obtain ⟨r, hr⟩ : ∃ r, lk - n = r + 1 := ⟨lk - n - 1, by omega⟩
        have q1 := hB.out.1
        have q2 := hB.out.2
        rw [hr, mvs, hE1.out.1] at q2
        rw [hr, bal, hE1.out.1] at q1
        simp only [List.append_nil] at q2
        rw [q1, q2]
        exact ⟨_, rfl, hE1.out.2⟩
      · by_cases ha : S1.ma H % 2 = 1
        · -- active
          have hS := hsf 1 (by omega)
          have hT := hst 1
          simp only [show ((1 : Nat) : Int) + 1 = 2 from rfl] at hS
          have hI := his _ _ _ _ _ _ _ hE1
          rw [decide_eq_true ha] at hI
          have hEx : Hid (nxt8 S1 ci hot warm = some (mvd S1 ci k 1) ∧ ∀ n, mvs ci hot warm (n + 1) S1 = H :: mvs ci hot warm n (mvd S1 ci k 1)) := ⟨by have := hE1.out.1.nx; rw [if_pos ha] at this; exact this, by have := hE1.out.1.mv; rw [if_pos ha] at this; exact this⟩
          clear hsf hst his hdue
          go_wp2_with (first | (go_at_call 64; go_must (with_reducible refine (htl _ _ _ _ _ _ _ hE1).mono ?_); rintro y w2 ⟨rfl, hE2⟩; (have c2 := hC _ _ _ _ hE2.out.2); (have hI2 := hIs _ _ _ _ _ _ _ hE2); (rw [decide_eq_true ha] at hI2)) | (go_at_call 45; go_must (with_reducible refine hI2.mono ?_); rintro y w3 ⟨rfl, rfl⟩) | (go_at_call 57; go_must (with_reducible refine (hS _ _ _ _ _ _ _ hE2).mono ?_); rintro y w4 ⟨rfl, hE4⟩) | (go_at_call 65; go_must (with_reducible refine (hT _ _ _ _ _ _ _ hE4).mono ?_); rintro y w5 ⟨rfl, hE5⟩; (have hrow := hE5.out.2.row); (rw [hxn] at hrow)) | (at_builtin; go_must (refine push26 rfl _ _ rfl w.heap.size (.slice ao n cp) n (uvs xs) (by rfl) hrow (H : Int) (by rfl) (by omega) (hE5.out.2.kp.size) ?_); intro g1 cap1 w6 ho6 hg6 hat6) | fail)
          have hP := hE5.out.2.push hlt (g := g1) (cap := cap1) (H := H) (by rw [hxn]; exact ho6) hg6 hat6
          rw [hxn] at hP
          obtain ⟨r, hr⟩ : ∃ r, lk - n = r + 1 := ⟨lk - n - 1, by omega⟩
          have hr2 : lk - (n + 1) = r := by omega
          have q1 := hB.out.1
          have q2 := hB.out.2
          rw [hr, hEx.out.2 r] at q2
          rw [hr, bal, hEx.out.1] at q1
          refine ⟨⟨n + 1, some ⟨g1, 0, none⟩, cap1, _, xs ++ [H], rfl, by omega, ⟨by simp [hxn], hP⟩, ?_, ?_⟩, by simp only [slen]; omega⟩
          · rw [q1, hr2]
          · rw [q2, hr2, List.append_assoc]; rfl
        · -- calm
          have hS := hsf 2 (by omega)
          have hT := hst 2
          simp only [show ((2 : Nat) : Int) + 1 = 3 from rfl] at hS
          have hI := his _ _ _ _ _ _ _ hE1
          rw [decide_eq_false ha] at hI
          have hEx : Hid (nxt8 S1 ci hot warm = some (mvd S1 ci k 2) ∧ ∀ n, mvs ci hot warm (n + 1) S1 = H :: mvs ci hot warm n (mvd S1 ci k 2)) := ⟨by have := hE1.out.1.nx; rw [if_neg ha] at this; exact this, by have := hE1.out.1.mv; rw [if_neg ha] at this; exact this⟩
          clear hsf hst his hdue
          go_wp2_with (first | (go_at_call 64; go_must (with_reducible refine (htl _ _ _ _ _ _ _ hE1).mono ?_); rintro y w2 ⟨rfl, hE2⟩; (have c2 := hC _ _ _ _ hE2.out.2); (have hI2 := hIs _ _ _ _ _ _ _ hE2); (rw [decide_eq_false ha] at hI2)) | (go_at_call 45; go_must (with_reducible refine hI2.mono ?_); rintro y w3 ⟨rfl, rfl⟩) | (go_at_call 57; go_must (with_reducible refine (hS _ _ _ _ _ _ _ hE2).mono ?_); rintro y w4 ⟨rfl, hE4⟩) | (go_at_call 65; go_must (with_reducible refine (hT _ _ _ _ _ _ _ hE4).mono ?_); rintro y w5 ⟨rfl, hE5⟩; (have hrow := hE5.out.2.row); (rw [hxn] at hrow)) | (at_builtin; go_must (refine push26 rfl _ _ rfl w.heap.size (.slice ao n cp) n (uvs xs) (by rfl) hrow (H : Int) (by rfl) (by omega) (hE5.out.2.kp.size) ?_); intro g1 cap1 w6 ho6 hg6 hat6) | fail)
          have hP := hE5.out.2.push hlt (g := g1) (cap := cap1) (H := H) (by rw [hxn]; exact ho6) hg6 hat6
          rw [hxn] at hP
          obtain ⟨r, hr⟩ : ∃ r, lk - n = r + 1 := ⟨lk - n - 1, by omega⟩
          have hr2 : lk - (n + 1) = r := by omega
          have q1 := hB.out.1
          have q2 := hB.out.2
          rw [hr, hEx.out.2 r] at q2
          rw [hr, bal, hEx.out.1] at q1
          refine ⟨⟨n + 1, some ⟨g1, 0, none⟩, cap1, _, xs ++ [H], rfl, by omega, ⟨by simp [hxn], hP⟩, ?_, ?_⟩, by simp only [slen]; omega⟩
          · rw [q1, hr2]
          · rw [q2, hr2, List.append_assoc]; rfl
    · obtain rfl : n = lk := by omega
      have hz1 : ¬ (n : Int) < links := fun h => hlt2 (hnn.1 h)
      have hz2 : decide ((n : Int) < links) = false := decide_eq_false hz1
      clear hdue htl his hsf hst hC
      go_wp2
      go_ret
      have q1 := hB.out.1
      have q2 := hB.out.2
      rw [Nat.sub_self] at q1 q2
      rw [q1, q2]
      simp only [bal, mvs, List.append_nil]
      exact ⟨_, rfl, hE0.out.2⟩
end
end Go.Proofs.YtohneboimmcocaaGreat

/-
  Two servers: how many points they have.
-/
import Derived.Test.YtphhofbdekbggaaSb
namespace Go.Proofs.Ytphhofbdekbggaa
open Go.RowKit
set_option linter.unusedVariables false
set_option linter.unusedSimpArgs false

theorem nodup_len {α : Type} : ∀ {l m : List α}, l.Nodup → (∀ x ∈ l, x ∈ m) → l.length ≤ m.length
  | [], m, _, _ => Nat.zero_le _
  | x :: l, m, hn, hs => by
    obtain ⟨s, t, rfl⟩ := List.append_of_mem (hs x (by simp))
    have hx := (List.nodup_cons.1 hn).1
    have := nodup_len (m := s ++ t) (List.nodup_cons.1 hn).2 fun y hy => by
      have := hs y (by simp [hy])
      simp only [List.mem_append, List.mem_cons] at this ⊢
      rcases this with h | h | h
      · exact .inl h
      · exact absurd (h ▸ hy) hx
      · exact .inr h
    simp only [List.length_append, List.length_cons] at this ⊢
    omega
theorem first_of (o : List Nat) (i : Nat) (hi : i < o.length) : ∃ r : Int, Fi o o.length (oat o i) r := by
  induction i using Nat.strongRecOn with
  | _ i ih =>
    by_cases h : ∃ j, j < i ∧ oat o j = oat o i
    · obtain ⟨j, hj, e⟩ := h
      rw [← e]
      exact ih j hj (by omega)
    · exact ⟨i, i, rfl, hi, hi, rfl, fun q hq e => h ⟨q, hq, e⟩⟩
theorem hav_of (L : List Sv) (t i : Nat) (ht : t < L.length) (hi : i < (own L t).length) : ∃ r, Hav L L.length 0 (oat (own L t) i, (t : Int), r) := by
  obtain ⟨r, hr⟩ := first_of (own L t) i hi
  exact ⟨r, t, rfl, .inl ⟨ht, hr⟩⟩
/-- What a point has, some server has as a place. -/
theorem Hav.place {L : List Sv} {p : Pt} (h : Hav L L.length 0 p) : ∃ t i : Nat, p.2.1 = (t : Int) ∧ t < L.length ∧ i < (own L t).length ∧ p.1 = oat (own L t) i := by
  obtain ⟨t, h1, ⟨h2, i, _, _, h3, h4, _⟩ | ⟨_, i, _, h3, _⟩⟩ := h
  · exact ⟨t, i, h1, h2, h3, h4⟩
  · omega
/-- Each own place of a server is on the circle. -/
theorem Circle.at {L : List Sv} {ps : List Pt} (h : Circle L ps) (t i : Nat) (ht : t < L.length) (hi : i < (own L t).length) : ∃ p ∈ ps, p.1 = oat (own L t) i := by
  induction t using Nat.strongRecOn generalizing i with
  | _ t ih =>
    by_cases hx : ∃ t' i', t' < t ∧ i' < (own L t').length ∧ oat (own L t') i' = oat (own L t) i
    · obtain ⟨t', i', a, b, c⟩ := hx
      obtain ⟨p, hp, e⟩ := ih t' a i' (by omega) b
      exact ⟨p, hp, e.trans c⟩
    · obtain ⟨r, hr⟩ := hav_of L t i ht hi
      refine ⟨_, (h.mem _).2 ⟨hr, fun q hq e => ?_⟩, rfl⟩
      obtain ⟨t', i', a, b, c, d⟩ := hq.place
      by_cases hlt : t' < t
      · exact absurd ⟨t', i', hlt, c, d.symm.trans e⟩ hx
      · simp only; omega
def bA : ByteArray := ⟨#[97]⟩
def bB : ByteArray := ⟨#[98]⟩
abbrev ab : List Sv := [(bA, 2), (bB, 1)]
theorem own_a : own ab 0 = pts [97] 128 := by
  have : nums bA = [97] := by decide
  show pts (nums bA) _ = _
  rw [this]
  rfl
theorem own_b : own ab 1 = pts [98] 64 := by
  have : nums bB = [98] := by decide
  show pts (nums bB) _ = _
  rw [this]
  rfl
theorem ab_apart : (pts [97] 128 ++ pts [98] 64).Nodup := by decide +kernel
theorem oat_mem {o : List Nat} {i : Nat} (h : i < o.length) : (o.getD i 0) ∈ o := by
  rw [List.getD_eq_getElem?_getD, List.getElem?_eq_getElem h]
  exact List.getElem_mem _
theorem mem_oat {o : List Nat} {x : Nat} (h : x ∈ o) : ∃ i, i < o.length ∧ oat o i = (x : Int) := by
  obtain ⟨i, hi, e⟩ := List.getElem_of_mem h
  exact ⟨i, hi, by simp [oat, hi, e]⟩
theorem ab_many {ps : List Pt} (h : Circle ab ps) : 128 < ps.length := by
  have h1 : ∀ x ∈ (pts [97] 128 ++ pts [98] 64), x ∈ ps.map fun p => p.1.toNat := fun x hx => by
    rcases List.mem_append.1 hx with hx | hx
    · rw [← own_a] at hx
      obtain ⟨i, hi, e⟩ := mem_oat hx
      obtain ⟨p, hp, e2⟩ := h.at 0 i (by decide) hi
      exact List.mem_map.2 ⟨p, hp, by omega⟩
    · rw [← own_b] at hx
      obtain ⟨i, hi, e⟩ := mem_oat hx
      obtain ⟨p, hp, e2⟩ := h.at 1 i (by decide) hi
      exact List.mem_map.2 ⟨p, hp, by omega⟩
  have := nodup_len ab_apart h1
  simp only [List.length_append, pts_len, List.length_map] at this
  omega
theorem ab_sv {ps : List Pt} (h : Circle ab ps) (t : Nat) (ht : t < 2) : ∃ k, k < ps.length ∧ (pat ps k).2.1 = (t : Int) := by
  have hlen : 0 < (own ab t).length := by
    match t, ht with
    | 0, _ => rw [own_a, pts_len]; omega
    | 1, _ => rw [own_b, pts_len]; omega
  obtain ⟨r, hr⟩ := hav_of ab t 0 ht hlen
  have hm : (oat (own ab t) 0, (t : Int), r) ∈ ps := (h.mem _).2 ⟨hr, fun q hq e => by
    obtain ⟨t', i', a, b, c, d⟩ := hq.place
    by_cases hlt : t' < t
    · exfalso
      have ht1 : t = 1 := by omega
      have ht0 : t' = 0 := by omega
      subst ht1; subst ht0
      have e3 : oat (own ab 0) i' = oat (own ab 1) 0 := d.symm.trans e
      have m0 := oat_mem c
      have m1 := oat_mem hlen
      have e4 : (own ab 0).getD i' 0 = (own ab 1).getD 0 0 := by unfold oat at e3; omega
      rw [e4, own_a] at m0
      rw [own_b] at m0 m1
      have := (List.nodup_append.1 ab_apart).2.2 _ m0 _ m1
      exact this rfl
    · simp only; omega⟩
  obtain ⟨k, hk, e⟩ := mem_pat hm
  exact ⟨k, hk, by rw [e]⟩
theorem pre_has (ps : List Pt) (f : Nat) : ∀ n k, k < n → srv ps f k ∈ pre ps f n
  | 0, k, h => by omega
  | n + 1, k, h => by
    have hsub : ∀ x, x ∈ pre ps f n → x ∈ pre ps f (n + 1) := fun x hx => by
      by_cases hy : srv ps f n ∈ pre ps f n
      · rw [pre_yes hy]; exact hx
      · rw [pre_no hy]; exact List.mem_append_left _ hx
    by_cases hk : k = n
    · subst hk
      by_cases hy : srv ps f k ∈ pre ps f k
      · rw [pre_yes hy]; exact hy
      · rw [pre_no hy]; simp
    · exact hsub _ (pre_has ps f n k (by omega))
/-- Going round meets every point. -/
theorem round_has (ps : List Pt) (f k : Nat) (hk : k < ps.length) : (pat ps k).2.1 ∈ pre ps f ps.length := by
  have hn : 0 < ps.length := by omega
  have hf := Nat.mod_lt f hn
  have : srv ps f ((k + (ps.length - f % ps.length)) % ps.length) = (pat ps k).2.1 := by
    unfold srv
    congr 3
    rw [Nat.add_mod_mod, ← Nat.mod_add_mod]
    by_cases h : f % ps.length = 0
    · rw [h, show 0 + (k + (ps.length - 0)) = k + ps.length by omega, Nat.add_mod_right, Nat.mod_eq_of_lt hk]
    · rw [show f % ps.length + (k + (ps.length - f % ps.length)) = k + ps.length by omega, Nat.add_mod_right, Nat.mod_eq_of_lt hk]
  rw [← this]
  exact pre_has ps f ps.length _ (Nat.mod_lt _ hn)
theorem ab_two {ps : List Pt} (h : Circle ab ps) (f : Nat) : 2 ≤ (pre ps f ps.length).length := by
  obtain ⟨k0, h0, e0⟩ := ab_sv h 0 (by omega)
  obtain ⟨k1, h1, e1⟩ := ab_sv h 1 (by omega)
  have m0 := round_has ps f k0 h0
  have m1 := round_has ps f k1 h1
  rw [e0] at m0
  rw [e1] at m1
  exact nodup_len (l := [(0 : Int), 1]) (by simp) fun x hx => by
    simp only [List.mem_cons, List.not_mem_nil, or_false] at hx
    rcases hx with rfl | rfl
    · exact m0
    · exact m1
theorem ab_list {L : List Sv} (hp : L.Perm [(bB, 1), (bA, 2)]) (ha : Asc L) : L = ab := by
  have hl : L.length = 2 := hp.length_eq
  match L, hl with
  | [x, y], _ =>
    have hx : x = (bB, 1) ∨ x = (bA, 2) := by simpa using hp.subset (show x ∈ [x, y] by simp)
    have hy : y = (bB, 1) ∨ y = (bA, 2) := by simpa using hp.subset (show y ∈ [x, y] by simp)
    have hlt := ha 0 1 (by omega) (by simp)
    simp only [sat, List.getD_cons_zero, List.getD_cons_succ] at hlt
    rcases hx with rfl | rfl <;> rcases hy with rfl | rfl
    · exact absurd hlt (List.lt_irrefl _)
    · have hB : bB.toList = [98] := by rw [ByteArray.toList_eq]; rfl
      have hA : bA.toList = [97] := by rw [ByteArray.toList_eq]; rfl
      rw [hB, hA] at hlt
      exact absurd hlt (by decide)
    · rfl
    · exact absurd hlt (List.lt_irrefl _)
end Go.Proofs.Ytphhofbdekbggaa

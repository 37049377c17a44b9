/-
  What is due, told in order: nothing of memory.
-/
import Derived.Test.YtagcmfaljfaikaaM
namespace Go.Proofs.Ytagcmfaljfaikaa
set_option linter.unusedVariables false

/-- ps: the places that were told; N: what may come next. -/
structure Du (n : Nat) (r : Nat → En) (now : Int) (ps : List Nat) (N : En → Prop) : Prop where
  tn : ∀ i, i ∈ ps → i < n
  tx : ∀ i, i ∈ ps → (r i).x ≤ now
  up : ∀ i, i ∈ ps → 0 < i → par i ∈ ps
  nn : ∀ d, N d ↔ ∃ i, i < n ∧ i ∉ ps ∧ (i = 0 ∨ par i ∈ ps) ∧ (r i).x ≤ now ∧ r i = d
  pw : ps.Pairwise (fun i j => ah (r i) (r j))
  lo : ∀ i, i ∈ ps → ∀ j, j < n → j ∉ ps → (r j).x ≤ now → ah (r i) (r j)

def lent (N : En → Prop) (n : Nat) (r : Nat → En) (now : Int) (i : Nat) : En → Prop := fun y => N y ∨ (i < n ∧ (r i).x ≤ now ∧ y = r i)

theorem len_le : ∀ (n : Nat) (l : List Nat), l.Pairwise (fun i j => i ≠ j) → (∀ i, i ∈ l → i < n) → l.length ≤ n
  | 0, [], _, _ => Nat.le_refl _
  | 0, a :: l, _, h => by have := h a (by simp); omega
  | n + 1, l, hp, h => by
    have hf := len_le n (l.filter (fun i => i ≠ n)) (hp.filter _) (fun i hi => by
      simp at hi
      have := h i hi.1
      omega)
    have : l.length ≤ (l.filter (fun i => i ≠ n)).length + 1 := by
      clear hf h
      induction l with
      | nil => simp
      | cons a l ih =>
        rw [List.pairwise_cons] at hp
        by_cases ha : a = n
        · have : l.filter (fun i => decide (i ≠ n)) = l := by
            rw [List.filter_eq_self]
            intro i hi
            have := hp.1 i hi
            simp; omega
          subst ha
          simp only [List.length_cons]
          rw [List.filter_cons_of_neg (by simp), this]
          omega
        · rw [List.filter_cons_of_pos (by simpa using ha)]
          have := ih hp.2
          simp only [List.length_cons]
          omega
    omega

section
variable {n : Nat} {r : Nat → En} {now : Int} {ps : List Nat} {N : En → Prop}
theorem Du.nodup (h : Du n r now ps N) : ps.Pairwise (fun i j => i ≠ j) := h.pw.imp (fun {a b} hab e => by subst e; exact ah_irrefl _ hab)
theorem Du.len (h : Du n r now ps N) : ps.length ≤ n := len_le n ps h.nodup h.tn

theorem du_start (h : Hp n r) : Du n r now [] (lent (fun _ => False) n r now 0) := by
  refine ⟨by simp, by simp, by simp, fun d => ?_, List.Pairwise.nil, by simp⟩
  constructor
  · rintro (h | ⟨h1, h2, rfl⟩)
    · exact h.elim
    · exact ⟨0, h1, by simp, .inl rfl, h2, rfl⟩
  · rintro ⟨i, h1, _, h3, h4, rfl⟩
    rcases h3 with rfl | h3
    · exact .inr ⟨h1, h4, rfl⟩
    · simp at h3

/-- what is due and was not told hangs below something that may come next -/
theorem Du.anc (h : Du n r now ps N) (hh : Hp n r) (j : Nat) (hj : j < n) (hp : j ∉ ps) (hx : (r j).x ≤ now) : ∃ a, N (r a) ∧ ¬ ah (r j) (r a) := by
  induction j using Nat.strongRecOn with
  | _ j ih =>
    by_cases h0 : j = 0
    · subst h0
      exact ⟨0, (h.nn _).2 ⟨0, hj, hp, .inl rfl, hx, rfl⟩, ah_irrefl _⟩
    · have hpl := par_lt (Nat.pos_of_ne_zero h0)
      have hah := hh j (by omega) hj
      have hpx : (r (par j)).x ≤ now := by unfold ah at hah; omega
      by_cases h1 : par j ∈ ps
      · exact ⟨j, (h.nn _).2 ⟨j, hj, hp, .inr h1, hx, rfl⟩, ah_irrefl _⟩
      · obtain ⟨a, ha, hb⟩ := ih (par j) hpl (by omega) h1 hpx
        exact ⟨a, ha, nah_trans hb hah⟩

theorem Du.step (h : Du n r now ps N) (hh : Hp n r) (hone : ∀ i j, i < n → j < n → (r i).h = (r j).h → i = j) (hT : ∀ i j, i < n → j < n → (r i).t = (r j).t → i = j)
    {p : Nat} (hp : p < n) (hpp : p ∉ ps) (hpu : p = 0 ∨ par p ∈ ps) (hpx : (r p).x ≤ now) (hmin : ∀ y, N y → ¬ ah y (r p)) :
    Du n r now (ps ++ [p]) (lent (lent (fun y => N y ∧ y.h ≠ (r p).h) n r now (2 * p + 1)) n r now (2 * p + 2)) := by
  have hnot : ∀ l, 0 < l → par l = p → l ∉ ps := fun l hl hlp hm => hpp (by have := h.up l hm hl; rw [hlp] at this; exact this)
  refine ⟨fun i hi => ?_, fun i hi => ?_, fun i hi h0 => ?_, fun d => ?_, ?_, fun i hi j hj hjp hjx => ?_⟩
  · simp at hi; rcases hi with hi | rfl; exact h.tn i hi; exact hp
  · simp at hi; rcases hi with hi | rfl; exact h.tx i hi; exact hpx
  · simp at hi
    simp
    rcases hi with hi | rfl
    · exact .inl (h.up i hi h0)
    · rcases hpu with h1 | h1
      · omega
      · exact .inl h1
  · constructor
    · rintro ((⟨h1, h2⟩ | ⟨h1, h2, rfl⟩) | ⟨h1, h2, rfl⟩)
      · obtain ⟨i, i1, i2, i3, i4, rfl⟩ := (h.nn d).1 h1
        refine ⟨i, i1, ?_, ?_, i4, rfl⟩
        · simp; exact ⟨i2, fun e => h2 (by rw [e])⟩
        · rcases i3 with i3 | i3
          · exact .inl i3
          · exact .inr (by simp; exact .inl i3)
      · refine ⟨2 * p + 1, h1, ?_, .inr (by rw [par_l]; simp), h2, rfl⟩
        simp; exact ⟨hnot _ (by omega) (par_l p), by omega⟩
      · refine ⟨2 * p + 2, h1, ?_, .inr (by rw [par_r]; simp), h2, rfl⟩
        simp; exact ⟨hnot _ (by omega) (par_r p), by omega⟩
    · rintro ⟨i, i1, i2, i3, i4, rfl⟩
      simp at i2
      have hN : (i = 0 ∨ par i ∈ ps) → (N (r i) ∧ (r i).h ≠ (r p).h) := fun hu => ⟨(h.nn _).2 ⟨i, i1, i2.1, hu, i4, rfl⟩, fun e => i2.2 (hone i p i1 hp e)⟩
      by_cases h0 : i = 0
      · exact .inl (.inl (hN (.inl h0)))
      · rcases i3 with i3 | i3
        · exact absurd i3 h0
        · simp at i3
          rcases i3 with i3 | i3
          · exact .inl (.inl (hN (.inr i3)))
          · rcases kids (Nat.pos_of_ne_zero h0) i3 with rfl | rfl
            · exact .inl (.inr ⟨i1, i4, rfl⟩)
            · exact .inr ⟨i1, i4, rfl⟩
  · rw [List.pairwise_append]
    refine ⟨h.pw, by simp, fun i hi j hj => ?_⟩
    simp at hj; subst hj
    exact h.lo i hi j hp hpp hpx
  · simp at hjp
    simp at hi
    rcases hi with hi | rfl
    · exact h.lo i hi j hj hjp.1 hjx
    · obtain ⟨a, ha, hb⟩ := h.anc hh j hj hjp.1 hjx
      have hc := nah_trans (hmin _ ha) hb
      have hne : (r j).t ≠ (r i).t := fun e => hjp.2 (hT j i hj hp e)
      unfold ah at hc ⊢
      omega

theorem Du.done (h : Du n r now ps N) (hh : Hp n r) (he : ∀ d, ¬ N d) : ∀ j, j < n → (r j).x ≤ now → j ∈ ps := fun j hj hx => by
  by_cases hp : j ∈ ps
  · exact hp
  · obtain ⟨a, ha, _⟩ := h.anc hh j hj hp hx
    exact absurd ha (he _)
end

/-- What Due tells. -/
structure Told (S : En → Prop) (now most : Int) (ds : List En) : Prop where
  pw : ds.Pairwise ah
  inn : ∀ d, d ∈ ds → S d ∧ d.x ≤ now
  lo : ∀ d, d ∈ ds → ∀ y, S y → y.x ≤ now → y ∉ ds → ah d y
  all : (ds.length : Int) < most → ∀ y, S y → y.x ≤ now → y ∈ ds
  len : (ds.length : Int) ≤ max most 0

theorem Du.told {n : Nat} {r : Nat → En} {now most : Int} {ps : List Nat} {N : En → Prop} {S : En → Prop} (h : Du n r now ps N) (hh : Hp n r) (hi : Img n r S) (hend : (∀ d, ¬ N d) ∨ most ≤ (ps.length : Int)) (hlen : (ps.length : Int) ≤ max most 0) : Told S now most (ps.map r) := by
  refine ⟨?_, fun d hd => ?_, fun d hd y hy hx hn => ?_, fun hl y hy hx => ?_, by simpa using hlen⟩
  · rw [List.pairwise_map]; exact h.pw
  · rw [List.mem_map] at hd
    obtain ⟨i, hi2, rfl⟩ := hd
    exact ⟨hi.inn i (h.tn i hi2), h.tx i hi2⟩
  · rw [List.mem_map] at hd
    obtain ⟨i, hi2, rfl⟩ := hd
    obtain ⟨j, hj, rfl⟩ := hi.all y hy
    exact h.lo i hi2 j hj (fun hm => hn (List.mem_map.2 ⟨j, hm, rfl⟩)) hx
  · obtain ⟨j, hj, rfl⟩ := hi.all y hy
    rcases hend with he | he
    · exact List.mem_map.2 ⟨j, h.done hh he j hj hx, rfl⟩
    · simp at hl; omega

/-- Two rows in order with the same members are one. -/
theorem sorted_one : ∀ (l k : List En), l.Pairwise ah → k.Pairwise ah → (∀ x, x ∈ l ↔ x ∈ k) → l = k
  | [], [], _, _, _ => rfl
  | [], b :: k, _, _, h => by have := (h b).2 (by simp); simp at this
  | a :: l, [], _, _, h => by have := (h a).1 (by simp); simp at this
  | a :: l, b :: k, hl, hk, h => by
    rw [List.pairwise_cons] at hl hk
    have hab : a = b := by
      have h1 := (h a).1 (by simp)
      have h2 := (h b).2 (by simp)
      simp at h1 h2
      rcases h1 with h1 | h1
      · exact h1
      · rcases h2 with h2 | h2
        · exact h2.symm
        · exact absurd (hl.1 b h2) (ah_nah (hk.1 a h1))
    subst hab
    congr 1
    refine sorted_one l k hl.2 hk.2 (fun x => ?_)
    have := h x
    simp at this
    constructor
    · intro hx
      rcases this.1 (.inr hx) with e | e
      · subst e; exact absurd (hl.1 x hx) (ah_irrefl x)
      · exact e
    · intro hx
      rcases this.2 (.inr hx) with e | e
      · subst e; exact absurd (hk.1 x hx) (ah_irrefl x)
      · exact e

end Go.Proofs.Ytagcmfaljfaikaa

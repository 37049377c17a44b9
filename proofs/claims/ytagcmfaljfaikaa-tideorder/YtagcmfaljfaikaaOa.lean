/-
  TideOrder: what lives behind puts: nothing of memory.
-/
import Derived.Test.YtagcmfaljfaikaaV
namespace Go.Proofs.Ytagcmfaljfaikaa
set_option linter.unusedVariables false

/-- how many of the first k puts are set -/
def cnt (E : Nat → Int) : Nat → Nat
  | 0 => 0
  | k + 1 => cnt E k + (if 1 ≤ E k then 1 else 0)
theorem cnt_mono (E : Nat → Int) {a b : Nat} (h : a ≤ b) : cnt E a ≤ cnt E b := by
  induction b with
  | zero => have : a = 0 := by omega
            subst this; exact Nat.le_refl _
  | succ b ih =>
    by_cases h1 : a = b + 1
    · subst h1; exact Nat.le_refl _
    · have := ih (by omega)
      show cnt E a ≤ cnt E b + _
      omega
theorem cnt_le (E : Nat → Int) : ∀ k, cnt E k ≤ k
  | 0 => Nat.le_refl _
  | k + 1 => by
    have := cnt_le E k
    show cnt E k + _ ≤ k + 1
    split <;> omega
theorem cnt_succ {E : Nat → Int} {k : Nat} (h : 1 ≤ E k) : cnt E (k + 1) = cnt E k + 1 := by
  show cnt E k + _ = _
  rw [if_pos h]
theorem cnt_same {E : Nat → Int} {k : Nat} (h : ¬ 1 ≤ E k) : cnt E (k + 1) = cnt E k := by
  show cnt E k + _ = _
  rw [if_neg h]; omega

/-- what lives behind i puts -/
def Liv (H E : Nat → Int) (i : Nat) (y : En) : Prop := ∃ at_, at_ < i ∧ H at_ = y.h ∧ E at_ = y.x ∧ 1 ≤ y.x ∧ (∀ j, at_ < j → j < i → H j ≠ y.h) ∧ y.t = (cnt E (at_ + 1) : Nat)

section
variable {H E : Nat → Int} {i : Nat}
theorem liv_zero (y : En) : Liv H E 0 y ↔ False := ⟨fun ⟨_, h, _⟩ => by omega, fun h => h.elim⟩
theorem liv_low (h : E i < 1) (y : En) : Liv H E (i + 1) y ↔ (Liv H E i y ∧ y.h ≠ H i) := by
  constructor
  · rintro ⟨a, h1, h2, h3, h4, h5, h6⟩
    have : a ≠ i := fun e => by subst e; omega
    exact ⟨⟨a, by omega, h2, h3, h4, fun j j1 j2 => h5 j j1 (by omega), h6⟩, fun e => h5 i (by omega) (by omega) e.symm⟩
  · rintro ⟨⟨a, h1, h2, h3, h4, h5, h6⟩, h7⟩
    refine ⟨a, by omega, h2, h3, h4, fun j j1 j2 => ?_, h6⟩
    by_cases e : j = i
    · subst e; exact fun e' => h7 e'.symm
    · exact h5 j j1 (by omega)
theorem liv_high (h : ¬ E i < 1) (y : En) : Liv H E (i + 1) y ↔ ((Liv H E i y ∧ y.h ≠ H i) ∨ y = ⟨H i, E i, (cnt E i + 1 : Nat)⟩) := by
  constructor
  · rintro ⟨a, h1, h2, h3, h4, h5, h6⟩
    by_cases e : a = i
    · subst e
      right
      obtain ⟨yh, yx, yt⟩ := y
      simp only [] at h2 h3 h6
      rw [cnt_succ (by omega)] at h6
      rw [← h2, ← h3, h6]
    · left
      exact ⟨⟨a, by omega, h2, h3, h4, fun j j1 j2 => h5 j j1 (by omega), h6⟩, fun e => h5 i (by omega) (by omega) e.symm⟩
  · rintro (⟨⟨a, h1, h2, h3, h4, h5, h6⟩, h7⟩ | rfl)
    · refine ⟨a, by omega, h2, h3, h4, fun j j1 j2 => ?_, h6⟩
      by_cases e : j = i
      · subst e; exact fun e' => h7 e'.symm
      · exact h5 j j1 (by omega)
    · refine ⟨i, by omega, rfl, rfl, by simp only []; omega, fun j j1 j2 => by omega, ?_⟩
      simp only []
      rw [cnt_succ (by omega)]
/-- the turn tells the place -/
theorem liv_lt {a b : Nat} (hb : 1 ≤ E b) : a < b ↔ cnt E (a + 1) < cnt E (b + 1) ∧ a ≠ b ∧ a < b := by
  constructor
  · intro h
    have := cnt_mono E (show a + 1 ≤ b by omega)
    rw [cnt_succ hb]
    exact ⟨by omega, by omega, h⟩
  · exact fun h => h.2.2
theorem cnt_lt {a b : Nat} (hb : 1 ≤ E b) (h : a < b) : cnt E (a + 1) < cnt E (b + 1) := ((liv_lt hb).1 h).1
theorem liv_turn {x y : En} (hx : Liv H E i x) (hy : Liv H E i y) (ht : x.t = y.t) : x = y := by
  obtain ⟨a, a1, a2, a3, a4, a5, a6⟩ := hx
  obtain ⟨b, b1, b2, b3, b4, b5, b6⟩ := hy
  have hab : a = b := by
    rcases Nat.lt_trichotomy a b with h | h | h
    · have := cnt_lt (E := E) (by omega) h; omega
    · exact h
    · have := cnt_lt (E := E) (by omega) h; omega
  subst hab
  obtain ⟨xh, xx, xt⟩ := x
  obtain ⟨yh, yx, yt⟩ := y
  simp only [] at *
  rw [← a2, ← a3, ← b2, ← b3, ht]
theorem liv_one {x y : En} (hx : Liv H E i x) (hy : Liv H E i y) (ht : x.h = y.h) : x = y := by
  obtain ⟨a, a1, a2, a3, a4, a5, a6⟩ := hx
  obtain ⟨b, b1, b2, b3, b4, b5, b6⟩ := hy
  have hab : a = b := by
    rcases Nat.lt_trichotomy a b with h | h | h
    · exact absurd (by rw [b2, ht]) (a5 b h b1)
    · exact h
    · exact absurd (by rw [a2, ht]) (b5 a h a1)
  subst hab
  obtain ⟨xh, xx, xt⟩ := x
  obtain ⟨yh, yx, yt⟩ := y
  simp only [] at *
  subst ht
  rw [← a3, ← b3, a6, b6]
end

/-- the place of the last put of a handle -/
def lastOf (H : Nat → Int) : Nat → Int → Int
  | 0, _ => -1
  | k + 1, h => if H k = h then (k : Int) else lastOf H k h
theorem lastOf_at {H : Nat → Int} {h : Int} {a : Nat} : ∀ {N : Nat}, a < N → H a = h → (∀ j, a < j → j < N → H j ≠ h) → lastOf H N h = a
  | 0, h1, _, _ => by omega
  | N + 1, h1, h2, h3 => by
    unfold lastOf
    by_cases e : a = N
    · subst e; rw [if_pos h2]
    · rw [if_neg (h3 N (by omega) (by omega))]
      exact lastOf_at (by omega) h2 (fun j j1 j2 => h3 j j1 (by omega))
theorem lastOf_no {H : Nat → Int} {h : Int} : ∀ {N : Nat}, (∀ j, j < N → H j ≠ h) → lastOf H N h = -1
  | 0, _ => rfl
  | N + 1, h1 => by
    unfold lastOf
    rw [if_neg (h1 N (by omega))]
    exact lastOf_no (fun j hj => h1 j (by omega))
theorem lastOf_or (H : Nat → Int) (h : Int) : ∀ N, (lastOf H N h = -1 ∧ ∀ j, j < N → H j ≠ h) ∨ ∃ a, a < N ∧ lastOf H N h = (a : Nat) ∧ H a = h ∧ ∀ j, a < j → j < N → H j ≠ h
  | 0 => .inl ⟨rfl, fun j hj => by omega⟩
  | N + 1 => by
    by_cases e : H N = h
    · exact .inr ⟨N, by omega, lastOf_at (by omega) e (fun j j1 j2 => by omega), e, fun j j1 j2 => by omega⟩
    · rcases lastOf_or H h N with ⟨h1, h2⟩ | ⟨a, h1, h2, h3, h4⟩
      · refine .inl ⟨?_, fun j hj => ?_⟩
        · unfold lastOf; rw [if_neg e]; exact h1
        · by_cases ej : j = N
          · subst ej; exact e
          · exact h2 j (by omega)
      · refine .inr ⟨a, by omega, ?_, h3, fun j j1 j2 => ?_⟩
        · unfold lastOf; rw [if_neg e]; exact h2
        · by_cases ej : j = N
          · subst ej; exact e
          · exact h4 j j1 (by omega)
/-- a handle that lives -/
theorem liv_last {H E : Nat → Int} {N : Nat} {y : En} (h : Liv H E N y) : ∃ a : Nat, a < N ∧ lastOf H N y.h = (a : Nat) ∧ E a = y.x ∧ y.t = (cnt E (a + 1) : Nat) ∧ 1 ≤ y.x := by
  obtain ⟨a, a1, a2, a3, a4, a5, a6⟩ := h
  exact ⟨a, a1, lastOf_at a1 a2 a5, a3, a6, a4⟩
theorem last_liv {H E : Nat → Int} {N a : Nat} {h : Int} (h1 : a < N) (h2 : H a = h) (h3 : ∀ j, a < j → j < N → H j ≠ h) (h4 : 1 ≤ E a) : Liv H E N ⟨h, E a, (cnt E (a + 1) : Nat)⟩ :=
  ⟨a, h1, h2, rfl, h4, h3, rfl⟩

/-- q tells the k first of S, in order -/
structure Seq (S : En → Prop) (k : Nat) (q : Nat → En) : Prop where
  inn : ∀ i, i < k → S (q i)
  srt : ∀ i j, i < j → j < k → ah (q i) (q j)
  lo : ∀ i, i < k → ∀ y, S y → (∀ j, j < k → q j ≠ y) → ah (q i) y
theorem seq_start (S : En → Prop) (q : Nat → En) : Seq S 0 q := ⟨fun i hi => by omega, fun i j _ hj => by omega, fun i hi => by omega⟩
theorem Seq.step {S : En → Prop} {k : Nat} {q : Nat → En} (h : Seq S k q) (hT : ∀ x y, S x → S y → x.t = y.t → x = y) {e : En} (he : S e) (hne : ∀ j, j < k → q j ≠ e) (hmin : ∀ y, S y → (∀ j, j < k → q j ≠ y) → ¬ ah y e) : Seq S (k + 1) (upd q k e) := by
  refine ⟨fun i hi => ?_, fun i j hij hj => ?_, fun i hi y hy hyn => ?_⟩
  · by_cases h1 : i = k
    · rw [h1, upd_same]; exact he
    · rw [upd_other _ _ h1]; exact h.inn i (by omega)
  · rw [upd_other _ _ (show i ≠ k by omega)]
    by_cases h1 : j = k
    · rw [h1, upd_same]; exact h.lo i (by omega) e he hne
    · rw [upd_other _ _ h1]; exact h.srt i j hij (by omega)
  · have hyq : ∀ j, j < k → q j ≠ y := fun j hj => by have := hyn j (by omega); rwa [upd_other _ _ (show j ≠ k by omega)] at this
    have hye : e ≠ y := by have := hyn k (by omega); rwa [upd_same] at this
    by_cases h1 : i = k
    · rw [h1, upd_same]
      have := hmin y hy hyq
      have hne2 : y.t ≠ e.t := fun e' => hye (hT y e hy he e').symm
      unfold ah at this ⊢
      omega
    · rw [upd_other _ _ h1]; exact h.lo i (by omega) y hy hyq

/-- a row in order is what Due tells -/
theorem seq_told {S : En → Prop} {k : Nat} {q : Nat → En} {now most : Int} {ds : List En} (h : Seq S k q) (hall : ∀ y, S y → ∃ i, i < k ∧ q i = y) (ht : Told S now most ds) (hx : ∀ y, S y → y.x ≤ now) (hl : ∀ l : List En, l.Pairwise ah → (∀ d, d ∈ l → S d) → (l.length : Int) < most) : ds = (List.range k).map q := by
  have hlen := hl ds ht.pw (fun d hd => (ht.inn d hd).1)
  refine sorted_one _ _ ht.pw ?_ (fun x => ?_)
  · rw [List.pairwise_map]
    have : (List.range k).Pairwise (fun a b => a < b ∧ b < k) := by
      have h1 := List.pairwise_lt_range (n := k)
      refine List.Pairwise.imp_of_mem ?_ h1
      intro a b ha hb hab
      exact ⟨hab, List.mem_range.1 hb⟩
    exact this.imp (fun {a b} hab => h.srt a b hab.1 hab.2)
  · rw [List.mem_map]
    constructor
    · intro hd
      obtain ⟨i, hi, e⟩ := hall x (ht.inn x hd).1
      exact ⟨i, List.mem_range.2 hi, e⟩
    · rintro ⟨i, hi, rfl⟩
      have hs := h.inn i (List.mem_range.1 hi)
      exact ht.all hlen _ hs (hx _ hs)
/-- rows in order of few handles are short -/
theorem short {S : En → Prop} (hh : ∀ y, S y → 0 ≤ y.h ∧ y.h ≤ 40) (hone : ∀ x y, S x → S y → x.h = y.h → x = y) (l : List En) (hp : l.Pairwise ah) (hS : ∀ d, d ∈ l → S d) : l.length ≤ 41 := by
  have := len_le 41 (l.map fun d => d.h.toNat) (by
    rw [List.pairwise_map]
    refine List.Pairwise.imp_of_mem ?_ hp
    intro a b ha hb hab e
    have h1 := hh a (hS a ha)
    have h2 := hh b (hS b hb)
    have : a = b := hone a b (hS a ha) (hS b hb) (by omega)
    subst this
    exact ah_irrefl _ hab) (fun i hi => by
    rw [List.mem_map] at hi
    obtain ⟨d, hd, rfl⟩ := hi
    have := hh d (hS d hd)
    omega)
  simpa using this
theorem img_short {n : Nat} {r : Nat → En} {S : En → Prop} (h : Img n r S) (hh : ∀ y, S y → 0 ≤ y.h ∧ y.h ≤ 40) : n ≤ 41 := by
  have := len_le 41 ((List.range n).map fun i => (r i).h.toNat) (by
    rw [List.pairwise_map]
    refine List.Pairwise.imp_of_mem ?_ (List.pairwise_lt_range (n := n))
    intro a b ha hb hab e
    rw [List.mem_range] at ha hb
    have h1 := hh _ (h.inn a ha)
    have h2 := hh _ (h.inn b hb)
    have := h.one a b ha hb (by omega)
    omega) (fun i hi => by
    rw [List.mem_map] at hi
    obtain ⟨d, hd, rfl⟩ := hi
    have := hh _ (h.inn d (List.mem_range.1 hd))
    omega)
  simpa using this

/-- how many of the row have a handle below h -/
def below (q : Nat → En) (h : Int) : Nat → Nat
  | 0 => 0
  | k + 1 => below q h k + (if (q k).h < h then 1 else 0)
theorem below_all {q : Nat → En} {h : Int} : ∀ {k : Nat}, (∀ i, i < k → (q i).h < h) → below q h k = k
  | 0, _ => rfl
  | k + 1, hk => by
    unfold below
    rw [below_all (fun i hi => hk i (by omega)), if_pos (hk k (by omega))]
theorem below_none {q : Nat → En} {h : Int} : ∀ {k : Nat}, (∀ i, i < k → ¬ (q i).h < h) → below q h k = 0
  | 0, _ => rfl
  | k + 1, hk => by
    unfold below
    rw [below_none (fun i hi => hk i (by omega)), if_neg (hk k (by omega))]
theorem below_miss {q : Nat → En} {h : Int} : ∀ {k : Nat}, (∀ i, i < k → (q i).h ≠ h) → below q (h + 1) k = below q h k
  | 0, _ => rfl
  | k + 1, hk => by
    unfold below
    rw [below_miss (fun i hi => hk i (by omega))]
    have := hk k (by omega)
    by_cases h1 : (q k).h < h
    · rw [if_pos h1, if_pos (by omega)]
    · rw [if_neg h1, if_neg (by omega)]
theorem below_hit {q : Nat → En} {h : Int} {a : Nat} : ∀ {k : Nat}, a < k → (q a).h = h → (∀ i j, i < k → j < k → (q i).h = (q j).h → i = j) → below q (h + 1) k = below q h k + 1
  | 0, h1, _, _ => by omega
  | k + 1, h1, h2, h3 => by
    unfold below
    by_cases e : a = k
    · subst e
      rw [below_miss (fun i hi e' => by have := h3 i a (by omega) (by omega) (by rw [e', h2]); omega), if_pos (by omega), if_neg (by omega)]
    · rw [below_hit (by omega) h2 (fun i j hi hj => h3 i j (by omega) (by omega))]
      have : (q k).h ≠ h := fun e' => e (h3 a k (by omega) (by omega) (by rw [e', h2]))
      by_cases h4 : (q k).h < h
      · rw [if_pos h4, if_pos (by omega)]
      · rw [if_neg h4, if_neg (by omega)]
theorem below_le (q : Nat → En) (h : Int) : ∀ k, below q h k ≤ k
  | 0 => Nat.le_refl _
  | k + 1 => by
    have := below_le q h k
    unfold below
    split <;> omega

end Go.Proofs.Ytagcmfaljfaikaa

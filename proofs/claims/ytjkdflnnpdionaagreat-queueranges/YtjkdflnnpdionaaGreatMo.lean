import Derived.Test.YtjkdflnnpdionaaGreatSr
import Derived.Test.YtjkdflnnpdionaaGreatMi
import Derived.Test.YtjkdflnnpdionaaGreatMn
import Derived.Test.YtjkdflnnpdionaaGreatZa
/-
  A class that is filled.
-/
namespace Go.Proofs.YtjkdflnnpdionaaGreat
open Go.RowKit
set_option linter.unusedVariables false

/-- The free chunks of a page, from the r-th on, as they stand in the row. -/
def rowF (A : Ab) (k p r : Nat) : List Nat := ((List.range (A.each k)).drop r).reverse.map fun j => A.num p j
theorem rowF_step (A : Ab) (k p r : Nat) (h : r < A.each k) : rowF A k p r = rowF A k p (r + 1) ++ [A.num p r] := by
  unfold rowF
  rw [List.drop_eq_getElem_cons (i := r) (by simpa using h)]
  simp
theorem rowF_end (A : Ab) (k p : Nat) : rowF A k p (A.each k) = [] := by simp [rowF]
theorem rowF_dropLast (A : Ab) (k p r : Nat) (h : r < A.each k) : (rowF A k p r).dropLast = rowF A k p (r + 1) := by
  rw [rowF_step A k p r h]; simp
theorem rowF_last (A : Ab) (k p r : Nat) (h : r < A.each k) : (rowF A k p r).getLast? = some (A.num p r) := by
  rw [rowF_step A k p r h, List.getLast?_append]; simp

/-- i chunks of class k are taken, no others; fr of the last page are free. -/
structure Fil (A0 A : Ab) (k i fr : Nat) : Prop where
  inv : Inv A
  ps : A.ps = A0.ps
  m : A.m = A0.m
  n : A.n = A0.n
  sz : A.sz = A0.sz
  own : ∀ p, p < A.np → A.own p = k
  gen : ∀ p j, p < A.np → A.gen p j = 0
  cnt : i + fr = A.np * A.each k
  frl : fr < A.each k
  tkn : ∀ p j, p < A.np → j < A.each k → A.tkn p j = decide (p * A.each k + j < i)
  row : A.row k = if fr = 0 then [] else rowF A k (A.np - 1) (A.each k - fr)
  oth : ∀ c, c ≠ k → A.row c = []

theorem Fil.each {A0 A : Ab} {k i fr : Nat} (h : Fil A0 A k i fr) (c : Nat) : A.each c = A0.each c := by unfold Ab.each; rw [h.ps, h.sz]
theorem Fil.tk0 {A0 A : Ab} {k i fr : Nat} (h : Fil A0 A k i fr) {c : Nat} (hc : c < A.n) (hck : c ≠ k) : A.tk c = 0 := by
  rw [h.inv.tc c hc]
  unfold Ab.tkc
  have : (List.range A.np).map (fun p => if A.own p = c then A.tkp p else 0) = (List.range A.np).map (fun _ => 0) := by
    refine List.map_congr_left fun p hp => ?_
    simp at hp
    rw [h.own p hp, if_neg (fun e => hck e.symm)]
  rw [this]
  induction A.np with
  | zero => rfl
  | succ n ih => rw [List.range_succ]; simpa using ih
theorem Fil.tkk {A0 A : Ab} {k i fr : Nat} (h : Fil A0 A k i fr) (hk : k < A.n) : A.tk k = i := by
  have h1 := h.inv.rl k hk
  have h2 : ((List.range A.np).countP fun p => A.own p = k) = A.np := by
    have := List.countP_eq_length (p := fun p => decide (A.own p = k)) (l := List.range A.np)
    rw [List.length_range] at this
    exact this.2 (fun a ha => by simp at ha; simp [h.own a ha])
  rw [h2, ← h.cnt, h.row] at h1
  have h3 : (if fr = 0 then ([] : List Nat) else rowF A k (A.np - 1) (A.each k - fr)).length = fr := by
    by_cases e : fr = 0
    · simp [e]
    · have := h.frl
      rw [if_neg e]; simp [rowF]; omega
  rw [h3] at h1
  omega

/-- The first taken page. -/
theorem Fil.zero {A : Ab} (hI : Inv A) (hnp : A.np = 0) (hr : ∀ c, A.row c = []) {k : Nat} (hk : k < A.n) : Fil A A k 0 0 := by
  have he := (hI.toSzs.each hk).1
  refine ⟨hI, rfl, rfl, rfl, rfl, fun p hp => by omega, fun p j hp => by omega, by rw [hnp]; simp, by omega, fun p j hp => by omega, by simp [hr k], fun c _ => hr c⟩

theorem num_of {A B : Ab} (h1 : B.ps = A.ps) (h2 : B.sz = A.sz) (p j : Nat) (h3 : B.own p = A.own p) : B.num p j = A.num p j := by
  unfold Ab.num Ab.place
  rw [h1, h2, h3]

theorem Fil.taken {A0 A : Ab} {k i fr : Nat} (h : Fil A0 A k i fr) (hk : k < A.n) (hf : 0 < fr) (hI : Inv (A.taken k (A.np - 1) (A.each k - fr))) : Fil A0 (A.taken k (A.np - 1) (A.each k - fr)) k (i + 1) (fr - 1) := by
  have hfr := h.frl
  have hc := h.cnt
  have hnp : 0 < A.np := by
    rcases Nat.eq_zero_or_pos A.np with e | e
    · rw [e] at hc; simp at hc; omega
    · exact e
  obtain ⟨q, hq⟩ : ∃ q, A.np = q + 1 := ⟨A.np - 1, by omega⟩
  have hq1 : A.np - 1 = q := by omega
  rw [hq1] at hI ⊢
  have hmul : A.np * A.each k = q * A.each k + A.each k := by rw [hq, Nat.add_mul, Nat.one_mul]
  have hrow : ∀ j, (A.taken k q (A.each k - fr)).row j = if j = k then (A.row k).dropLast else A.row j := fun j => rfl
  have htkn : ∀ p l, (A.taken k q (A.each k - fr)).tkn p l = if p = q ∧ l = A.each k - fr then true else A.tkn p l := fun p l => rfl
  have hnpe : (A.taken k q (A.each k - fr)).np = A.np := rfl
  have heach : (A.taken k q (A.each k - fr)).each k = A.each k := rfl
  have hps : (A.taken k q (A.each k - fr)).ps = A.ps := rfl
  have hsz : (A.taken k q (A.each k - fr)).sz = A.sz := rfl
  have hown : ∀ p, (A.taken k q (A.each k - fr)).own p = A.own p := fun p => rfl
  have hgen : ∀ p j, (A.taken k q (A.each k - fr)).gen p j = A.gen p j := fun p j => rfl
  refine ⟨hI, by rw [hps]; exact h.ps, h.m, h.n, by rw [hsz]; exact h.sz, ?_, ?_, ?_, ?_, ?_, ?_, ?_⟩
  · intro p hp; rw [hnpe] at hp; rw [hown]; exact h.own p hp
  · intro p j hp; rw [hnpe] at hp; rw [hgen]; exact h.gen p j hp
  · rw [hnpe, heach]; omega
  · rw [heach]; omega
  · intro p l hp hl
    rw [hnpe] at hp
    rw [heach] at hl ⊢
    rw [htkn, h.tkn p l hp hl]
    by_cases e : p = q ∧ l = A.each k - fr
    · obtain ⟨rfl, rfl⟩ := e
      rw [if_pos ⟨rfl, rfl⟩]
      simp; omega
    · rw [if_neg e]
      have : p * A.each k + l ≠ i := by
        intro e2
        apply e
        have hpq : p ≤ q := by omega
        rcases Nat.lt_or_ge p q with h1 | h1
        · have h2 : (p + 1) * A.each k ≤ q * A.each k := Nat.mul_le_mul_right _ h1
          rw [Nat.add_mul, Nat.one_mul] at h2
          omega
        · have : p = q := by omega
          subst this
          exact ⟨rfl, by omega⟩
      simp only [decide_eq_decide]
      omega
  · rw [hrow, if_pos rfl, h.row, if_neg (by omega), hq1, rowF_dropLast A k q _ (by omega), heach, hnpe, hq1]
    have e1 : rowF (A.taken k q (A.each k - fr)) k q (A.each k - fr + 1) = rowF A k q (A.each k - fr + 1) := rfl
    by_cases e : fr - 1 = 0
    · rw [if_pos e, show A.each k - fr + 1 = A.each k by omega, rowF_end]
    · rw [if_neg e, ← e1, show A.each k - (fr - 1) = A.each k - fr + 1 by omega]
  · intro c hck
    rw [hrow, if_neg hck]; exact h.oth c hck

theorem Fil.page {A0 A : Ab} {k i : Nat} (h : Fil A0 A k i 0) (hk : k < A.n) (hI : Inv ((A.owned k).taken k A.np 0)) : Fil A0 ((A.owned k).taken k A.np 0) k (i + 1) (A.each k - 1) := by
  have hc := h.cnt
  have he := h.frl
  have hrow : ∀ j, ((A.owned k).taken k A.np 0).row j = if j = k then ((A.owned k).row k).dropLast else (A.owned k).row j := fun j => rfl
  have htkn : ∀ p l, ((A.owned k).taken k A.np 0).tkn p l = if p = A.np ∧ l = 0 then true else (A.owned k).tkn p l := fun p l => rfl
  have hnpe : ((A.owned k).taken k A.np 0).np = A.np + 1 := rfl
  have heach : ((A.owned k).taken k A.np 0).each k = A.each k := rfl
  have hown : ∀ p, ((A.owned k).taken k A.np 0).own p = (A.owned k).own p := fun p => rfl
  have hgen : ∀ p j, ((A.owned k).taken k A.np 0).gen p j = (A.owned k).gen p j := fun p j => rfl
  have hr0 : A.row k = [] := by rw [h.row]; simp
  have hnums : A.nums k 0 = rowF (A.owned k) k A.np 0 := by
    unfold Ab.nums rowF
    rw [owned_each]
    refine List.map_congr_left fun j _ => ?_
    rw [owned_num2]
  refine ⟨hI, h.ps, h.m, h.n, h.sz, ?_, ?_, ?_, ?_, ?_, ?_, ?_⟩
  · intro p hp
    rw [hnpe] at hp
    rw [hown, owned_own]
    by_cases e : p = A.np
    · rw [if_pos e]
    · rw [if_neg e]; exact h.own p (by omega)
  · intro p j hp
    rw [hnpe] at hp
    rw [hgen, owned_gen]
    by_cases e : p = A.np
    · rw [if_pos e]
    · rw [if_neg e]; exact h.gen p j (by omega)
  · rw [hnpe, heach, Nat.add_mul, Nat.one_mul]; omega
  · rw [heach]; omega
  · intro p l hp hl
    rw [hnpe] at hp
    rw [heach] at hl ⊢
    rw [htkn, owned_tkn]
    by_cases e : p = A.np
    · subst e
      by_cases e2 : l = 0
      · subst e2
        rw [if_pos ⟨rfl, rfl⟩]; simp; omega
      · rw [if_neg (fun ⟨_, e3⟩ => e2 e3), if_pos rfl]
        simp; omega
    · rw [if_neg (fun ⟨e3, _⟩ => e e3), if_neg e, h.tkn p l (by omega) hl]
      have h2 : (p + 1) * A.each k ≤ A.np * A.each k := Nat.mul_le_mul_right _ (by omega)
      rw [Nat.add_mul, Nat.one_mul] at h2
      simp only [decide_eq_decide]
      omega
  · have e1 : rowF ((A.owned k).taken k A.np 0) k A.np 1 = rowF (A.owned k) k A.np 1 := rfl
    rw [hrow, if_pos rfl, owned_row, if_pos rfl, hr0, List.nil_append, hnums, rowF_dropLast _ k A.np 0 (by rw [owned_each]; omega), heach, hnpe]
    by_cases e : A.each k - 1 = 0
    · rw [if_pos e, show (0 + 1 : Nat) = (A.owned k).each k by rw [owned_each]; omega, rowF_end]
    · rw [if_neg e, Nat.add_sub_cancel, show A.each k - (A.each k - 1) = 0 + 1 by omega]
      exact e1.symm
  · intro c hck
    rw [hrow, if_neg hck, owned_row, if_neg hck]; exact h.oth c hck

end Go.Proofs.YtjkdflnnpdionaaGreat
/-
  A class that is filled: Take, At, Give.
-/
namespace Go.Proofs.YtjkdflnnpdionaaGreat
open Go.RowKit
set_option linter.unusedVariables false

/-- The i-th chunk's place and number. -/
def plN (A : Ab) (k i : Nat) : Nat := i / A.each k * A.ps + i % A.each k * A.sz k
def hN (A : Ab) (k i : Nat) : Nat := plN A k i / 8 + 1

theorem divmod (e p j : Nat) (h : j < e) : (p * e + j) / e = p ∧ (p * e + j) % e = j := by
  have he : 0 < e := by omega
  constructor
  · rw [Nat.mul_comm, Nat.mul_add_div he, Nat.div_eq_of_lt h]; omega
  · rw [Nat.mul_comm, Nat.mul_add_mod, Nat.mod_eq_of_lt h]

theorem Fil.isH {A0 A : Ab} {k i fr : Nat} (h : Fil A0 A k i fr) {l : Nat} (hl : l < i) : IsH A (hN A0 k l) (l / A.each k) (l % A.each k) ∧ A.place (l / A.each k) (l % A.each k) = plN A0 k l ∧ A.own (l / A.each k) = k := by
  have he := h.frl
  have hc := h.cnt
  have hdm := Nat.div_add_mod l (A.each k)
  have hm : l % A.each k < A.each k := Nat.mod_lt _ (by omega)
  rw [Nat.mul_comm] at hdm
  have hp : l / A.each k < A.np := by
    rcases Nat.lt_or_ge (l / A.each k) A.np with h1 | h1
    · exact h1
    · have := Nat.mul_le_mul_right (A.each k) h1
      omega
  have ho := h.own _ hp
  have hpl : A.place (l / A.each k) (l % A.each k) = plN A0 k l := by
    unfold Ab.place plN
    rw [ho, h.each k, h.ps, h.sz]
  refine ⟨⟨hp, by rw [ho]; exact hm, ?_, ?_⟩, hpl, ho⟩
  · rw [h.tkn _ _ hp hm]; simp; omega
  · unfold Ab.hdl Ab.num hN
    rw [h.gen _ _ hp, hpl]; simp

section
variable {w : World} {sb : Nat} {F : Nat → Prop} {B : Bl} {b c d e f g : Int} {A A0 : Ab} {zs : List Int}

theorem fil_take {k i fr : Nat} (hF : Fil A0 A k i fr) (hk : k < A.n) (h : IsS w sb F B b c d e f g A zs) (hi : i < A.m * A.each k) :
    Calls Tryz.prog 69 #[.pointer (some ⟨sb, 0, none⟩), .int .i64 k] w fun y w' => y = .returned (.tuple #[.int .u64 (hN A0 k i), .int .i64 0]) ∧ Kp F w w' ∧ ∃ F' B' zs' A' fr', IsS w' sb F' B' b c d e f g A' zs' ∧ Fil A0 A' k (i + 1) fr' ∧ ∀ k, F' k → F k ∨ w.heap.size ≤ k := by
  have hc := hF.cnt
  have he := hF.frl
  by_cases hfr : fr = 0
  · subst hfr
    have hi' : i = A.np * A.each k := by omega
    have hnp : A.np < A.m := by
      rcases Nat.lt_or_ge A.np A.m with h1 | h1
      · exact h1
      · have := Nat.mul_le_mul_right (A.each k) h1
        omega
    have hr0 : A.row k = [] := by rw [hF.row]; simp
    have hIo := hF.inv.own hk hnp
    have hrl : ((A.owned k).row k).getLast? = some ((A.owned k).num A.np 0) := by
      rw [owned_row, if_pos rfl, hr0, List.nil_append, nums_last A k (by omega), owned_num2]
    have hIt := hIo.take (c := k) (p := A.np) (k := 0) (by rw [owned_n]; exact hk) (by rw [owned_np]; omega) (by rw [owned_own, if_pos rfl]) (by rw [owned_each]; omega) (by rw [owned_tkn, if_pos rfl]) hrl
    have hh : (A.owned k).hdl A.np 0 = hN A0 k i := by
      obtain ⟨d1, d2⟩ := divmod (A.each k) A.np 0 (by omega)
      unfold Ab.hdl hN plN
      rw [owned_gen, if_pos rfl, owned_num2, hi', ← hF.each k, ← hF.ps, ← hF.sz]
      rw [Nat.add_zero] at d1 d2
      rw [d1, d2]; simp
    have := take_page h hF.inv hk hr0 hnp
    rw [hh] at this
    refine this.mono ?_
    rintro y w' ⟨rfl, hK, F', B', hS, hF'⟩
    exact ⟨rfl, hK, F', B', _, _, _, hS, hF.page hk hIt, hF'⟩
  · have hnp : 0 < A.np := by
      rcases Nat.eq_zero_or_pos A.np with e1 | e1
      · rw [e1] at hc; simp at hc; omega
      · exact e1
    obtain ⟨q, hq⟩ : ∃ q, A.np = q + 1 := ⟨A.np - 1, by omega⟩
    have hq1 : A.np - 1 = q := by omega
    have hmul : A.np * A.each k = q * A.each k + A.each k := by rw [hq, Nat.add_mul, Nat.one_mul]
    have hi' : i = q * A.each k + (A.each k - fr) := by omega
    obtain ⟨d1, d2⟩ := divmod (A.each k) q (A.each k - fr) (by omega)
    have hoq := hF.own q (by omega)
    have htq : A.tkn q (A.each k - fr) = false := by
      rw [hF.tkn q _ (by omega) (by omega)]; simp; omega
    have hrl : (A.row k).getLast? = some (A.num q (A.each k - fr)) := by
      rw [hF.row, if_neg hfr, hq1]; exact rowF_last A k q _ (by omega)
    have hIt := hF.inv.take hk (p := q) (k := A.each k - fr) (by omega) hoq (by omega) htq hrl
    have hh : A.hdl q (A.each k - fr) = hN A0 k i := by
      unfold Ab.hdl hN plN Ab.num Ab.place
      rw [hF.gen q _ (by omega), hoq, hi', ← hF.each k, ← hF.ps, ← hF.sz, d1, d2]; simp
    have := take_row h hF.inv.fit hk (p := q) (k := A.each k - fr) (by omega) hoq (by omega) htq hrl
    rw [hh] at this
    refine this.mono ?_
    rintro y w' ⟨rfl, ⟨B', _, hS⟩, hK⟩
    have hft := hF.taken hk (by omega) (by rw [hq1]; exact hIt)
    rw [hq1] at hft
    exact ⟨rfl, hK, F, B', _, _, _, hS, hft, fun k hk => .inl hk⟩
end

end Go.Proofs.YtjkdflnnpdionaaGreat
/-
  The document's Set and the program's speak of the same chunks.
-/
namespace Go.Proofs.YtjkdflnnpdionaaGreat
open Go.RowKit
set_option linter.unusedVariables false

structure Rep (A : Ab) (R : Rb) : Prop where
  ps : R.ps = A.ps
  m : R.m = A.m
  n : R.n = A.n
  sz : R.sz = A.sz
  ow : ∀ p, p < A.m → R.ow p = if p < A.np then (A.own p : Int) else -1
  at' : ∀ i, i < R.N → ∃ p k, p < A.np ∧ k < A.each (A.own p) ∧ R.pl i = A.place p k ∧ R.cl i = A.own p ∧ R.gn i = A.gen p k ∧ R.tk i = A.tkn p k
  inj : ∀ i j, i < R.N → j < R.N → R.pl i = R.pl j → i = j
  sur : ∀ p k, p < A.np → k < A.each (A.own p) → ∃ i, i < R.N ∧ R.pl i = A.place p k
  rlt : ∀ c, c < A.n → ∀ i, i ∈ R.row c → i < R.N
  row : ∀ c, c < A.n → (R.row c).map (fun i => R.pl i / 8 + 1) = A.row c
  nb : R.N ≤ A.np * (A.ps / 64)

theorem place_inj {A : Ab} (hA : Fit1 A) {p k q l : Nat} (hp : p < A.np) (hk : k < A.each (A.own p)) (hq : q < A.np) (hl : l < A.each (A.own q)) (h : A.place p k = A.place q l) : p = q ∧ k = l :=
  num_inj hA hp hk hq hl (by unfold Ab.num; rw [h])

section
variable {A : Ab} {R : Rb}
/-- The document's chunk of a place. -/
theorem Rep.of (h : Rep A R) (hA : Fit1 A) {p k i : Nat} (hi : i < R.N) (hp : p < A.np) (hk : k < A.each (A.own p)) (he : R.pl i = A.place p k) : R.cl i = A.own p ∧ R.gn i = A.gen p k ∧ R.tk i = A.tkn p k ∧ R.hdl i = A.hdl p k := by
  obtain ⟨q, l, hq, hl, e1, e2, e3, e4⟩ := h.at' i hi
  obtain ⟨rfl, rfl⟩ := place_inj hA hp hk hq hl (by rw [← he, e1])
  refine ⟨e2, e3, e4, ?_⟩
  unfold Rb.hdl Ab.hdl Ab.num
  rw [e3, e1]
theorem Rep.last (h : Rep A R) (hA : Fit1 A) {c p k : Nat} (hc : c < A.n) (hp : p < A.np) (ho : A.own p = c) (hk : k < A.each c) (hl : (A.row c).getLast? = some (A.num p k)) :
    ∃ x n, x < R.N ∧ R.pl x = A.place p k ∧ (R.row c).length = n + 1 ∧ (ixs (R.row c))[n]? = some (.int .i64 (x : Int)) := by
  have hr := h.row c hc
  rw [← hr, List.getLast?_map] at hl
  cases hx : (R.row c).getLast? with
  | none => rw [hx] at hl; simp at hl
  | some x =>
    rw [hx] at hl
    simp only [Option.map_some, Option.some.injEq] at hl
    have hm : x ∈ R.row c := List.mem_of_getLast? hx
    have hxN := h.rlt c hc x hm
    obtain ⟨q, l, hq, hl2, e1, _⟩ := h.at' x hxN
    have e2 : A.num q l = A.num p k := by unfold Ab.num at hl ⊢; rw [← e1]; exact hl
    obtain ⟨rfl, rfl⟩ := num_inj hA hq hl2 hp (ho ▸ hk) e2
    have hne : R.row c ≠ [] := fun e => by rw [e] at hx; simp at hx
    have hlen : 0 < (R.row c).length := List.length_pos_iff.2 hne
    refine ⟨x, (R.row c).length - 1, hxN, e1, by omega, ?_⟩
    rw [List.getLast?_eq_getElem?] at hx
    simp [ixs, hx]
theorem taken_place (A : Ab) (c p k q l : Nat) : (A.taken c p k).place q l = A.place q l := rfl
theorem Rep.took (h : Rep A R) (hA : Fit1 A) {c p k x : Nat} (hc : c < A.n) (hp : p < A.np) (ho : A.own p = c) (hk : k < A.each c) (hx : x < R.N) (he : R.pl x = A.place p k) : Rep (A.taken c p k) (R.took c x) := by
  refine ⟨h.ps, h.m, h.n, h.sz, h.ow, fun i hi => ?_, h.inj, h.sur, fun c2 hc2 i hi => ?_, fun c2 hc2 => ?_, h.nb⟩
  · obtain ⟨q, l, hq, hl, e1, e2, e3, e4⟩ := h.at' i hi
    refine ⟨q, l, hq, hl, e1, e2, e3, ?_⟩
    show upd R.tk x true i = upd2 A.tkn p k true q l
    by_cases e : i = x
    · subst e
      obtain ⟨rfl, rfl⟩ := place_inj hA hq hl hp (ho ▸ hk) (by rw [← e1, he])
      rw [upd_same]
      simp [upd2]
    · rw [upd_other _ _ e, e4]
      have hne : ¬ (q = p ∧ l = k) := by
        rintro ⟨rfl, rfl⟩
        exact e (h.inj i x hi hx (by rw [e1, he]))
      simp only [upd2, if_neg hne]
  · have hi2 : i ∈ upd R.row c (R.row c).dropLast c2 := hi
    by_cases e : c2 = c
    · subst e
      rw [upd_same] at hi2
      exact h.rlt c2 hc2 i (List.dropLast_subset _ hi2)
    · rw [upd_other _ _ e] at hi2
      exact h.rlt c2 hc2 i hi2
  · show (upd R.row c (R.row c).dropLast c2).map (fun i => R.pl i / 8 + 1) = upd A.row c (A.row c).dropLast c2
    by_cases e : c2 = c
    · subst e
      rw [upd_same, upd_same, List.map_dropLast, h.row c2 hc2]
    · rw [upd_other _ _ e, upd_other _ _ e, h.row c2 hc2]
theorem Rep.paged (h : Rep A R) (hI : Inv A) {c : Nat} (hc : c < A.n) (hm : A.np < A.m) : Rep (A.owned c) (R.page c A.np) := by
  have hA := hI.fit.toFit1
  have hlo := hI.lo c hc
  have hee : R.ps / R.sz c = A.each c := by unfold Ab.each; rw [h.ps, h.sz]
  obtain ⟨g1, g2, g3, g4, g5, g6, g7⟩ := page_facts R c A.np
  have pold := page_old R c A.np
  have pnew := page_new R c A.np
  rw [hee] at g1 g6 pnew
  have hopl : ∀ q l, q < A.np → (A.owned c).place q l = A.place q l := fun q l hq => by
    unfold Ab.place
    rw [owned_ps, owned_sz, owned_own, if_neg (by omega)]
  have hopn : ∀ l, (A.owned c).place A.np l = A.np * A.ps + l * A.sz c := fun l => by
    unfold Ab.place
    rw [owned_ps, owned_sz, owned_own, if_pos rfl]
  have hplo : ∀ i, i < R.N → R.pl i < A.np * A.ps := fun i hi => by
    obtain ⟨q, l, hq, hl, e1, _⟩ := h.at' i hi
    have h1 := (place_div hA hq hl).2.2
    have h2 : (q + 1) * A.ps ≤ A.np * A.ps := Nat.mul_le_mul_right _ hq
    have h3 := hI.lo _ (hI.on q hq)
    rw [e1]; omega
  have hcase : ∀ i, i < (R.page c A.np).N → i < R.N ∨ ∃ k, k < A.each c ∧ i = R.N + k := fun i hi => by
    rw [g1] at hi
    rcases Nat.lt_or_ge i R.N with h1 | h1
    · exact .inl h1
    · exact .inr ⟨i - R.N, by omega, by omega⟩
  refine ⟨by rw [g2, owned_ps, h.ps], by rw [g5, owned_m, h.m], by rw [g4, owned_n, h.n], by rw [g3, h.sz]; funext j; rw [owned_sz], fun p hp => ?_, fun i hi => ?_, fun i j hi hj he => ?_, fun p k hp hk => ?_, fun c2 hc2 i hi => ?_, fun c2 hc2 => ?_, ?_⟩
  · rw [g7, owned_np, owned_own]
    rw [owned_m] at hp
    by_cases e : p = A.np
    · subst e
      rw [upd_same, if_pos (by omega), if_pos rfl]
    · rw [upd_other _ _ e, h.ow p hp, if_neg e]
      by_cases e2 : p < A.np
      · rw [if_pos e2, if_pos (by omega)]
      · rw [if_neg e2, if_neg (by omega)]
  · rcases hcase i hi with h1 | ⟨k, hk, rfl⟩
    · obtain ⟨q, l, hq, hl, e1, e2, e3, e4⟩ := h.at' i h1
      obtain ⟨o1, o2, o3, o4⟩ := pold i h1
      refine ⟨q, l, by rw [owned_np]; omega, by rw [owned_each, owned_own, if_neg (by omega)]; exact hl, by rw [o1, e1, hopl q l hq], by rw [o2, e2, owned_own, if_neg (by omega)], by rw [o3, e3, owned_gen, if_neg (by omega)], by rw [o4, e4, owned_tkn, if_neg (by omega)]⟩
    · obtain ⟨o1, o2, o3, o4⟩ := pnew k hk
      refine ⟨A.np, k, by rw [owned_np]; omega, by rw [owned_each, owned_own, if_pos rfl]; exact hk, by rw [o1, hopn, h.ps, h.sz], by rw [o2, owned_own, if_pos rfl], by rw [o3, owned_gen, if_pos rfl], by rw [o4, owned_tkn, if_pos rfl]⟩
  · rcases hcase i hi with h1 | ⟨k, hk, rfl⟩ <;> rcases hcase j hj with h2 | ⟨l, hl, rfl⟩
    · rw [(pold i h1).1, (pold j h2).1] at he
      exact h.inj i j h1 h2 he
    · rw [(pold i h1).1, (pnew l hl).1, h.ps] at he
      have := hplo i h1
      omega
    · rw [(pold j h2).1, (pnew k hk).1, h.ps] at he
      have := hplo j h2
      omega
    · rw [(pnew k hk).1, (pnew l hl).1, h.sz] at he
      have : k * A.sz c = l * A.sz c := by omega
      have := Nat.eq_of_mul_eq_mul_right (by omega) this
      omega
  · rw [owned_np] at hp
    by_cases e : p = A.np
    · subst e
      rw [owned_each, owned_own, if_pos rfl] at hk
      exact ⟨R.N + k, by rw [g1]; omega, by rw [(pnew k hk).1, hopn, h.ps, h.sz]⟩
    · rw [owned_each, owned_own, if_neg e] at hk
      obtain ⟨i, hi, e1⟩ := h.sur p k (by omega) hk
      exact ⟨i, by rw [g1]; omega, by rw [(pold i hi).1, e1, hopl p k (by omega)]⟩
  · rw [owned_n] at hc2
    rw [g6] at hi
    rw [g1]
    by_cases e : c2 = c
    · subst e
      rw [upd_same] at hi
      rcases List.mem_append.1 hi with h1 | h1
      · have := h.rlt c2 hc2 i h1
        omega
      · simp [dwn] at h1
        obtain ⟨a, ha, rfl⟩ := h1
        omega
    · rw [upd_other _ _ e] at hi
      have := h.rlt c2 hc2 i hi
      omega
  · rw [owned_n] at hc2
    rw [g6, owned_row]
    have hold : ∀ c3, c3 < A.n → (R.row c3).map (fun i => (R.page c A.np).pl i / 8 + 1) = A.row c3 := fun c3 hc3 => by
      rw [← h.row c3 hc3]
      exact List.map_congr_left fun i hi => by rw [(pold i (h.rlt c3 hc3 i hi)).1]
    by_cases e : c2 = c
    · subst e
      rw [upd_same, if_pos rfl, List.map_append, hold c2 hc2]
      congr 1
      unfold dwn Ab.nums
      rw [List.map_map]
      refine List.map_congr_left fun k hk => ?_
      simp at hk
      show (R.page c2 A.np).pl (R.N + k) / 8 + 1 = _
      rw [(pnew k hk).1, h.ps, h.sz]
    · rw [upd_other _ _ e, if_neg e, hold c2 hc2]
  · rw [g1, owned_np, owned_ps, Nat.add_mul, Nat.one_mul]
    have h1 := h.nb
    have h2 : A.each c ≤ A.ps / 64 := by unfold Ab.each; exact Nat.div_le_div_left hlo (by omega)
    omega
end

section
variable {w w' : World} {rb : Nat} {F : Nat → Prop} {Q : Rl} {c d e : Int} {R : Rb}
set_option maxRecDepth 100000 in
set_option maxHeartbeats 2000000 in
theorem rtake_row (h : IsR w rb F Q c d e R) (hR : RFit R) {i x n1 : Nat} (hi : i < R.n) (hrl : (R.row i).length = n1 + 1) (hlast : (ixs (R.row i))[n1]? = some (.int .i64 (x : Int))) (hx : x < R.N) :
    Calls Tryz.prog 70 #[.pointer (some ⟨rb, 0, none⟩), .int .i64 i] w fun y w' => y = .returned (.tuple #[.int .u64 (R.hdl x), .int .i64 0]) ∧ Kp F w w' ∧ ∃ Q', IsR w' rb F Q' c d e (R.took i x) := by
  have his := (ris_yes h hi).mono (R' := fun y w2 => ∃ (vb vc gg cap cb cc : Nat), y = .returned (.bool true) ∧ n1 + 1 ≤ cap ∧ cap ≤ maxLen ∧
      w2.cell? ⟨rb, 8, none⟩ = some (.slice (some ⟨vb, 0, none⟩) R.n vc) ∧ w2.cell? ⟨vb, i, none⟩ = some (.slice (some ⟨gg, 0, none⟩) (n1 + 1) cap) ∧ w2.cell? ⟨gg, n1, none⟩ = some (.int .i64 (x : Int)) ∧ w2.drew.frozen? ⟨vb, i, none⟩ = false ∧
      (∀ v, (w2.drew.setCell ⟨vb, i, none⟩ v).frozen? ⟨cb, x * 4 + 3, none⟩ = false) ∧ (∀ v, (w2.drew.setCell ⟨vb, i, none⟩ v).cell? ⟨rb, 7, none⟩ = some (.slice (some ⟨cb, 0, none⟩) R.N cc)) ∧ (∃ tt, ∀ v, (w2.drew.setCell ⟨vb, i, none⟩ v).cell? ⟨cb, x * 4 + 3, none⟩ = some (.bool tt)) ∧
      Hid (w.grownBy w2 none ∧ (∃ Q', IsR ((w2.drew.setCell ⟨vb, i, none⟩ (.slice (some ⟨gg, 0, none⟩) n1 cap)).setCell ⟨cb, x * 4 + 3, none⟩ (.bool true)) rb F Q' c d e (R.took i x)) ∧ Kp F w2.drew ((w2.drew.setCell ⟨vb, i, none⟩ (.slice (some ⟨gg, 0, none⟩) n1 cap)).setCell ⟨cb, x * 4 + 3, none⟩ (.bool true)))) (by
    rintro y w2 ⟨rfl, hf⟩
    have hS := (h.kept0 hf).kept0 (gb_drew (gb_refl w2 none))
    obtain ⟨vb2, vc2, gg, cap, cb, cc, a1, a2, a3, k1, k2, b1, b2, b3, b4, b5, b6, b7, b8, b9⟩ := take_cells hS hR (i := i) (n := n1) (x := x) hi hrl hlast hx
    have hT2 := hS.took (i := i) (n := n1) (x := x) hi hrl hx a1 a2 a3
    exact ⟨vb2, vc2, gg, cap, cb, cc, rfl, k1, k2, b1, b2, b3, b4, b7, b8, ⟨_, b9⟩, hf, hT2.1, hT2.2⟩)
  have hhd := fun W Q2 (hS : IsR W rb F Q2 c d e (R.took i x)) => rhandle_any hS (took_fit hR i x) (i := x) hx
  have hhe : (R.took i x).hdl x = R.hdl x := rfl
  rw [hhe] at hhd
  have hiz : (i : Int) < (R.n : Int) := by omega
  have hN := hR.N
  have hrb := hR.rl i hi
  have hNz : (x : Int) < (R.N : Int) := by omega
  generalize R.hdl x = H at *
  clear h hR hlast hhe
  go_enter Tryz.func70, Tryz.ntmps70
  go_wp2_with (first | (go_at_call 138; go_must (refine his.mono ?_); rintro y w2 ⟨vb2, vc2, gg, cap, cb, cc, rfl, k1, k2, b1, b2, b3, b4, b7, b8, ⟨tt, b9⟩, hE⟩; (have hnz : ¬ n1 + 1 = 0 := by omega)) | fail)
  have hnc : n1 ≤ cap := by omega
  have d7 := b7 (.slice (some ⟨gg, 0, none⟩) n1 cap)
  have d8 := b8 (.slice (some ⟨gg, 0, none⟩) n1 cap)
  have d9 := b9 (.slice (some ⟨gg, 0, none⟩) n1 cap)
  clear b7 b8 b9
  go_region_law (fail)
  all_goals
    have hcm : (w2.setCell ⟨vb2, i, none⟩ (.slice (some ⟨gg, 0, none⟩) n1 cap)).drew = w2.drew.setCell ⟨vb2, i, none⟩ (.slice (some ⟨gg, 0, none⟩) n1 cap) := by first | rfl | simp
    rw [hcm]
    clear hcm
    generalize w2.drew.setCell ⟨vb2, i, none⟩ (.slice (some ⟨gg, 0, none⟩) n1 cap) = W3 at *
    go_wp2_with (first | (go_at_call 140; go_must (refine (hhd _ hE.out.2.1.choose hE.out.2.1.choose_spec).mono ?_); rintro y w5 ⟨rfl, hf5⟩) | fail)
    go_ret2
    obtain ⟨hf, ⟨Q', hS'⟩, hK2⟩ := hE.out
    refine ⟨rfl, ?_, Q', hS'.kept0 hf5⟩
    exact (((Kp.of hf).step (gb_drew (gb_refl _ none)) (by simp)).trans hK2 (fun _ h => h) (fun k hk => .inl hk)).step hf5 (by simp)
end
end Go.Proofs.YtjkdflnnpdionaaGreat

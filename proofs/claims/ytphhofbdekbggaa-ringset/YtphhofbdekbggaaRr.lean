/-
  The circle of servers, as lists.
-/
import Derived.Test.YtphhofbdekbggaaRq
namespace Go.Proofs.Ytphhofbdekbggaa
open Go.RowKit
set_option linter.unusedVariables false
set_option linter.unusedSimpArgs false

/-- The bytes of a string, as numbers. -/
def nums (s : ByteArray) : List Int := s.data.toList.map fun u => (u.toNat : Int)
theorem nums_bytes (s : ByteArray) : isBytes (nums s) := by
  intro z hz
  obtain ⟨u, _, rfl⟩ := List.mem_map.1 hz
  have := u.toNat_lt
  omega
theorem str_nums (s : ByteArray) : strOfNums (nums s) = s := by
  obtain ⟨d⟩ := s
  unfold strOfNums nums
  rw [List.map_map]
  congr 1
  apply Array.ext'
  simp only [List.map_eq_map_iff]
  have : ((fun n : Int => UInt8.ofNat n.toNat) ∘ fun u : UInt8 => (u.toNat : Int)) = id := by
    funext u
    simp
  rw [this, List.map_id]
theorem nums_len (s : ByteArray) : (nums s).length = s.size := by
  unfold nums
  rw [List.length_map]
  rfl
/-- The own places of the server of a number. -/
def own (L : List Sv) (s : Nat) : List Nat := pts (nums (sat L s).1) (64 * (sat L s).2).toNat
theorem own_len (L : List Sv) (s : Nat) : (own L s).length = (64 * (sat L s).2).toNat := pts_len _ _
/-- The place of a number. -/
def oat (o : List Nat) (i : Nat) : Int := ((o.getD i 0 : Nat) : Int)
/-- A place stands first at a rank. -/
def Fi (o : List Nat) (k : Nat) (a r : Int) : Prop := ∃ i : Nat, r = (i : Int) ∧ i < k ∧ i < o.length ∧ a = oat o i ∧ ∀ q, q < i → oat o q ≠ a
theorem Fi.uniq {o : List Nat} {k k' : Nat} {a r r' : Int} (h : Fi o k a r) (h' : Fi o k' a r') : r = r' := by
  obtain ⟨i, rfl, _, _, h1, h2⟩ := h
  obtain ⟨j, rfl, _, _, h3, h4⟩ := h'
  rcases Nat.lt_trichotomy i j with h | h | h
  · exact absurd h1.symm (h4 i h)
  · rw [h]
  · exact absurd h3.symm (h2 j h)
/-- The points so far: of all servers below s, and of the first k places of s. -/
def Hav (L : List Sv) (s k : Nat) (p : Pt) : Prop := ∃ t : Nat, p.2.1 = (t : Int) ∧ (t < s ∧ Fi (own L t) (own L t).length p.1 p.2.2 ∨ t = s ∧ Fi (own L s) k p.1 p.2.2)
theorem Hav.key {L : List Sv} {s k : Nat} {p q : Pt} (h : Hav L s k p) (h' : Hav L s k q) (e1 : p.1 = q.1) (e2 : p.2.1 = q.2.1) : p = q := by
  obtain ⟨t, a1, a2⟩ := h
  obtain ⟨t', b1, b2⟩ := h'
  have ht : t = t' := by omega
  subst ht
  obtain ⟨pa, ps, pr⟩ := p
  obtain ⟨qa, qs, qr⟩ := q
  simp only at *
  subst e1; subst e2
  have : pr = qr := by
    rcases a2 with ⟨_, a2⟩ | ⟨rfl, a2⟩ <;> rcases b2 with ⟨_, b2⟩ | ⟨_, b2⟩
    · exact a2.uniq b2
    · omega
    · omega
    · exact a2.uniq b2
  rw [this]
/-- A list of points so far. -/
structure Mp (L : List Sv) (s k : Nat) (M : List Pt) : Prop where
  mem : ∀ p, p ∈ M ↔ Hav L s k p
  nd : M.Nodup
theorem Mp.zero (L : List Sv) : Mp L 0 0 [] := ⟨fun p => ⟨fun h => by simp at h, fun ⟨t, _, h⟩ => by
  rcases h with ⟨h, _⟩ | ⟨_, i, _, h, _⟩ <;> omega⟩, List.nodup_nil⟩
theorem Mp.next {L : List Sv} {s : Nat} {M : List Pt} (h : Mp L s (own L s).length M) : Mp L (s + 1) 0 M :=
  ⟨fun p => by
    rw [h.mem p]
    constructor
    · rintro ⟨t, h1, ⟨h2, h3⟩ | ⟨rfl, h3⟩⟩
      · exact ⟨t, h1, .inl ⟨by omega, h3⟩⟩
      · exact ⟨t, h1, .inl ⟨by omega, h3⟩⟩
    · rintro ⟨t, h1, ⟨h2, h3⟩ | ⟨rfl, i, _, h3, _⟩⟩
      · by_cases e : t = s
        · subst e; exact ⟨t, h1, .inr ⟨rfl, h3⟩⟩
        · exact ⟨t, h1, .inl ⟨by omega, h3⟩⟩
      · omega, h.nd⟩
/-- Is a place of a server among the points? -/
def Key (M : List Pt) (a s : Int) : Prop := ∃ p ∈ M, p.1 = a ∧ p.2.1 = s
theorem Mp.yes {L : List Sv} {s k : Nat} {M : List Pt} (h : Mp L s k M) (hk : k < (own L s).length) (hy : Key M (oat (own L s) k) s) : Mp L s (k + 1) M :=
  ⟨fun p => by
    rw [h.mem p]
    constructor
    · rintro ⟨t, h1, h2 | ⟨rfl, i, e, h3, h4⟩⟩
      · exact ⟨t, h1, .inl h2⟩
      · exact ⟨t, h1, .inr ⟨rfl, i, e, by omega, h4⟩⟩
    · rintro ⟨t, h1, h2 | ⟨rfl, i, e, h3, h4, h5, h6⟩⟩
      · exact ⟨t, h1, .inl h2⟩
      · by_cases hi : i < k
        · exact ⟨t, h1, .inr ⟨rfl, i, e, hi, h4, h5, h6⟩⟩
        · obtain rfl : i = k := by omega
          obtain ⟨q, hq, q1, q2⟩ := hy
          obtain ⟨u, u1, u2⟩ := (h.mem q).1 hq
          rcases u2 with ⟨u2, _⟩ | ⟨_, j, _, j1, j2, j3, _⟩
          · omega
          · exact absurd (by omega) (h6 j j1), h.nd⟩
theorem Mp.no {L : List Sv} {s k : Nat} {M : List Pt} (h : Mp L s k M) (hk : k < (own L s).length) (hy : ¬ Key M (oat (own L s) k) s) : Mp L s (k + 1) (M ++ [(oat (own L s) k, (s : Int), (k : Int))]) := by
  have hn : ∀ q, q < k → oat (own L s) q ≠ oat (own L s) k := fun q hq e => by
    have hex : ∃ i, i ≤ q ∧ oat (own L s) i = oat (own L s) k ∧ ∀ j, j < i → oat (own L s) j ≠ oat (own L s) k := by
      clear hy h
      induction q using Nat.strongRecOn with
      | _ q ih =>
        by_cases hx : ∃ j, j < q ∧ oat (own L s) j = oat (own L s) k
        · obtain ⟨j, j1, j2⟩ := hx
          obtain ⟨i, i1, i2⟩ := ih j j1 (by omega) j2
          exact ⟨i, by omega, i2⟩
        · exact ⟨q, Nat.le_refl _, e, fun j hj hje => hx ⟨j, hj, hje⟩⟩
    obtain ⟨i, i1, i2, i3⟩ := hex
    exact hy ⟨(oat (own L s) k, (s : Int), (i : Int)), (h.mem _).2 ⟨s, rfl, .inr ⟨rfl, i, rfl, by omega, by omega, i2.symm, i3⟩⟩, rfl, rfl⟩
  refine ⟨fun p => ?_, ?_⟩
  · rw [List.mem_append, h.mem p, List.mem_singleton]
    constructor
    · rintro (⟨t, h1, h2 | ⟨rfl, i, e, h3, h4⟩⟩ | rfl)
      · exact ⟨t, h1, .inl h2⟩
      · exact ⟨t, h1, .inr ⟨rfl, i, e, by omega, h4⟩⟩
      · exact ⟨s, rfl, .inr ⟨rfl, k, rfl, by omega, hk, rfl, hn⟩⟩
    · rintro ⟨t, h1, h2 | ⟨rfl, i, e, h3, h4, h5, h6⟩⟩
      · exact .inl ⟨t, h1, .inl h2⟩
      · by_cases hi : i < k
        · exact .inl ⟨t, h1, .inr ⟨rfl, i, e, hi, h4, h5, h6⟩⟩
        · obtain rfl : i = k := by omega
          refine .inr ?_
          obtain ⟨pa, ps, pr⟩ := p
          simp only at *
          rw [h1, e, h5]
  · rw [List.nodup_append]
    refine ⟨h.nd, by simp, fun a ha b hb => ?_⟩
    simp only [List.mem_singleton] at hb
    subst hb
    intro e
    subst e
    exact hy ⟨_, ha, rfl, rfl⟩
/-- What a point of the circle is. -/
def Good (L : List Sv) (p : Pt) : Prop := Hav L L.length 0 p ∧ ∀ q, Hav L L.length 0 q → q.1 = p.1 → p.2.1 ≤ q.2.1
/-- The circle of servers. -/
structure Circle (L : List Sv) (ps : List Pt) : Prop where
  rise : Rising ps
  mem : ∀ p, p ∈ ps ↔ Good L p
theorem pat_mem (ps : List Pt) (i : Nat) (h : i < ps.length) : pat ps i ∈ ps := by
  unfold pat
  rw [List.getD_eq_getElem?_getD, List.getElem?_eq_getElem h]
  exact List.getElem_mem _
theorem mem_pat {ps : List Pt} {p : Pt} (h : p ∈ ps) : ∃ i, i < ps.length ∧ pat ps i = p := by
  obtain ⟨i, hi, e⟩ := List.getElem_of_mem h
  exact ⟨i, hi, by simp [pat, hi, e]⟩
theorem Rising.tail {p : Pt} {ps : List Pt} (h : Rising (p :: ps)) : Rising ps := fun i j hij hj => by
  have := h (i + 1) (j + 1) (by omega) (by simpa using hj)
  simpa [pat] using this
theorem Rising.head {p : Pt} {ps : List Pt} (h : Rising (p :: ps)) (q : Pt) (hq : q ∈ ps) : p.1 < q.1 := by
  obtain ⟨i, hi, e⟩ := mem_pat hq
  have := h 0 (i + 1) (by omega) (by simpa using hi)
  simp only [pat, List.getD_cons_zero, List.getD_cons_succ] at this
  rw [← e]; exact this
theorem Rising.uniq : ∀ {ps qs : List Pt}, Rising ps → Rising qs → (∀ p, p ∈ ps ↔ p ∈ qs) → ps = qs
  | [], [], _, _, _ => rfl
  | [], q :: qs, _, _, h => by have := (h q).2 (by simp); simp at this
  | p :: ps, [], _, _, h => by have := (h p).1 (by simp); simp at this
  | p :: ps, q :: qs, h1, h2, h => by
    have hpq : p = q := by
      rcases List.mem_cons.1 ((h p).1 (by simp)) with e | e
      · exact e
      · rcases List.mem_cons.1 ((h q).2 (by simp)) with e' | e'
        · exact e'.symm
        · have a := h2.head p e
          have b := h1.head q e'
          omega
    subst hpq
    congr 1
    refine Rising.uniq h1.tail h2.tail fun x => ?_
    constructor
    · intro hx
      rcases List.mem_cons.1 ((h x).1 (List.mem_cons_of_mem _ hx)) with e | e
      · have := h1.head x hx
        rw [e] at this
        omega
      · exact e
    · intro hx
      rcases List.mem_cons.1 ((h x).2 (List.mem_cons_of_mem _ hx)) with e | e
      · have := h2.head x hx
        rw [e] at this
        omega
      · exact e
theorem Circle.uniq {L : List Sv} {ps qs : List Pt} (h : Circle L ps) (k : Circle L qs) : ps = qs := Rising.uniq h.rise k.rise fun p => (h.mem p).trans (k.mem p).symm
/-- What is left of the first points if of several at one place the first stays. -/
def cpt (ps : List Pt) : Nat → List Pt
  | 0 => []
  | n + 1 => if n = 0 ∨ (pat ps n).1 ≠ (pat ps (n - 1)).1 then cpt ps n ++ [pat ps n] else cpt ps n
theorem cpt_len (ps : List Pt) (n : Nat) : (cpt ps n).length ≤ n := by
  induction n with
  | zero => simp [cpt]
  | succ n ih =>
    unfold cpt
    split
    · simp; omega
    · omega
theorem cpt_new {ps : List Pt} {n : Nat} (h0 : 0 < n) (h : (pat ps n).1 ≠ (pat ps (n - 1)).1) : cpt ps (n + 1) = cpt ps n ++ [pat ps n] := by
  rw [cpt, if_pos (.inr h)]
theorem cpt_old {ps : List Pt} {n : Nat} (h0 : 0 < n) (h : (pat ps n).1 = (pat ps (n - 1)).1) : cpt ps (n + 1) = cpt ps n := by
  rw [cpt, if_neg (by simp [h]; omega)]
/-- Points sorted by their places, then by their servers. -/
def Srt (ps : List Pt) : Prop := ∀ i j, i < j → j < ps.length → (pat ps i).1 < (pat ps j).1 ∨ (pat ps i).1 = (pat ps j).1 ∧ (pat ps i).2.1 < (pat ps j).2.1
theorem cpt_mem {ps : List Pt} (hs : Srt ps) : ∀ n, n ≤ ps.length → (∀ p, p ∈ cpt ps n ↔ ∃ i, i < n ∧ pat ps i = p ∧ ∀ j, j < i → (pat ps j).1 ≠ p.1) ∧ Rising (cpt ps n)
  | 0, _ => ⟨fun p => by simp [cpt], fun i j _ hj => by simp [cpt] at hj⟩
  | n + 1, hn => by
    obtain ⟨h1, h2⟩ := cpt_mem hs n (by omega)
    by_cases hc : n = 0 ∨ (pat ps n).1 ≠ (pat ps (n - 1)).1
    · have hlt : ∀ j, j < n → (pat ps j).1 < (pat ps n).1 := fun j hj => by
        rcases hc with hc | hc
        · omega
        · have a := hs j n hj (by omega)
          have b := hs (n - 1) n (by omega) (by omega)
          by_cases e : j = n - 1
          · subst e; omega
          · have c := hs j (n - 1) (by omega) (by omega)
            omega
      have he : cpt ps (n + 1) = cpt ps n ++ [pat ps n] := by rw [cpt, if_pos hc]
      rw [he]
      refine ⟨fun p => ?_, fun i j hij hj => ?_⟩
      · rw [List.mem_append, List.mem_singleton, h1 p]
        constructor
        · rintro (⟨i, a, b, c⟩ | rfl)
          · exact ⟨i, by omega, b, c⟩
          · exact ⟨n, by omega, rfl, fun j hj => by have := hlt j hj; omega⟩
        · rintro ⟨i, a, b, c⟩
          by_cases e : i = n
          · subst e; exact .inr b.symm
          · exact .inl ⟨i, by omega, b, c⟩
      · have hlen : (cpt ps n ++ [pat ps n]).length = (cpt ps n).length + 1 := by simp
        have hleft : ∀ q, q < (cpt ps n).length → pat (cpt ps n ++ [pat ps n]) q = pat (cpt ps n) q := fun q hq => by
          simp [pat, List.getElem?_append_left hq]
        have hright : pat (cpt ps n ++ [pat ps n]) (cpt ps n).length = pat ps n := by
          unfold pat
          rw [List.getD_eq_getElem?_getD, List.getElem?_append_right (Nat.le_refl _)]
          simp
        by_cases e : j = (cpt ps n).length
        · subst e
          rw [hright, hleft i hij]
          obtain ⟨q, q1, q2, _⟩ := (h1 _).1 (pat_mem (cpt ps n) i hij)
          rw [← q2]
          exact hlt q q1
        · rw [hleft i (by omega), hleft j (by omega)]
          exact h2 i j hij (by omega)
    · have he : cpt ps (n + 1) = cpt ps n := by rw [cpt, if_neg hc]
      rw [he]
      refine ⟨fun p => ?_, h2⟩
      rw [h1 p]
      have hc1 : n ≠ 0 := fun e => hc (.inl e)
      have hc2 : (pat ps n).1 = (pat ps (n - 1)).1 := by
        by_cases e : (pat ps n).1 = (pat ps (n - 1)).1
        · exact e
        · exact absurd (.inr e) hc
      constructor
      · rintro ⟨i, a, b, c⟩
        exact ⟨i, by omega, b, c⟩
      · rintro ⟨i, a, b, c⟩
        by_cases e : i = n
        · subst e
          exact absurd (hc2.symm.trans (congrArg Prod.fst b)) (c (i - 1) (by omega))
        · exact ⟨i, by omega, b, c⟩
/-- What stays of all points, sorted, is the circle. -/
theorem circle_of {L : List Sv} {M ps : List Pt} (hM : Mp L L.length 0 M) (hp : ∀ p, p ∈ ps ↔ p ∈ M) (hs : Srt ps) : Circle L (cpt ps ps.length) := by
  obtain ⟨h1, h2⟩ := cpt_mem hs ps.length (Nat.le_refl _)
  refine ⟨h2, fun p => ?_⟩
  rw [h1 p]
  constructor
  · rintro ⟨i, a, rfl, c⟩
    refine ⟨(hM.mem _).1 ((hp _).1 (pat_mem ps i a)), fun q hq e => ?_⟩
    obtain ⟨j, j1, rfl⟩ := mem_pat ((hp q).2 ((hM.mem q).2 hq))
    rcases Nat.lt_trichotomy i j with h | h | h
    · have := hs i j h j1
      omega
    · rw [h]; exact Int.le_refl _
    · exact absurd e (c j h)
  · rintro ⟨a, b⟩
    obtain ⟨i, i1, rfl⟩ := mem_pat ((hp p).2 ((hM.mem p).2 a))
    refine ⟨i, i1, rfl, fun j hj e => ?_⟩
    have h3 := b (pat ps j) ((hM.mem _).1 ((hp _).1 (pat_mem ps j (by omega)))) e
    have := hs j i hj i1
    omega
end Go.Proofs.Ytphhofbdekbggaa

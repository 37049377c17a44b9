import Derived.Test.YtbbocbdoiealoaaGreatDoorRMj
set_option linter.unusedVariables false
set_option linter.unusedSimpArgs false
namespace Go.Proofs.YtbbocbdoiealoaaGreatDoor
structure TkP (L : Bs) (c : Cmd) : Prop where
  keys : ∀ k ∈ c.keys, keyP k
  flags : c.flags ≤ 4294967295
  hF : c.flags ≠ 0 → (70 : UInt8) ∈ L
  hT : c.exp ≠ 0 → (84 : UInt8) ∈ L ∨ (76 : UInt8) ∈ L
  hL : (84 : UInt8) ∉ L → 0 ≤ c.exp
  hC : c.tok ≠ 0 → (67 : UInt8) ∈ L
  hD : c.del ≠ 0 → (68 : UInt8) ∈ L
  hM : c.mt ≠ [] → (77 : UInt8) ∈ L
  hW : c.what ≠ [] → (87 : UInt8) ∈ L ∧ c.what = reset
theorem tk_0 (L : Bs) (v : Int) (q : Bool) : TkP L (cmd0 v q) := ⟨fun k h => by simp [cmd0] at h, by simp [cmd0], fun h => absurd rfl h, fun h => absurd rfl h, fun _ => by simp [cmd0], fun h => absurd rfl h, fun h => absurd rfl h, fun h => absurd rfl h, fun h => absurd rfl h⟩
theorem nb_lim {m : Nat} {x : Bs} {n : Nat} (h : nb m x = some n) : n ≤ m := by
  unfold nb at h
  split at h
  · split at h
    · cases h; assumption
    · cases h
  · cases h
theorem tk_step {L : Bs} {c d : Cmd} {a : UInt8} {x : Bs} (hc : TkP L c) (ha : a ∈ L) (hx : x ≠ []) (h : take1 c a x = .inl d) :
    TkP L d ∧ d.verb = c.verb ∧ d.nr = c.nr ∧ (a ≠ 75 → d.keys = c.keys) ∧ (a = 75 → d.keys = c.keys ++ [x]) ∧ (a = 78 → (nb 2147483647 x).isSome = true) := by
  unfold take1 at h
  split at h
  · rename_i e
    split at h
    · rename_i hk
      cases h
      refine ⟨⟨fun k h => ?_, hc.flags, hc.hF, hc.hT, hc.hL, hc.hC, hc.hD, hc.hM, hc.hW⟩, rfl, rfl, fun h => absurd e h, fun _ => rfl, fun h => by rw [e] at h; cases h⟩
      rcases List.mem_append.1 h with h | h
      · exact hc.keys k h
      · rw [List.mem_singleton] at h; subst h; exact ⟨hx, hk⟩
    · cases h
  rename_i e75
  split at h
  · rename_i e
    split at h
    · rename_i n hn
      cases h
      exact ⟨⟨hc.keys, nb_lim hn, fun _ => e ▸ ha, hc.hT, hc.hL, hc.hC, hc.hD, hc.hM, hc.hW⟩, rfl, rfl, fun _ => rfl, fun h => absurd h e75, fun h => by rw [e] at h; cases h⟩
    · cases h
  split at h
  · rename_i e
    split at h
    · rename_i t ht
      split at h
      · rename_i h0
        cases h
        refine ⟨⟨hc.keys, hc.flags, hc.hF, fun _ => ?_, fun hn => ?_, hc.hC, hc.hD, hc.hM, hc.hW⟩, rfl, rfl, fun _ => rfl, fun h => absurd h e75, fun h => ?_⟩
        · rcases e with e | e
          · exact .inl (e ▸ ha)
          · exact .inr (e ▸ ha)
        · rcases h0 with h0 | h0
          · exact absurd (h0 ▸ ha) hn
          · exact h0
        · subst h; rcases e with e | e <;> cases e
      · cases h
    · cases h
  split at h
  · split at h
    · rename_i n hn
      cases h
      exact ⟨hc, rfl, rfl, fun _ => rfl, fun h => absurd h e75, fun _ => by rw [hn]; rfl⟩
    · cases h
  rename_i e78
  have n78 : a ≠ 78 := fun e => e78 (.inl e)
  split at h
  · rename_i e
    split at h
    · cases h
      exact ⟨⟨hc.keys, hc.flags, hc.hF, hc.hT, hc.hL, fun _ => e ▸ ha, hc.hD, hc.hM, hc.hW⟩, rfl, rfl, fun _ => rfl, fun h => absurd h e75, fun h => absurd h n78⟩
    · cases h
  split at h
  · rename_i e
    split at h
    · cases h
      exact ⟨⟨hc.keys, hc.flags, hc.hF, hc.hT, hc.hL, hc.hC, fun _ => e ▸ ha, hc.hM, hc.hW⟩, rfl, rfl, fun _ => rfl, fun h => absurd h e75, fun h => absurd h n78⟩
    · cases h
  split at h
  · split at h
    · cases h
      exact ⟨hc, rfl, rfl, fun _ => rfl, fun h => absurd h e75, fun h => absurd h n78⟩
    · cases h
  split at h
  · rename_i e
    split at h
    · cases h
      exact ⟨⟨hc.keys, hc.flags, hc.hF, hc.hT, hc.hL, hc.hC, hc.hD, hc.hM, fun _ => ⟨e ▸ ha, rfl⟩⟩, rfl, rfl, fun _ => rfl, fun h => absurd h e75, fun h => absurd h n78⟩
    · cases h
  split at h
  · rename_i e
    cases h
    exact ⟨⟨hc.keys, hc.flags, hc.hF, hc.hT, hc.hL, hc.hC, hc.hD, fun _ => e ▸ ha, hc.hW⟩, rfl, rfl, fun _ => rfl, fun h => absurd h e75, fun h => absurd h n78⟩
  · cases h
    exact ⟨hc, rfl, rfl, fun _ => rfl, fun h => absurd h e75, fun h => absurd h n78⟩
theorem lett_mem (r : Rw) (h : r.wants ++ r.may ≠ []) (j : Nat) : lett r j ∈ r.wants ++ r.may := by
  have hl := List.length_pos_iff.2 h
  unfold lett
  rw [List.getD, List.getElem?_eq_getElem (by omega)]
  exact List.getElem_mem _
theorem lett_tail (r : Rw) (h : 2 ≤ (r.wants ++ r.may).length) (j : Nat) (hj : 1 ≤ j) : lett r j ∈ (r.wants ++ r.may).tail := by
  unfold lett
  rw [List.getD, List.getElem?_eq_getElem (by omega)]
  have : ∀ (l : Bs) (k : Nat) (hk : k < l.length), 1 ≤ k → l[k] ∈ l.tail := by
    intro l k hk h1
    cases l with
    | nil => simp at hk
    | cons a t =>
      obtain ⟨k, rfl⟩ : ∃ m, k = m + 1 := ⟨k - 1, by omega⟩
      simp only [List.getElem_cons_succ, List.tail_cons]
      exact List.getElem_mem _
  exact this _ _ _ (by omega)
theorem tk_all (r : Rw) (h : r.wants ++ r.may ≠ []) : ∀ (ws : List Bs) (j : Nat) (c d : Cmd), TkP (r.wants ++ r.may) c → (∀ x ∈ ws, x ≠ []) → takeL r j c ws = .inl d →
    TkP (r.wants ++ r.may) d ∧ d.verb = c.verb ∧ d.nr = c.nr ∧ c.keys.length ≤ d.keys.length ∧ ((∀ k, j ≤ k → lett r k ≠ 75) → d.keys = c.keys) ∧ (∀ p x, ws[p]? = some x → lett r (j + p) = 75 → d.keys ≠ []) ∧ ∀ p x, ws[p]? = some x → lett r (j + p) = 78 → (nb 2147483647 x).isSome = true
  | [], j, c, d, hc, hx, ht => by
    cases ht
    exact ⟨hc, rfl, rfl, Nat.le_refl _, fun _ => rfl, fun p x h => by simp at h, fun p x h => by simp at h⟩
  | y :: t, j, c, d, hc, hx, ht => by
    unfold takeL at ht
    split at ht
    · rename_i e he
      obtain ⟨s1, s2, s3, s4, s5, s6⟩ := tk_step hc (lett_mem r h j) (hx y (by simp)) he
      obtain ⟨t1, t2, t3, t4, t5, t6, t7⟩ := tk_all r h t (j + 1) e d s1 (fun x h => hx x (by simp [h])) ht
      have hle : c.keys.length ≤ e.keys.length := by
        by_cases ha : lett r j = 75
        · rw [s5 ha]; simp
        · rw [s4 ha]; omega
      refine ⟨t1, t2.trans s2, t3.trans s3, by omega, fun h => ?_, fun p x hp h5 => ?_, fun p x hp h8 => ?_⟩
      · rw [t5 (fun k hk => h k (by omega)), s4 (h j (by omega))]
      · cases p with
        | zero =>
          have : e.keys = c.keys ++ [y] := s5 h5
          intro e0
          rw [e0] at t4
          rw [this] at t4
          simp at t4
        | succ p => exact t6 p x hp (by rw [show j + 1 + p = j + (p + 1) by omega]; exact h5)
      · cases p with
        | zero =>
          simp at hp
          subst hp
          exact s6 h8
        | succ p => exact t7 p x hp (by rw [show j + 1 + p = j + (p + 1) by omega]; exact h8)
    · cases ht
def tabB (i : Nat) : Bool :=
  let r := rwN i
  let L := r.wants ++ r.may
  let s := (dr i).shape
  (!decide (L.length = 0) || !r.endless) && decide (r.verb = (i : Int) + 1) && (!L.contains 70 || s.contains 70) && (!(L.contains 84 || L.contains 76) || (s.contains 84 || s.contains 83)) && (!L.contains 67 || s.contains 67) && (!L.contains 68 || s.contains 68) && (!L.contains 77 || s.contains 71) && (!L.contains 87 || decide (i = 18)) && (!decide (i = 14) || !L.contains 84) && (!r.quiet || (dr i).reply) && (L.contains 75 == s.contains 75) && (decide (i < 4) || !L.contains 75 || (decide (2 ≤ L.length) && decide (lett r 0 = 75) && !L.tail.contains 75 && decide (1 ≤ r.wants.length))) && (!decide (i < 4) || ((decide (lett r 0 = 75) && decide (1 ≤ r.wants.length)) || (decide (lett r 1 = 75) && decide (2 ≤ r.wants.length)))) && (match r.wants.idxOf? 78 with | some p => (dr i).block && decide (lett r p = 78) && decide (p < r.wants.length) | none => !(dr i).block)
theorem tab_all : ∀ i, i < 24 → tabB i = true := by decide
theorem rowS_in {x : Bs} {r : Rw} (h : rowS x = some r) : ∃ j, j < 24 ∧ r = rwN j := by
  have hm : ∀ (L : List (Bs × Rw)), L.lookup x = some r → ∃ j, j < L.length ∧ (L.map Prod.snd).getD j ⟨0, [], [], false, false⟩ = r := by
    intro L
    induction L with
    | nil => intro h; cases h
    | cons p t ih =>
      obtain ⟨a, b⟩ := p
      intro h
      rw [List.lookup_cons] at h
      split at h
      · cases h
        exact ⟨0, by simp, rfl⟩
      · obtain ⟨j, h1, h2⟩ := ih h
        exact ⟨j + 1, by simp; omega, by simpa using h2⟩
  obtain ⟨j, h1, h2⟩ := hm rowL h
  exact ⟨j, h1, h2.symm⟩
theorem keys1 (r : Rw) (h : r.wants ++ r.may ≠ []) (h1 : ∀ k, 1 ≤ k → lett r k ≠ 75) {v : Int} {q : Bool} {d : Cmd} : ∀ vs : List Bs, (∀ x ∈ vs, x ≠ []) → takeL r 0 (cmd0 v q) vs = .inl d → d.keys.length ≤ 1
  | [], hx, ht => by cases ht; simp [cmd0]
  | y :: t, hx, ht => by
    unfold takeL at ht
    split at ht
    · rename_i e he
      obtain ⟨s1, s2, s3, s4, s5, s6⟩ := tk_step (tk_0 _ v q) (lett_mem r h 0) (hx y (by simp)) he
      obtain ⟨t1, t2, t3, t4, t5, t6, t7⟩ := tk_all r h t 1 e d s1 (fun x h => hx x (by simp [h])) ht
      rw [t5 h1]
      by_cases ha : lett r 0 = 75
      · rw [s5 ha]; simp [cmd0]
      · rw [s4 ha]; simp [cmd0]
    · cases ht
theorem told_read {i : Nat} (hi : i < 24) {ws : List Bs} (hx : ∀ x ∈ ws, x ≠ []) {c : Cmd} (h : readS (rwN i) ws = .inl c) : c.verb = (i : Int) + 1 ∧ ∀ m : Nat, (m : Int) = max (passS (rwN i) ws) 0 → MayP i c m ∧ (0 ≤ passS (rwN i) ws ↔ (dr i).block = true) := by
  have ht := tab_all i hi
  unfold tabB at ht
  obtain ⟨r, hr⟩ : ∃ r, rwN i = r := ⟨_, rfl⟩
  rw [hr] at ht h ⊢
  simp only [Bool.and_eq_true, Bool.or_eq_true, Bool.not_eq_true', decide_eq_true_eq, beq_iff_eq] at ht
  obtain ⟨⟨⟨⟨⟨⟨⟨⟨⟨⟨⟨⟨⟨a0, a1⟩, a2⟩, a3⟩, a4⟩, a5⟩, a6⟩, a7⟩, a8⟩, a9⟩, a10⟩, a11⟩, a12⟩, a13⟩ := ht
  obtain ⟨L, hL⟩ : ∃ L, r.wants ++ r.may = L := ⟨_, rfl⟩
  have hcon : ∀ (l : Bs) (a : UInt8), l.contains a = true ↔ a ∈ l := fun l a => List.contains_iff_mem
  unfold readS at h
  obtain ⟨q, hq⟩ : ∃ q, qt r ws = q := ⟨_, rfl⟩
  obtain ⟨vs, hvs⟩ : ∃ vs, (if q then ws.dropLast else ws) = vs := ⟨_, rfl⟩
  simp only [hq, hvs] at h
  have hqr : q = true → r.quiet = true := by
    intro e
    rw [e] at hq
    unfold qt at hq
    simp only [Bool.and_eq_true] at hq
    exact hq.1
  have hpre : ∀ (p : Nat) (x : Bs), vs[p]? = some x → ws[p]? = some x := by
    intro p x h
    rw [← hvs] at h
    split at h
    · rw [List.getElem?_dropLast] at h
      split at h
      · exact h
      · cases h
    · exact h
  have hvx : ∀ x ∈ vs, x ≠ [] := by
    intro x h
    rw [← hvs] at h
    split at h
    · exact hx x ((List.dropLast_sublist ws).subset h)
    · exact hx x h
  split at h
  · rename_i htk
    have hn : r.wants.length ≤ vs.length := by
      unfold takes at htk
      simp only [Bool.and_eq_true, decide_eq_true_eq] at htk
      exact htk.1
    rcases ht : takeL r 0 (cmd0 r.verb q) vs with d | e
    · rw [ht] at h
      unfold fin at h
      simp only at h
      split at h
      · rename_i hfl
        cases h
        have hz : L = [] → vs = [] := by
          intro e
          rw [hL, e] at a0
          unfold takes at htk
          simp only [Bool.and_eq_true, Bool.or_eq_true, decide_eq_true_eq] at htk
          rw [← hL] at e
          have e1 : r.wants.length + r.may.length = 0 := by rw [← List.length_append, e]; rfl
          rcases a0 with a0 | a0
          · simp at a0
          · rcases htk.2 with h | h
            · rw [a0] at h; cases h
            · exact List.length_eq_zero_iff.1 (by omega)
        rw [hL] at a0 a2 a3 a4 a5 a6 a7 a8 a10 a11
        have key : TkP L c ∧ c.verb = r.verb ∧ c.nr = q ∧ ((∀ k, 0 ≤ k → lett r k ≠ 75) → c.keys = []) ∧ (∀ (p : Nat) (x : Bs), vs[p]? = some x → lett r (0 + p) = 75 → c.keys ≠ []) ∧ (∀ (p : Nat) (x : Bs), vs[p]? = some x → lett r (0 + p) = 78 → (nb 2147483647 x).isSome = true) ∧ (L = [] → c.keys = []) := by
          by_cases e : L = []
          · have ev := hz e
            rw [ev] at ht
            cases ht
            exact ⟨tk_0 _ _ _, rfl, rfl, fun _ => rfl, fun p x h => by rw [ev] at h; simp at h, fun p x h => by rw [ev] at h; simp at h, fun _ => rfl⟩
          · obtain ⟨t1, t2, t3, t4, t5, t6, t7⟩ := tk_all r (by rw [hL]; exact e) vs 0 _ c (tk_0 _ _ _) hvx ht
            rw [hL] at t1
            exact ⟨t1, t2, t3, t5, t6, t7, fun h => absurd h e⟩
        obtain ⟨t1, t2, t3, t5, t6, t7, t8⟩ := key
        have lm : L ≠ [] → ∀ j, lett r j ∈ L := fun h j => by rw [← hL]; exact lett_mem r (by rw [hL]; exact h) j
        have vat : ∀ p : Nat, p < r.wants.length → ∃ x, vs[p]? = some x := fun p hp => ⟨vs[p]'(by omega), List.getElem?_eq_getElem (by omega)⟩
        have hps : passS r ws ≤ 2147483647 ∧ (0 ≤ passS r ws ↔ (dr i).block = true) ∧ ((dr i).block = false → passS r ws = -1) := by
          unfold passS
          split at a13
          · rename_i p hp
            simp only [Bool.and_eq_true, decide_eq_true_eq] at a13
            obtain ⟨⟨b1, b2⟩, b3⟩ := a13
            obtain ⟨x, hxp⟩ := vat p b3
            have h7 := t7 p x hxp (by rw [Nat.zero_add]; exact b2)
            obtain ⟨y, hy⟩ := Option.isSome_iff_exists.1 h7
            have := nb_lim hy
            simp only [hp, hpre p x hxp, hy, b1]
            refine ⟨by omega, ⟨fun _ => trivial, fun _ => by omega⟩, fun h => by cases h⟩
          · rename_i hp
            simp only [Bool.not_eq_true'] at a13
            simp only [hp, a13]
            exact ⟨by omega, ⟨fun h => by omega, fun h => by cases h⟩, fun _ => trivial⟩
        refine ⟨t2.trans a1, fun m hm => ⟨⟨t2.trans a1, fun h4 => ?_, ⟨fun hk => ?_, fun hk => ?_⟩, t1.keys, t1.flags, fun h => ?_, fun h => ?_, fun h => ?_, fun h => ?_, fun h => ?_, by rw [t2]; exact hfl, fun h => ?_, fun h => ?_, fun h => ?_, fun h => ?_, by have := hps.1; omega⟩, hps.2.1⟩⟩
        · rcases a11 with (b | b) | b
          · omega
          · by_cases e : L = []
            · rw [t8 e]; simp
            · rw [t5 (fun k _ h => by have := lm e k; rw [h] at this; rw [(hcon _ _).2 this] at b; cases b)]; simp
          · obtain ⟨⟨⟨b1, b2⟩, b3⟩, b4⟩ := b
            refine keys1 r (by rw [hL]; intro e; rw [e] at b1; simp at b1) (fun k hk h => ?_) vs hvx ht
            have := lett_tail r (by rw [hL]; exact b1) k hk
            rw [hL, h] at this
            rw [(hcon _ _).2 this] at b3
            cases b3
        · by_cases h75 : (75 : UInt8) ∈ L
          · rw [(hcon _ _).2 h75] at a10
            exact (hcon _ _).1 a10.symm
          · exfalso
            apply hk
            by_cases e : L = []
            · exact t8 e
            · exact t5 (fun k _ h => by have := lm e k; rw [h] at this; exact h75 this)
        · have h75 : L.contains (75 : UInt8) = true := by rw [a10]; exact (hcon _ _).2 hk
          by_cases h4 : i < 4
          · rcases a12 with b | b
            · simp [h4] at b
            · rcases b with ⟨b1, b2⟩ | ⟨b1, b2⟩
              · obtain ⟨x, hx⟩ := vat 0 (by omega)
                exact t6 0 x hx (by rw [Nat.zero_add]; exact b1)
              · obtain ⟨x, hx⟩ := vat 1 (by omega)
                exact t6 1 x hx (by rw [Nat.zero_add]; exact b1)
          · rcases a11 with (b | b) | b
            · omega
            · rw [h75] at b; cases b
            · obtain ⟨⟨⟨b1, b2⟩, b3⟩, b4⟩ := b
              obtain ⟨x, hx⟩ := vat 0 (by omega)
              exact t6 0 x hx (by rw [Nat.zero_add]; exact b2)
        · have := (hcon _ _).2 (t1.hF h)
          rcases a2 with b | b
          · rw [this] at b; cases b
          · exact (hcon _ _).1 b
        · rcases a3 with b | b
          · have hh := t1.hT h
            rw [← hcon, ← hcon] at hh
            rw [Bool.or_eq_false_iff] at b
            rw [b.1, b.2] at hh
            rcases hh with hh | hh <;> cases hh
          · rw [hcon, hcon] at b
            exact b
        · have := (hcon _ _).2 (t1.hC h)
          rcases a4 with b | b
          · rw [this] at b; cases b
          · exact (hcon _ _).1 b
        · have := (hcon _ _).2 (t1.hD h)
          rcases a5 with b | b
          · rw [this] at b; cases b
          · exact (hcon _ _).1 b
        · have := (hcon _ _).2 (t1.hM h)
          rcases a6 with b | b
          · rw [this] at b; cases b
          · exact (hcon _ _).1 b
        · obtain ⟨h1, h2⟩ := t1.hW h
          have := (hcon _ _).2 h1
          rcases a7 with b | b
          · rw [this] at b; cases b
          · exact ⟨b, h2⟩
        · refine t1.hL (fun h84 => ?_)
          have := (hcon _ _).2 h84
          rcases a8 with b | b
          · simp [h] at b
          · rw [this] at b; cases b
        · rw [t3] at h
          rcases a9 with b | b
          · rw [hqr h] at b; cases b
          · exact b
        · rcases hb : (dr i).block with _ | _
          · have := hps.2.2 hb
            omega
          · rfl
      · cases h
    · rw [ht] at h
      cases h
  · cases h
theorem told_may {l : Bs} {c : Cmd} {n : Int} (h : lineS l = .inl (c, n)) {i : Nat} (hi : i < 24) (hv : c.verb = (i : Int) + 1) {m : Nat} (hm : (m : Int) = max n 0) : MayP i c m ∧ (0 ≤ n ↔ (dr i).block = true) := by
  unfold lineS at h
  split at h
  · cases h
  split at h
  · cases h
  rename_i x ws hs
  split at h
  · cases h
  rename_i r hr
  split at h
  · rename_i d hd
    cases h
    obtain ⟨j, hj, rfl⟩ := rowS_in hr
    obtain ⟨h1, h2⟩ := told_read hj (fun y hy => spl_ne l [] y (by rw [hs]; simp [hy])) hd
    have e : j = i := by omega
    subst e
    exact h2 m hm
  · cases h
theorem wok_may {x : CI} (hr : RngP x.c) (hf : x.c.flags ≤ 18446744073709551615) {i : Nat} (hi : i < 24) (hv : x.c.verb = (i : Int) + 1) : (∃ n, WokP x i n) ↔ mayB i x.c x.d.length x.lg = true := by
  rw [mayB_iff hv]
  constructor
  · rintro ⟨n, h⟩
    exact ⟨h.lg, (told_may h.l hi hv h.d).1, (lineS_len h.l).2.2⟩
  · rintro ⟨h1, h2, h3⟩
    refine ⟨blkI i x.d.length, hi, hv, h1, line_back hi h2 hr h3, ?_⟩
    unfold blkI
    split
    · omega
    · rename_i hb
      have : x.d.length = 0 := Classical.byContradiction fun e => hb (h2.data e)
      omega
theorem wbs_bsB {x : CI} {i : Nat} {n : Int} (h : WokP x i n) : wbs i x n = bsB i x.c x.d := by
  have := (told_may h.l h.lt h.v h.d).2
  unfold wbs bsB
  by_cases hn : 0 ≤ n
  · rw [if_pos hn, this.1 hn]; rfl
  · rw [if_neg hn, if_neg (fun e => hn (this.2 e))]
end Go.Proofs.YtbbocbdoiealoaaGreatDoor

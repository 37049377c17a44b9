import Derived.Test.YtbbocbdoiealoaaGreatDoorRPbw
set_option linter.unusedVariables false
set_option linter.unusedSimpArgs false
namespace Go.Proofs.YtbbocbdoiealoaaGreatDoor
theorem pm_lt {M : Nat} : ∀ (l : Bs) (acc v : Nat), Lib.parseUintM M acc l = .ok v → v < (acc + 1) * 10 ^ l.length
  | [], acc, v, h => by
    simp only [Lib.parseUintM] at h
    injection h with h
    simp
    omega
  | c :: r, acc, v, h => by
    simp only [Lib.parseUintM] at h
    split at h
    · split at h
      · cases h
      · split at h
        · cases h
        · have h1 := pm_lt r _ v h
          next hc _ _ =>
          have h2 : acc * 10 + (c.toNat - 48) + 1 ≤ (acc + 1) * 10 := by omega
          have h3 := Nat.mul_le_mul_right (10 ^ r.length) h2
          rw [List.length_cons, Nat.pow_succ, Nat.mul_comm (10 ^ r.length) 10, ← Nat.mul_assoc]
          omega
    · cases h
theorem pu_short {x : Bs} {v : Nat} (h : Lib.parseUintB 64 x = .ok v) : x ≠ [] ∧ (dg v).length ≤ x.length := by
  unfold Lib.parseUintB at h
  split at h
  · cases h
  · next hx =>
    have h1 := pm_lt x 0 v h
    have hl := List.length_pos_iff.2 hx
    obtain ⟨k, hk⟩ : ∃ k, x.length = k + 1 := ⟨x.length - 1, by omega⟩
    rw [hk] at h1 ⊢
    exact ⟨hx, dg_le k v (by omega)⟩
theorem nb_short {most : Nat} {x : Bs} {v : Nat} (h : nb most x = some v) : (dg v).length ≤ x.length := by
  unfold nb at h
  split at h
  · next u hu =>
    split at h
    · injection h with h
      subst h
      exact (pu_short hu).2
    · cases h
  · cases h
theorem tm_short {x : Bs} {t : Int} (h : tm x = some t) : (sg t).length ≤ x.length := by
  unfold tm at h
  split at h
  · next v hv =>
    split at h
    · cases h
    · next h43 =>
      injection h with h
      subst h
      unfold Lib.parseIntB at hv
      split at hv
      · cases hv
      · next c r =>
        simp only at hv
        split at hv
        · cases hv
        · cases hv
        · next u hu =>
          split at hv
          · cases hv
          · split at hv
            · cases hv
            · injection hv with hv
              subst hv
              have hu2 := (pu_short hu).2
              have hu1 := (pu_short hu).1
              by_cases h45 : c.toNat = 45
              · rw [if_pos (.inr h45)] at hu2 hu1
                rw [if_pos h45]
                have hr := List.length_pos_iff.2 hu1
                unfold sg
                split
                · rw [List.length_cons, List.length_cons, show (-(u : Int)).natAbs = u by omega]
                  omega
                · rw [List.length_cons, show (-(u : Int)).natAbs = u by omega]
                  omega
              · have h43' : ¬ c.toNat = 43 := fun e => h43 (by
                  have : c = 43 := UInt8.toNat_inj.1 (by rw [e]; rfl)
                  rw [this]; rfl)
                rw [if_neg (by omega)] at hu2
                rw [if_neg h45]
                unfold sg
                rw [if_neg (by omega), show ((u : Int)).natAbs = u by omega]
                exact hu2
  · cases h
theorem spl_sum : ∀ (l cur : Bs), (bls (spl cur l)).length ≤ cur.length + l.length + 1
  | [], cur => by
    simp only [spl]
    split
    · simp [bls]
    · simp [bls]
  | b :: t, cur => by
    simp only [spl]
    split
    · split
      · have := spl_sum t []
        simp only [List.length_nil, List.length_cons] at this ⊢
        omega
      · have := spl_sum t []
        rw [bls_cons]
        simp only [List.length_nil, List.length_cons, List.length_append] at this ⊢
        omega
    · have := spl_sum t (cur ++ [b])
      simp only [List.length_nil, List.length_cons, List.length_append] at this ⊢
      omega
theorem takeL_cons {r : Rw} {i : Nat} {c d : Cmd} {x : Bs} {t : List Bs} (h : takeL r i c (x :: t) = .inl d) : ∃ e, take1 c (lett r i) x = .inl e ∧ takeL r (i + 1) e t = .inl d := by
  simp only [takeL] at h
  split at h
  · next e he => exact ⟨e, he, h⟩
  · cases h
theorem takeL_nil {r : Rw} {i : Nat} {c d : Cmd} (h : takeL r i c [] = .inl d) : c = d := by
  simp only [takeL] at h
  exact Sum.inl.inj h
theorem inv_K {c d : Cmd} {x : Bs} (h : take1 c 75 x = .inl d) : d = { c with keys := c.keys ++ [x] } := by
  rw [take1, if_pos rfl] at h
  split at h
  · exact (Sum.inl.inj h).symm
  · cases h
theorem inv_F {c d : Cmd} {x : Bs} (h : take1 c 70 x = .inl d) : ∃ n, (dg n).length ≤ x.length ∧ d = { c with flags := n } := by
  rw [take1, if_neg (by decide), if_pos rfl] at h
  split at h
  · next n hn => exact ⟨n, nb_short hn, (Sum.inl.inj h).symm⟩
  · cases h
theorem inv_T {c d : Cmd} {x : Bs} {a : UInt8} (ha : a = 84 ∨ a = 76) (h : take1 c a x = .inl d) : ∃ t, (sg t).length ≤ x.length ∧ d = { c with exp := t } := by
  rw [take1, if_neg (by rcases ha with rfl | rfl <;> decide), if_neg (by rcases ha with rfl | rfl <;> decide), if_pos ha] at h
  split at h
  · next t ht =>
    split at h
    · exact ⟨t, tm_short ht, (Sum.inl.inj h).symm⟩
    · cases h
  · cases h
theorem inv_N {c d : Cmd} {x : Bs} {a : UInt8} (ha : a = 78 ∨ a = 86) (h : take1 c a x = .inl d) : ∃ n, nb 2147483647 x = some n ∧ d = c := by
  rw [take1, if_neg (by rcases ha with rfl | rfl <;> decide), if_neg (by rcases ha with rfl | rfl <;> decide), if_neg (by rcases ha with rfl | rfl <;> decide), if_pos ha] at h
  split at h
  · next n hn => exact ⟨n, hn, (Sum.inl.inj h).symm⟩
  · cases h
theorem inv_C {c d : Cmd} {x : Bs} (h : take1 c 67 x = .inl d) : ∃ n, (dg n).length ≤ x.length ∧ d = { c with tok := n } := by
  rw [take1, if_neg (by decide), if_neg (by decide), if_neg (by decide), if_neg (by decide), if_pos rfl] at h
  split at h
  · next n hn => exact ⟨n, nb_short hn, (Sum.inl.inj h).symm⟩
  · cases h
theorem inv_D {c d : Cmd} {x : Bs} (h : take1 c 68 x = .inl d) : ∃ n, (dg n).length ≤ x.length ∧ d = { c with del := n } := by
  rw [take1, if_neg (by decide), if_neg (by decide), if_neg (by decide), if_neg (by decide), if_neg (by decide), if_pos rfl] at h
  split at h
  · next n hn => exact ⟨n, nb_short hn, (Sum.inl.inj h).symm⟩
  · cases h
theorem inv_Z {c d : Cmd} {x : Bs} (h : take1 c 48 x = .inl d) : d = c := by
  rw [take1, if_neg (by decide), if_neg (by decide), if_neg (by decide), if_neg (by decide), if_neg (by decide), if_neg (by decide), if_pos rfl] at h
  split at h
  · exact (Sum.inl.inj h).symm
  · cases h
theorem inv_W {c d : Cmd} {x : Bs} (h : take1 c 87 x = .inl d) : x = reset ∧ d = { c with what := reset } := by
  rw [take1, if_neg (by decide), if_neg (by decide), if_neg (by decide), if_neg (by decide), if_neg (by decide), if_neg (by decide), if_neg (by decide), if_pos rfl] at h
  split at h
  · next hx => exact ⟨hx, (Sum.inl.inj h).symm⟩
  · cases h
theorem inv_M {c d : Cmd} {x : Bs} (h : take1 c 77 x = .inl d) : d = { c with mt := c.mt ++ [⟨x.headD 0, x.tail, decide (1 < x.length)⟩] } := by
  rw [take1, if_neg (by decide), if_neg (by decide), if_neg (by decide), if_neg (by decide), if_neg (by decide), if_neg (by decide), if_neg (by decide), if_neg (by decide), if_pos rfl] at h
  exact (Sum.inl.inj h).symm
theorem inv_Ks {r : Rw} : ∀ {vs : List Bs} {j : Nat} {c d : Cmd}, (∀ k, j ≤ k → lett r k = 75) → takeL r j c vs = .inl d → d = { c with keys := c.keys ++ vs }
  | [], j, c, d, _, h => by rw [← takeL_nil h]; simp
  | x :: t, j, c, d, hl, h => by
    obtain ⟨e, h1, h2⟩ := takeL_cons h
    rw [hl j (Nat.le_refl _)] at h1
    have h3 := inv_Ks (fun k hk => hl k (by omega)) h2
    rw [h3, inv_K h1]
    simp
theorem inv_Ms {r : Rw} : ∀ {vs : List Bs} {j : Nat} {c d : Cmd}, (∀ x ∈ vs, x ≠ []) → (∀ k, j ≤ k → lett r k = 77) → takeL r j c vs = .inl d → ∃ fs : List Fl, fs.map fw = vs ∧ d = { c with mt := c.mt ++ fs }
  | [], j, c, d, _, _, h => ⟨[], rfl, by rw [← takeL_nil h]; simp⟩
  | x :: t, j, c, d, hx, hl, h => by
    obtain ⟨e, h1, h2⟩ := takeL_cons h
    rw [hl j (Nat.le_refl _)] at h1
    obtain ⟨fs, h3, h4⟩ := inv_Ms (fun y hy => hx y (by simp [hy])) (fun k hk => hl k (by omega)) h2
    refine ⟨⟨x.headD 0, x.tail, decide (1 < x.length)⟩ :: fs, ?_, ?_⟩
    · rw [List.map_cons, h3]
      congr 1
      unfold fw
      rcases x with _ | ⟨a, x⟩
      · exact absurd rfl (hx [] (by simp))
      · rfl
    · rw [h4, inv_M h1]
      simp
theorem bls_no : bls [] = [] := rfl
theorem bls_sg (x : Bs) : bls [x] = 32 :: x := by simp [bls]
theorem lw_75 (c : Cmd) (n : Nat) : lw c n 75 = c.keys := rfl
theorem lw_70 (c : Cmd) (n : Nat) : lw c n 70 = [dg c.flags] := rfl
theorem lw_84 (c : Cmd) (n : Nat) : lw c n 84 = [sg c.exp] := rfl
theorem lw_78 (c : Cmd) (n : Nat) : lw c n 78 = [dg n] := rfl
theorem lw_67 (c : Cmd) (n : Nat) : lw c n 67 = [dg c.tok] := rfl
theorem lw_68 (c : Cmd) (n : Nat) : lw c n 68 = [dg c.del] := rfl
theorem lw_86 (c : Cmd) (n : Nat) : lw c n 86 = [[49]] := rfl
theorem lw_87 (c : Cmd) (n : Nat) : lw c n 87 = (if c.what = [] then [] else [c.what]) := rfl
theorem lw_71 (c : Cmd) (n : Nat) : lw c n 71 = c.mt.map fw := rfl
theorem lw_83 (c : Cmd) (n : Nat) : lw c n 83 = (if c.exp = 0 then [] else [sg c.exp]) := rfl
theorem lw_90 (c : Cmd) (n : Nat) : lw c n 90 = [] := rfl
theorem len_0 {vs : List Bs} (hx : ∀ x ∈ vs, x ≠ []) {q : Bool} {c : Cmd} (ht : takes (rwN 0) vs.length = true) (h : takeL (rwN 0) 0 (cmd0 1 q) vs = .inl c) (m : Nat) :
    (bls ((dr 0).shape.flatMap (lw c m))).length ≤ (bls vs).length := by
  simp only [takes, show (rwN 0).wants.length = 1 from rfl, show (rwN 0).may.length = 1 from rfl, show (rwN 0).endless = true from rfl, Bool.and_eq_true, decide_eq_true_eq, Bool.or_eq_true, Bool.false_eq_true, false_or] at ht
  obtain ⟨ts, rfl⟩ : ∃ ts, ts = vs := ⟨vs, rfl⟩
  have hl : ∀ k, 0 ≤ k → lett (rwN 0) k = 75 := by
    intro k hk
    unfold lett
    rw [show (rwN 0).wants ++ (rwN 0).may = [75, 75] from rfl]
    rcases (show min k (([75, 75] : Bs).length - 1) = 0 ∨ min k (([75, 75] : Bs).length - 1) = 1 by simp; omega) with e | e <;> rw [e] <;> rfl
  have hc := inv_Ks hl h
  subst hc
  simp only [show (dr 0).shape = [75] from rfl, List.flatMap_cons, List.flatMap_nil, List.append_nil, bls_app, List.length_append]
  simp only [lw_75, cmd0, List.nil_append, bls_cons, bls_no, bls_sg, List.length_cons, List.length_append, List.length_nil]
  try omega
theorem len_1 {vs : List Bs} (hx : ∀ x ∈ vs, x ≠ []) {q : Bool} {c : Cmd} (ht : takes (rwN 1) vs.length = true) (h : takeL (rwN 1) 0 (cmd0 2 q) vs = .inl c) (m : Nat) :
    (bls ((dr 1).shape.flatMap (lw c m))).length ≤ (bls vs).length := by
  simp only [takes, show (rwN 1).wants.length = 1 from rfl, show (rwN 1).may.length = 1 from rfl, show (rwN 1).endless = true from rfl, Bool.and_eq_true, decide_eq_true_eq, Bool.or_eq_true, Bool.false_eq_true, false_or] at ht
  obtain ⟨ts, rfl⟩ : ∃ ts, ts = vs := ⟨vs, rfl⟩
  have hl : ∀ k, 0 ≤ k → lett (rwN 1) k = 75 := by
    intro k hk
    unfold lett
    rw [show (rwN 1).wants ++ (rwN 1).may = [75, 75] from rfl]
    rcases (show min k (([75, 75] : Bs).length - 1) = 0 ∨ min k (([75, 75] : Bs).length - 1) = 1 by simp; omega) with e | e <;> rw [e] <;> rfl
  have hc := inv_Ks hl h
  subst hc
  simp only [show (dr 1).shape = [75] from rfl, List.flatMap_cons, List.flatMap_nil, List.append_nil, bls_app, List.length_append]
  simp only [lw_75, cmd0, List.nil_append, bls_cons, bls_no, bls_sg, List.length_cons, List.length_append, List.length_nil]
  try omega
theorem len_2 {vs : List Bs} (hx : ∀ x ∈ vs, x ≠ []) {q : Bool} {c : Cmd} (ht : takes (rwN 2) vs.length = true) (h : takeL (rwN 2) 0 (cmd0 3 q) vs = .inl c) (m : Nat) :
    (bls ((dr 2).shape.flatMap (lw c m))).length ≤ (bls vs).length := by
  simp only [takes, show (rwN 2).wants.length = 2 from rfl, show (rwN 2).may.length = 1 from rfl, show (rwN 2).endless = true from rfl, Bool.and_eq_true, decide_eq_true_eq, Bool.or_eq_true, Bool.false_eq_true, false_or] at ht
  obtain ⟨x0, ts, rfl⟩ : ∃ x0 ts, vs = x0 :: ts := by
    match vs, ht with
    | x0 :: ts, _ => exact ⟨x0, ts, rfl⟩
    | [], ht => simp at ht
  obtain ⟨e0, k0, h⟩ := takeL_cons h
  rw [show lett (rwN 2) 0 = 84 from rfl] at k0
  obtain ⟨n0, l0, rfl⟩ := inv_T (.inl rfl) k0
  have hl : ∀ k, 1 ≤ k → lett (rwN 2) k = 75 := by
    intro k hk
    unfold lett
    rw [show (rwN 2).wants ++ (rwN 2).may = [84, 75, 75] from rfl]
    rcases (show min k (([84, 75, 75] : Bs).length - 1) = 1 ∨ min k (([84, 75, 75] : Bs).length - 1) = 2 by simp; omega) with e | e <;> rw [e] <;> rfl
  have hc := inv_Ks hl h
  subst hc
  simp only [show (dr 2).shape = [84, 75] from rfl, List.flatMap_cons, List.flatMap_nil, List.append_nil, bls_app, List.length_append]
  simp only [lw_84, lw_75, cmd0, List.nil_append, bls_cons, bls_no, bls_sg, List.length_cons, List.length_append, List.length_nil]
  try omega
theorem len_3 {vs : List Bs} (hx : ∀ x ∈ vs, x ≠ []) {q : Bool} {c : Cmd} (ht : takes (rwN 3) vs.length = true) (h : takeL (rwN 3) 0 (cmd0 4 q) vs = .inl c) (m : Nat) :
    (bls ((dr 3).shape.flatMap (lw c m))).length ≤ (bls vs).length := by
  simp only [takes, show (rwN 3).wants.length = 2 from rfl, show (rwN 3).may.length = 1 from rfl, show (rwN 3).endless = true from rfl, Bool.and_eq_true, decide_eq_true_eq, Bool.or_eq_true, Bool.false_eq_true, false_or] at ht
  obtain ⟨x0, ts, rfl⟩ : ∃ x0 ts, vs = x0 :: ts := by
    match vs, ht with
    | x0 :: ts, _ => exact ⟨x0, ts, rfl⟩
    | [], ht => simp at ht
  obtain ⟨e0, k0, h⟩ := takeL_cons h
  rw [show lett (rwN 3) 0 = 84 from rfl] at k0
  obtain ⟨n0, l0, rfl⟩ := inv_T (.inl rfl) k0
  have hl : ∀ k, 1 ≤ k → lett (rwN 3) k = 75 := by
    intro k hk
    unfold lett
    rw [show (rwN 3).wants ++ (rwN 3).may = [84, 75, 75] from rfl]
    rcases (show min k (([84, 75, 75] : Bs).length - 1) = 1 ∨ min k (([84, 75, 75] : Bs).length - 1) = 2 by simp; omega) with e | e <;> rw [e] <;> rfl
  have hc := inv_Ks hl h
  subst hc
  simp only [show (dr 3).shape = [84, 75] from rfl, List.flatMap_cons, List.flatMap_nil, List.append_nil, bls_app, List.length_append]
  simp only [lw_84, lw_75, cmd0, List.nil_append, bls_cons, bls_no, bls_sg, List.length_cons, List.length_append, List.length_nil]
  try omega
theorem len_4 {vs : List Bs} (hx : ∀ x ∈ vs, x ≠ []) {q : Bool} {c : Cmd} (ht : takes (rwN 4) vs.length = true) (h : takeL (rwN 4) 0 (cmd0 5 q) vs = .inl c) (m : Nat) (hm : ∀ x, vs[3]? = some x → nb 2147483647 x = some m) :
    (bls ((dr 4).shape.flatMap (lw c m))).length ≤ (bls vs).length := by
  simp only [takes, show (rwN 4).wants.length = 4 from rfl, show (rwN 4).may.length = 0 from rfl, show (rwN 4).endless = false from rfl, Bool.and_eq_true, decide_eq_true_eq, Bool.or_eq_true, Bool.false_eq_true, false_or] at ht
  obtain ⟨x0, x1, x2, x3, rfl⟩ : ∃ x0 x1 x2 x3, vs = [x0, x1, x2, x3] := by
    match vs, ht with
    | [x0, x1, x2, x3], _ => exact ⟨x0, x1, x2, x3, rfl⟩
    | [], ht => simp at ht
    | [y0], ht => simp at ht
    | [y0, y1], ht => simp at ht
    | [y0, y1, y2], ht => simp at ht
    | y0 :: y1 :: y2 :: y3 :: y4 :: t, ht => simp at ht
  obtain ⟨e0, k0, h⟩ := takeL_cons h
  rw [show lett (rwN 4) 0 = 75 from rfl] at k0
  obtain rfl := inv_K k0
  obtain ⟨e1, k1, h⟩ := takeL_cons h
  rw [show lett (rwN 4) 1 = 70 from rfl] at k1
  obtain ⟨n1, l1, rfl⟩ := inv_F k1
  obtain ⟨e2, k2, h⟩ := takeL_cons h
  rw [show lett (rwN 4) 2 = 84 from rfl] at k2
  obtain ⟨n2, l2, rfl⟩ := inv_T (.inl rfl) k2
  obtain ⟨e3, k3, h⟩ := takeL_cons h
  rw [show lett (rwN 4) 3 = 78 from rfl] at k3
  obtain ⟨n3, l3, rfl⟩ := inv_N (.inl rfl) k3
  have hc := takeL_nil h
  subst hc
  have hmx := hm x3 rfl
  have hms := nb_short hmx
  simp only [show (dr 4).shape = [75, 70, 84, 78] from rfl, List.flatMap_cons, List.flatMap_nil, List.append_nil, bls_app, List.length_append]
  simp only [lw_75, lw_70, lw_84, lw_78, cmd0, List.nil_append, bls_cons, bls_no, bls_sg, List.length_cons, List.length_append, List.length_nil]
  omega
theorem len_5 {vs : List Bs} (hx : ∀ x ∈ vs, x ≠ []) {q : Bool} {c : Cmd} (ht : takes (rwN 5) vs.length = true) (h : takeL (rwN 5) 0 (cmd0 6 q) vs = .inl c) (m : Nat) (hm : ∀ x, vs[3]? = some x → nb 2147483647 x = some m) :
    (bls ((dr 5).shape.flatMap (lw c m))).length ≤ (bls vs).length := by
  simp only [takes, show (rwN 5).wants.length = 4 from rfl, show (rwN 5).may.length = 0 from rfl, show (rwN 5).endless = false from rfl, Bool.and_eq_true, decide_eq_true_eq, Bool.or_eq_true, Bool.false_eq_true, false_or] at ht
  obtain ⟨x0, x1, x2, x3, rfl⟩ : ∃ x0 x1 x2 x3, vs = [x0, x1, x2, x3] := by
    match vs, ht with
    | [x0, x1, x2, x3], _ => exact ⟨x0, x1, x2, x3, rfl⟩
    | [], ht => simp at ht
    | [y0], ht => simp at ht
    | [y0, y1], ht => simp at ht
    | [y0, y1, y2], ht => simp at ht
    | y0 :: y1 :: y2 :: y3 :: y4 :: t, ht => simp at ht
  obtain ⟨e0, k0, h⟩ := takeL_cons h
  rw [show lett (rwN 5) 0 = 75 from rfl] at k0
  obtain rfl := inv_K k0
  obtain ⟨e1, k1, h⟩ := takeL_cons h
  rw [show lett (rwN 5) 1 = 70 from rfl] at k1
  obtain ⟨n1, l1, rfl⟩ := inv_F k1
  obtain ⟨e2, k2, h⟩ := takeL_cons h
  rw [show lett (rwN 5) 2 = 84 from rfl] at k2
  obtain ⟨n2, l2, rfl⟩ := inv_T (.inl rfl) k2
  obtain ⟨e3, k3, h⟩ := takeL_cons h
  rw [show lett (rwN 5) 3 = 78 from rfl] at k3
  obtain ⟨n3, l3, rfl⟩ := inv_N (.inl rfl) k3
  have hc := takeL_nil h
  subst hc
  have hmx := hm x3 rfl
  have hms := nb_short hmx
  simp only [show (dr 5).shape = [75, 70, 84, 78] from rfl, List.flatMap_cons, List.flatMap_nil, List.append_nil, bls_app, List.length_append]
  simp only [lw_75, lw_70, lw_84, lw_78, cmd0, List.nil_append, bls_cons, bls_no, bls_sg, List.length_cons, List.length_append, List.length_nil]
  omega
theorem len_6 {vs : List Bs} (hx : ∀ x ∈ vs, x ≠ []) {q : Bool} {c : Cmd} (ht : takes (rwN 6) vs.length = true) (h : takeL (rwN 6) 0 (cmd0 7 q) vs = .inl c) (m : Nat) (hm : ∀ x, vs[3]? = some x → nb 2147483647 x = some m) :
    (bls ((dr 6).shape.flatMap (lw c m))).length ≤ (bls vs).length := by
  simp only [takes, show (rwN 6).wants.length = 4 from rfl, show (rwN 6).may.length = 0 from rfl, show (rwN 6).endless = false from rfl, Bool.and_eq_true, decide_eq_true_eq, Bool.or_eq_true, Bool.false_eq_true, false_or] at ht
  obtain ⟨x0, x1, x2, x3, rfl⟩ : ∃ x0 x1 x2 x3, vs = [x0, x1, x2, x3] := by
    match vs, ht with
    | [x0, x1, x2, x3], _ => exact ⟨x0, x1, x2, x3, rfl⟩
    | [], ht => simp at ht
    | [y0], ht => simp at ht
    | [y0, y1], ht => simp at ht
    | [y0, y1, y2], ht => simp at ht
    | y0 :: y1 :: y2 :: y3 :: y4 :: t, ht => simp at ht
  obtain ⟨e0, k0, h⟩ := takeL_cons h
  rw [show lett (rwN 6) 0 = 75 from rfl] at k0
  obtain rfl := inv_K k0
  obtain ⟨e1, k1, h⟩ := takeL_cons h
  rw [show lett (rwN 6) 1 = 70 from rfl] at k1
  obtain ⟨n1, l1, rfl⟩ := inv_F k1
  obtain ⟨e2, k2, h⟩ := takeL_cons h
  rw [show lett (rwN 6) 2 = 84 from rfl] at k2
  obtain ⟨n2, l2, rfl⟩ := inv_T (.inl rfl) k2
  obtain ⟨e3, k3, h⟩ := takeL_cons h
  rw [show lett (rwN 6) 3 = 78 from rfl] at k3
  obtain ⟨n3, l3, rfl⟩ := inv_N (.inl rfl) k3
  have hc := takeL_nil h
  subst hc
  have hmx := hm x3 rfl
  have hms := nb_short hmx
  simp only [show (dr 6).shape = [75, 70, 84, 78] from rfl, List.flatMap_cons, List.flatMap_nil, List.append_nil, bls_app, List.length_append]
  simp only [lw_75, lw_70, lw_84, lw_78, cmd0, List.nil_append, bls_cons, bls_no, bls_sg, List.length_cons, List.length_append, List.length_nil]
  omega
theorem len_7 {vs : List Bs} (hx : ∀ x ∈ vs, x ≠ []) {q : Bool} {c : Cmd} (ht : takes (rwN 7) vs.length = true) (h : takeL (rwN 7) 0 (cmd0 8 q) vs = .inl c) (m : Nat) (hm : ∀ x, vs[3]? = some x → nb 2147483647 x = some m) :
    (bls ((dr 7).shape.flatMap (lw c m))).length ≤ (bls vs).length := by
  simp only [takes, show (rwN 7).wants.length = 4 from rfl, show (rwN 7).may.length = 0 from rfl, show (rwN 7).endless = false from rfl, Bool.and_eq_true, decide_eq_true_eq, Bool.or_eq_true, Bool.false_eq_true, false_or] at ht
  obtain ⟨x0, x1, x2, x3, rfl⟩ : ∃ x0 x1 x2 x3, vs = [x0, x1, x2, x3] := by
    match vs, ht with
    | [x0, x1, x2, x3], _ => exact ⟨x0, x1, x2, x3, rfl⟩
    | [], ht => simp at ht
    | [y0], ht => simp at ht
    | [y0, y1], ht => simp at ht
    | [y0, y1, y2], ht => simp at ht
    | y0 :: y1 :: y2 :: y3 :: y4 :: t, ht => simp at ht
  obtain ⟨e0, k0, h⟩ := takeL_cons h
  rw [show lett (rwN 7) 0 = 75 from rfl] at k0
  obtain rfl := inv_K k0
  obtain ⟨e1, k1, h⟩ := takeL_cons h
  rw [show lett (rwN 7) 1 = 70 from rfl] at k1
  obtain ⟨n1, l1, rfl⟩ := inv_F k1
  obtain ⟨e2, k2, h⟩ := takeL_cons h
  rw [show lett (rwN 7) 2 = 84 from rfl] at k2
  obtain ⟨n2, l2, rfl⟩ := inv_T (.inl rfl) k2
  obtain ⟨e3, k3, h⟩ := takeL_cons h
  rw [show lett (rwN 7) 3 = 78 from rfl] at k3
  obtain ⟨n3, l3, rfl⟩ := inv_N (.inl rfl) k3
  have hc := takeL_nil h
  subst hc
  have hmx := hm x3 rfl
  have hms := nb_short hmx
  simp only [show (dr 7).shape = [75, 70, 84, 78] from rfl, List.flatMap_cons, List.flatMap_nil, List.append_nil, bls_app, List.length_append]
  simp only [lw_75, lw_70, lw_84, lw_78, cmd0, List.nil_append, bls_cons, bls_no, bls_sg, List.length_cons, List.length_append, List.length_nil]
  omega
theorem len_8 {vs : List Bs} (hx : ∀ x ∈ vs, x ≠ []) {q : Bool} {c : Cmd} (ht : takes (rwN 8) vs.length = true) (h : takeL (rwN 8) 0 (cmd0 9 q) vs = .inl c) (m : Nat) (hm : ∀ x, vs[3]? = some x → nb 2147483647 x = some m) :
    (bls ((dr 8).shape.flatMap (lw c m))).length ≤ (bls vs).length := by
  simp only [takes, show (rwN 8).wants.length = 4 from rfl, show (rwN 8).may.length = 0 from rfl, show (rwN 8).endless = false from rfl, Bool.and_eq_true, decide_eq_true_eq, Bool.or_eq_true, Bool.false_eq_true, false_or] at ht
  obtain ⟨x0, x1, x2, x3, rfl⟩ : ∃ x0 x1 x2 x3, vs = [x0, x1, x2, x3] := by
    match vs, ht with
    | [x0, x1, x2, x3], _ => exact ⟨x0, x1, x2, x3, rfl⟩
    | [], ht => simp at ht
    | [y0], ht => simp at ht
    | [y0, y1], ht => simp at ht
    | [y0, y1, y2], ht => simp at ht
    | y0 :: y1 :: y2 :: y3 :: y4 :: t, ht => simp at ht
  obtain ⟨e0, k0, h⟩ := takeL_cons h
  rw [show lett (rwN 8) 0 = 75 from rfl] at k0
  obtain rfl := inv_K k0
  obtain ⟨e1, k1, h⟩ := takeL_cons h
  rw [show lett (rwN 8) 1 = 70 from rfl] at k1
  obtain ⟨n1, l1, rfl⟩ := inv_F k1
  obtain ⟨e2, k2, h⟩ := takeL_cons h
  rw [show lett (rwN 8) 2 = 84 from rfl] at k2
  obtain ⟨n2, l2, rfl⟩ := inv_T (.inl rfl) k2
  obtain ⟨e3, k3, h⟩ := takeL_cons h
  rw [show lett (rwN 8) 3 = 78 from rfl] at k3
  obtain ⟨n3, l3, rfl⟩ := inv_N (.inl rfl) k3
  have hc := takeL_nil h
  subst hc
  have hmx := hm x3 rfl
  have hms := nb_short hmx
  simp only [show (dr 8).shape = [75, 70, 84, 78] from rfl, List.flatMap_cons, List.flatMap_nil, List.append_nil, bls_app, List.length_append]
  simp only [lw_75, lw_70, lw_84, lw_78, cmd0, List.nil_append, bls_cons, bls_no, bls_sg, List.length_cons, List.length_append, List.length_nil]
  omega
theorem len_9 {vs : List Bs} (hx : ∀ x ∈ vs, x ≠ []) {q : Bool} {c : Cmd} (ht : takes (rwN 9) vs.length = true) (h : takeL (rwN 9) 0 (cmd0 10 q) vs = .inl c) (m : Nat) (hm : ∀ x, vs[3]? = some x → nb 2147483647 x = some m) :
    (bls ((dr 9).shape.flatMap (lw c m))).length ≤ (bls vs).length := by
  simp only [takes, show (rwN 9).wants.length = 5 from rfl, show (rwN 9).may.length = 0 from rfl, show (rwN 9).endless = false from rfl, Bool.and_eq_true, decide_eq_true_eq, Bool.or_eq_true, Bool.false_eq_true, false_or] at ht
  obtain ⟨x0, x1, x2, x3, x4, rfl⟩ : ∃ x0 x1 x2 x3 x4, vs = [x0, x1, x2, x3, x4] := by
    match vs, ht with
    | [x0, x1, x2, x3, x4], _ => exact ⟨x0, x1, x2, x3, x4, rfl⟩
    | [], ht => simp at ht
    | [y0], ht => simp at ht
    | [y0, y1], ht => simp at ht
    | [y0, y1, y2], ht => simp at ht
    | [y0, y1, y2, y3], ht => simp at ht
    | y0 :: y1 :: y2 :: y3 :: y4 :: y5 :: t, ht => simp at ht
  obtain ⟨e0, k0, h⟩ := takeL_cons h
  rw [show lett (rwN 9) 0 = 75 from rfl] at k0
  obtain rfl := inv_K k0
  obtain ⟨e1, k1, h⟩ := takeL_cons h
  rw [show lett (rwN 9) 1 = 70 from rfl] at k1
  obtain ⟨n1, l1, rfl⟩ := inv_F k1
  obtain ⟨e2, k2, h⟩ := takeL_cons h
  rw [show lett (rwN 9) 2 = 84 from rfl] at k2
  obtain ⟨n2, l2, rfl⟩ := inv_T (.inl rfl) k2
  obtain ⟨e3, k3, h⟩ := takeL_cons h
  rw [show lett (rwN 9) 3 = 78 from rfl] at k3
  obtain ⟨n3, l3, rfl⟩ := inv_N (.inl rfl) k3
  obtain ⟨e4, k4, h⟩ := takeL_cons h
  rw [show lett (rwN 9) 4 = 67 from rfl] at k4
  obtain ⟨n4, l4, rfl⟩ := inv_C k4
  have hc := takeL_nil h
  subst hc
  have hmx := hm x3 rfl
  have hms := nb_short hmx
  simp only [show (dr 9).shape = [75, 70, 84, 78, 67] from rfl, List.flatMap_cons, List.flatMap_nil, List.append_nil, bls_app, List.length_append]
  simp only [lw_75, lw_70, lw_84, lw_78, lw_67, cmd0, List.nil_append, bls_cons, bls_no, bls_sg, List.length_cons, List.length_append, List.length_nil]
  omega
theorem len_10 {vs : List Bs} (hx : ∀ x ∈ vs, x ≠ []) {q : Bool} {c : Cmd} (ht : takes (rwN 10) vs.length = true) (h : takeL (rwN 10) 0 (cmd0 11 q) vs = .inl c) (m : Nat) :
    (bls ((dr 10).shape.flatMap (lw c m))).length ≤ (bls vs).length := by
  simp only [takes, show (rwN 10).wants.length = 1 from rfl, show (rwN 10).may.length = 1 from rfl, show (rwN 10).endless = false from rfl, Bool.and_eq_true, decide_eq_true_eq, Bool.or_eq_true, Bool.false_eq_true, false_or] at ht
  match vs, ht, h, hx with
  | [x0], _, h, _ =>
    obtain ⟨e0, k0, h⟩ := takeL_cons h
    rw [show lett (rwN 10) 0 = 75 from rfl] at k0
    obtain rfl := inv_K k0
    have hc := takeL_nil h
    subst hc
    simp only [show (dr 10).shape = [75, 90] from rfl, List.flatMap_cons, List.flatMap_nil, List.append_nil, bls_app, List.length_append]
    simp only [lw_75, lw_90, cmd0, List.nil_append, bls_cons, bls_no, bls_sg, List.length_cons, List.length_append, List.length_nil]
    omega
  | [x0, x1], _, h, _ =>
    obtain ⟨e0, k0, h⟩ := takeL_cons h
    rw [show lett (rwN 10) 0 = 75 from rfl] at k0
    obtain rfl := inv_K k0
    obtain ⟨e1, k1, h⟩ := takeL_cons h
    rw [show lett (rwN 10) 1 = 48 from rfl] at k1
    obtain rfl := inv_Z k1
    have hc := takeL_nil h
    subst hc
    simp only [show (dr 10).shape = [75, 90] from rfl, List.flatMap_cons, List.flatMap_nil, List.append_nil, bls_app, List.length_append]
    simp only [lw_75, lw_90, cmd0, List.nil_append, bls_cons, bls_no, bls_sg, List.length_cons, List.length_append, List.length_nil]
    omega
  | [], ht, _, _ => simp at ht
  | y0 :: y1 :: y2 :: t, ht, _, _ => simp at ht
theorem len_11 {vs : List Bs} (hx : ∀ x ∈ vs, x ≠ []) {q : Bool} {c : Cmd} (ht : takes (rwN 11) vs.length = true) (h : takeL (rwN 11) 0 (cmd0 12 q) vs = .inl c) (m : Nat) :
    (bls ((dr 11).shape.flatMap (lw c m))).length ≤ (bls vs).length := by
  simp only [takes, show (rwN 11).wants.length = 2 from rfl, show (rwN 11).may.length = 0 from rfl, show (rwN 11).endless = false from rfl, Bool.and_eq_true, decide_eq_true_eq, Bool.or_eq_true, Bool.false_eq_true, false_or] at ht
  obtain ⟨x0, x1, rfl⟩ : ∃ x0 x1, vs = [x0, x1] := by
    match vs, ht with
    | [x0, x1], _ => exact ⟨x0, x1, rfl⟩
    | [], ht => simp at ht
    | [y0], ht => simp at ht
    | y0 :: y1 :: y2 :: t, ht => simp at ht
  obtain ⟨e0, k0, h⟩ := takeL_cons h
  rw [show lett (rwN 11) 0 = 75 from rfl] at k0
  obtain rfl := inv_K k0
  obtain ⟨e1, k1, h⟩ := takeL_cons h
  rw [show lett (rwN 11) 1 = 68 from rfl] at k1
  obtain ⟨n1, l1, rfl⟩ := inv_D k1
  have hc := takeL_nil h
  subst hc
  simp only [show (dr 11).shape = [75, 68] from rfl, List.flatMap_cons, List.flatMap_nil, List.append_nil, bls_app, List.length_append]
  simp only [lw_75, lw_68, cmd0, List.nil_append, bls_cons, bls_no, bls_sg, List.length_cons, List.length_append, List.length_nil]
  omega
theorem len_12 {vs : List Bs} (hx : ∀ x ∈ vs, x ≠ []) {q : Bool} {c : Cmd} (ht : takes (rwN 12) vs.length = true) (h : takeL (rwN 12) 0 (cmd0 13 q) vs = .inl c) (m : Nat) :
    (bls ((dr 12).shape.flatMap (lw c m))).length ≤ (bls vs).length := by
  simp only [takes, show (rwN 12).wants.length = 2 from rfl, show (rwN 12).may.length = 0 from rfl, show (rwN 12).endless = false from rfl, Bool.and_eq_true, decide_eq_true_eq, Bool.or_eq_true, Bool.false_eq_true, false_or] at ht
  obtain ⟨x0, x1, rfl⟩ : ∃ x0 x1, vs = [x0, x1] := by
    match vs, ht with
    | [x0, x1], _ => exact ⟨x0, x1, rfl⟩
    | [], ht => simp at ht
    | [y0], ht => simp at ht
    | y0 :: y1 :: y2 :: t, ht => simp at ht
  obtain ⟨e0, k0, h⟩ := takeL_cons h
  rw [show lett (rwN 12) 0 = 75 from rfl] at k0
  obtain rfl := inv_K k0
  obtain ⟨e1, k1, h⟩ := takeL_cons h
  rw [show lett (rwN 12) 1 = 68 from rfl] at k1
  obtain ⟨n1, l1, rfl⟩ := inv_D k1
  have hc := takeL_nil h
  subst hc
  simp only [show (dr 12).shape = [75, 68] from rfl, List.flatMap_cons, List.flatMap_nil, List.append_nil, bls_app, List.length_append]
  simp only [lw_75, lw_68, cmd0, List.nil_append, bls_cons, bls_no, bls_sg, List.length_cons, List.length_append, List.length_nil]
  omega
theorem len_13 {vs : List Bs} (hx : ∀ x ∈ vs, x ≠ []) {q : Bool} {c : Cmd} (ht : takes (rwN 13) vs.length = true) (h : takeL (rwN 13) 0 (cmd0 14 q) vs = .inl c) (m : Nat) :
    (bls ((dr 13).shape.flatMap (lw c m))).length ≤ (bls vs).length := by
  simp only [takes, show (rwN 13).wants.length = 2 from rfl, show (rwN 13).may.length = 0 from rfl, show (rwN 13).endless = false from rfl, Bool.and_eq_true, decide_eq_true_eq, Bool.or_eq_true, Bool.false_eq_true, false_or] at ht
  obtain ⟨x0, x1, rfl⟩ : ∃ x0 x1, vs = [x0, x1] := by
    match vs, ht with
    | [x0, x1], _ => exact ⟨x0, x1, rfl⟩
    | [], ht => simp at ht
    | [y0], ht => simp at ht
    | y0 :: y1 :: y2 :: t, ht => simp at ht
  obtain ⟨e0, k0, h⟩ := takeL_cons h
  rw [show lett (rwN 13) 0 = 75 from rfl] at k0
  obtain rfl := inv_K k0
  obtain ⟨e1, k1, h⟩ := takeL_cons h
  rw [show lett (rwN 13) 1 = 84 from rfl] at k1
  obtain ⟨n1, l1, rfl⟩ := inv_T (.inl rfl) k1
  have hc := takeL_nil h
  subst hc
  simp only [show (dr 13).shape = [75, 84] from rfl, List.flatMap_cons, List.flatMap_nil, List.append_nil, bls_app, List.length_append]
  simp only [lw_75, lw_84, cmd0, List.nil_append, bls_cons, bls_no, bls_sg, List.length_cons, List.length_append, List.length_nil]
  omega
theorem len_14 {vs : List Bs} (hx : ∀ x ∈ vs, x ≠ []) {q : Bool} {c : Cmd} (ht : takes (rwN 14) vs.length = true) (h : takeL (rwN 14) 0 (cmd0 15 q) vs = .inl c) (m : Nat) :
    (bls ((dr 14).shape.flatMap (lw c m))).length ≤ (bls vs).length := by
  simp only [takes, show (rwN 14).wants.length = 0 from rfl, show (rwN 14).may.length = 1 from rfl, show (rwN 14).endless = false from rfl, Bool.and_eq_true, decide_eq_true_eq, Bool.or_eq_true, Bool.false_eq_true, false_or] at ht
  match vs, ht, h, hx with
  | [], _, h, _ =>
    have hc := takeL_nil h
    subst hc
    simp only [show (dr 14).shape = [83] from rfl, List.flatMap_cons, List.flatMap_nil, List.append_nil, bls_app, List.length_append]
    simp only [lw_83, cmd0, List.nil_append, bls_cons, bls_no, bls_sg, List.length_cons, List.length_append, List.length_nil]
    simp [bls]
  | [x0], _, h, _ =>
    obtain ⟨e0, k0, h⟩ := takeL_cons h
    rw [show lett (rwN 14) 0 = 76 from rfl] at k0
    obtain ⟨n0, l0, rfl⟩ := inv_T (.inr rfl) k0
    have hc := takeL_nil h
    subst hc
    simp only [show (dr 14).shape = [83] from rfl, List.flatMap_cons, List.flatMap_nil, List.append_nil, bls_app, List.length_append]
    simp only [lw_83, cmd0, List.nil_append, bls_cons, bls_no, bls_sg, List.length_cons, List.length_append, List.length_nil]
    split
    · simp [bls]
    · simp only [bls_sg, List.length_cons]
      omega
  | y0 :: y1 :: t, ht, _, _ => simp at ht
theorem len_15 {vs : List Bs} (hx : ∀ x ∈ vs, x ≠ []) {q : Bool} {c : Cmd} (ht : takes (rwN 15) vs.length = true) (h : takeL (rwN 15) 0 (cmd0 16 q) vs = .inl c) (m : Nat) :
    (bls ((dr 15).shape.flatMap (lw c m))).length ≤ (bls vs).length := by
  simp only [takes, show (rwN 15).wants.length = 0 from rfl, show (rwN 15).may.length = 0 from rfl, show (rwN 15).endless = false from rfl, Bool.and_eq_true, decide_eq_true_eq, Bool.or_eq_true, Bool.false_eq_true, false_or] at ht
  obtain rfl : vs = [] := by
    match vs, ht with
    | [], _ => exact rfl
    | y0 :: t, ht => simp at ht
  have hc := takeL_nil h
  subst hc
  simp only [show (dr 15).shape = [] from rfl, List.flatMap_cons, List.flatMap_nil, List.append_nil, bls_app, List.length_append]
  simp [bls]
theorem len_16 {vs : List Bs} (hx : ∀ x ∈ vs, x ≠ []) {q : Bool} {c : Cmd} (ht : takes (rwN 16) vs.length = true) (h : takeL (rwN 16) 0 (cmd0 17 q) vs = .inl c) (m : Nat) :
    (bls ((dr 16).shape.flatMap (lw c m))).length ≤ (bls vs).length := by
  simp only [takes, show (rwN 16).wants.length = 1 from rfl, show (rwN 16).may.length = 0 from rfl, show (rwN 16).endless = false from rfl, Bool.and_eq_true, decide_eq_true_eq, Bool.or_eq_true, Bool.false_eq_true, false_or] at ht
  obtain ⟨x0, rfl⟩ : ∃ x0, vs = [x0] := by
    match vs, ht with
    | [x0], _ => exact ⟨x0, rfl⟩
    | [], ht => simp at ht
    | y0 :: y1 :: t, ht => simp at ht
  obtain ⟨e0, k0, h⟩ := takeL_cons h
  rw [show lett (rwN 16) 0 = 86 from rfl] at k0
  obtain ⟨n0, l0, rfl⟩ := inv_N (.inr rfl) k0
  have hc := takeL_nil h
  subst hc
  simp only [show (dr 16).shape = [86] from rfl, List.flatMap_cons, List.flatMap_nil, List.append_nil, bls_app, List.length_append]
  simp only [lw_86, cmd0, List.nil_append, bls_cons, bls_no, bls_sg, List.length_cons, List.length_append, List.length_nil]
  have hx0 := List.length_pos_iff.2 (hx x0 (by simp))
  omega
theorem len_17 {vs : List Bs} (hx : ∀ x ∈ vs, x ≠ []) {q : Bool} {c : Cmd} (ht : takes (rwN 17) vs.length = true) (h : takeL (rwN 17) 0 (cmd0 18 q) vs = .inl c) (m : Nat) :
    (bls ((dr 17).shape.flatMap (lw c m))).length ≤ (bls vs).length := by
  simp only [takes, show (rwN 17).wants.length = 0 from rfl, show (rwN 17).may.length = 0 from rfl, show (rwN 17).endless = false from rfl, Bool.and_eq_true, decide_eq_true_eq, Bool.or_eq_true, Bool.false_eq_true, false_or] at ht
  obtain rfl : vs = [] := by
    match vs, ht with
    | [], _ => exact rfl
    | y0 :: t, ht => simp at ht
  have hc := takeL_nil h
  subst hc
  simp only [show (dr 17).shape = [] from rfl, List.flatMap_cons, List.flatMap_nil, List.append_nil, bls_app, List.length_append]
  simp [bls]
theorem len_18 {vs : List Bs} (hx : ∀ x ∈ vs, x ≠ []) {q : Bool} {c : Cmd} (ht : takes (rwN 18) vs.length = true) (h : takeL (rwN 18) 0 (cmd0 19 q) vs = .inl c) (m : Nat) :
    (bls ((dr 18).shape.flatMap (lw c m))).length ≤ (bls vs).length := by
  simp only [takes, show (rwN 18).wants.length = 0 from rfl, show (rwN 18).may.length = 1 from rfl, show (rwN 18).endless = false from rfl, Bool.and_eq_true, decide_eq_true_eq, Bool.or_eq_true, Bool.false_eq_true, false_or] at ht
  match vs, ht, h, hx with
  | [], _, h, _ =>
    have hc := takeL_nil h
    subst hc
    simp only [show (dr 18).shape = [87] from rfl, List.flatMap_cons, List.flatMap_nil, List.append_nil, bls_app, List.length_append]
    simp only [lw_87, cmd0, List.nil_append, bls_cons, bls_no, bls_sg, List.length_cons, List.length_append, List.length_nil]
    simp [bls]
  | [x0], _, h, _ =>
    obtain ⟨e0, k0, h⟩ := takeL_cons h
    rw [show lett (rwN 18) 0 = 87 from rfl] at k0
    obtain ⟨hw0, rfl⟩ := inv_W k0
    have hc := takeL_nil h
    subst hc
    simp only [show (dr 18).shape = [87] from rfl, List.flatMap_cons, List.flatMap_nil, List.append_nil, bls_app, List.length_append]
    simp only [lw_87, cmd0, List.nil_append, bls_cons, bls_no, bls_sg, List.length_cons, List.length_append, List.length_nil]
    subst hw0
    decide
  | y0 :: y1 :: t, ht, _, _ => simp at ht
theorem len_19 {vs : List Bs} (hx : ∀ x ∈ vs, x ≠ []) {q : Bool} {c : Cmd} (ht : takes (rwN 19) vs.length = true) (h : takeL (rwN 19) 0 (cmd0 20 q) vs = .inl c) (m : Nat) :
    (bls ((dr 19).shape.flatMap (lw c m))).length ≤ (bls vs).length := by
  simp only [takes, show (rwN 19).wants.length = 1 from rfl, show (rwN 19).may.length = 1 from rfl, show (rwN 19).endless = true from rfl, Bool.and_eq_true, decide_eq_true_eq, Bool.or_eq_true, Bool.false_eq_true, false_or] at ht
  obtain ⟨x0, ts, rfl⟩ : ∃ x0 ts, vs = x0 :: ts := by
    match vs, ht with
    | x0 :: ts, _ => exact ⟨x0, ts, rfl⟩
    | [], ht => simp at ht
  obtain ⟨e0, k0, h⟩ := takeL_cons h
  rw [show lett (rwN 19) 0 = 75 from rfl] at k0
  obtain rfl := inv_K k0
  have hl : ∀ k, 1 ≤ k → lett (rwN 19) k = 77 := by
    intro k hk
    unfold lett
    rw [show (rwN 19).wants ++ (rwN 19).may = [75, 77] from rfl]
    rw [show min k (([75, 77] : Bs).length - 1) = 1 by simp; omega]
    rfl
  obtain ⟨fs, hfs, hc⟩ := inv_Ms (fun x hx2 => hx x (by simp [hx2])) hl h
  subst hc
  subst hfs
  simp only [show (dr 19).shape = [75, 71] from rfl, List.flatMap_cons, List.flatMap_nil, List.append_nil, bls_app, List.length_append]
  simp only [lw_75, lw_71, cmd0, List.nil_append, bls_cons, bls_no, bls_sg, List.length_cons, List.length_append, List.length_nil]
  try omega
theorem len_20 {vs : List Bs} (hx : ∀ x ∈ vs, x ≠ []) {q : Bool} {c : Cmd} (ht : takes (rwN 20) vs.length = true) (h : takeL (rwN 20) 0 (cmd0 21 q) vs = .inl c) (m : Nat) (hm : ∀ x, vs[1]? = some x → nb 2147483647 x = some m) :
    (bls ((dr 20).shape.flatMap (lw c m))).length ≤ (bls vs).length := by
  simp only [takes, show (rwN 20).wants.length = 2 from rfl, show (rwN 20).may.length = 1 from rfl, show (rwN 20).endless = true from rfl, Bool.and_eq_true, decide_eq_true_eq, Bool.or_eq_true, Bool.false_eq_true, false_or] at ht
  obtain ⟨x0, x1, ts, rfl⟩ : ∃ x0 x1 ts, vs = x0 :: x1 :: ts := by
    match vs, ht with
    | x0 :: x1 :: ts, _ => exact ⟨x0, x1, ts, rfl⟩
    | [], ht => simp at ht
    | [y0], ht => simp at ht
  obtain ⟨e0, k0, h⟩ := takeL_cons h
  rw [show lett (rwN 20) 0 = 75 from rfl] at k0
  obtain rfl := inv_K k0
  obtain ⟨e1, k1, h⟩ := takeL_cons h
  rw [show lett (rwN 20) 1 = 78 from rfl] at k1
  obtain ⟨n1, l1, rfl⟩ := inv_N (.inl rfl) k1
  have hl : ∀ k, 2 ≤ k → lett (rwN 20) k = 77 := by
    intro k hk
    unfold lett
    rw [show (rwN 20).wants ++ (rwN 20).may = [75, 78, 77] from rfl]
    rw [show min k (([75, 78, 77] : Bs).length - 1) = 2 by simp; omega]
    rfl
  obtain ⟨fs, hfs, hc⟩ := inv_Ms (fun x hx2 => hx x (by simp [hx2])) hl h
  subst hc
  subst hfs
  have hmx := hm x1 rfl
  have hms := nb_short hmx
  simp only [show (dr 20).shape = [75, 78, 71] from rfl, List.flatMap_cons, List.flatMap_nil, List.append_nil, bls_app, List.length_append]
  simp only [lw_75, lw_78, lw_71, cmd0, List.nil_append, bls_cons, bls_no, bls_sg, List.length_cons, List.length_append, List.length_nil]
  try omega
theorem len_21 {vs : List Bs} (hx : ∀ x ∈ vs, x ≠ []) {q : Bool} {c : Cmd} (ht : takes (rwN 21) vs.length = true) (h : takeL (rwN 21) 0 (cmd0 22 q) vs = .inl c) (m : Nat) :
    (bls ((dr 21).shape.flatMap (lw c m))).length ≤ (bls vs).length := by
  simp only [takes, show (rwN 21).wants.length = 1 from rfl, show (rwN 21).may.length = 1 from rfl, show (rwN 21).endless = true from rfl, Bool.and_eq_true, decide_eq_true_eq, Bool.or_eq_true, Bool.false_eq_true, false_or] at ht
  obtain ⟨x0, ts, rfl⟩ : ∃ x0 ts, vs = x0 :: ts := by
    match vs, ht with
    | x0 :: ts, _ => exact ⟨x0, ts, rfl⟩
    | [], ht => simp at ht
  obtain ⟨e0, k0, h⟩ := takeL_cons h
  rw [show lett (rwN 21) 0 = 75 from rfl] at k0
  obtain rfl := inv_K k0
  have hl : ∀ k, 1 ≤ k → lett (rwN 21) k = 77 := by
    intro k hk
    unfold lett
    rw [show (rwN 21).wants ++ (rwN 21).may = [75, 77] from rfl]
    rw [show min k (([75, 77] : Bs).length - 1) = 1 by simp; omega]
    rfl
  obtain ⟨fs, hfs, hc⟩ := inv_Ms (fun x hx2 => hx x (by simp [hx2])) hl h
  subst hc
  subst hfs
  simp only [show (dr 21).shape = [75, 71] from rfl, List.flatMap_cons, List.flatMap_nil, List.append_nil, bls_app, List.length_append]
  simp only [lw_75, lw_71, cmd0, List.nil_append, bls_cons, bls_no, bls_sg, List.length_cons, List.length_append, List.length_nil]
  try omega
theorem len_22 {vs : List Bs} (hx : ∀ x ∈ vs, x ≠ []) {q : Bool} {c : Cmd} (ht : takes (rwN 22) vs.length = true) (h : takeL (rwN 22) 0 (cmd0 23 q) vs = .inl c) (m : Nat) :
    (bls ((dr 22).shape.flatMap (lw c m))).length ≤ (bls vs).length := by
  simp only [takes, show (rwN 22).wants.length = 1 from rfl, show (rwN 22).may.length = 1 from rfl, show (rwN 22).endless = true from rfl, Bool.and_eq_true, decide_eq_true_eq, Bool.or_eq_true, Bool.false_eq_true, false_or] at ht
  obtain ⟨x0, ts, rfl⟩ : ∃ x0 ts, vs = x0 :: ts := by
    match vs, ht with
    | x0 :: ts, _ => exact ⟨x0, ts, rfl⟩
    | [], ht => simp at ht
  obtain ⟨e0, k0, h⟩ := takeL_cons h
  rw [show lett (rwN 22) 0 = 75 from rfl] at k0
  obtain rfl := inv_K k0
  have hl : ∀ k, 1 ≤ k → lett (rwN 22) k = 77 := by
    intro k hk
    unfold lett
    rw [show (rwN 22).wants ++ (rwN 22).may = [75, 77] from rfl]
    rw [show min k (([75, 77] : Bs).length - 1) = 1 by simp; omega]
    rfl
  obtain ⟨fs, hfs, hc⟩ := inv_Ms (fun x hx2 => hx x (by simp [hx2])) hl h
  subst hc
  subst hfs
  simp only [show (dr 22).shape = [75, 71] from rfl, List.flatMap_cons, List.flatMap_nil, List.append_nil, bls_app, List.length_append]
  simp only [lw_75, lw_71, cmd0, List.nil_append, bls_cons, bls_no, bls_sg, List.length_cons, List.length_append, List.length_nil]
  try omega
theorem len_23 {vs : List Bs} (hx : ∀ x ∈ vs, x ≠ []) {q : Bool} {c : Cmd} (ht : takes (rwN 23) vs.length = true) (h : takeL (rwN 23) 0 (cmd0 24 q) vs = .inl c) (m : Nat) :
    (bls ((dr 23).shape.flatMap (lw c m))).length ≤ (bls vs).length := by
  simp only [takes, show (rwN 23).wants.length = 0 from rfl, show (rwN 23).may.length = 0 from rfl, show (rwN 23).endless = false from rfl, Bool.and_eq_true, decide_eq_true_eq, Bool.or_eq_true, Bool.false_eq_true, false_or] at ht
  obtain rfl : vs = [] := by
    match vs, ht with
    | [], _ => exact rfl
    | y0 :: t, ht => simp at ht
  have hc := takeL_nil h
  subst hc
  simp only [show (dr 23).shape = [] from rfl, List.flatMap_cons, List.flatMap_nil, List.append_nil, bls_app, List.length_append]
  simp [bls]
theorem nr_take1 {c d : Cmd} {a : UInt8} {x : Bs} (h : take1 c a x = .inl d) : d.nr = c.nr := by
  unfold take1 at h
  repeat' split at h
  all_goals first
    | (cases h; done)
    | (injection h with h; subst h; rfl)
theorem nr_takeL {r : Rw} : ∀ {vs : List Bs} {j : Nat} {c d : Cmd}, takeL r j c vs = .inl d → d.nr = c.nr
  | [], j, c, d, h => by rw [← takeL_nil h]
  | x :: t, j, c, d, h => by
    obtain ⟨e, h1, h2⟩ := takeL_cons h
    rw [nr_takeL h2, nr_take1 h1]
theorem lookup_mem2 {x : Bs} {r : Rw} : ∀ {l : List (Bs × Rw)}, l.lookup x = some r → ∃ p ∈ l, p.1 = x ∧ p.2 = r
  | [], h => by cases h
  | (y, s) :: l, h => by
    rw [List.lookup_cons] at h
    split at h
    · next hy =>
      injection h with h
      exact ⟨_, List.mem_cons_self, (beq_iff_eq.1 hy).symm, h⟩
    · obtain ⟨p, h1, h2⟩ := lookup_mem2 h
      exact ⟨p, List.mem_cons_of_mem _ h1, h2⟩
theorem row_len {i : Nat} (hi : i < 24) {vs : List Bs} (hx : ∀ x ∈ vs, x ≠ []) {q : Bool} {c : Cmd} (ht : takes (rwN i) vs.length = true) (h : takeL (rwN i) 0 (cmd0 ((i : Int) + 1) q) vs = .inl c) (m : Nat) (hm : ∀ k x, (rwN i).wants.idxOf? 78 = some k → vs[k]? = some x → nb 2147483647 x = some m) :
    (bls ((dr i).shape.flatMap (lw c m))).length ≤ (bls vs).length := by
  have hd : i = 0 ∨ i = 1 ∨ i = 2 ∨ i = 3 ∨ i = 4 ∨ i = 5 ∨ i = 6 ∨ i = 7 ∨ i = 8 ∨ i = 9 ∨ i = 10 ∨ i = 11 ∨ i = 12 ∨ i = 13 ∨ i = 14 ∨ i = 15 ∨ i = 16 ∨ i = 17 ∨ i = 18 ∨ i = 19 ∨ i = 20 ∨ i = 21 ∨ i = 22 ∨ i = 23 := by omega
  rcases hd with rfl | rfl | rfl | rfl | rfl | rfl | rfl | rfl | rfl | rfl | rfl | rfl | rfl | rfl | rfl | rfl | rfl | rfl | rfl | rfl | rfl | rfl | rfl | rfl
  · exact len_0 hx ht h m
  · exact len_1 hx ht h m
  · exact len_2 hx ht h m
  · exact len_3 hx ht h m
  · exact len_4 hx ht h m (fun x hx2 => hm 3 x rfl hx2)
  · exact len_5 hx ht h m (fun x hx2 => hm 3 x rfl hx2)
  · exact len_6 hx ht h m (fun x hx2 => hm 3 x rfl hx2)
  · exact len_7 hx ht h m (fun x hx2 => hm 3 x rfl hx2)
  · exact len_8 hx ht h m (fun x hx2 => hm 3 x rfl hx2)
  · exact len_9 hx ht h m (fun x hx2 => hm 3 x rfl hx2)
  · exact len_10 hx ht h m
  · exact len_11 hx ht h m
  · exact len_12 hx ht h m
  · exact len_13 hx ht h m
  · exact len_14 hx ht h m
  · exact len_15 hx ht h m
  · exact len_16 hx ht h m
  · exact len_17 hx ht h m
  · exact len_18 hx ht h m
  · exact len_19 hx ht h m
  · exact len_20 hx ht h m (fun x hx2 => hm 1 x rfl hx2)
  · exact len_21 hx ht h m
  · exact len_22 hx ht h m
  · exact len_23 hx ht h m
theorem told_len {l : Bs} {c : Cmd} {n : Int} (h : lineS l = .inl (c, n)) {i : Nat} (hi : i < 24) (hv : c.verb = (i : Int) + 1) {m : Nat} (hm : (m : Int) = max n 0) : (lnB i c m).length ≤ l.length := by
  unfold lineS at h
  split at h
  · cases h
  split at h
  · cases h
  rename_i x ws hs
  split at h
  · cases h
  rename_i r hr
  split at h
  · rename_i d hd
    cases h
    have hne : ∀ y ∈ ws, y ≠ [] := fun y hy => spl_ne l [] y (by rw [hs]; simp [hy])
    obtain ⟨j, hj, rfl⟩ := rowS_in hr
    obtain ⟨h1, _⟩ := told_read hj hne hd
    have e : j = i := by omega
    subst e
    obtain ⟨p, hp, hp1, hp2⟩ := lookup_mem2 hr
    have hsp : ∀ p ∈ rowL, p.1 = spn (p.2.verb - 1).toNat := by decide
    have hvb : ∀ j, j < 24 → (rwN j).verb = (j : Int) + 1 := by decide
    have hxs : x = spn j := by
      have := hsp p hp
      rw [hp1, hp2, hvb j hj] at this
      rw [this]
      congr 1
      omega
    have hsum := spl_sum l []
    rw [hs, bls_cons] at hsum
    simp only [List.length_cons, List.length_append, List.length_nil] at hsum
    unfold readS at hd
    simp only at hd
    rw [hvb j hj] at hd
    obtain ⟨q, hq⟩ : ∃ q, qt (rwN j) ws = q := ⟨_, rfl⟩
    rw [hq] at hd
    obtain ⟨vs, hvs⟩ : ∃ vs, (if q = true then ws.dropLast else ws) = vs := ⟨_, rfl⟩
    rw [hvs] at hd
    split at hd
    · next ht =>
      have htl : takeL (rwN j) 0 (cmd0 ((j : Int) + 1) q) vs = .inl c := by
        revert hd
        generalize takeL (rwN j) 0 (cmd0 ((j : Int) + 1) q) vs = z
        intro hd
        rcases z with e | e
        · simp only [fin] at hd
          split at hd
          · injection hd with hd
            rw [hd]
          · cases hd
        · simp [fin] at hd
      have hnr : c.nr = q := (nr_takeL htl).trans rfl
      have hsub : ∀ (k : Nat) (y : Bs), vs[k]? = some y → ws[k]? = some y := by
        intro k y hk
        rw [← hvs] at hk
        split at hk
        · rw [List.dropLast_eq_take, List.getElem?_take] at hk
          split at hk
          · exact hk
          · cases hk
        · exact hk
      have hvx : ∀ y ∈ vs, y ≠ [] := fun y hy => by
        obtain ⟨k, hk⟩ := List.mem_iff_getElem?.1 hy
        exact hne y (List.mem_of_getElem? (hsub k y hk))
      have hmm : ∀ k y, (rwN j).wants.idxOf? 78 = some k → vs[k]? = some y → nb 2147483647 y = some m := by
        intro k y hk hy
        have hL : ∀ j, j < 24 → ∀ k, (rwN j).wants.idxOf? 78 = some k → (rwN j).wants ++ (rwN j).may ≠ [] ∧ lett (rwN j) k = 78 := by
          have : ∀ j, j < 24 → ∀ k, k < 6 → (rwN j).wants.idxOf? 78 = some k → (rwN j).wants ++ (rwN j).may ≠ [] ∧ lett (rwN j) k = 78 := by decide
          have hw : ∀ j, j < 24 → (rwN j).wants.length < 6 := by decide
          intro j hj k hk
          refine this j hj k ?_ hk
          have := hw j hj
          have := (List.idxOf?_eq_some_iff.1 hk).1
          omega
        obtain ⟨l1, l2⟩ := hL j hj k hk
        obtain ⟨_, _, _, _, _, _, h7⟩ := tk_all (rwN j) l1 vs 0 _ c (tk_0 _ _ _) hvx htl
        have hs7 := h7 k y hy (by rw [Nat.zero_add]; exact l2)
        obtain ⟨v, hv7⟩ := Option.isSome_iff_exists.1 hs7
        unfold passS at hm
        rw [hk] at hm
        simp only [hsub k y hy, hv7] at hm
        rw [hv7]
        congr 1
        omega
      have hrow := row_len hj hvx ht htl m hmm
      unfold lnB lws
      rw [bls_app, List.length_append, List.length_append, hnr, ← hxs]
      cases q with
      | false =>
        simp only [Bool.false_eq_true, if_false] at hvs
        subst hvs
        simp only [nrW, Bool.false_eq_true, if_false, bls_no, List.length_nil]
        omega
      | true =>
        simp only [if_true] at hvs
        have hlast : ws.getLast? = some noreply := by
          unfold qt at hq
          simp only [Bool.and_eq_true, decide_eq_true_eq] at hq
          exact hq.2.2
        have hws : ws = vs ++ [noreply] := by
          obtain ⟨ys, hys⟩ := List.getLast?_eq_some_iff.1 hlast
          rw [← hvs, hys, List.dropLast_concat]
        rw [hws, bls_app, List.length_append] at hsum
        simp only [nrW, if_true]
        omega
    · cases hd
  · cases h
theorem told_mayX {l : Bs} {c : Cmd} {n : Int} (h : lineS l = .inl (c, n)) {d : Bs} (hd : (d.length : Int) = max n 0) (kv dv mv : Value) : mayX ⟨c, d, false, kv, dv, mv⟩ = true := by
  obtain ⟨_, h1, h2⟩ := lineS_rng h
  have hv : c.verb = (((c.verb - 1).toNat : Nat) : Int) + 1 := by omega
  unfold mayX
  rw [Bool.and_eq_true, decide_eq_true_eq]
  refine ⟨⟨h1, h2⟩, (mayB_iff hv).2 ⟨rfl, (told_may h (by omega) hv hd).1, ?_⟩⟩
  exact Nat.le_trans (told_len h (by omega) hv hd) (lineS_ok h).1
end Go.Proofs.YtbbocbdoiealoaaGreatDoor

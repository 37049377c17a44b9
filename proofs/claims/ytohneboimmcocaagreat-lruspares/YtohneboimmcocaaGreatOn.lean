import Derived.Test.YtohneboimmcocaaGreatHa
import Derived.Test.YtohneboimmcocaaGreatOl
import Derived.Test.YtohneboimmcocaaGreatOk
import Derived.Test.YtohneboimmcocaaGreatOm
/-
  LruSpares: who is dead; what is seen.
-/
namespace Go.Proofs.YtohneboimmcocaaGreat
open Go.RowKit
set_option linter.unusedVariables false

/-- Dead by the place in the row. -/
def dq (Df : Nat → Bool) (nd H : Nat) : Nat → List Nat → Bool
  | _, [] => false
  | i, x :: l => if nd ≤ i then false else if x = H then Df i else dq Df nd H (i + 1) l
theorem dq_full (Df : Nat → Bool) (nd H : Nat) {i : Nat} (h : nd ≤ i) (l : List Nat) : dq Df nd H i l = false := by
  cases l with
  | nil => rfl
  | cons x l => rw [dq, if_pos h]
/-- What the closure reads. -/
structure DR (W : World) (kr kx : Nat) (ra da : Option Addr) (R : List Nat) (rc nd dc : Nat) (Df : Nat → Bool) : Prop where
  r : W.cell? ⟨kr, 0, none⟩ = some (.slice ra R.length rc)
  x : W.cell? ⟨kx, 6, none⟩ = some (.slice da nd dc)
  rr : ∀ i (h : i < R.length), ∃ g, ra = some ⟨g, 0, none⟩ ∧ W.cell? ⟨g, i, none⟩ = some (.int .u64 (R[i] : Nat))
  dr : ∀ i, i < nd → ∃ b o, da = some ⟨b, o, none⟩ ∧ W.cell? ⟨b, o + i, none⟩ = some (.bool (Df i))
theorem DR.same {W W' : World} {kr kx : Nat} {ra da : Option Addr} {R : List Nat} {rc nd dc : Nat} {Df : Nat → Bool} (h : DR W kr kx ra da R rc nd dc Df) (hc : ∀ p v, W.cell? p = some v → W'.cell? p = some v) : DR W' kr kx ra da R rc nd dc Df :=
  ⟨hc _ _ h.r, hc _ _ h.x, fun i hi => by obtain ⟨g, e1, e2⟩ := h.rr i hi; exact ⟨g, e1, hc _ _ e2⟩, fun i hi => by obtain ⟨b, o, e1, e2⟩ := h.dr i hi; exact ⟨b, o, e1, hc _ _ e2⟩⟩
set_option maxRecDepth 100000 in
set_option maxHeartbeats 1000000 in
theorem dead_37 {W : World} {kr kx : Nat} {ra da : Option Addr} {R : List Nat} {rc nd dc : Nat} {Df : Nat → Bool} (h : DR W kr kx ra da R rc nd dc Df) (hR : R.length ≤ 5000) (hd : nd ≤ 9223372036854775807) (H : Nat) :
    Calls Tryz.prog 37 #[.int .u64 H, .pointer (some ⟨kr, 0, none⟩), .pointer (some ⟨kx, 0, none⟩)] W fun y w' => y = .returned (.bool (dq Df nd H 0 R)) ∧ W.grownBy w' none := by
  have c1 := h.r
  have c2 := h.x
  have h1 := h.rr
  have h2 := h.dr
  have hst : ∀ i (hi : i < R.length), dq Df nd H i (R.drop i) = if nd ≤ i then false else if R[i] = H then Df i else dq Df nd H (i + 1) (R.drop (i + 1)) := fun i hi => by
    rw [List.drop_eq_getElem_cons hi, dq]
  have hen : dq Df nd H R.length (R.drop R.length) = false := by simp [dq]
  have hfu : ∀ i, nd ≤ i → dq Df nd H i (R.drop i) = false := fun i hi => dq_full Df nd H hi _
  obtain ⟨Q, hQ⟩ : ∃ Q : Nat → Bool, ∀ i, dq Df nd H i (R.drop i) = Q i := ⟨_, fun _ => rfl⟩
  have hQ0 : dq Df nd H 0 R = Q 0 := by rw [← hQ 0]; rfl
  rw [hQ0]
  simp only [hQ] at hst hen hfu
  have hcell : ∀ i, i < R.length → ∃ v g : Nat, ra = some ⟨g, 0, none⟩ ∧ W.cell? ⟨g, i, none⟩ = some (.int .u64 v) ∧ Q i = if nd ≤ i then false else if v = H then Df i else Q (i + 1) := fun i hi => by
    obtain ⟨g, e1, e2⟩ := h1 i hi
    exact ⟨R[i], g, e1, e2, hst i hi⟩
  clear h h1 hst hQ hQ0
  generalize R.length = ln at *
  go_enter Tryz.func37, Tryz.ntmps37
  go_wp2
  go_loopw [5] (fun iv wr => ∃ i : Nat, i ≤ ln ∧ iv = .int .i64 i ∧ Hid (Q 0 = Q i) ∧ W.grownBy wr none) (fun iv _ => ln - (intOf iv).toNat)
  case atStart => exact ⟨0, by omega, rfl, rfl, gb_refl _ _⟩
  case round =>
    obtain ⟨i, hi, rfl, hE, hg⟩ := hrel
    have d1 := gb_cellN hg c1
    have d2 := gb_cellN hg c2
    by_cases hlt : i < ln
    · have e1 : decide ((i : Int) < ln) = true := decide_eq_true (by omega)
      have e1' : (i : Int) < ln := by omega
      obtain ⟨v, g, rfl, cv, hq⟩ := hcell i hlt
      have cv' := gb_cellN hg cv
      by_cases hnd : nd ≤ i
      · have e2 : decide ((i : Int) < nd) = false := decide_eq_false (by omega)
        have e2' : ¬ (i : Int) < nd := by omega
        rw [if_pos hnd] at hq
        have HQ : Hid (Q 0 = false) := by show _ = _; rw [hE.out]; exact hq
        clear hcell h2 hen hfu hq hE
        go_wp2
        go_ret
        exact ⟨by rw [HQ.out]; rfl, hg⟩
      · have e2 : decide ((i : Int) < nd) = true := decide_eq_true (by omega)
        have e2' : (i : Int) < nd := by omega
        rw [if_neg hnd] at hq
        obtain ⟨b, o, rfl, cd⟩ := h2 i (by omega)
        have cd' := gb_cellN hg cd
        by_cases hv : v = H
        · rw [if_pos hv] at hq
          have HQ : Hid (Q 0 = Df i) := by show _ = _; rw [hE.out]; exact hq
          subst hv
          clear hcell h2 hen hfu hq hE
          go_wp2
          go_ret
          exact ⟨by rw [HQ.out]; rfl, hg⟩
        · rw [if_neg hv] at hq
          have hv' : ¬ (v : Int) = (H : Int) := by omega
          have HQ : Hid (Q 0 = Q (i + 1)) := by show _ = _; rw [hE.out]; exact hq
          clear hcell h2 hen hfu hq hE
          go_wp2
          exact ⟨⟨i + 1, by omega, by go_num, HQ, hg⟩, by simp [intOf]; omega⟩
    · obtain rfl : i = ln := by omega
      have e1 : decide ((i : Int) < i) = false := decide_eq_false (by omega)
      have HQ : Hid (Q 0 = false) := by show _ = _; rw [hE.out]; exact hen
      clear hcell h2 hen hfu hE
      go_wp2
      go_ret
      exact ⟨by rw [HQ.out]; rfl, hg⟩
end Go.Proofs.YtohneboimmcocaaGreat
/-
  LruSpares: what is seen, and whom Pick names (pure).
-/
namespace Go.Proofs.YtohneboimmcocaaGreat
set_option linter.unusedVariables false

/-- What the law sees. -/
def snf (own : Nat) (looks : Int) (dd : Nat → Bool) : List Nat → List Nat → List Nat
  | [], acc => acc
  | x :: l, acc => if looks ≤ (acc.length : Int) ∨ (acc ≠ [] ∧ dd (acc.getLastD 0) = true) then acc else if x = own then snf own looks dd l acc else snf own looks dd l (acc ++ [x])
/-- The first that is not active, else the first. -/
def cf (mk : Nat → Nat) : List Nat → Option Nat
  | [] => none
  | x :: l => if mk x % 2 = 1 then cf mk l else some x
def nmd (mk : Nat → Nat) (l : List Nat) : Nat := (cf mk l).getD (l.headD 0)
theorem cf_snoc (mk : Nat → Nat) : ∀ (l : List Nat) (x : Nat), cf mk (l ++ [x]) = match cf mk l with | some y => some y | none => if mk x % 2 = 1 then none else some x
  | [], x => by simp [cf]
  | y :: l, x => by
    simp only [List.cons_append, cf]
    split
    · exact cf_snoc mk l x
    · rfl
/-- Pick's state is what was seen. -/
structure PR (mk : Nat → Nat) (s : PS) (acc : List Nat) : Prop where
  lk : s.lk = acc.length
  h : s.h = nmd mk acc
  sp : s.sp = true ↔ acc ≠ [] ∧ cf mk acc = none
theorem pr0 (mk : Nat → Nat) : PR mk ⟨0, false, 0⟩ [] := ⟨rfl, rfl, by simp⟩
theorem PR.step {mk : Nat → Nat} {s : PS} {acc : List Nat} {own x : Nat} {looks : Int} (h : PR mk s acc) (hx : ¬ x = own) (hf : ¬ looks ≤ (s.lk : Int)) : PR mk (pst own looks mk s x) (acc ++ [x]) := by
  unfold pst
  rw [if_neg hx, if_neg hf]
  have hl := h.lk
  cases acc with
  | nil =>
    simp at hl
    rw [if_pos (.inl (by omega))]
    refine ⟨by simp [hl], ?_, ?_⟩
    · simp only [List.nil_append, nmd, cf]
      split <;> simp
    · simp only [List.nil_append, cf]
      by_cases ha : mk x % 2 = 1 <;> simp [ha]
  | cons y l =>
    have hne : ¬ s.lk + 1 = 1 := by rw [hl]; simp
    cases hc : cf mk (y :: l) with
    | some z =>
      have hsp : ¬ s.sp = true := fun hh => by have := (h.sp.1 hh).2; rw [hc] at this; cases this
      rw [if_neg (by rintro (h1 | h1); exact hne h1; exact hsp h1.1)]
      refine ⟨by simp [hl], ?_, ?_⟩
      · show s.h = _
        rw [h.h]
        unfold nmd
        rw [cf_snoc, hc]
        try rfl
      · rw [cf_snoc, hc]
        simp [hsp]
    | none =>
      have hsp : s.sp = true := h.sp.2 ⟨by simp, hc⟩
      by_cases ha : mk x % 2 = 1
      · rw [if_neg (by rintro (h1 | h1); exact hne h1; exact h1.2 ha)]
        refine ⟨by simp [hl], ?_, ?_⟩
        · show s.h = _
          rw [h.h]
          unfold nmd
          rw [cf_snoc, hc]
          simp [ha]
        · rw [cf_snoc, hc]
          simp [hsp, ha]
      · rw [if_pos (.inr ⟨hsp, ha⟩)]
        refine ⟨by simp [hl], ?_, ?_⟩
        · show x = _
          unfold nmd
          rw [cf_snoc, hc]
          simp [ha]
        · rw [cf_snoc, hc]
          simp [ha]
/-- Whom Pick names. -/
theorem pd_snf {own : Nat} {looks : Int} {mk : Nat → Nat} {dd : Nat → Bool} : ∀ (l : List Nat) (s : PS) (acc : List Nat), PR mk s acc → (acc ≠ [] → dd (acc.getLastD 0) = false) →
    (pd own looks mk dd s l).1.lk = (snf own looks dd l acc).length ∧ ((pd own looks mk dd s l).2 = true ↔ snf own looks dd l acc ≠ [] ∧ dd ((snf own looks dd l acc).getLastD 0) = true) ∧ ((pd own looks mk dd s l).2 = true → (pd own looks mk dd s l).1.h = (snf own looks dd l acc).getLastD 0) ∧ ((pd own looks mk dd s l).2 = false → (pd own looks mk dd s l).1.h = nmd mk (snf own looks dd l acc))
  | [], s, acc, h, hd => by
    simp only [pd, snf]
    refine ⟨h.lk, ⟨fun hh => (by cases hh), fun hh => (by rw [hd hh.1] at hh; exact absurd hh.2 (by decide))⟩, fun hh => (by cases hh), fun _ => h.h⟩
  | x :: l, s, acc, h, hd => by
    by_cases hf : looks ≤ (s.lk : Int)
    · have hs : snf own looks dd (x :: l) acc = acc := by rw [snf, if_pos (.inl (by rw [← h.lk]; exact hf))]
      have hpd : pd own looks mk dd s (x :: l) = (s, false) := by
        clear hs
        induction l generalizing x with
        | nil =>
          rw [pd]
          split
          · rfl
          · first | rfl | rw [if_pos hf]
        | cons y l ih =>
          rw [pd]
          split
          · exact ih y
          · first | rfl | rw [if_pos hf]
      rw [hs, hpd]
      exact ⟨h.lk, ⟨fun hh => (by cases hh), fun hh => (by rw [hd hh.1] at hh; exact absurd hh.2 (by decide))⟩, fun hh => (by cases hh), fun _ => h.h⟩
    · have hc : ¬ (looks ≤ (acc.length : Int) ∨ (acc ≠ [] ∧ dd (acc.getLastD 0) = true)) := by
        rintro (h1 | h1)
        · rw [← h.lk] at h1; exact hf h1
        · rw [hd h1.1] at h1; exact absurd h1.2 (by decide)
      rw [snf, if_neg hc, pd]
      by_cases hx : x = own
      · rw [if_pos hx, if_pos hx]
        exact pd_snf l s acc h hd
      · rw [if_neg hx, if_neg hx, if_neg hf]
        cases hdx : dd x with
        | true =>
          have hs : snf own looks dd l (acc ++ [x]) = acc ++ [x] := by
            cases l with
            | nil => rfl
            | cons y l => rw [snf, if_pos (.inr ⟨by simp, by simp [hdx]⟩)]
          rw [if_pos rfl, hs]
          exact ⟨by simp [h.lk], ⟨fun _ => ⟨by simp, by simp [hdx]⟩, fun _ => rfl⟩, fun _ => by simp, fun hh => (by cases hh)⟩
        | false =>
          rw [if_neg (by decide)]
          exact pd_snf l _ (acc ++ [x]) (h.step hx hf) (fun _ => by simp [hdx])
end Go.Proofs.YtohneboimmcocaaGreat
/-
  LruSpares' walk.
-/
namespace Go.Proofs.YtohneboimmcocaaGreat
open Go.RowKit
set_option linter.unusedVariables false

/-- The first place of one that is so. -/
def fxi (p : Nat → Bool) : Nat → List Nat → Int
  | _, [] => -1
  | k, x :: l => if p x then (k : Int) else fxi p (k + 1) l
theorem fxi_ge (p : Nat → Bool) : ∀ (l : List Nat) (k : Nat), fxi p k l = -1 ∨ (k : Int) ≤ fxi p k l
  | [], k => .inl rfl
  | x :: l, k => by
    unfold fxi
    split
    · exact .inr (Int.le_refl _)
    · rcases fxi_ge p l (k + 1) with h | h
      · exact .inl h
      · exact .inr (by omega)
theorem fxi_cf (mk : Nat → Nat) : ∀ (l : List Nat) (k z : Nat), cf mk l = some z → fxi (fun x => !decide (mk x % 2 = 1)) k l = fxi (fun x => decide (x = z)) k l ∧ (k : Int) ≤ fxi (fun x => decide (x = z)) k l
  | [], k, z, h => by cases h
  | x :: l, k, z, h => by
    unfold cf at h
    unfold fxi
    by_cases ha : mk x % 2 = 1
    · rw [if_pos ha] at h
      have ih := fxi_cf mk l (k + 1) z h
      have hz : ¬ mk z % 2 = 1 := by
        clear ih ha
        induction l with
        | nil => cases h
        | cons y l ih =>
          unfold cf at h
          split at h
          · exact ih h
          · rename_i hy
            cases h
            exact hy
      have hne : ¬ x = z := fun e => hz (e ▸ ha)
      simp only [ha, decide_true, Bool.not_true, Bool.false_eq_true, if_false, hne, decide_false]
      exact ⟨ih.1, by omega⟩
    · rw [if_neg ha] at h
      obtain rfl := Option.some.inj h
      simp [ha]
theorem fxi_none (mk : Nat → Nat) : ∀ (l : List Nat) (k : Nat), cf mk l = none → fxi (fun x => !decide (mk x % 2 = 1)) k l = -1
  | [], k, _ => rfl
  | x :: l, k, h => by
    unfold cf at h
    unfold fxi
    by_cases ha : mk x % 2 = 1
    · rw [if_pos ha] at h
      simp only [ha, decide_true, Bool.not_true, Bool.false_eq_true, if_false]
      exact fxi_none mk l (k + 1) h
    · rw [if_neg ha] at h
      cases h
/-- What the law asks of the one that is named. -/
theorem named {mk : Nat → Nat} {l : List Nat} (hl : l ≠ []) : 0 ≤ fxi (fun x => decide (x = nmd mk l)) 0 l ∧ (fxi (fun x => !decide (mk x % 2 = 1)) 0 l = fxi (fun x => decide (x = nmd mk l)) 0 l ∨ (fxi (fun x => !decide (mk x % 2 = 1)) 0 l < 0 ∧ fxi (fun x => decide (x = nmd mk l)) 0 l = 0)) := by
  unfold nmd
  cases hc : cf mk l with
  | some z =>
    obtain ⟨h1, h2⟩ := fxi_cf mk l 0 z hc
    exact ⟨h2, .inl h1⟩
  | none =>
    have h1 := fxi_none mk l 0 hc
    cases l with
    | nil => exact absurd rfl hl
    | cons x l =>
      refine ⟨?_, .inr ⟨by rw [h1]; decide, ?_⟩⟩
      · simp [fxi]
      · simp [fxi]

theorem snf_mem (own : Nat) (looks : Int) (dd : Nat → Bool) : ∀ (l acc : List Nat) (y : Nat), y ∈ snf own looks dd l acc → y ∈ acc ∨ y ∈ l
  | [], acc, y, h => .inl h
  | x :: l, acc, y, h => by
    unfold snf at h
    split at h
    · exact .inl h
    · split at h
      · rcases snf_mem own looks dd l acc y h with h | h
        · exact .inl h
        · exact .inr (List.mem_cons_of_mem _ h)
      · rcases snf_mem own looks dd l (acc ++ [x]) y h with h | h
        · rcases List.mem_append.1 h with h | h
          · exact .inl h
          · exact .inr (by simp at h; rw [h]; simp)
        · exact .inr (List.mem_cons_of_mem _ h)
/-- Pick with a dead function. -/
theorem HS.pickD {w : World} {P : Nat → Prop} {wb hot warm : Nat} {D0 : Wd} {S : Lm} (h : HS w P wb hot warm D0 S) {ci : Nat} (hc : ci < 3) (own : Nat) (looks : Int) {kr kx : Nat} (dd : Nat → Bool) (hdd : ∀ W (x : Nat), Below w.heap.size w W → Calls Tryz.prog 37 #[.int .u64 x, .pointer (some ⟨kr, 0, none⟩), .pointer (some ⟨kx, 0, none⟩)] W fun y w' => y = .returned (.bool (dd x)) ∧ W.grownBy w' none) :
    Calls Tryz.prog 38 #[.pointer (some ⟨D0.xb, 0, none⟩), .int .i64 ci, .int .u64 own, .int .i64 looks, .func (.func 37) #[] #[.pointer (some ⟨kr, 0, none⟩), .pointer (some ⟨kx, 0, none⟩)]] w fun y w' => y = .returned (.tuple #[.int .u64 (pd own looks S.ma dd ⟨0, false, 0⟩ (rowN S.X ci)).1.h, .bool (pd own looks S.ma dd ⟨0, false, 0⟩ (rowN S.X ci)).2, .int .i64 (pd own looks S.ma dd ⟨0, false, 0⟩ (rowN S.X ci)).1.lk]) ∧ w.grownBy w' none := by
  obtain ⟨D, lsb, vs, Y, cl, bs, p, n, s, hs, hM, hX, hl⟩ := h
  rw [← hs.2.2.1]
  exact pick_38D (hX.lq hM hl) (by rw [hX.n3]; exact hc) own looks dd (fun W x hB _ => hdd W x hB)
theorem DR.below {W W' : World} {kr kx : Nat} {ra da : Option Addr} {R : List Nat} {rc nd dc : Nat} {Df : Nat → Bool} (h : DR W kr kx ra da R rc nd dc Df) (hB : Below W.heap.size W W') : DR W' kr kx ra da R rc nd dc Df := h.same (fun p v hv => (hB.cell (p := p) (World.block_lt_of_cell? _ _ hv)).trans hv)
theorem DR.kept0 {W W' : World} {kr kx : Nat} {ra da : Option Addr} {R : List Nat} {rc nd dc : Nat} {Df : Nat → Bool} (h : DR W kr kx ra da R rc nd dc Df) (hf : W.grownBy W' none) : DR W' kr kx ra da R rc nd dc Df := h.same (fun p v hv => gb_cellN hf hv)

end Go.Proofs.YtohneboimmcocaaGreat

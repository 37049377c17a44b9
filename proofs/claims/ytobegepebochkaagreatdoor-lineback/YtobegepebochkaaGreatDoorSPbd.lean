import Derived.Test.YtobegepebochkaaGreatDoorSPbb
import Derived.Deep.CutRange
import Derived.Test.YtobegepebochkaaGreatDoorSPaa
set_option linter.unusedVariables false
set_option linter.unusedSimpArgs false
namespace Go.Proofs.YtobegepebochkaaGreatDoor
def mayT1 (i : Nat) (c : Cmd) : Bool := (decide (1 < c.keys.length) && decide (4 ≤ i)) || (decide (0 < c.keys.length) != (dr i).shape.contains 75)
def mayT2 (i : Nat) (c : Cmd) : Bool := (((decide (4294967295 < c.flags) || (decide (0 < c.flags) && !(dr i).shape.contains 70)) || (decide (c.exp ≠ 0) && !((dr i).shape.contains 84 || (dr i).shape.contains 83))) || (decide (0 < c.tok) && !(dr i).shape.contains 67)) || (decide (0 < c.del) && !(dr i).shape.contains 68)
def mayT3 (i : Nat) (c : Cmd) : Bool := (decide (0 < c.mt.length) && !(dr i).shape.contains 71) || decide (flS ((i : Int) + 1) [] c.mt ≠ [])
def mayT4 (i : Nat) (c : Cmd) : Bool := decide (c.what ≠ []) && (decide (i ≠ 18) || decide (c.what ≠ reset))
def mayT5 (i : Nat) (c : Cmd) (n : Nat) : Bool := (((decide (i = 14) && decide (c.exp < 0)) || (c.nr && !(dr i).reply)) || (decide (0 < n) && !(dr i).block)) || decide (2147483647 < n)
def keyT (k : Bs) : Bool := plain k && decide (1 ≤ k.length) && decide (k.length ≤ 250)
theorem keyT_iff (k : Bs) : keyT k = true ↔ keyP k := by
  unfold keyT keyP
  simp only [Bool.and_eq_true, decide_eq_true_eq]
  constructor
  · rintro ⟨⟨h1, h2⟩, h3⟩
    exact ⟨List.length_pos_iff.mp (by omega), h3, h1⟩
  · rintro ⟨h1, h2, h3⟩
    exact ⟨⟨h3, List.length_pos_iff.mpr h1⟩, h2⟩
def mayB (i : Nat) (c : Cmd) (n : Nat) (lg : Bool) : Bool := !lg && (!mayT1 i c && (c.keys.all keyT && (!mayT2 i c && (!mayT3 i c && (!mayT4 i c && (!mayT5 i c n && decide ((lnB i c n).length ≤ 2048)))))))
theorem mayB_iff {i : Nat} {c : Cmd} {n : Nat} {lg : Bool} (hv : c.verb = (i : Int) + 1) : mayB i c n lg = true ↔ lg = false ∧ MayP i c n ∧ (lnB i c n).length ≤ 2048 := by
  unfold mayB
  simp only [Bool.and_eq_true, Bool.not_eq_true', decide_eq_true_eq]
  constructor
  · rintro ⟨h0, h1, hk, h2, h3, h4, h5, hl⟩
    refine ⟨h0, ?_, hl⟩
    simp only [mayT1, mayT2, mayT3, mayT4, mayT5, Bool.or_eq_false_iff, Bool.and_eq_false_iff, decide_eq_false_iff_not, Bool.not_eq_false', List.contains_iff_mem, bne_eq_false_iff_eq] at h1 h2 h3 h4 h5
    refine ⟨hv, ?_, ?_, ?_, ?_, ?_, ?_, ?_, ?_, ?_, ?_, ?_, ?_, ?_, ?_, ?_⟩
    · intro h; rcases h1.1 with h | h <;> omega
    · have := h1.2
      rw [← List.length_pos_iff, ← List.contains_iff_mem, ← this, decide_eq_true_eq]
    · intro k h; exact (keyT_iff k).mp (List.all_eq_true.mp hk k h)
    · have := h2.1.1.1.1; omega
    · intro h; rcases h2.1.1.1.2 with g | g
      · omega
      · exact g
    · intro h; rcases h2.1.1.2 with g | g
      · exact absurd h g
      · simpa using g
    · intro h; rcases h2.1.2 with g | g
      · omega
      · exact g
    · intro h; rcases h2.2 with g | g
      · omega
      · exact g
    · intro h; rcases h3.1 with g | g
      · exact absurd (List.length_pos_iff.mpr h) g
      · exact g
    · rw [hv]; exact Classical.not_not.mp h3.2
    · intro h
      rcases h4 with g | g
      · exact absurd h g
      · exact ⟨Classical.not_not.mp g.1, Classical.not_not.mp g.2⟩
    · intro h; rcases h5.1.1.1 with g | g
      · exact absurd h g
      · omega
    · intro h; rcases h5.1.1.2 with g | g
      · rw [h] at g; cases g
      · exact g
    · intro h; rcases h5.1.2 with g | g
      · omega
      · exact g
    · have := h5.2; omega
  · rintro ⟨h0, h, hl⟩
    refine ⟨h0, ?_, ?_, ?_, ?_, ?_, ?_, hl⟩
    · unfold mayT1
      simp only [Bool.or_eq_false_iff, Bool.and_eq_false_iff, decide_eq_false_iff_not, bne_eq_false_iff_eq]
      refine ⟨?_, ?_⟩
      · by_cases h4 : 4 ≤ i
        · have := h.one h4; left; omega
        · right; exact h4
      · have := h.keyed
        rw [Bool.eq_iff_iff, decide_eq_true_eq, List.contains_iff_mem, ← this, List.length_pos_iff]
    · exact List.all_eq_true.mpr fun k hk => (keyT_iff k).mpr (h.keys k hk)
    · simp only [mayT2, Bool.or_eq_false_iff, Bool.and_eq_false_iff, decide_eq_false_iff_not, Bool.not_eq_false', List.contains_iff_mem]
      refine ⟨⟨⟨⟨?_, ?_⟩, ?_⟩, ?_⟩, ?_⟩
      · have := h.flags; omega
      · by_cases e : c.flags = 0
        · left; omega
        · right; exact h.hF e
      · by_cases e : c.exp = 0
        · left; exact fun g => g e
        · right; simpa using h.hT e
      · by_cases e : c.tok = 0
        · left; omega
        · right; exact h.hC e
      · by_cases e : c.del = 0
        · left; omega
        · right; exact h.hD e
    · simp only [mayT3, Bool.or_eq_false_iff, Bool.and_eq_false_iff, decide_eq_false_iff_not, Bool.not_eq_false', List.contains_iff_mem]
      refine ⟨?_, ?_⟩
      · by_cases e : c.mt = []
        · left; rw [e]; simp
        · right; exact h.hG e
      · have := h.mt; rw [hv] at this; exact fun g => g this
    · simp only [mayT4, Bool.or_eq_false_iff, Bool.and_eq_false_iff, decide_eq_false_iff_not]
      by_cases e : c.what = []
      · left; exact fun g => g e
      · right; exact ⟨fun g => g (h.what e).1, fun g => g (h.what e).2⟩
    · simp only [mayT5, Bool.or_eq_false_iff, Bool.and_eq_false_iff, decide_eq_false_iff_not, Bool.not_eq_false']
      refine ⟨⟨⟨?_, ?_⟩, ?_⟩, ?_⟩
      · by_cases e : i = 14
        · right; have := h.flush e; omega
        · left; exact e
      · cases e : c.nr with
        | false => left; rfl
        | true => right; exact h.nr e
      · by_cases e : n = 0
        · left; omega
        · right; exact h.data e
      · have := h.most; omega
end Go.Proofs.YtobegepebochkaaGreatDoor
namespace Go.Proofs.YtobegepebochkaaGreatDoor
open Go.RowKit Go.Maps
theorem LetsOut.thn {R : Act → World → Prop} {Q : Exit → Act → World → Prop} (h : LetsOut (Exit.then R Q)) : LetsOut Q := by
  obtain ⟨a, w, h⟩ := h
  exact ⟨a, w, h⟩
theorem upon_thn {P : Program} {o : Oper} {a : Act} {next next' R : Act → World → Prop} {Q : Exit → Act → World → Prop} (hn : ∀ a w, next a w → next' a w) {r : Result Next} (h : o.upon P a next (Exit.then R Q) r) : o.upon P a next' Q r := by
  cases r with
  | ok n w' =>
    cases n with
    | value v => exact hn _ _ h
    | skip => exact hn _ _ h
    | defer d => exact hn _ _ h
    | enter f args =>
      refine Calls.mono h ?_
      intro e w'' h
      cases e with
      | returned v => exact hn _ _ h
      | panicked c => exact h
      | outgrown => exact LetsOut.thn h
    | row row args => exact Rows.mono h fun _ _ q => hn _ _ q
    | _ => exact h
  | halt x w' =>
    cases x with
    | panic v => exact h
    | _ => exact h
theorem wpList_cut {P : Program} {ops : Array Oper} {Q : Exit → Act → World → Prop} {R : Act → World → Prop} {l2 : List Oper} (rest : ∀ a w, R a w → wpList P ops Q l2 a w) : ∀ (l1 : List Oper) (a : Act) (w : World), wpList P ops (Exit.then R Q) l1 a w → wpList P ops Q (l1 ++ l2) a w := by
  intro l1
  induction l1 with
  | nil => intro a w h; exact rest a w h
  | cons o l ih =>
    intro a w h
    simp only [List.cons_append, wpList] at h ⊢
    split at h
    · rename_i hw
      simp only [hw, if_true]
      rcases h with h | ⟨h, hl⟩
      · exact .inl (upon_thn ih h)
      · exact .inr ⟨h, LetsOut.thn hl⟩
    · rename_i hw
      simp only [hw, if_false]
      exact ih _ _ h
theorem wpList_cutN {P : Program} {ops : Array Oper} {Q : Exit → Act → World → Prop} {l : List Oper} {a : Act} {w : World} (n : Nat) (R : Act → World → Prop) (rest : ∀ a w, R a w → wpList P ops Q (l.drop n) a w)
    (first : ∀ (J K' : Act → World → Prop), (∀ a' w', R a' w' → J a' w') → (∀ a' w', Met J a' w' → K' a' w') → wpList P ops (Exit.then K' Q) (l.take n) a w) : wpList P ops Q l a w := by
  have h := wpList_cut rest (l.take n) a w (first R R (fun _ _ q => q) (fun _ _ q => q))
  rwa [List.take_append_drop] at h
end Go.Proofs.YtobegepebochkaaGreatDoor

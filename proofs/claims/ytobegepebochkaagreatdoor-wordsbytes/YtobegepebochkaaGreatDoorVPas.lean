import Derived.Test.YtobegepebochkaaGreatDoorVPar
import Derived.Test.YtobegepebochkaaGreatDoorVPae
import Derived.Test.YtobegepebochkaaGreatDoorVE
import Derived.Test.YtobegepebochkaaGreatDoorVH
import Derived.Test.YtobegepebochkaaGreatDoorVPap
set_option linter.unusedVariables false
set_option linter.unusedSimpArgs false
namespace Go.Proofs.YtobegepebochkaaGreatDoor
open Go.RowKit
theorem full_mem {v : Int} {a : UInt8} (h : (full v).contains a = true) : a ∈ ([79, 84, 78, 82, 70, 67, 77, 68, 74] : Bs) := by
  have h := List.contains_iff_mem.1 h
  unfold full at h
  split at h
  · revert h; simp; intro h; rcases h with h | h | h | h <;> simp [h]
  · split at h
    · revert h; simp; intro h; rcases h with h | h | h | h | h <;> simp [h]
    · split at h
      · revert h; simp; intro h; rcases h with h | h | h <;> simp [h]
      · split at h
        · revert h; simp; intro h; rcases h with h | h | h | h | h | h | h <;> simp [h]
        · simp at h
theorem bare_full {v : Int} {a : UInt8} (h : (bare v).contains a = true) : (full v).contains a = false := by
  have h := List.contains_iff_mem.1 h
  unfold bare at h
  unfold full
  split at h
  · rename_i e; simp only [e, if_true]; revert h; simp; intro h; rcases h with h | h | h | h | h | h | h | h | h <;> subst h <;> decide
  · rename_i e0; split at h
    · rename_i e; simp only [e, if_true]; revert h; simp; intro h; rcases h with h | h | h | h <;> subst h <;> decide
    · rename_i e1; split at h
      · rename_i e; simp only [e, if_true]; revert h; simp; intro h; rcases h with h | h | h | h <;> subst h <;> decide
      · rename_i e2; split at h
        · rename_i e; simp only [e, if_true]; revert h; simp; intro h; rcases h with h | h | h | h | h <;> subst h <;> decide
        · simp at h
theorem nb_nil (n : Nat) : nb n [] = none := by simp [nb, Lib.parseUintB]
theorem tm_nil : tm [] = none := by simp [tm, Lib.parseIntB]
theorem bh_nil (v : Int) (a : UInt8) (q : Bool) : bh v ⟨a, [], q⟩ = false := by
  simp [bh, nb_nil, tm_nil, mode_no v (l := []) (by simp)]
theorem bh_follows {v : Int} {a : UInt8} {l : Bs} {q : Bool} (h : (full v).contains a = true) (h2 : ¬ (a = 79 ∧ (l = [] ∨ 32 < l.length))) : bh v ⟨a, l, q⟩ = follows v ⟨a, l, q⟩ := by
  have hm := full_mem h
  simp only [List.mem_cons, List.not_mem_nil, or_false] at hm
  unfold bh follows
  rcases hm with rfl | rfl | rfl | rfl | rfl | rfl | rfl | rfl | rfl
  · have h3 : l ≠ [] ∧ l.length ≤ 32 := by
      constructor
      · intro e; exact h2 ⟨rfl, .inl e⟩
      · apply Nat.le_of_not_lt; intro e; exact h2 ⟨rfl, .inr e⟩
    have h4 : 1 ≤ l.length := List.length_pos_iff.2 h3.1
    simp only [if_true]
    rw [decide_eq_true h4, decide_eq_true (show l.length ≤ 250 by omega)]
    simp
  all_goals simp
theorem bad_eq {v : Int} {a : UInt8} {l : Bs} {q : Bool} (h : (bare v).contains a = true ∨ (full v).contains a = true) (h2 : ¬ (a = 79 ∧ (l = [] ∨ 32 < l.length))) :
    ((q ≠ decide (l ≠ []) ∨ ((bare v).contains a = true ∧ q = true)) ∨ ((full v).contains a = true ∧ bh v ⟨a, l, q⟩ = false)) ↔ (q ≠ decide (l ≠ []) ∨ q ≠ (full v).contains a ∨ (q = true ∧ follows v ⟨a, l, q⟩ = false)) := by
  by_cases hq : q = decide (l ≠ [])
  · rcases Bool.eq_false_or_eq_true ((full v).contains a) with hf | hf
    · have hb : (bare v).contains a = false := by
        rcases Bool.eq_false_or_eq_true ((bare v).contains a) with hb | hb
        · rw [bare_full hb] at hf; cases hf
        · exact hb
      rw [hf, hb, ← bh_follows hf h2]
      rcases Bool.eq_false_or_eq_true q with hq1 | hq1
      · subst hq1; simp [hq.symm]
      · have hl : l = [] := by
          rw [hq1] at hq
          simpa using hq
        subst hl
        subst hq1
        simp [bh_nil]
    · have hb : (bare v).contains a = true := by
        rcases h with h | h
        · exact h
        · rw [hf] at h; cases h
      rw [hf, hb]
      rcases Bool.eq_false_or_eq_true q with hq1 | hq1 <;> subst hq1 <;> simp
  · exact ⟨fun _ => .inl hq, fun _ => .inl (.inl hq)⟩
end Go.Proofs.YtobegepebochkaaGreatDoor
namespace Go.Proofs.YtobegepebochkaaGreatDoor
open Go.RowKit
def Fg (w : World) (v : Value) (fs : List Fl) : Prop := (fs = [] ∧ ∃ a c, v = .slice a 0 c) ∨ ∃ g o c, v = .slice (some ⟨g, o, none⟩) fs.length c ∧ ∀ i f, fs[i]? = some f →
  w.cell? ⟨g, o + i * 3, none⟩ = some (.int .u8 f.letter.toNat) ∧ w.cell? ⟨g, o + i * 3 + 1, none⟩ = some (sv f.arg) ∧ w.cell? ⟨g, o + i * 3 + 2, none⟩ = some (.bool f.has)
theorem Fg.kept {w w' : World} {v : Value} {fs : List Fl} (h : Fg w v fs) (hf : w.grownBy w' none) : Fg w' v fs := by
  rcases h with h | ⟨g, o, c, e, h⟩
  · exact .inl h
  · exact .inr ⟨g, o, c, e, fun i f hi => ⟨gb_cellN hf (h i f hi).1, gb_cellN hf (h i f hi).2.1, gb_cellN hf (h i f hi).2.2⟩⟩
def seen (fs : List Fl) (k : Nat) : Bs := ((fs.take k).map (·.letter)).reverse
theorem seen_step {fs : List Fl} {k : Nat} {f : Fl} (h : fs[k]? = some f) : seen fs (k + 1) = f.letter :: seen fs k := by
  simp [seen, List.take_add_one, h]
theorem seen_has {fs : List Fl} {k j : Nat} {f : Fl} (hj : fs[j]? = some f) (hk : j < k) : (seen fs k).contains f.letter = true := by
  refine List.contains_iff_mem.2 ?_
  simp only [seen, List.mem_reverse, List.mem_map]
  refine ⟨f, ?_, rfl⟩
  have : (fs.take k)[j]? = some f := by rw [List.getElem?_take, if_pos hk, hj]
  exact List.mem_of_getElem? this
theorem seen_not {fs : List Fl} {k : Nat} {a : UInt8} (h : ∀ j f, j < k → fs[j]? = some f → f.letter ≠ a) : (seen fs k).contains a = false := by
  rw [← Bool.not_eq_true]
  intro hc
  have hc := List.contains_iff_mem.1 hc
  simp only [seen, List.mem_reverse, List.mem_map] at hc
  obtain ⟨f, hf, e⟩ := hc
  obtain ⟨j, hj⟩ := List.mem_iff_getElem?.1 hf
  rw [List.getElem?_take] at hj
  split at hj
  · exact h j f (by assumption) hj e
  · cases hj
theorem bare_len (v : Int) : (bare v).length ≤ 4611686018427387904 := by
  unfold bare; repeat' split
  all_goals simp
theorem full_len (v : Int) : (full v).length ≤ 4611686018427387904 := by
  unfold full; repeat' split
  all_goals simp
set_option maxHeartbeats 2000000 in
theorem rflags_nil (v : Int) (a : Option Addr) (c : Nat) (w : World) :
    Calls Tryz.prog 38 #[.int .i64 v, .slice a 0 c] w fun e w' => e = .returned (sv []) ∧ w.grownBy w' none := by
  go_enter Tryz.func38, Tryz.ntmps38
  go_wp2_with (go_at_call 86; refine (flagsOf_86 _ _).mono ?_; rintro e w' ⟨rfl, rfl⟩)
  go_loopw [7] (fun x wr => x = .int .i64 0 ∧ wr = w') (fun _ _ => 0)
  case atStart => exact ⟨rfl, rfl⟩
  case round =>
    obtain ⟨rfl, rfl⟩ := hrel
    go_wp2
    go_ret
    exact ⟨rfl, gb_refl _ _⟩
set_option maxRecDepth 100000 in
set_option maxHeartbeats 4000000 in
theorem rflags_38 (v : Int) (sl : Value) (fs : List Fl) (hfl : ∀ f ∈ fs, f.arg.length ≤ 4611686018427387904) (hn : fs.length ≤ 4611686018427387904) (w : World) (hF : Fg w sl fs) :
    Calls Tryz.prog 38 #[.int .i64 v, sl] w fun e w' => e = .returned (sv (flS v [] fs)) ∧ w.grownBy w' none := by
  rcases hF with ⟨rfl, a, c, rfl⟩ | ⟨g, o, c, rfl, hF⟩
  · exact rflags_nil v a c w
  go_enter Tryz.func38, Tryz.ntmps38
  go_wp2_with (go_at_call 86; refine (flagsOf_86 _ _).mono ?_; rintro e w' ⟨rfl, rfl⟩)
  go_loopw [7] (fun x wr => ∃ k : Nat, k ≤ fs.length ∧ x = .int .i64 k ∧ w'.grownBy wr none ∧ flS v [] fs = flS v (seen fs k) (fs.drop k)) (fun x _ => fs.length - (intOf x).toNat)
  case atStart => exact ⟨0, by omega, rfl, gb_refl _ _, rfl⟩
  case round =>
    obtain ⟨k, hk, rfl, hg, hfl'⟩ := hrel
    have hlt : k < fs.length ∨ k = fs.length := by omega
    rcases hlt with hlt | rfl
    · obtain ⟨f, hf⟩ : ∃ f, fs[k]? = some f := ⟨_, List.getElem?_eq_getElem hlt⟩
      have hfm : f ∈ fs := List.mem_of_getElem? hf
      have hst := seen_step hf
      have hdr : fs.drop k = f :: fs.drop (k + 1) := by
        have := List.drop_eq_getElem_cons hlt
        rw [List.getElem?_eq_getElem hlt] at hf
        injection hf with hf
        rw [this, hf]
      rw [hdr] at hfl'
      obtain ⟨la, ar, hs⟩ := f
      simp only [flS] at hfl'
      have hE0 := fun h => bad_eq (v := v) (a := la) (l := ar) (q := hs) h
      obtain ⟨c0, c1, c2⟩ := hF k _ hf
      have c0 := gb_cellN hg c0
      have c1 := gb_cellN hg c1
      have c2 := gb_cellN hg c2
      have d1 : decide ((k : Int) < (fs.length : Int)) = true := decide_eq_true (by omega)
      have hb := fun W => holds_87 (bare v) (bare_len v) la W
      have hu := fun W => holds_87 (full v) (full_len v) la W
      have hlA := hfl _ hfm
      have hfo := fun W => behind_88 v ⟨la, ar, hs⟩ hlA W
      have hgA : wr.grownBy (wr.alloc (Obj.cells #[.int .u8 la.toNat, .string ⟨ar.toArray⟩, .bool hs] 79)) none := gb_alloc (gb_refl _ _) _
      have HE : Hid (fl1 v (seen fs k) ⟨la, ar, hs⟩ = if !(bare v).contains la && !(full v).contains la then noFlag else if (seen fs k).contains la then twice else
        if la = 79 ∧ (ar = [] ∨ 32 < ar.length) then badOpaque else if hs ≠ decide (ar ≠ []) ∨ hs ≠ (full v).contains la ∨ (hs = true ∧ follows v ⟨la, ar, hs⟩ = false) then badToken else []) := rfl
      obtain ⟨p1, e1⟩ : ∃ p, (bare v).contains la = p := ⟨_, rfl⟩
      obtain ⟨p2, e2⟩ : ∃ p, (full v).contains la = p := ⟨_, rfl⟩
      obtain ⟨p4, e4⟩ : ∃ p, bh v ⟨la, ar, hs⟩ = p := ⟨_, rfl⟩
      obtain ⟨fl, e5⟩ : ∃ p, fl1 v (seen fs k) ⟨la, ar, hs⟩ = p := ⟨_, rfl⟩
      rw [e1] at hb HE
      rw [e2] at hu HE
      rw [e1, e2, e4] at hE0
      rw [e5] at hfl' HE
      simp only [e4] at hfo
      have HFL := Lib.hid hfl'
      have HE0 := Lib.hid hE0
      have HST := Lib.hid hst
      have HF : Hid (fs[k]? = some ⟨la, ar, hs⟩) := hf
      clear hfl' hf hdr e1 e2 e4 e5 hfm hfl hE0 hst
      go_wp2_with (first | (go_at_call 87; go_must (first | with_reducible refine (hb _).mono ?_ | with_reducible refine (hu _).mono ?_); rintro e w2 ⟨rfl, rfl⟩))
      rotate_left
      · rename_i q1 q2
        go_ret
        have e : fl = noFlag := by
          rw [HE.out, if_pos (by simp only [Bool.not_eq_true] at q1; simp [q1]; simpa using q2)]
        refine ⟨?_, gb_trans hg hgA⟩
        rw [HFL.out, if_neg (by rw [e]; simp [noFlag]), e]
        rfl
      all_goals
        have hp : (!p1 && !p2) = false := by simp_all
        obtain ⟨w1, rfl⟩ : ∃ w1, w1 = wr := ⟨_, rfl⟩
        go_loopw [9] (fun x W => ∃ j : Nat, j ≤ k ∧ x = .int .i64 j ∧ (w1.grownBy W none ∧ Box W 79 w1.heap.size #[.int .u8 la.toNat, .string ⟨ar.toArray⟩, .bool hs]) ∧ ∀ i f, i < j → fs[i]? = some f → f.letter ≠ la) (fun x _ => k - (intOf x).toNat)
        case atStart => exact ⟨0, by omega, rfl, ⟨hgA, Box.new _ _ _⟩, fun i f h => by omega⟩
        case round =>
          obtain ⟨j, hj, rfl, ⟨hgW, hbx⟩, hno⟩ := hrel
          have p0 : wr.cell? ⟨w1.heap.size, 0, none⟩ = some (.int .u8 la.toNat) := hbx.cell 0
          have p1' : wr.cell? ⟨w1.heap.size, 1, none⟩ = some (sv ar) := hbx.cell 1
          have p2' : wr.cell? ⟨w1.heap.size, 2, none⟩ = some (.bool hs) := hbx.cell 2
          have hjl : j < k ∨ j = k := by omega
          rcases hjl with hjl | rfl
          · obtain ⟨fj, hfj⟩ : ∃ f, fs[j]? = some f := ⟨_, List.getElem?_eq_getElem (by omega)⟩
            have d2 : decide ((j : Int) < (k : Int)) = true := decide_eq_true (by omega)
            have cj := gb_cellN (gb_trans hg hgW) (hF j _ hfj).1
            go_wp2
            go_quiet (fail)
            go_wp2
            · rename_i q3
              go_ret
              have e3 : fj.letter = la := UInt8.toNat_inj.1 (by have := beq_iff_eq.1 q3; omega)
              have e : fl = twice := by
                rw [HE.out, hp, if_neg (by simp), if_pos (by rw [← e3]; exact seen_has hfj hjl)]
              refine ⟨?_, gb_trans hg (gb_drewN hgW _)⟩
              rw [HFL.out, if_neg (by rw [e]; simp [twice]), e]
              rfl
            · rename_i q3
              refine ⟨⟨j + 1, by omega, by simp, ⟨gb_drewN hgW _, hbx.kept (gb_drewN (gb_refl wr none) _) (by simp)⟩, fun i f hi hf => ?_⟩, by simp [intOf]; omega⟩
              rcases Nat.lt_or_ge i j with h | h
              · exact hno i f h hf
              · obtain rfl : i = j := by omega
                rw [hfj] at hf
                injection hf with hf
                subst hf
                intro e3
                rw [e3] at q3
                simp at q3
          · have HS : Hid ((seen fs j).contains la = false) := seen_not (fun i f hi hf => hno i f hi hf)
            have d2 : decide ((j : Int) < (j : Int)) = false := decide_eq_false (by omega)
            clear hno
            by_cases hC : la = 79 ∧ (ar = [] ∨ 32 < ar.length)
            · have e : fl = badOpaque := by rw [HE.out, hp, if_neg (by simp), HS.out, if_neg (by simp), if_pos hC]
              have hl1 : ((la.toNat : Int) == 79) = true := by rw [hC.1]; rfl
              have HQ : Hid (flS v [] fs = badOpaque) := by
                show _ = _
                rw [HFL.out, if_neg (by rw [e]; simp [badOpaque]), e]
              obtain ⟨_, h0 | h0⟩ := hC
              · have h1b : ((ar.length : Int) == 0) = true := by rw [h0]; rfl
                clear h0 e
                go_wp2
                go_ret
                exact ⟨by rw [HQ.out]; rfl, gb_trans hg hgW⟩
              · have h1b : ((ar.length : Int) == 0) = false := by simp; intro e; rw [e] at h0; simp at h0
                have h2b : decide (32 < (ar.length : Int)) = true := decide_eq_true (by omega)
                clear h0 e
                go_wp2
                go_ret
                exact ⟨by rw [HQ.out]; rfl, gb_trans hg hgW⟩
            · have HB : Hid (fl = if ((hs ≠ decide (ar ≠ []) ∨ (p1 = true ∧ hs = true)) ∨ (p2 = true ∧ p4 = false)) then badToken else []) := by
                show _ = _
                rw [HE.out, hp, if_neg (by simp), HS.out, if_neg (by simp), if_neg hC]
                have hiff := HE0.out (by cases p1 <;> cases p2 <;> simp_all) hC
                split
                · rename_i hx; rw [if_pos (hiff.2 hx)]
                · rename_i hx; rw [if_neg (fun h => hx (hiff.1 h))]
              have HC := Lib.hid hC
              clear hC
              have cases3 : (((la.toNat : Int) == 79) = true ∧ ∃ x0 xs, ar = x0 :: xs ∧ xs.length + 1 ≤ 32) ∨ (((la.toNat : Int) == 79) = false ∧ ∃ x0 xs, ar = x0 :: xs) ∨ (((la.toNat : Int) == 79) = false ∧ ar = []) := by
                have hC := HC.out
                by_cases hla : la = 79
                · cases ar with
                  | nil => exact absurd ⟨hla, .inl rfl⟩ hC
                  | cons x0 xs => exact .inl ⟨by rw [hla]; rfl, x0, xs, rfl, Nat.le_of_not_lt fun e => hC ⟨hla, .inr e⟩⟩
                · have hl1 : ((la.toNat : Int) == 79) = false := beq_eq_false_iff_ne.2 fun e => hla (UInt8.toNat_inj.1 (by show la.toNat = 79; omega))
                  cases ar with
                  | nil => exact .inr (.inr ⟨hl1, rfl⟩)
                  | cons x0 xs => exact .inr (.inl ⟨hl1, x0, xs, rfl⟩)
              clear HE HE0 HC
              have HP := Lib.hid hp
              clear hp
              rcases cases3 with ⟨hl1, x0, xs, rfl, hle⟩ | ⟨hl1, x0, xs, rfl⟩ | ⟨hl1, rfl⟩
              · have HAR : Hid (decide ((x0 :: xs : Bs) ≠ []) = true) := decide_eq_true (by simp)
                have h2b : decide (32 < (xs.length : Int) + 1) = false := decide_eq_false (by omega)
                have h1b : ((xs.length : Int) + 1 == 0) = false := beq_eq_false_iff_ne.2 (by omega)
                all_goals rcases Bool.eq_false_or_eq_true hs with rfl | rfl
                all_goals rcases Bool.eq_false_or_eq_true p1 with rfl | rfl
                all_goals rcases Bool.eq_false_or_eq_true p2 with rfl | rfl
                all_goals try contradiction
                all_goals try (exfalso; revert HP; simp; done)
                all_goals rcases Bool.eq_false_or_eq_true p4 with rfl | rfl
                all_goals
                  go_wp2_with (first | (go_at_call 87; go_must (first | with_reducible refine (hb _).mono ?_ | with_reducible refine (hu _).mono ?_); rintro e w2 ⟨rfl, rfl⟩) | (go_at_call 88; go_must (with_reducible refine (hfo _).mono ?_); rintro e w3 ⟨rfl, hg3⟩))
                  all_goals try (exfalso; omega)
                  all_goals first
                    | (go_ret
                       have e : fl = badToken := by have h := HB.out; rw [HAR.out] at h; simpa using h
                       refine ⟨?_, gb_trans hg (by first | exact hgW | exact gb_trans hgW hg3)⟩
                       rw [HFL.out, if_neg (by rw [e]; simp [badToken]), e]
                       rfl)
                    | (have e : fl = [] := by have h := HB.out; rw [HAR.out] at h; simpa using h
                       refine ⟨⟨j + 1, by omega, by simp, gb_trans hg (by first | exact hgW | exact gb_trans hgW hg3), ?_⟩, by simp [intOf]; omega⟩
                       rw [HST.out, HFL.out, if_pos e])
              · have HAR : Hid (decide ((x0 :: xs : Bs) ≠ []) = true) := decide_eq_true (by simp)
                all_goals rcases Bool.eq_false_or_eq_true hs with rfl | rfl
                all_goals rcases Bool.eq_false_or_eq_true p1 with rfl | rfl
                all_goals rcases Bool.eq_false_or_eq_true p2 with rfl | rfl
                all_goals try contradiction
                all_goals try (exfalso; revert HP; simp; done)
                all_goals rcases Bool.eq_false_or_eq_true p4 with rfl | rfl
                all_goals
                  go_wp2_with (first | (go_at_call 87; go_must (first | with_reducible refine (hb _).mono ?_ | with_reducible refine (hu _).mono ?_); rintro e w2 ⟨rfl, rfl⟩) | (go_at_call 88; go_must (with_reducible refine (hfo _).mono ?_); rintro e w3 ⟨rfl, hg3⟩))
                  all_goals try (exfalso; omega)
                  all_goals first
                    | (go_ret
                       have e : fl = badToken := by have h := HB.out; rw [HAR.out] at h; simpa using h
                       refine ⟨?_, gb_trans hg (by first | exact hgW | exact gb_trans hgW hg3)⟩
                       rw [HFL.out, if_neg (by rw [e]; simp [badToken]), e]
                       rfl)
                    | (have e : fl = [] := by have h := HB.out; rw [HAR.out] at h; simpa using h
                       refine ⟨⟨j + 1, by omega, by simp, gb_trans hg (by first | exact hgW | exact gb_trans hgW hg3), ?_⟩, by simp [intOf]; omega⟩
                       rw [HST.out, HFL.out, if_pos e])
              · have HAR : Hid (decide (([] : Bs) ≠ []) = false) := decide_eq_false (by simp)
                all_goals rcases Bool.eq_false_or_eq_true hs with rfl | rfl
                all_goals rcases Bool.eq_false_or_eq_true p1 with rfl | rfl
                all_goals rcases Bool.eq_false_or_eq_true p2 with rfl | rfl
                all_goals try contradiction
                all_goals try (exfalso; revert HP; simp; done)
                all_goals rcases Bool.eq_false_or_eq_true p4 with rfl | rfl
                all_goals
                  go_wp2_with (first | (go_at_call 87; go_must (first | with_reducible refine (hb _).mono ?_ | with_reducible refine (hu _).mono ?_); rintro e w2 ⟨rfl, rfl⟩) | (go_at_call 88; go_must (with_reducible refine (hfo _).mono ?_); rintro e w3 ⟨rfl, hg3⟩))
                  all_goals try (exfalso; omega)
                  all_goals first
                    | (go_ret
                       have e : fl = badToken := by have h := HB.out; rw [HAR.out] at h; simpa using h
                       refine ⟨?_, gb_trans hg (by first | exact hgW | exact gb_trans hgW hg3)⟩
                       rw [HFL.out, if_neg (by rw [e]; simp [badToken]), e]
                       rfl)
                    | (have e : fl = [] := by have h := HB.out; rw [HAR.out] at h; simpa using h
                       refine ⟨⟨j + 1, by omega, by simp, gb_trans hg (by first | exact hgW | exact gb_trans hgW hg3), ?_⟩, by simp [intOf]; omega⟩
                       rw [HST.out, HFL.out, if_pos e])
    · have d1 : decide ((fs.length : Int) < (fs.length : Int)) = false := decide_eq_false (by omega)
      rw [List.drop_length] at hfl'
      go_wp2
      go_ret
      exact ⟨by rw [hfl']; rfl, hg⟩
end Go.Proofs.YtobegepebochkaaGreatDoor
namespace Go.Proofs.YtobegepebochkaaGreatDoor
open Go.RowKit Go.Maps
theorem ws_row {w : World} {B n : Nat} {v : Value} {ws : List Bs} (h : w.ownsRow B 9 1 v n (ws.map sv)) (hn : ws.length = n) : Ws w v ws := by
  obtain ⟨ao, c, rfl, _, h2, _, h4⟩ := row_shape h
  rcases Nat.eq_zero_or_pos n with h0 | h0
  · subst h0; exact .inl ⟨List.length_eq_zero_iff.1 hn, _, _, rfl⟩
  · obtain ⟨g, rfl⟩ := h4 h0
    obtain ⟨cur, hcur⟩ := row_block h g rfl
    exact .inr ⟨g, 0, c, by rw [hn], by omega, lt_of_block hcur, fun i x hx => by rw [Nat.zero_add]; exact row_cell h i _ (by rw [List.getElem?_map, hx]; rfl)⟩
theorem fcs_get3 : ∀ (l : List Fl) (i : Nat) (f : Fl), l[i]? = some f → (fcs l)[i * 3]? = some (.int .u8 f.letter.toNat) ∧ (fcs l)[i * 3 + 1]? = some (sv f.arg) ∧ (fcs l)[i * 3 + 2]? = some (.bool f.has)
  | [], i, f, h => by simp at h
  | x :: l, 0, f, h => by
    simp at h
    subst h
    exact ⟨rfl, rfl, rfl⟩
  | x :: l, i + 1, f, h => by
    simp at h
    have e : fcs (x :: l) = .int .u8 x.letter.toNat :: sv x.arg :: .bool x.has :: fcs l := rfl
    have e1 : (i + 1) * 3 = i * 3 + 1 + 1 + 1 := by omega
    rw [e, e1]
    simp only [List.getElem?_cons_succ]
    have := fcs_get3 l i f h
    exact this
theorem fs_row {w : World} {B : Nat} {v : Value} {fs : List Fl} (h : w.ownsRow B 79 3 v fs.length (fcs fs)) : Fs w v fs := by
  obtain ⟨ao, c, rfl, _, h2, _, h4⟩ := row_shape h
  rcases Nat.eq_zero_or_pos fs.length with h0 | h0
  · rw [h0]; exact .inl ⟨List.length_eq_zero_iff.1 h0, _, _, rfl⟩
  · obtain ⟨g, rfl⟩ := h4 h0
    refine .inr ⟨g, c, rfl, fun i f hf => ?_⟩
    obtain ⟨a, b, d⟩ := fcs_get3 fs i f hf
    exact ⟨row_cell h _ _ a, row_cell h _ _ b, row_cell h _ _ d⟩
theorem by_row {w : World} {B : Nat} {v : Value} {l : Bs} (h : w.ownsRow B 5 1 v l.length (l.map b8)) (hl : l.length ≤ 1099511627776) : By w v l := by
  obtain ⟨ao, c, rfl, _, h2, _, h4⟩ := row_shape h
  rcases Nat.eq_zero_or_pos l.length with h0 | h0
  · rw [h0]; exact .inl ⟨List.length_eq_zero_iff.1 h0, _, _, rfl⟩
  · obtain ⟨g, rfl⟩ := h4 h0
    refine .inr ⟨g, 0, c, rfl, hl, row_lt h g rfl, fun i x hi => ?_⟩
    rw [Nat.zero_add]
    refine row_cell h i _ ?_
    rw [List.getElem?_map, hi]; rfl
set_option maxRecDepth 100000 in
set_option maxHeartbeats 4000000 in
theorem texts_82 {w : World} {u v : Value} {ws : List Bs} (hu : Ws w u ws) (hv : Ws w v ws) (hn : ws.length ≤ 9223372036854775807) :
    Calls Tryz.prog 82 #[u, v] w fun e w' => e = .returned (.bool true) ∧ w.grownBy w' none := by
  obtain ⟨n, hnn⟩ : ∃ n, ws.length = n := ⟨_, rfl⟩
  have hcu : ∃ a c, u = .slice a n c ∧ ∀ i x, ws[i]? = some x → ∃ g o, a = some ⟨g, o, none⟩ ∧ w.cell? ⟨g, o + i, none⟩ = some (sv x) := by
    rcases hu with ⟨rfl, a, c, rfl⟩ | ⟨g, o, c, rfl, _, _, h⟩
    · exact ⟨a, c, by rw [← hnn]; rfl, fun i x hx => by simp at hx⟩
    · exact ⟨_, c, by rw [hnn], fun i x hx => ⟨g, o, rfl, h i x hx⟩⟩
  have hcv : ∃ a c, v = .slice a n c ∧ ∀ i x, ws[i]? = some x → ∃ g o, a = some ⟨g, o, none⟩ ∧ w.cell? ⟨g, o + i, none⟩ = some (sv x) := by
    rcases hv with ⟨rfl, a, c, rfl⟩ | ⟨g, o, c, rfl, _, _, h⟩
    · exact ⟨a, c, by rw [← hnn]; rfl, fun i x hx => by simp at hx⟩
    · exact ⟨_, c, by rw [hnn], fun i x hx => ⟨g, o, rfl, h i x hx⟩⟩
  obtain ⟨ua, uc, rfl, hcu⟩ := hcu
  obtain ⟨va, vc, rfl, hcv⟩ := hcv
  clear hu hv
  go_enter Tryz.func82, Tryz.ntmps82
  go_wp2
  go_loopw [5] (fun x wr => ∃ k : Nat, k ≤ n ∧ x = .int .i64 k ∧ w.grownBy wr none) (fun x _ => n - (intOf x).toNat)
  case atStart => exact ⟨0, by omega, rfl, gb_refl _ _⟩
  case round =>
    obtain ⟨k, hk, rfl, hg⟩ := hrel
    rcases (by omega : k < n ∨ k = n) with hlt | rfl
    · obtain ⟨x, hx⟩ : ∃ x, ws[k]? = some x := ⟨_, List.getElem?_eq_getElem (by omega)⟩
      obtain ⟨g1, o1, rfl, c1⟩ := hcu k x hx
      obtain ⟨g2, o2, rfl, c2⟩ := hcv k x hx
      have c1 := gb_cellN hg c1
      have c2 := gb_cellN hg c2
      have d1 : ((k : Int) < (n : Int)) := by omega
      clear hcu hcv
      go_wp2
      go_quiet (fail)
      go_wp2
      refine ⟨⟨k + 1, by omega, by simp, gb_drewN hg _⟩, by simp [intOf]; omega⟩
    · have d1 : decide ((k : Int) < (k : Int)) = false := decide_eq_false (by omega)
      go_wp2
      go_ret
      exact ⟨rfl, hg⟩
set_option maxRecDepth 100000 in
set_option maxHeartbeats 4000000 in
theorem kflags_104 {w : World} {u v : Value} {fs : List Fl} (hu : Fs w u fs) (hv : Fs w v fs) (hn : fs.length ≤ 9223372036854775807) :
    Calls Tryz.prog 104 #[u, v] w fun e w' => e = .returned (.bool true) ∧ w.grownBy w' none := by
  obtain ⟨n, hnn⟩ : ∃ n, fs.length = n := ⟨_, rfl⟩
  have key : ∀ {u : Value}, Fs w u fs → ∃ a c, u = .slice a n c ∧ ∀ i f, fs[i]? = some f → ∃ g, a = some ⟨g, 0, none⟩ ∧ w.cell? ⟨g, i * 3, none⟩ = some (.int .u8 f.letter.toNat) ∧ w.cell? ⟨g, i * 3 + 1, none⟩ = some (sv f.arg) ∧ w.cell? ⟨g, i * 3 + 2, none⟩ = some (.bool f.has) := by
    intro u hu
    rcases hu with ⟨rfl, a, c, rfl⟩ | ⟨g, c, rfl, h⟩
    · exact ⟨a, c, by rw [← hnn]; rfl, fun i x hx => by simp at hx⟩
    · exact ⟨_, c, by rw [hnn], fun i x hx => ⟨g, rfl, h i x hx⟩⟩
  obtain ⟨ua, uc, rfl, hcu⟩ := key hu
  obtain ⟨va, vc, rfl, hcv⟩ := key hv
  clear hu hv key
  go_enter Tryz.func104, Tryz.ntmps104
  go_wp2
  go_loopw [5] (fun x wr => ∃ k : Nat, k ≤ n ∧ x = .int .i64 k ∧ w.grownBy wr none) (fun x _ => n - (intOf x).toNat)
  case atStart => exact ⟨0, by omega, rfl, gb_refl _ _⟩
  case round =>
    obtain ⟨k, hk, rfl, hg⟩ := hrel
    rcases (by omega : k < n ∨ k = n) with hlt | rfl
    · obtain ⟨⟨fl, fa, fh⟩, hx⟩ : ∃ x, fs[k]? = some x := ⟨_, List.getElem?_eq_getElem (by omega)⟩
      obtain ⟨g1, rfl, c1, c2, c3⟩ := hcu k _ hx
      obtain ⟨g2, rfl, e1, e2, e3⟩ := hcv k _ hx
      replace c1 := gb_cellN hg c1
      replace c2 := gb_cellN hg c2
      replace c3 := gb_cellN hg c3
      replace e1 := gb_cellN hg e1
      replace e2 := gb_cellN hg e2
      replace e3 := gb_cellN hg e3
      dsimp only at c1 c2 c3 e1 e2 e3
      have d1 : ((k : Int) < (n : Int)) := by omega
      clear hcu hcv
      go_wp2
      go_quiet (fail)
      go_wp2
      refine ⟨⟨k + 1, by omega, by simp, gb_drewN hg _⟩, by simp [intOf]; omega⟩
    · have d1 : decide ((k : Int) < (k : Int)) = false := decide_eq_false (by omega)
      go_wp2
      go_ret
      exact ⟨rfl, hg⟩
end Go.Proofs.YtobegepebochkaaGreatDoor

import Derived.Test.YtobegepebochkaaGreatDoorRPbc
set_option linter.unusedVariables false
set_option linter.unusedSimpArgs false
set_option maxRecDepth 100000
set_option maxHeartbeats 16000000
namespace Go.Proofs.YtobegepebochkaaGreatDoor
open Go.RowKit
def bh (v : Int) (f : Fl) : Bool :=
  if f.letter = 79 then plain f.arg && decide (1 <= f.arg.length) && decide (f.arg.length <= 250) else
  if f.letter = 84 \/ f.letter = 78 then (tm f.arg).isSome else
  if f.letter = 70 then (nb 4294967295 f.arg).isSome else
  if f.letter = 82 \/ f.letter = 67 \/ f.letter = 68 \/ f.letter = 74 then (nb 18446744073709551615 f.arg).isSome else mode1 v f.arg
theorem mode_one (v : Int) (b : UInt8) : mode1 v [b] = if v = 21 then ([83, 69, 65, 80, 82, 115, 101, 97, 112, 114] : Bs).contains b else ([73, 68, 105, 100] : Bs).contains b := by
  have e : mode1 v [b] = (modes v).contains b := by simp only [mode1]
  rw [e]
  by_cases h : v = 21
  . have e : modes v = [83, 69, 65, 80, 82, 115, 101, 97, 112, 114] := by simp only [modes, h, if_true]
    rw [if_pos h, e]
  . have e : modes v = [73, 68, 105, 100] := by simp only [modes, h, if_false]
    rw [if_neg h, e]
theorem mode_no (v : Int) {l : Bs} (h : l.length ≠ 1) : mode1 v l = false := by
  match l, h with
  | [], _ => simp only [mode1]
  | [x], h => exact absurd rfl h
  | x :: y :: t, _ => simp only [mode1]
theorem behind_88 (v : Int) (f : Fl) (hl : f.arg.length <= 4611686018427387904) (w : World) :
    Calls Tryz.prog 88 #[.int .i64 v, fv f] w fun e w' => e = .returned (.bool (bh v f)) /\ w.grownBy w' none := by
  obtain ⟨a, l, q⟩ := f
  have h1 := fun w' => timeOf_98 l hl w'
  have h2 := fun w' => number_96 l hl 18446744073709551615 18446744073709551615 rfl (by omega) w'
  have h3 := fun w' => number_96 l hl 4294967295 4294967295 rfl (by omega) w'
  have h4 := fun w' => key_97 l hl w'
  obtain ⟨x1, e1⟩ : ∃ x, (tm l).isSome = x := ⟨_, rfl⟩
  obtain ⟨x2, e2⟩ : ∃ x, (nb 18446744073709551615 l).isSome = x := ⟨_, rfl⟩
  obtain ⟨x3, e3⟩ : ∃ x, (nb 4294967295 l).isSome = x := ⟨_, rfl⟩
  obtain ⟨x4, e4⟩ : ∃ x, (plain l && decide (1 <= l.length) && decide (l.length <= 250)) = x := ⟨_, rfl⟩
  obtain ⟨y1, f1⟩ : ∃ x : Int, (tm l).getD 0 = x := ⟨_, rfl⟩
  obtain ⟨y2, f2⟩ : ∃ x : Int, ((nb 18446744073709551615 l).getD 0 : Nat) = x := ⟨_, rfl⟩
  obtain ⟨y3, f3⟩ : ∃ x : Int, ((nb 4294967295 l).getD 0 : Nat) = x := ⟨_, rfl⟩
  simp only [e1, e2, e3, e4, f1, f2, f3] at h1 h2 h3 h4
  have HF : Hid (bh v ⟨a, l, q⟩ = if (a.toNat : Int) = 79 then x4 else if (a.toNat : Int) = 84 \/ (a.toNat : Int) = 78 then x1 else
      if (a.toNat : Int) = 70 then x3 else if (a.toNat : Int) = 82 \/ (a.toNat : Int) = 67 \/ (a.toNat : Int) = 68 \/ (a.toNat : Int) = 74 then x2 else
      mode1 v l) := by
    show _ = _
    simp only [bh, u8i, UInt8.reduceToNat, e1, e2, e3, e4]
    rfl
  clear e1 e2 e3 e4 f1 f2 f3
  have hG := gb_alloc (gb_refl w none) (Obj.cells #[Value.int .u8 a.toNat, sv l, Value.bool q] 79)
  have h87 := fun b w' => holds_87 [83, 69, 65, 80, 82, 115, 101, 97, 112, 114] (by simp) b w'
  have h88 := fun b w' => holds_87 [73, 68, 105, 100] (by simp) b w'
  obtain ⟨b, hb⟩ : ∃ b, l.getD 0 0 = b := ⟨_, rfl⟩
  have hg0 : ∀ h : 0 < (ByteArray.mk l.toArray).size, (ByteArray.mk l.toArray)[0] = b := fun h => (ba_get l 0 h).trans hb
  have h87 := h87 b
  have h88 := h88 b
  have HM : Hid (l.length = 1 -> mode1 v l = if v = 21 then ([83, 69, 65, 80, 82, 115, 101, 97, 112, 114] : Bs).contains b else ([73, 68, 105, 100] : Bs).contains b) := by
    show _ -> _
    intro h
    obtain ⟨c, rfl⟩ := List.length_eq_one_iff.1 h
    obtain rfl : c = b := hb
    exact mode_one v c
  have HN : Hid (l.length ≠ 1 -> mode1 v l = false) := fun h => mode_no v h
  clear hb
  obtain ⟨z1, g1⟩ : ∃ x, ([83, 69, 65, 80, 82, 115, 101, 97, 112, 114] : Bs).contains b = x := ⟨_, rfl⟩
  obtain ⟨z2, g2⟩ : ∃ x, ([73, 68, 105, 100] : Bs).contains b = x := ⟨_, rfl⟩
  simp only [g1] at h87 HM
  simp only [g2] at h88 HM
  clear g1 g2
  obtain ⟨M, hM⟩ : ∃ x, mode1 v l = x := ⟨_, rfl⟩
  rw [hM] at HF HM HN
  clear hM hl
  go_enter Tryz.func88, Tryz.ntmps88
  go_wp2_with (first | (go_at_call 97; go_must (with_reducible refine (h4 _).mono ?_); rintro e w' ⟨rfl, rfl⟩) | (go_at_call 98; go_must (with_reducible refine (h1 _).mono ?_); rintro e w' ⟨rfl, rfl⟩) | (go_at_call 96; go_must (first | with_reducible refine (h2 _).mono ?_ | with_reducible refine (h3 _).mono ?_); rintro e w' ⟨rfl, rfl⟩) | (go_at_call 87; go_must (first | with_reducible refine (h87 _).mono ?_ | with_reducible refine (h88 _).mono ?_); rintro e w' ⟨rfl, rfl⟩))
  all_goals clear h1 h2 h3 h4 h87 h88 hg0
  all_goals (try simp only [beq_iff_eq, beq_eq_false_iff_ne, bne_iff_ne, bne_eq_false_iff_eq, ne_eq] at *)
  all_goals try (exfalso; omega)
  all_goals
    go_ret
    refine ⟨congrArg (fun b => Ending.returned (Value.bool b)) (Eq.trans ?_ HF.out.symm), hG⟩
    first
      | (simp [*]; done)
      | (rw [HN.out (by omega)]; simp [*]; done)
      | (rw [HM.out (by omega)]; simp [*]; done)
end Go.Proofs.YtobegepebochkaaGreatDoor
namespace Go.Proofs.YtobegepebochkaaGreatDoor
open Go.RowKit
theorem full_mem {v : Int} {a : UInt8} (h : (full v).contains a = true) : a ∈ ([79, 84, 78, 82, 70, 67, 77, 68, 74] : Bs) := by
  have h := List.contains_iff_mem.1 h
  unfold full at h
  split at h
  . revert h; simp; intro h; rcases h with h | h | h | h <;> simp [h]
  . split at h
    . revert h; simp; intro h; rcases h with h | h | h | h | h <;> simp [h]
    . split at h
      . revert h; simp; intro h; rcases h with h | h | h <;> simp [h]
      . split at h
        . revert h; simp; intro h; rcases h with h | h | h | h | h | h | h <;> simp [h]
        . simp at h
theorem bare_full {v : Int} {a : UInt8} (h : (bare v).contains a = true) : (full v).contains a = false := by
  have h := List.contains_iff_mem.1 h
  unfold bare at h
  unfold full
  split at h
  . rename_i e; simp only [e, if_true]; revert h; simp; intro h; rcases h with h | h | h | h | h | h | h | h | h <;> subst h <;> decide
  . rename_i e0; split at h
    . rename_i e; simp only [e, if_true]; revert h; simp; intro h; rcases h with h | h | h | h <;> subst h <;> decide
    . rename_i e1; split at h
      . rename_i e; simp only [e, if_true]; revert h; simp; intro h; rcases h with h | h | h | h <;> subst h <;> decide
      . rename_i e2; split at h
        . rename_i e; simp only [e, if_true]; revert h; simp; intro h; rcases h with h | h | h | h | h <;> subst h <;> decide
        . simp at h
theorem nb_nil (n : Nat) : nb n [] = none := by simp [nb, Lib.parseUintB]
theorem tm_nil : tm [] = none := by simp [tm, Lib.parseIntB]
theorem bh_nil (v : Int) (a : UInt8) (q : Bool) : bh v ⟨a, [], q⟩ = false := by
  simp [bh, nb_nil, tm_nil, mode_no v (l := []) (by simp)]
theorem bh_follows {v : Int} {a : UInt8} {l : Bs} {q : Bool} (h : (full v).contains a = true) (h2 : ¬ (a = 79 /\ (l = [] \/ 32 < l.length))) : bh v ⟨a, l, q⟩ = follows v ⟨a, l, q⟩ := by
  have hm := full_mem h
  simp only [List.mem_cons, List.not_mem_nil, or_false] at hm
  unfold bh follows
  rcases hm with rfl | rfl | rfl | rfl | rfl | rfl | rfl | rfl | rfl
  . have h3 : l ≠ [] /\ l.length <= 32 := by
      constructor
      . intro e; exact h2 ⟨rfl, .inl e⟩
      . apply Nat.le_of_not_lt; intro e; exact h2 ⟨rfl, .inr e⟩
    have h4 : 1 <= l.length := List.length_pos_iff.2 h3.1
    simp only [if_true]
    rw [decide_eq_true h4, decide_eq_true (show l.length <= 250 by omega)]
    simp
  all_goals simp
theorem bad_eq {v : Int} {a : UInt8} {l : Bs} {q : Bool} (h : (bare v).contains a = true \/ (full v).contains a = true) (h2 : ¬ (a = 79 /\ (l = [] \/ 32 < l.length))) :
    ((q ≠ decide (l ≠ []) \/ ((bare v).contains a = true /\ q = true)) \/ ((full v).contains a = true /\ bh v ⟨a, l, q⟩ = false)) ↔ (q ≠ decide (l ≠ []) \/ q ≠ (full v).contains a \/ (q = true /\ follows v ⟨a, l, q⟩ = false)) := by
  by_cases hq : q = decide (l ≠ [])
  . rcases Bool.eq_false_or_eq_true ((full v).contains a) with hf | hf
    . have hb : (bare v).contains a = false := by
        rcases Bool.eq_false_or_eq_true ((bare v).contains a) with hb | hb
        . rw [bare_full hb] at hf; cases hf
        . exact hb
      rw [hf, hb, <- bh_follows hf h2]
      rcases Bool.eq_false_or_eq_true q with hq1 | hq1
      . subst hq1; simp [hq.symm]
      . have hl : l = [] := by
          rw [hq1] at hq
          simpa using hq
        subst hl
        subst hq1
        simp [bh_nil]
    . have hb : (bare v).contains a = true := by
        rcases h with h | h
        . exact h
        . rw [hf] at h; cases h
      rw [hf, hb]
      rcases Bool.eq_false_or_eq_true q with hq1 | hq1 <;> subst hq1 <;> simp
  . exact ⟨fun _ => .inl hq, fun _ => .inl (.inl hq)⟩
end Go.Proofs.YtobegepebochkaaGreatDoor
namespace Go.Proofs.YtobegepebochkaaGreatDoor
open Go.RowKit
def Fg (w : World) (v : Value) (fs : List Fl) : Prop := (fs = [] /\ ∃ a c, v = .slice a 0 c) \/ ∃ g o c, v = .slice (some ⟨g, o, none⟩) fs.length c /\ ∀ i f, fs[i]? = some f ->
  w.cell? ⟨g, o + i * 3, none⟩ = some (.int .u8 f.letter.toNat) /\ w.cell? ⟨g, o + i * 3 + 1, none⟩ = some (sv f.arg) /\ w.cell? ⟨g, o + i * 3 + 2, none⟩ = some (.bool f.has)
def seen (fs : List Fl) (k : Nat) : Bs := ((fs.take k).map (·.letter)).reverse
theorem seen_step {fs : List Fl} {k : Nat} {f : Fl} (h : fs[k]? = some f) : seen fs (k + 1) = f.letter :: seen fs k := by
  simp [seen, List.take_add_one, h]
theorem seen_has {fs : List Fl} {k j : Nat} {f : Fl} (hj : fs[j]? = some f) (hk : j < k) : (seen fs k).contains f.letter = true := by
  refine List.contains_iff_mem.2 ?_
  simp only [seen, List.mem_reverse, List.mem_map]
  refine ⟨f, ?_, rfl⟩
  have : (fs.take k)[j]? = some f := by rw [List.getElem?_take, if_pos hk, hj]
  exact List.mem_of_getElem? this
theorem seen_not {fs : List Fl} {k : Nat} {a : UInt8} (h : ∀ j f, j < k -> fs[j]? = some f -> f.letter ≠ a) : (seen fs k).contains a = false := by
  rw [<- Bool.not_eq_true]
  intro hc
  have hc := List.contains_iff_mem.1 hc
  simp only [seen, List.mem_reverse, List.mem_map] at hc
  obtain ⟨f, hf, e⟩ := hc
  obtain ⟨j, hj⟩ := List.mem_iff_getElem?.1 hf
  rw [List.getElem?_take] at hj
  split at hj
  . exact h j f (by assumption) hj e
  . cases hj
theorem bare_len (v : Int) : (bare v).length <= 4611686018427387904 := by
  unfold bare; repeat' split
  all_goals simp
theorem full_len (v : Int) : (full v).length <= 4611686018427387904 := by
  unfold full; repeat' split
  all_goals simp
theorem rflags_nil (v : Int) (a : Option Addr) (c : Nat) (w : World) :
    Calls Tryz.prog 38 #[.int .i64 v, .slice a 0 c] w fun e w' => e = .returned (sv []) /\ w.grownBy w' none := by
  go_enter Tryz.func38, Tryz.ntmps38
  go_wp2_with (go_at_call 86; refine (flagsOf_86 _ _).mono ?_; rintro e w' ⟨rfl, rfl⟩)
  go_loopw [7] (fun x wr => x = .int .i64 0 /\ wr = w') (fun _ _ => 0)
  case atStart => exact ⟨rfl, rfl⟩
  case round =>
    obtain ⟨rfl, rfl⟩ := hrel
    go_wp2
    go_ret
    exact ⟨rfl, gb_refl _ _⟩
theorem rflags_38 (v : Int) (sl : Value) (fs : List Fl) (hfl : ∀ f ∈ fs, f.arg.length <= 4611686018427387904) (hn : fs.length <= 4611686018427387904) (w : World) (hF : Fg w sl fs) :
    Calls Tryz.prog 38 #[.int .i64 v, sl] w fun e w' => e = .returned (sv (flS v [] fs)) /\ w.grownBy w' none := by
  rcases hF with ⟨rfl, a, c, rfl⟩ | ⟨g, o, c, rfl, hF⟩
  . exact rflags_nil v a c w
  go_enter Tryz.func38, Tryz.ntmps38
  go_wp2_with (go_at_call 86; refine (flagsOf_86 _ _).mono ?_; rintro e w' ⟨rfl, rfl⟩)
  go_loopw [7] (fun x wr => ∃ k : Nat, k <= fs.length /\ x = .int .i64 k /\ w'.grownBy wr none /\ flS v [] fs = flS v (seen fs k) (fs.drop k)) (fun x _ => fs.length - (intOf x).toNat)
  case atStart => exact ⟨0, by omega, rfl, gb_refl _ _, rfl⟩
  case round =>
    obtain ⟨k, hk, rfl, hg, hfl'⟩ := hrel
    have hlt : k < fs.length \/ k = fs.length := by omega
    rcases hlt with hlt | rfl
    . obtain ⟨f, hf⟩ : ∃ f, fs[k]? = some f := ⟨_, List.getElem?_eq_getElem hlt⟩
      have hfm : f ∈ fs := List.mem_of_getElem? hf
      have hst := seen_step hf
      have hdr : fs.drop k = f :: fs.drop (k + 1) := by
        have := List.drop_eq_getElem_cons hlt
        rw [List.getElem?_eq_getElem hlt] at hf
        injection hf with hf
        rw [this, hf]
      rw [hdr] at hfl'
      obtain ⟨la, ar, hs⟩ := f
      simp only [flS] at hfl'
      have hE0 := fun h => bad_eq (v := v) (a := la) (l := ar) (q := hs) h
      obtain ⟨c0, c1, c2⟩ := hF k _ hf
      have c0 := gb_cellN hg c0
      have c1 := gb_cellN hg c1
      have c2 := gb_cellN hg c2
      have d1 : decide ((k : Int) < (fs.length : Int)) = true := decide_eq_true (by omega)
      have hb := fun W => holds_87 (bare v) (bare_len v) la W
      have hu := fun W => holds_87 (full v) (full_len v) la W
      have hlA := hfl _ hfm
      have hfo := fun W => behind_88 v ⟨la, ar, hs⟩ hlA W
      have hgA : wr.grownBy (wr.alloc (Obj.cells #[.int .u8 la.toNat, .string ⟨ar.toArray⟩, .bool hs] 79)) none := gb_alloc (gb_refl _ _) _
      have HE : Hid (fl1 v (seen fs k) ⟨la, ar, hs⟩ = if !(bare v).contains la && !(full v).contains la then noFlag else if (seen fs k).contains la then twice else
        if la = 79 /\ (ar = [] \/ 32 < ar.length) then badOpaque else if hs ≠ decide (ar ≠ []) \/ hs ≠ (full v).contains la \/ (hs = true /\ follows v ⟨la, ar, hs⟩ = false) then badToken else []) := rfl
      obtain ⟨p1, e1⟩ : ∃ p, (bare v).contains la = p := ⟨_, rfl⟩
      obtain ⟨p2, e2⟩ : ∃ p, (full v).contains la = p := ⟨_, rfl⟩
      obtain ⟨p4, e4⟩ : ∃ p, bh v ⟨la, ar, hs⟩ = p := ⟨_, rfl⟩
      obtain ⟨fl, e5⟩ : ∃ p, fl1 v (seen fs k) ⟨la, ar, hs⟩ = p := ⟨_, rfl⟩
      rw [e1] at hb HE
      rw [e2] at hu HE
      rw [e1, e2, e4] at hE0
      rw [e5] at hfl' HE
      simp only [e4] at hfo
      have HFL := Lib.hid hfl'
      have HE0 := Lib.hid hE0
      have HST := Lib.hid hst
      have HF : Hid (fs[k]? = some ⟨la, ar, hs⟩) := hf
      clear hfl' hf hdr e1 e2 e4 e5 hfm hfl hE0 hst
      go_wp2_with (first | (go_at_call 87; go_must (first | with_reducible refine (hb _).mono ?_ | with_reducible refine (hu _).mono ?_); rintro e w2 ⟨rfl, rfl⟩))
      rotate_left
      . rename_i q1 q2
        go_ret
        have e : fl = noFlag := by
          rw [HE.out, if_pos (by simp only [Bool.not_eq_true] at q1; simp [q1]; simpa using q2)]
        refine ⟨?_, gb_trans hg hgA⟩
        rw [HFL.out, if_neg (by rw [e]; simp [noFlag]), e]
        rfl
      all_goals
        have hp : (!p1 && !p2) = false := by simp_all
        obtain ⟨w1, rfl⟩ : ∃ w1, w1 = wr := ⟨_, rfl⟩
        go_loopw [9] (fun x W => ∃ j : Nat, j <= k /\ x = .int .i64 j /\ (w1.grownBy W none /\ Box W 79 w1.heap.size #[.int .u8 la.toNat, .string ⟨ar.toArray⟩, .bool hs]) /\ ∀ i f, i < j -> fs[i]? = some f -> f.letter ≠ la) (fun x _ => k - (intOf x).toNat)
        case atStart => exact ⟨0, by omega, rfl, ⟨hgA, Box.new _ _ _⟩, fun i f h => by omega⟩
        case round =>
          obtain ⟨j, hj, rfl, ⟨hgW, hbx⟩, hno⟩ := hrel
          have p0 : wr.cell? ⟨w1.heap.size, 0, none⟩ = some (.int .u8 la.toNat) := hbx.cell 0
          have p1' : wr.cell? ⟨w1.heap.size, 1, none⟩ = some (sv ar) := hbx.cell 1
          have p2' : wr.cell? ⟨w1.heap.size, 2, none⟩ = some (.bool hs) := hbx.cell 2
          have hjl : j < k \/ j = k := by omega
          rcases hjl with hjl | rfl
          . obtain ⟨fj, hfj⟩ : ∃ f, fs[j]? = some f := ⟨_, List.getElem?_eq_getElem (by omega)⟩
            have d2 : decide ((j : Int) < (k : Int)) = true := decide_eq_true (by omega)
            have cj := gb_cellN (gb_trans hg hgW) (hF j _ hfj).1
            go_wp2
            go_quiet (fail)
            go_wp2
            . rename_i q3
              go_ret
              have e3 : fj.letter = la := UInt8.toNat_inj.1 (by have := beq_iff_eq.1 q3; omega)
              have e : fl = twice := by
                rw [HE.out, hp, if_neg (by simp), if_pos (by rw [<- e3]; exact seen_has hfj hjl)]
              refine ⟨?_, gb_trans hg (gb_drewN hgW _)⟩
              rw [HFL.out, if_neg (by rw [e]; simp [twice]), e]
              rfl
            . rename_i q3
              refine ⟨⟨j + 1, by omega, by simp, ⟨gb_drewN hgW _, hbx.kept (gb_drewN (gb_refl wr none) _) (by simp)⟩, fun i f hi hf => ?_⟩, by simp [intOf]; omega⟩
              rcases Nat.lt_or_ge i j with h | h
              . exact hno i f h hf
              . obtain rfl : i = j := by omega
                rw [hfj] at hf
                injection hf with hf
                subst hf
                intro e3
                rw [e3] at q3
                simp at q3
          . have HS : Hid ((seen fs j).contains la = false) := seen_not (fun i f hi hf => hno i f hi hf)
            have d2 : decide ((j : Int) < (j : Int)) = false := decide_eq_false (by omega)
            clear hno
            by_cases hC : la = 79 /\ (ar = [] \/ 32 < ar.length)
            . have e : fl = badOpaque := by rw [HE.out, hp, if_neg (by simp), HS.out, if_neg (by simp), if_pos hC]
              have hl1 : ((la.toNat : Int) == 79) = true := by rw [hC.1]; rfl
              have HQ : Hid (flS v [] fs = badOpaque) := by
                show _ = _
                rw [HFL.out, if_neg (by rw [e]; simp [badOpaque]), e]
              obtain ⟨_, h0 | h0⟩ := hC
              . have h1b : ((ar.length : Int) == 0) = true := by rw [h0]; rfl
                clear h0 e
                go_wp2
                go_ret
                exact ⟨by rw [HQ.out]; rfl, gb_trans hg hgW⟩
              . have h1b : ((ar.length : Int) == 0) = false := by simp; intro e; rw [e] at h0; simp at h0
                have h2b : decide (32 < (ar.length : Int)) = true := decide_eq_true (by omega)
                clear h0 e
                go_wp2
                go_ret
                exact ⟨by rw [HQ.out]; rfl, gb_trans hg hgW⟩
            . have HB : Hid (fl = if ((hs ≠ decide (ar ≠ []) \/ (p1 = true /\ hs = true)) \/ (p2 = true /\ p4 = false)) then badToken else []) := by
                show _ = _
                rw [HE.out, hp, if_neg (by simp), HS.out, if_neg (by simp), if_neg hC]
                have hiff := HE0.out (by cases p1 <;> cases p2 <;> simp_all) hC
                split
                . rename_i hx; rw [if_pos (hiff.2 hx)]
                . rename_i hx; rw [if_neg (fun h => hx (hiff.1 h))]
              have HC := Lib.hid hC
              clear hC
              have cases3 : (((la.toNat : Int) == 79) = true /\ ∃ x0 xs, ar = x0 :: xs /\ xs.length + 1 <= 32) \/ (((la.toNat : Int) == 79) = false /\ ∃ x0 xs, ar = x0 :: xs) \/ (((la.toNat : Int) == 79) = false /\ ar = []) := by
                have hC := HC.out
                by_cases hla : la = 79
                . cases ar with
                  | nil => exact absurd ⟨hla, .inl rfl⟩ hC
                  | cons x0 xs => exact .inl ⟨by rw [hla]; rfl, x0, xs, rfl, Nat.le_of_not_lt fun e => hC ⟨hla, .inr e⟩⟩
                . have hl1 : ((la.toNat : Int) == 79) = false := beq_eq_false_iff_ne.2 fun e => hla (UInt8.toNat_inj.1 (by show la.toNat = 79; omega))
                  cases ar with
                  | nil => exact .inr (.inr ⟨hl1, rfl⟩)
                  | cons x0 xs => exact .inr (.inl ⟨hl1, x0, xs, rfl⟩)
              clear HE HE0 HC
              have HP := Lib.hid hp
              clear hp
              rcases cases3 with ⟨hl1, x0, xs, rfl, hle⟩ | ⟨hl1, x0, xs, rfl⟩ | ⟨hl1, rfl⟩
              . have HAR : Hid (decide ((x0 :: xs : Bs) ≠ []) = true) := decide_eq_true (by simp)
                have h2b : decide (32 < (xs.length : Int) + 1) = false := decide_eq_false (by omega)
                have h1b : ((xs.length : Int) + 1 == 0) = false := beq_eq_false_iff_ne.2 (by omega)
                all_goals rcases Bool.eq_false_or_eq_true hs with rfl | rfl
                all_goals rcases Bool.eq_false_or_eq_true p1 with rfl | rfl
                all_goals rcases Bool.eq_false_or_eq_true p2 with rfl | rfl
                all_goals try contradiction
                all_goals try (exfalso; revert HP; simp; done)
                all_goals rcases Bool.eq_false_or_eq_true p4 with rfl | rfl
                all_goals
                  go_wp2_with (first | (go_at_call 87; go_must (first | with_reducible refine (hb _).mono ?_ | with_reducible refine (hu _).mono ?_); rintro e w2 ⟨rfl, rfl⟩) | (go_at_call 88; go_must (with_reducible refine (hfo _).mono ?_); rintro e w3 ⟨rfl, hg3⟩))
                  all_goals try (exfalso; omega)
                  all_goals first
                    | (go_ret
                       have e : fl = badToken := by have h := HB.out; rw [HAR.out] at h; simpa using h
                       refine ⟨?_, gb_trans hg (by first | exact hgW | exact gb_trans hgW hg3)⟩
                       rw [HFL.out, if_neg (by rw [e]; simp [badToken]), e]
                       rfl)
                    | (have e : fl = [] := by have h := HB.out; rw [HAR.out] at h; simpa using h
                       refine ⟨⟨j + 1, by omega, by simp, gb_trans hg (by first | exact hgW | exact gb_trans hgW hg3), ?_⟩, by simp [intOf]; omega⟩
                       rw [HST.out, HFL.out, if_pos e])
              . have HAR : Hid (decide ((x0 :: xs : Bs) ≠ []) = true) := decide_eq_true (by simp)
                all_goals rcases Bool.eq_false_or_eq_true hs with rfl | rfl
                all_goals rcases Bool.eq_false_or_eq_true p1 with rfl | rfl
                all_goals rcases Bool.eq_false_or_eq_true p2 with rfl | rfl
                all_goals try contradiction
                all_goals try (exfalso; revert HP; simp; done)
                all_goals rcases Bool.eq_false_or_eq_true p4 with rfl | rfl
                all_goals
                  go_wp2_with (first | (go_at_call 87; go_must (first | with_reducible refine (hb _).mono ?_ | with_reducible refine (hu _).mono ?_); rintro e w2 ⟨rfl, rfl⟩) | (go_at_call 88; go_must (with_reducible refine (hfo _).mono ?_); rintro e w3 ⟨rfl, hg3⟩))
                  all_goals try (exfalso; omega)
                  all_goals first
                    | (go_ret
                       have e : fl = badToken := by have h := HB.out; rw [HAR.out] at h; simpa using h
                       refine ⟨?_, gb_trans hg (by first | exact hgW | exact gb_trans hgW hg3)⟩
                       rw [HFL.out, if_neg (by rw [e]; simp [badToken]), e]
                       rfl)
                    | (have e : fl = [] := by have h := HB.out; rw [HAR.out] at h; simpa using h
                       refine ⟨⟨j + 1, by omega, by simp, gb_trans hg (by first | exact hgW | exact gb_trans hgW hg3), ?_⟩, by simp [intOf]; omega⟩
                       rw [HST.out, HFL.out, if_pos e])
              . have HAR : Hid (decide (([] : Bs) ≠ []) = false) := decide_eq_false (by simp)
                all_goals rcases Bool.eq_false_or_eq_true hs with rfl | rfl
                all_goals rcases Bool.eq_false_or_eq_true p1 with rfl | rfl
                all_goals rcases Bool.eq_false_or_eq_true p2 with rfl | rfl
                all_goals try contradiction
                all_goals try (exfalso; revert HP; simp; done)
                all_goals rcases Bool.eq_false_or_eq_true p4 with rfl | rfl
                all_goals
                  go_wp2_with (first | (go_at_call 87; go_must (first | with_reducible refine (hb _).mono ?_ | with_reducible refine (hu _).mono ?_); rintro e w2 ⟨rfl, rfl⟩) | (go_at_call 88; go_must (with_reducible refine (hfo _).mono ?_); rintro e w3 ⟨rfl, hg3⟩))
                  all_goals try (exfalso; omega)
                  all_goals first
                    | (go_ret
                       have e : fl = badToken := by have h := HB.out; rw [HAR.out] at h; simpa using h
                       refine ⟨?_, gb_trans hg (by first | exact hgW | exact gb_trans hgW hg3)⟩
                       rw [HFL.out, if_neg (by rw [e]; simp [badToken]), e]
                       rfl)
                    | (have e : fl = [] := by have h := HB.out; rw [HAR.out] at h; simpa using h
                       refine ⟨⟨j + 1, by omega, by simp, gb_trans hg (by first | exact hgW | exact gb_trans hgW hg3), ?_⟩, by simp [intOf]; omega⟩
                       rw [HST.out, HFL.out, if_pos e])
    . have d1 : decide ((fs.length : Int) < (fs.length : Int)) = false := decide_eq_false (by omega)
      rw [List.drop_length] at hfl'
      go_wp2
      go_ret
      exact ⟨by rw [hfl']; rfl, hg⟩
end Go.Proofs.YtobegepebochkaaGreatDoor

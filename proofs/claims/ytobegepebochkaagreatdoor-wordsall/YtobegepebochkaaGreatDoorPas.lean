import Derived.Test.YtobegepebochkaaGreatDoorPar
import Derived.Test.YtobegepebochkaaGreatDoorH
set_option linter.unusedVariables false
set_option linter.unusedSimpArgs false
namespace Go.Proofs.YtobegepebochkaaGreatDoor
open Go.RowKit Go.Maps
attribute [local go_sem] Oper.semAt_some
abbrev Z41 : Array Value := #[.int .i64 0, .slice none 0 0, .int .u64 0, .int .i64 0, .int .u64 0, .int .u64 0, .slice none 0 0, .bool false, .bool false, .slice none 0 0, .string ⟨#[]⟩]
set_option maxRecDepth 100000 in
set_option maxHeartbeats 4000000 in
theorem wrong_55 (s : Bs) (p : Int) (w : World) : Calls Tryz.prog 55 #[sv s, .int .i64 p] w fun e w' => e = .returned (.tuple #[.agg #[.int .i64 0, .slice none 0 0, .int .u64 0, .int .i64 0, .int .u64 0, .int .u64 0, .slice none 0 0, .bool false, .bool false, .slice none 0 0, .string ⟨#[]⟩], .int .i64 (-1), .agg #[.int .i64 2, sv s, .int .i64 p]]) ∧ w.grownBy w' none := by
  have b1 := Box.kept (Box.new w 41 #[.int .i64 0, .slice none 0 0, .int .u64 0, .int .i64 0, .int .u64 0, .int .u64 0, .slice none 0 0, .bool false, .bool false, .slice none 0 0, .string ⟨#[]⟩]) (World.grownBy_alloc _ (.cells #[.int .i64 2, sv s, .int .i64 p] 43) none) (by simp)
  have b2 := Box.new (w.alloc (.cells #[.int .i64 0, .slice none 0 0, .int .u64 0, .int .i64 0, .int .u64 0, .int .u64 0, .slice none 0 0, .bool false, .bool false, .slice none 0 0, .string ⟨#[]⟩] 41)) 43 #[.int .i64 2, sv s, .int .i64 p]
  rw [show (w.alloc (.cells #[.int .i64 0, .slice none 0 0, .int .u64 0, .int .i64 0, .int .u64 0, .int .u64 0, .slice none 0 0, .bool false, .bool false, .slice none 0 0, .string ⟨#[]⟩] 41)).heap.size = w.heap.size + 1 by simp] at b2
  go_enter Tryz.func55, Tryz.ntmps55
  go_wp2
  exact ⟨rfl, _, res55 b1 b2 _ rfl rfl rfl, rfl, gb_alloc (gb_alloc (gb_refl w none) _) _⟩
def rpass : Bs → List Bs → Int
  | a :: sh, x :: ws => if a = 78 then (match nb 2147483647 x with | some n => (n : Int) | none => rpass sh ws) else rpass sh ws
  | _, _ => -1
theorem rpass_nil (sh : Bs) : rpass sh [] = -1 := by cases sh <;> rfl
theorem ws_at {w : World} {v : Value} {ws : List Bs} (h : Ws w v ws) : ∃ a c, v = .slice a ws.length c ∧ ∀ i x, ws[i]? = some x → ∃ g o, a = some ⟨g, o, none⟩ ∧ w.cell? ⟨g, o + i, none⟩ = some (sv x) := by
  rcases h with ⟨rfl, a, c, rfl⟩ | ⟨g, o, c, rfl, _, _, h⟩
  · exact ⟨a, c, rfl, fun i x hi => by cases hi⟩
  · exact ⟨_, c, rfl, fun i x hi => ⟨g, o, rfl, h i x hi⟩⟩
set_option maxRecDepth 100000 in
set_option maxHeartbeats 4000000 in
theorem passOf_59 (c0 c2 c3 c4 c5 : Value) (sh : Bs) (hsh : sh.length ≤ 100) (wv : Value) (ws : List Bs) (hwl : ws.length ≤ 65537) (hxl : ∀ x ∈ ws, x.length ≤ 65536) (w : World) (hv : Ws w wv ws) :
    Calls Tryz.prog 59 #[.agg #[c0, sv sh, c2, c3, c4, c5], wv] w fun e w' => e = .returned (.int .i64 (rpass sh ws)) ∧ w.grownBy w' none := by
  obtain ⟨a, c, rfl, hat⟩ := ws_at hv
  clear hv
  obtain ⟨R, hR⟩ : ∃ R, rpass sh ws = R := ⟨_, rfl⟩
  rw [hR]
  have hss : (ByteArray.mk sh.toArray).size = sh.length := ba_size sh
  have b0 := Box.new w 111 #[c0, sv sh, c2, c3, c4, c5]
  have g0 := gb_alloc (gb_refl w none) (.cells #[c0, sv sh, c2, c3, c4, c5] 111)
  have c1 : (w.alloc (.cells #[c0, sv sh, c2, c3, c4, c5] 111)).cell? ⟨w.heap.size, 1, none⟩ = some (sv sh) := b0.cell 1
  obtain ⟨W, hW⟩ : ∃ W, w.alloc (.cells #[c0, sv sh, c2, c3, c4, c5] 111) = W := ⟨_, rfl⟩
  rw [hW] at c1 g0
  obtain ⟨n, hn⟩ : ∃ n, n = ws.length := ⟨_, rfl⟩
  rw [← hn] at hwl ⊢
  have hn1 : n ≤ ws.length := by omega
  have hn2 : ws.length ≤ n := by omega
  clear hn b0
  go_enter Tryz.func59, Tryz.ntmps59
  go_upto_region 1 with (fail)
  clear hW
  have hR0 : rpass (sh.drop 0) (ws.drop 0) = R := hR
  clear hR
  go_wp2
  go_loopw [5] (fun v wr => ∃ k : Nat, v = .int .i64 k ∧ k ≤ sh.length ∧ k ≤ n ∧ wr = W ∧ rpass (sh.drop k) (ws.drop k) = R) (fun v _ => sh.length - (intOf v).toNat)
  case atStart => exact ⟨0, rfl, by omega, by omega, rfl, hR0⟩
  case round =>
    clear hR0
    obtain ⟨k, rfl, hk, hkn, rfl, hr⟩ := hrel
    rcases (by omega : (k < sh.length ∧ k < n) ∨ k = sh.length ∨ (k < sh.length ∧ k = n)) with ⟨h1, h2⟩ | h1 | ⟨h1, h2⟩
    · obtain ⟨x, hx⟩ : ∃ x, ws[k]? = some x := ⟨_, List.getElem?_eq_getElem (by omega)⟩
      obtain ⟨g, o, rfl, hc⟩ := hat k x hx
      have hxm := hxl x (List.mem_of_getElem? hx)
      replace hc := gb_cellN g0 hc
      obtain ⟨b, hb⟩ : ∃ b, sh.getD k 0 = b := ⟨_, rfl⟩
      have hgt : ∀ h : k < (ByteArray.mk sh.toArray).size, (ByteArray.mk sh.toArray)[k] = b := fun h => (ba_get sh k h).trans hb
      have hds : sh.drop k = b :: sh.drop (k + 1) := by rw [List.drop_eq_getElem_cons h1, ← hb]; simp [List.getD, h1]
      have hdw : ws.drop k = x :: ws.drop (k + 1) := by
        obtain ⟨h3, h4⟩ := List.getElem?_eq_some_iff.1 hx
        rw [List.drop_eq_getElem_cons h3, h4]
      rw [hds, hdw] at hr
      simp only [rpass] at hr
      have d1 : (k : Int) < sh.length := by omega
      have d2 : (k : Int) < n := by omega
      clear hds hdw hat hb hx
      by_cases hb : b = 78
      · subst hb
        rw [if_pos rfl] at hr
        have h96 := number_96 x (by omega) 2147483647 2147483647 rfl (by omega) wr
        cases hnb : nb 2147483647 x with
        | none =>
          rw [hnb] at hr h96
          have h97 : Calls Tryz.prog 96 #[sv x, .int .u64 2147483647] wr fun e w' => e = .returned (.tuple #[.int .u64 0, .bool false]) ∧ w' = wr := h96
          clear h96 hnb
          go_wp2_with (go_at_call 96; go_must ((with_reducible refine h97.mono ?_); rintro e w6 ⟨rfl, hw6⟩; have hw7 := hw6.symm; subst hw7))
          exact ⟨⟨k + 1, by go_num, by omega, by omega, trivial, hr⟩, by simp [intOf]; omega⟩
        | some m =>
          rw [hnb] at hr h96
          have hm : m ≤ 2147483647 := by
            have := nb_most (most := 2147483647) (l := x)
            rw [hnb] at this
            exact this
          have h97 : Calls Tryz.prog 96 #[sv x, .int .u64 2147483647] wr fun e w' => e = .returned (.tuple #[.int .u64 (m : Int), .bool true]) ∧ w' = wr := h96
          have hR : R = (m : Int) := hr.symm
          subst hR
          have q1 : IntKind.i64.wrap (m : Int) = m := by rw [IntKind.wrap_i64]; omega
          clear h96 hnb hr
          go_wp2_with (go_at_call 96; go_must ((with_reducible refine h97.mono ?_); rintro e w6 ⟨rfl, hw6⟩; have hw7 := hw6.symm; subst hw7))
          go_ret
          exact ⟨rfl, g0⟩
      · rw [if_neg hb] at hr
        have hbi : ((b.toNat : Int) == 78) = false := by
          have : ¬ b.toNat = 78 := fun h => hb (UInt8.toNat_inj.1 h)
          simp; omega
        have hbj : (b.toNat == 78) = false := by
          have : ¬ b.toNat = 78 := fun h => hb (UInt8.toNat_inj.1 h)
          simpa using this
        go_wp2
        exact ⟨⟨k + 1, by go_num, by omega, by omega, trivial, hr⟩, by simp [intOf]; omega⟩
    · have hR : R = -1 := by rw [← hr, h1, List.drop_length]; rfl
      subst hR
      have d1 : ¬ ((k : Int) < sh.length) := by omega
      clear hat hr hxl
      go_wp2
      go_ret
      exact ⟨rfl, g0⟩
    · have hR : R = -1 := by rw [← hr, List.drop_of_length_le (by omega : ws.length ≤ k), rpass_nil]
      subst hR
      have d1 : (k : Int) < sh.length := by omega
      have d2 : ¬ ((k : Int) < n) := by omega
      clear hat hr hxl
      go_wp2
      go_ret
      exact ⟨rfl, g0⟩
end Go.Proofs.YtobegepebochkaaGreatDoor
namespace Go.Proofs.YtobegepebochkaaGreatDoor
open Go.RowKit
def bh (v : Int) (f : Fl) : Bool :=
  if f.letter = 79 then plain f.arg && decide (1 ≤ f.arg.length) && decide (f.arg.length ≤ 250) else
  if f.letter = 84 ∨ f.letter = 78 then (tm f.arg).isSome else
  if f.letter = 70 then (nb 4294967295 f.arg).isSome else
  if f.letter = 82 ∨ f.letter = 67 ∨ f.letter = 68 ∨ f.letter = 74 then (nb 18446744073709551615 f.arg).isSome else mode1 v f.arg
theorem mode_one (v : Int) (b : UInt8) : mode1 v [b] = if v = 21 then ([83, 69, 65, 80, 82, 115, 101, 97, 112, 114] : Bs).contains b else ([73, 68, 105, 100] : Bs).contains b := by
  have e : mode1 v [b] = (modes v).contains b := by simp only [mode1]
  rw [e]
  by_cases h : v = 21
  · have e : modes v = [83, 69, 65, 80, 82, 115, 101, 97, 112, 114] := by simp only [modes, h, if_true]
    rw [if_pos h, e]
  · have e : modes v = [73, 68, 105, 100] := by simp only [modes, h, if_false]
    rw [if_neg h, e]
theorem mode_no (v : Int) {l : Bs} (h : l.length ≠ 1) : mode1 v l = false := by
  match l, h with
  | [], _ => simp only [mode1]
  | [x], h => exact absurd rfl h
  | x :: y :: t, _ => simp only [mode1]
set_option maxRecDepth 100000 in
set_option maxHeartbeats 4000000 in
theorem behind_88 (v : Int) (f : Fl) (hl : f.arg.length ≤ 4611686018427387904) (w : World) :
    Calls Tryz.prog 88 #[.int .i64 v, fv f] w fun e w' => e = .returned (.bool (bh v f)) ∧ w.grownBy w' none := by
  obtain ⟨a, l, q⟩ := f
  have h1 := fun w' => timeOf_98 l hl w'
  have h2 := fun w' => number_96 l hl 18446744073709551615 18446744073709551615 rfl (by omega) w'
  have h3 := fun w' => number_96 l hl 4294967295 4294967295 rfl (by omega) w'
  have h4 := fun w' => key_97 l hl w'
  obtain ⟨x1, e1⟩ : ∃ x, (tm l).isSome = x := ⟨_, rfl⟩
  obtain ⟨x2, e2⟩ : ∃ x, (nb 18446744073709551615 l).isSome = x := ⟨_, rfl⟩
  obtain ⟨x3, e3⟩ : ∃ x, (nb 4294967295 l).isSome = x := ⟨_, rfl⟩
  obtain ⟨x4, e4⟩ : ∃ x, (plain l && decide (1 ≤ l.length) && decide (l.length ≤ 250)) = x := ⟨_, rfl⟩
  obtain ⟨y1, f1⟩ : ∃ x : Int, (tm l).getD 0 = x := ⟨_, rfl⟩
  obtain ⟨y2, f2⟩ : ∃ x : Int, ((nb 18446744073709551615 l).getD 0 : Nat) = x := ⟨_, rfl⟩
  obtain ⟨y3, f3⟩ : ∃ x : Int, ((nb 4294967295 l).getD 0 : Nat) = x := ⟨_, rfl⟩
  simp only [e1, e2, e3, e4, f1, f2, f3] at h1 h2 h3 h4
  have HF : Hid (bh v ⟨a, l, q⟩ = if (a.toNat : Int) = 79 then x4 else if (a.toNat : Int) = 84 ∨ (a.toNat : Int) = 78 then x1 else
      if (a.toNat : Int) = 70 then x3 else if (a.toNat : Int) = 82 ∨ (a.toNat : Int) = 67 ∨ (a.toNat : Int) = 68 ∨ (a.toNat : Int) = 74 then x2 else
      mode1 v l) := by
    show _ = _
    simp only [bh, u8i, UInt8.reduceToNat, e1, e2, e3, e4]
    rfl
  clear e1 e2 e3 e4 f1 f2 f3
  have hG := gb_alloc (gb_refl w none) (Obj.cells #[Value.int .u8 a.toNat, sv l, Value.bool q] 79)
  have h87 := fun b w' => holds_87 [83, 69, 65, 80, 82, 115, 101, 97, 112, 114] (by simp) b w'
  have h88 := fun b w' => holds_87 [73, 68, 105, 100] (by simp) b w'
  obtain ⟨b, hb⟩ : ∃ b, l.getD 0 0 = b := ⟨_, rfl⟩
  have hg0 : ∀ h : 0 < (ByteArray.mk l.toArray).size, (ByteArray.mk l.toArray)[0] = b := fun h => (ba_get l 0 h).trans hb
  have h87 := h87 b
  have h88 := h88 b
  have HM : Hid (l.length = 1 → mode1 v l = if v = 21 then ([83, 69, 65, 80, 82, 115, 101, 97, 112, 114] : Bs).contains b else ([73, 68, 105, 100] : Bs).contains b) := by
    show _ → _
    intro h
    obtain ⟨c, rfl⟩ := List.length_eq_one_iff.1 h
    obtain rfl : c = b := hb
    exact mode_one v c
  have HN : Hid (l.length ≠ 1 → mode1 v l = false) := fun h => mode_no v h
  clear hb
  obtain ⟨z1, g1⟩ : ∃ x, ([83, 69, 65, 80, 82, 115, 101, 97, 112, 114] : Bs).contains b = x := ⟨_, rfl⟩
  obtain ⟨z2, g2⟩ : ∃ x, ([73, 68, 105, 100] : Bs).contains b = x := ⟨_, rfl⟩
  simp only [g1] at h87 HM
  simp only [g2] at h88 HM
  clear g1 g2
  obtain ⟨M, hM⟩ : ∃ x, mode1 v l = x := ⟨_, rfl⟩
  rw [hM] at HF HM HN
  clear hM hl
  go_enter Tryz.func88, Tryz.ntmps88
  go_wp2_with (first | (go_at_call 97; go_must (with_reducible refine (h4 _).mono ?_); rintro e w' ⟨rfl, rfl⟩) | (go_at_call 98; go_must (with_reducible refine (h1 _).mono ?_); rintro e w' ⟨rfl, rfl⟩) | (go_at_call 96; go_must (first | with_reducible refine (h2 _).mono ?_ | with_reducible refine (h3 _).mono ?_); rintro e w' ⟨rfl, rfl⟩) | (go_at_call 87; go_must (first | with_reducible refine (h87 _).mono ?_ | with_reducible refine (h88 _).mono ?_); rintro e w' ⟨rfl, rfl⟩))
  all_goals clear h1 h2 h3 h4 h87 h88 hg0
  all_goals (try simp only [beq_iff_eq, beq_eq_false_iff_ne, bne_iff_ne, bne_eq_false_iff_eq, ne_eq] at *)
  all_goals try (exfalso; omega)
  all_goals
    go_ret
    refine ⟨congrArg (fun b => Ending.returned (Value.bool b)) (Eq.trans ?_ HF.out.symm), hG⟩
    first
      | (simp [*]; done)
      | (rw [HN.out (by omega)]; simp [*]; done)
      | (rw [HM.out (by omega)]; simp [*]; done)
end Go.Proofs.YtobegepebochkaaGreatDoor
namespace Go.Proofs.YtobegepebochkaaGreatDoor
open Go.RowKit
theorem full_mem {v : Int} {a : UInt8} (h : (full v).contains a = true) : a ∈ ([79, 84, 78, 82, 70, 67, 77, 68, 74] : Bs) := by
  have h := List.contains_iff_mem.1 h
  unfold full at h
  split at h
  · revert h; simp; intro h; rcases h with h | h | h | h <;> simp [h]
  · split at h
    · revert h; simp; intro h; rcases h with h | h | h | h | h <;> simp [h]
    · split at h
      · revert h; simp; intro h; rcases h with h | h | h <;> simp [h]
      · split at h
        · revert h; simp; intro h; rcases h with h | h | h | h | h | h | h <;> simp [h]
        · simp at h
theorem bare_full {v : Int} {a : UInt8} (h : (bare v).contains a = true) : (full v).contains a = false := by
  have h := List.contains_iff_mem.1 h
  unfold bare at h
  unfold full
  split at h
  · rename_i e; simp only [e, if_true]; revert h; simp; intro h; rcases h with h | h | h | h | h | h | h | h | h <;> subst h <;> decide
  · rename_i e0; split at h
    · rename_i e; simp only [e, if_true]; revert h; simp; intro h; rcases h with h | h | h | h <;> subst h <;> decide
    · rename_i e1; split at h
      · rename_i e; simp only [e, if_true]; revert h; simp; intro h; rcases h with h | h | h | h <;> subst h <;> decide
      · rename_i e2; split at h
        · rename_i e; simp only [e, if_true]; revert h; simp; intro h; rcases h with h | h | h | h | h <;> subst h <;> decide
        · simp at h
theorem nb_nil (n : Nat) : nb n [] = none := by simp [nb, Lib.parseUintB]
theorem tm_nil : tm [] = none := by simp [tm, Lib.parseIntB]
theorem bh_nil (v : Int) (a : UInt8) (q : Bool) : bh v ⟨a, [], q⟩ = false := by
  simp [bh, nb_nil, tm_nil, mode_no v (l := []) (by simp)]
theorem bh_follows {v : Int} {a : UInt8} {l : Bs} {q : Bool} (h : (full v).contains a = true) (h2 : ¬ (a = 79 ∧ (l = [] ∨ 32 < l.length))) : bh v ⟨a, l, q⟩ = follows v ⟨a, l, q⟩ := by
  have hm := full_mem h
  simp only [List.mem_cons, List.not_mem_nil, or_false] at hm
  unfold bh follows
  rcases hm with rfl | rfl | rfl | rfl | rfl | rfl | rfl | rfl | rfl
  · have h3 : l ≠ [] ∧ l.length ≤ 32 := by
      constructor
      · intro e; exact h2 ⟨rfl, .inl e⟩
      · apply Nat.le_of_not_lt; intro e; exact h2 ⟨rfl, .inr e⟩
    have h4 : 1 ≤ l.length := List.length_pos_iff.2 h3.1
    simp only [if_true]
    rw [decide_eq_true h4, decide_eq_true (show l.length ≤ 250 by omega)]
    simp
  all_goals simp
theorem bad_eq {v : Int} {a : UInt8} {l : Bs} {q : Bool} (h : (bare v).contains a = true ∨ (full v).contains a = true) (h2 : ¬ (a = 79 ∧ (l = [] ∨ 32 < l.length))) :
    ((q ≠ decide (l ≠ []) ∨ ((bare v).contains a = true ∧ q = true)) ∨ ((full v).contains a = true ∧ bh v ⟨a, l, q⟩ = false)) ↔ (q ≠ decide (l ≠ []) ∨ q ≠ (full v).contains a ∨ (q = true ∧ follows v ⟨a, l, q⟩ = false)) := by
  by_cases hq : q = decide (l ≠ [])
  · rcases Bool.eq_false_or_eq_true ((full v).contains a) with hf | hf
    · have hb : (bare v).contains a = false := by
        rcases Bool.eq_false_or_eq_true ((bare v).contains a) with hb | hb
        · rw [bare_full hb] at hf; cases hf
        · exact hb
      rw [hf, hb, ← bh_follows hf h2]
      rcases Bool.eq_false_or_eq_true q with hq1 | hq1
      · subst hq1; simp [hq.symm]
      · have hl : l = [] := by
          rw [hq1] at hq
          simpa using hq
        subst hl
        subst hq1
        simp [bh_nil]
    · have hb : (bare v).contains a = true := by
        rcases h with h | h
        · exact h
        · rw [hf] at h; cases h
      rw [hf, hb]
      rcases Bool.eq_false_or_eq_true q with hq1 | hq1 <;> subst hq1 <;> simp
  · exact ⟨fun _ => .inl hq, fun _ => .inl (.inl hq)⟩
end Go.Proofs.YtobegepebochkaaGreatDoor

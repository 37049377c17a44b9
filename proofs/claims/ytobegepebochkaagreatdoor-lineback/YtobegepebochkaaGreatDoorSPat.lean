import Derived.Test.YtobegepebochkaaGreatDoorSE
import Derived.Test.YtobegepebochkaaGreatDoorSPas
import Derived.Test.YtobegepebochkaaGreatDoorSH
set_option linter.unusedVariables false
set_option linter.unusedSimpArgs false
namespace Go.Proofs.YtobegepebochkaaGreatDoor
open Go.RowKit
def rn (most : Nat) : Nat → Bool → Bs → Option Nat
  | n, ok, [] => if ok then some n else none
  | n, ok, c :: r =>
    if c.toNat < 48 ∨ 57 < c.toNat then none else
    if (18446744073709551615 - (c.toNat - 48)) / 10 < n then rn most 0 false r else
    rn most (10 * n + (c.toNat - 48)) (ok && decide (10 * n + (c.toNat - 48) ≤ most)) r
theorem rn_false (most : Nat) : ∀ (l : Bs) (n : Nat), rn most n false l = none
  | [], n => rfl
  | c :: r, n => by
    simp only [rn, Bool.false_and]
    split
    · rfl
    · split <;> exact rn_false most r _
theorem pu_ge (M : Nat) : ∀ (l : Bs) (n u : Nat), Lib.parseUintM M n l = .ok u → n ≤ u
  | [], n, u, h => by simp [Lib.parseUintM] at h; omega
  | c :: r, n, u, h => by
    simp only [Lib.parseUintM] at h
    split at h
    · split at h
      · cases h
      · split at h
        · cases h
        · have := pu_ge M r _ u h; omega
    · cases h
theorem rn_true (most : Nat) : ∀ (l : Bs) (n : Nat), n ≤ most → n ≤ 18446744073709551615 →
    rn most n true l = (match Lib.parseUintM (2 ^ 64 - 1) n l with | .ok u => if u ≤ most then some u else none | _ => none)
  | [], n, h1, h2 => by simp [rn, Lib.parseUintM, h1]
  | c :: r, n, h1, h2 => by
    simp only [rn, Lib.parseUintM, Bool.true_and]
    by_cases hc : c.toNat < 48 ∨ 57 < c.toNat
    · have hd : ¬ (48 ≤ c.toNat ∧ c.toNat ≤ 57) := by omega
      rw [if_pos hc, if_neg hd]
    · have hd : 48 ≤ c.toNat ∧ c.toNat ≤ 57 := by omega
      rw [if_neg hc, if_pos hd]
      by_cases hb : (18446744073709551615 - (c.toNat - 48)) / 10 < n
      · rw [if_pos hb, rn_false]
        by_cases h3 : 1844674407370955162 ≤ n
        · rw [if_pos h3]
        · have h4 : 2 ^ 64 - 1 < n * 10 + (c.toNat - 48) := by omega
          rw [if_neg h3, if_pos h4]
      · have h4 : ¬ 1844674407370955162 ≤ n := by omega
        have h5 : ¬ 2 ^ 64 - 1 < n * 10 + (c.toNat - 48) := by omega
        rw [if_neg hb, if_neg h4, if_neg h5]
        by_cases h3 : 10 * n + (c.toNat - 48) ≤ most
        · rw [decide_eq_true h3, rn_true most r _ h3 (by omega), show n * 10 = 10 * n by omega]
        · rw [decide_eq_false h3, rn_false]
          split
          · rename_i u hu
            have := pu_ge _ _ _ _ hu
            rw [if_neg (by omega)]
          · rfl
theorem rn_nb (most : Nat) (l : Bs) : rn most 0 (decide (l ≠ [])) l = nb most l := by
  cases l with
  | nil => rfl
  | cons c r =>
    rw [decide_eq_true (by simp), rn_true most _ 0 (by omega) (by omega)]
    simp only [nb, Lib.parseUintB]
    rw [if_neg (by simp)]
    cases Lib.parseUintM (2 ^ 64 - 1) 0 (c :: r) <;> rfl
set_option maxHeartbeats 2000000 in
theorem number_96 (l : Bs) (hl : l.length ≤ 4611686018427387904) (m : Int) (most : Nat) (hmm : m = (most : Int)) (hm : most ≤ 18446744073709551615) (w : World) :
    Calls Tryz.prog 96 #[sv l, .int .u64 m] w fun e w' => e = .returned (.tuple #[.int .u64 ((nb most l).getD 0 : Nat), .bool (nb most l).isSome]) ∧ w' = w := by
  subst hmm
  have hn := rn_nb most l
  obtain ⟨R, hR⟩ : ∃ R, nb most l = R := ⟨_, rfl⟩
  rw [hR] at hn ⊢
  have hs : (ByteArray.mk l.toArray).size = l.length := ba_size l
  clear hR
  go_enter Tryz.func96, Tryz.ntmps96
  go_wp2
  go_loopw [6, 7, 8] (fun v6 v7 v8 wr => ∃ (k n : Nat) (ok : Bool), k ≤ l.length ∧ v6 = .int .u64 n ∧ v7 = .bool ok ∧ v8 = .int .i64 k ∧ wr = w ∧ n ≤ 18446744073709551615 ∧ rn most n ok (l.drop k) = R) (fun _ _ v8 _ => l.length - (intOf v8).toNat)
  case atStart => exact ⟨0, 0, !l.isEmpty, by omega, rfl, rfl, rfl, rfl, by omega, by rw [List.drop_zero, ← hn]; congr 1; cases l <;> rfl⟩
  case round =>
    obtain ⟨k, n, ok, hk, rfl, rfl, rfl, rfl, hn2, hr⟩ := hrel
    have hlt : k < l.length ∨ k = l.length := by omega
    rcases hlt with hlt | rfl
    · have d1 : decide ((k : Int) < (l.length : Int)) = true := decide_eq_true (by omega)
      obtain ⟨b, hb⟩ : ∃ b, l.getD k 0 = b := ⟨_, rfl⟩
      have hg : ∀ h : k < (ByteArray.mk l.toArray).size, (ByteArray.mk l.toArray)[k] = b := fun h => (ba_get l k h).trans hb
      have hdr : l.drop k = b :: l.drop (k + 1) := by
        rw [List.drop_eq_getElem_cons hlt, ← hb]; simp [List.getD, hlt]
      rw [hdr] at hr
      simp only [rn] at hr
      clear hdr hb
      go_wp2
      · rename_i h1 h2
        have e : R = none := by rw [← hr, if_pos (by omega)]
        rw [e]
        go_ret2
        exact ⟨rfl, rfl⟩
      · rename_i h0 h1 h2
        refine ⟨⟨k + 1, 0, false, by omega, rfl, rfl, rfl, trivial, by omega, ?_⟩, by simp [intOf]; omega⟩
        rw [← hr, if_neg (by omega), if_pos (by omega)]
      · rename_i h0 h1 h2 h3
        subst h3
        refine ⟨⟨k + 1, 10 * n + (b.toNat - 48), decide (10 * n + (b.toNat - 48) ≤ most), by omega, ?_, ?_, rfl, trivial, by omega, ?_⟩, by simp [intOf]; omega⟩
        · congr 1; omega
        · congr 1; exact decide_eq_decide.2 (by omega)
        · rw [← hr, if_neg (by omega), if_neg (by omega), Bool.true_and]
      · rename_i h0 h1 h2 h3
        obtain rfl : ok = false := by simpa using h3
        refine ⟨⟨k + 1, 10 * n + (b.toNat - 48), false, by omega, ?_, rfl, rfl, trivial, by omega, ?_⟩, by simp [intOf]; omega⟩
        · congr 1; omega
        · rw [← hr, if_neg (by omega), if_neg (by omega), Bool.false_and]
      · rename_i h1
        have e : R = none := by rw [← hr, if_pos (by omega)]
        rw [e]
        go_ret2
        exact ⟨rfl, rfl⟩
    · rw [List.drop_length] at hr
      simp only [rn] at hr
      go_wp2
      · rename_i h1
        have e : R = none := by rw [← hr, if_neg (by simpa using h1)]
        rw [e]
        go_ret2
        exact ⟨rfl, rfl⟩
      · rename_i h1
        have e : R = some n := by rw [← hr, if_pos (by simpa using h1)]
        rw [e]
        go_ret2
        exact ⟨rfl, rfl⟩
end Go.Proofs.YtobegepebochkaaGreatDoor
namespace Go.Proofs.YtobegepebochkaaGreatDoor
open Go.RowKit Go.Maps
attribute [local go_sem] Oper.semAt_some
structure Dr where
  shape : Bs
  least : Nat
  again : Bool
  reply : Bool
  block : Bool
def drL : List Dr := [⟨[75], 1, true, false, false⟩, ⟨[75], 1, true, false, false⟩, ⟨[84, 75], 2, true, false, false⟩, ⟨[84, 75], 2, true, false, false⟩, ⟨[75, 70, 84, 78], 4, false, true, true⟩, ⟨[75, 70, 84, 78], 4, false, true, true⟩, ⟨[75, 70, 84, 78], 4, false, true, true⟩, ⟨[75, 70, 84, 78], 4, false, true, true⟩, ⟨[75, 70, 84, 78], 4, false, true, true⟩, ⟨[75, 70, 84, 78, 67], 5, false, true, true⟩, ⟨[75, 90], 1, false, true, false⟩, ⟨[75, 68], 2, false, true, false⟩, ⟨[75, 68], 2, false, true, false⟩, ⟨[75, 84], 2, false, true, false⟩, ⟨[83], 0, false, true, false⟩, ⟨[], 0, false, false, false⟩, ⟨[86], 1, false, true, false⟩, ⟨[], 0, false, false, false⟩, ⟨[87], 0, false, false, false⟩, ⟨[75, 71], 1, true, false, false⟩, ⟨[75, 78, 71], 2, true, false, true⟩, ⟨[75, 71], 1, true, false, false⟩, ⟨[75, 71], 1, true, false, false⟩, ⟨[], 0, false, false, false⟩]
def dr (i : Nat) : Dr := drL.getD i ⟨[], 0, false, false, false⟩
abbrev drA (i : Nat) : Array Value := #[.int .i64 ((i : Int) + 1), sv (dr i).shape, .int .i64 ((dr i).least : Nat), .bool (dr i).again, .bool (dr i).reply, .bool (dr i).block]
theorem res58 {w : World} {b : Nat} {c0 c1 c2 c3 c4 c5 : Value} (h : Box w 111 b #[c0, c1, c2, c3, c4, c5]) (tmps : Array Value) (h2 : tmps[2]?.getD undef = .pointer (some ⟨b, 0, none⟩)) : (results Tryz.f58 tmps).run Tryz.prog w = .ok (.agg #[c0, c1, c2, c3, c4, c5]) w := by
  have hr : Tryz.f58.results = #[.cell 2 111] := rfl
  have p0 := h.cell 0
  have p1 := h.cell 1
  have p2 := h.cell 2
  have p3 := h.cell 3
  have p4 := h.cell 4
  have p5 := h.cell 5
  simp at p0 p1 p2 p3 p4 p5
  unfold results
  simp [hr, h2, go_sem, p0, p1, p2, p3, p4, p5]
set_option maxRecDepth 100000 in
theorem rowOf_58_0 (w : World) : Calls Tryz.prog 58 #[.int .i64 1] w fun e w' => e = .returned (.agg #[.int .i64 1, .string ⟨#[75]⟩, .int .i64 1, .bool true, .bool false, .bool false]) ∧ w.grownBy w' none := by
  go_enter Tryz.func58, Tryz.ntmps58
  go_wp2
  exact ⟨rfl, _, res58 (Box.new w 111 #[.int .i64 1, .string ⟨#[75]⟩, .int .i64 1, .bool true, .bool false, .bool false]) _ rfl, rfl, gb_alloc (gb_refl w none) _⟩
set_option maxRecDepth 100000 in
theorem rowOf_58_1 (w : World) : Calls Tryz.prog 58 #[.int .i64 2] w fun e w' => e = .returned (.agg #[.int .i64 2, .string ⟨#[75]⟩, .int .i64 1, .bool true, .bool false, .bool false]) ∧ w.grownBy w' none := by
  go_enter Tryz.func58, Tryz.ntmps58
  go_wp2
  exact ⟨rfl, _, res58 (Box.new w 111 #[.int .i64 2, .string ⟨#[75]⟩, .int .i64 1, .bool true, .bool false, .bool false]) _ rfl, rfl, gb_alloc (gb_refl w none) _⟩
set_option maxRecDepth 100000 in
theorem rowOf_58_2 (w : World) : Calls Tryz.prog 58 #[.int .i64 3] w fun e w' => e = .returned (.agg #[.int .i64 3, .string ⟨#[84, 75]⟩, .int .i64 2, .bool true, .bool false, .bool false]) ∧ w.grownBy w' none := by
  go_enter Tryz.func58, Tryz.ntmps58
  go_wp2
  exact ⟨rfl, _, res58 (Box.new w 111 #[.int .i64 3, .string ⟨#[84, 75]⟩, .int .i64 2, .bool true, .bool false, .bool false]) _ rfl, rfl, gb_alloc (gb_refl w none) _⟩
set_option maxRecDepth 100000 in
theorem rowOf_58_3 (w : World) : Calls Tryz.prog 58 #[.int .i64 4] w fun e w' => e = .returned (.agg #[.int .i64 4, .string ⟨#[84, 75]⟩, .int .i64 2, .bool true, .bool false, .bool false]) ∧ w.grownBy w' none := by
  go_enter Tryz.func58, Tryz.ntmps58
  go_wp2
  exact ⟨rfl, _, res58 (Box.new w 111 #[.int .i64 4, .string ⟨#[84, 75]⟩, .int .i64 2, .bool true, .bool false, .bool false]) _ rfl, rfl, gb_alloc (gb_refl w none) _⟩
set_option maxRecDepth 100000 in
theorem rowOf_58_4 (w : World) : Calls Tryz.prog 58 #[.int .i64 5] w fun e w' => e = .returned (.agg #[.int .i64 5, .string ⟨#[75, 70, 84, 78]⟩, .int .i64 4, .bool false, .bool true, .bool true]) ∧ w.grownBy w' none := by
  go_enter Tryz.func58, Tryz.ntmps58
  go_wp2
  exact ⟨rfl, _, res58 (Box.new w 111 #[.int .i64 5, .string ⟨#[75, 70, 84, 78]⟩, .int .i64 4, .bool false, .bool true, .bool true]) _ rfl, rfl, gb_alloc (gb_refl w none) _⟩
set_option maxRecDepth 100000 in
theorem rowOf_58_5 (w : World) : Calls Tryz.prog 58 #[.int .i64 6] w fun e w' => e = .returned (.agg #[.int .i64 6, .string ⟨#[75, 70, 84, 78]⟩, .int .i64 4, .bool false, .bool true, .bool true]) ∧ w.grownBy w' none := by
  go_enter Tryz.func58, Tryz.ntmps58
  go_wp2
  exact ⟨rfl, _, res58 (Box.new w 111 #[.int .i64 6, .string ⟨#[75, 70, 84, 78]⟩, .int .i64 4, .bool false, .bool true, .bool true]) _ rfl, rfl, gb_alloc (gb_refl w none) _⟩
set_option maxRecDepth 100000 in
theorem rowOf_58_6 (w : World) : Calls Tryz.prog 58 #[.int .i64 7] w fun e w' => e = .returned (.agg #[.int .i64 7, .string ⟨#[75, 70, 84, 78]⟩, .int .i64 4, .bool false, .bool true, .bool true]) ∧ w.grownBy w' none := by
  go_enter Tryz.func58, Tryz.ntmps58
  go_wp2
  exact ⟨rfl, _, res58 (Box.new w 111 #[.int .i64 7, .string ⟨#[75, 70, 84, 78]⟩, .int .i64 4, .bool false, .bool true, .bool true]) _ rfl, rfl, gb_alloc (gb_refl w none) _⟩
set_option maxRecDepth 100000 in
theorem rowOf_58_7 (w : World) : Calls Tryz.prog 58 #[.int .i64 8] w fun e w' => e = .returned (.agg #[.int .i64 8, .string ⟨#[75, 70, 84, 78]⟩, .int .i64 4, .bool false, .bool true, .bool true]) ∧ w.grownBy w' none := by
  go_enter Tryz.func58, Tryz.ntmps58
  go_wp2
  exact ⟨rfl, _, res58 (Box.new w 111 #[.int .i64 8, .string ⟨#[75, 70, 84, 78]⟩, .int .i64 4, .bool false, .bool true, .bool true]) _ rfl, rfl, gb_alloc (gb_refl w none) _⟩
set_option maxRecDepth 100000 in
theorem rowOf_58_8 (w : World) : Calls Tryz.prog 58 #[.int .i64 9] w fun e w' => e = .returned (.agg #[.int .i64 9, .string ⟨#[75, 70, 84, 78]⟩, .int .i64 4, .bool false, .bool true, .bool true]) ∧ w.grownBy w' none := by
  go_enter Tryz.func58, Tryz.ntmps58
  go_wp2
  exact ⟨rfl, _, res58 (Box.new w 111 #[.int .i64 9, .string ⟨#[75, 70, 84, 78]⟩, .int .i64 4, .bool false, .bool true, .bool true]) _ rfl, rfl, gb_alloc (gb_refl w none) _⟩
set_option maxRecDepth 100000 in
theorem rowOf_58_9 (w : World) : Calls Tryz.prog 58 #[.int .i64 10] w fun e w' => e = .returned (.agg #[.int .i64 10, .string ⟨#[75, 70, 84, 78, 67]⟩, .int .i64 5, .bool false, .bool true, .bool true]) ∧ w.grownBy w' none := by
  go_enter Tryz.func58, Tryz.ntmps58
  go_wp2
  exact ⟨rfl, _, res58 (Box.new w 111 #[.int .i64 10, .string ⟨#[75, 70, 84, 78, 67]⟩, .int .i64 5, .bool false, .bool true, .bool true]) _ rfl, rfl, gb_alloc (gb_refl w none) _⟩
set_option maxRecDepth 100000 in
theorem rowOf_58_10 (w : World) : Calls Tryz.prog 58 #[.int .i64 11] w fun e w' => e = .returned (.agg #[.int .i64 11, .string ⟨#[75, 90]⟩, .int .i64 1, .bool false, .bool true, .bool false]) ∧ w.grownBy w' none := by
  go_enter Tryz.func58, Tryz.ntmps58
  go_wp2
  exact ⟨rfl, _, res58 (Box.new w 111 #[.int .i64 11, .string ⟨#[75, 90]⟩, .int .i64 1, .bool false, .bool true, .bool false]) _ rfl, rfl, gb_alloc (gb_refl w none) _⟩
set_option maxRecDepth 100000 in
theorem rowOf_58_11 (w : World) : Calls Tryz.prog 58 #[.int .i64 12] w fun e w' => e = .returned (.agg #[.int .i64 12, .string ⟨#[75, 68]⟩, .int .i64 2, .bool false, .bool true, .bool false]) ∧ w.grownBy w' none := by
  go_enter Tryz.func58, Tryz.ntmps58
  go_wp2
  exact ⟨rfl, _, res58 (Box.new w 111 #[.int .i64 12, .string ⟨#[75, 68]⟩, .int .i64 2, .bool false, .bool true, .bool false]) _ rfl, rfl, gb_alloc (gb_refl w none) _⟩
set_option maxRecDepth 100000 in
theorem rowOf_58_12 (w : World) : Calls Tryz.prog 58 #[.int .i64 13] w fun e w' => e = .returned (.agg #[.int .i64 13, .string ⟨#[75, 68]⟩, .int .i64 2, .bool false, .bool true, .bool false]) ∧ w.grownBy w' none := by
  go_enter Tryz.func58, Tryz.ntmps58
  go_wp2
  exact ⟨rfl, _, res58 (Box.new w 111 #[.int .i64 13, .string ⟨#[75, 68]⟩, .int .i64 2, .bool false, .bool true, .bool false]) _ rfl, rfl, gb_alloc (gb_refl w none) _⟩
set_option maxRecDepth 100000 in
theorem rowOf_58_13 (w : World) : Calls Tryz.prog 58 #[.int .i64 14] w fun e w' => e = .returned (.agg #[.int .i64 14, .string ⟨#[75, 84]⟩, .int .i64 2, .bool false, .bool true, .bool false]) ∧ w.grownBy w' none := by
  go_enter Tryz.func58, Tryz.ntmps58
  go_wp2
  exact ⟨rfl, _, res58 (Box.new w 111 #[.int .i64 14, .string ⟨#[75, 84]⟩, .int .i64 2, .bool false, .bool true, .bool false]) _ rfl, rfl, gb_alloc (gb_refl w none) _⟩
set_option maxRecDepth 100000 in
theorem rowOf_58_14 (w : World) : Calls Tryz.prog 58 #[.int .i64 15] w fun e w' => e = .returned (.agg #[.int .i64 15, .string ⟨#[83]⟩, .int .i64 0, .bool false, .bool true, .bool false]) ∧ w.grownBy w' none := by
  go_enter Tryz.func58, Tryz.ntmps58
  go_wp2
  exact ⟨rfl, _, res58 (Box.new w 111 #[.int .i64 15, .string ⟨#[83]⟩, .int .i64 0, .bool false, .bool true, .bool false]) _ rfl, rfl, gb_alloc (gb_refl w none) _⟩
set_option maxRecDepth 100000 in
theorem rowOf_58_15 (w : World) : Calls Tryz.prog 58 #[.int .i64 16] w fun e w' => e = .returned (.agg #[.int .i64 16, .string ⟨#[]⟩, .int .i64 0, .bool false, .bool false, .bool false]) ∧ w.grownBy w' none := by
  go_enter Tryz.func58, Tryz.ntmps58
  go_wp2
  exact ⟨rfl, _, res58 (Box.new w 111 #[.int .i64 16, .string ⟨#[]⟩, .int .i64 0, .bool false, .bool false, .bool false]) _ rfl, rfl, gb_alloc (gb_refl w none) _⟩
set_option maxRecDepth 100000 in
theorem rowOf_58_16 (w : World) : Calls Tryz.prog 58 #[.int .i64 17] w fun e w' => e = .returned (.agg #[.int .i64 17, .string ⟨#[86]⟩, .int .i64 1, .bool false, .bool true, .bool false]) ∧ w.grownBy w' none := by
  go_enter Tryz.func58, Tryz.ntmps58
  go_wp2
  exact ⟨rfl, _, res58 (Box.new w 111 #[.int .i64 17, .string ⟨#[86]⟩, .int .i64 1, .bool false, .bool true, .bool false]) _ rfl, rfl, gb_alloc (gb_refl w none) _⟩
set_option maxRecDepth 100000 in
theorem rowOf_58_17 (w : World) : Calls Tryz.prog 58 #[.int .i64 18] w fun e w' => e = .returned (.agg #[.int .i64 18, .string ⟨#[]⟩, .int .i64 0, .bool false, .bool false, .bool false]) ∧ w.grownBy w' none := by
  go_enter Tryz.func58, Tryz.ntmps58
  go_wp2
  exact ⟨rfl, _, res58 (Box.new w 111 #[.int .i64 18, .string ⟨#[]⟩, .int .i64 0, .bool false, .bool false, .bool false]) _ rfl, rfl, gb_alloc (gb_refl w none) _⟩
set_option maxRecDepth 100000 in
theorem rowOf_58_18 (w : World) : Calls Tryz.prog 58 #[.int .i64 19] w fun e w' => e = .returned (.agg #[.int .i64 19, .string ⟨#[87]⟩, .int .i64 0, .bool false, .bool false, .bool false]) ∧ w.grownBy w' none := by
  go_enter Tryz.func58, Tryz.ntmps58
  go_wp2
  exact ⟨rfl, _, res58 (Box.new w 111 #[.int .i64 19, .string ⟨#[87]⟩, .int .i64 0, .bool false, .bool false, .bool false]) _ rfl, rfl, gb_alloc (gb_refl w none) _⟩
set_option maxRecDepth 100000 in
theorem rowOf_58_19 (w : World) : Calls Tryz.prog 58 #[.int .i64 20] w fun e w' => e = .returned (.agg #[.int .i64 20, .string ⟨#[75, 71]⟩, .int .i64 1, .bool true, .bool false, .bool false]) ∧ w.grownBy w' none := by
  go_enter Tryz.func58, Tryz.ntmps58
  go_wp2
  exact ⟨rfl, _, res58 (Box.new w 111 #[.int .i64 20, .string ⟨#[75, 71]⟩, .int .i64 1, .bool true, .bool false, .bool false]) _ rfl, rfl, gb_alloc (gb_refl w none) _⟩
set_option maxRecDepth 100000 in
theorem rowOf_58_20 (w : World) : Calls Tryz.prog 58 #[.int .i64 21] w fun e w' => e = .returned (.agg #[.int .i64 21, .string ⟨#[75, 78, 71]⟩, .int .i64 2, .bool true, .bool false, .bool true]) ∧ w.grownBy w' none := by
  go_enter Tryz.func58, Tryz.ntmps58
  go_wp2
  exact ⟨rfl, _, res58 (Box.new w 111 #[.int .i64 21, .string ⟨#[75, 78, 71]⟩, .int .i64 2, .bool true, .bool false, .bool true]) _ rfl, rfl, gb_alloc (gb_refl w none) _⟩
set_option maxRecDepth 100000 in
theorem rowOf_58_21 (w : World) : Calls Tryz.prog 58 #[.int .i64 22] w fun e w' => e = .returned (.agg #[.int .i64 22, .string ⟨#[75, 71]⟩, .int .i64 1, .bool true, .bool false, .bool false]) ∧ w.grownBy w' none := by
  go_enter Tryz.func58, Tryz.ntmps58
  go_wp2
  exact ⟨rfl, _, res58 (Box.new w 111 #[.int .i64 22, .string ⟨#[75, 71]⟩, .int .i64 1, .bool true, .bool false, .bool false]) _ rfl, rfl, gb_alloc (gb_refl w none) _⟩
set_option maxRecDepth 100000 in
theorem rowOf_58_22 (w : World) : Calls Tryz.prog 58 #[.int .i64 23] w fun e w' => e = .returned (.agg #[.int .i64 23, .string ⟨#[75, 71]⟩, .int .i64 1, .bool true, .bool false, .bool false]) ∧ w.grownBy w' none := by
  go_enter Tryz.func58, Tryz.ntmps58
  go_wp2
  exact ⟨rfl, _, res58 (Box.new w 111 #[.int .i64 23, .string ⟨#[75, 71]⟩, .int .i64 1, .bool true, .bool false, .bool false]) _ rfl, rfl, gb_alloc (gb_refl w none) _⟩
set_option maxRecDepth 100000 in
theorem rowOf_58_23 (w : World) : Calls Tryz.prog 58 #[.int .i64 24] w fun e w' => e = .returned (.agg #[.int .i64 24, .string ⟨#[]⟩, .int .i64 0, .bool false, .bool false, .bool false]) ∧ w.grownBy w' none := by
  go_enter Tryz.func58, Tryz.ntmps58
  go_wp2
  exact ⟨rfl, _, res58 (Box.new w 111 #[.int .i64 24, .string ⟨#[]⟩, .int .i64 0, .bool false, .bool false, .bool false]) _ rfl, rfl, gb_alloc (gb_refl w none) _⟩
theorem rowOf_58 (i : Nat) (hi : i < 24) (w : World) : Calls Tryz.prog 58 #[.int .i64 ((i : Int) + 1)] w fun e w' => e = .returned (.agg (drA i)) ∧ w.grownBy w' none := by
  rcases (by omega : i = 0 ∨ i = 1 ∨ i = 2 ∨ i = 3 ∨ i = 4 ∨ i = 5 ∨ i = 6 ∨ i = 7 ∨ i = 8 ∨ i = 9 ∨ i = 10 ∨ i = 11 ∨ i = 12 ∨ i = 13 ∨ i = 14 ∨ i = 15 ∨ i = 16 ∨ i = 17 ∨ i = 18 ∨ i = 19 ∨ i = 20 ∨ i = 21 ∨ i = 22 ∨ i = 23) with rfl | rfl | rfl | rfl | rfl | rfl | rfl | rfl | rfl | rfl | rfl | rfl | rfl | rfl | rfl | rfl | rfl | rfl | rfl | rfl | rfl | rfl | rfl | rfl
  · exact rowOf_58_0 w
  · exact rowOf_58_1 w
  · exact rowOf_58_2 w
  · exact rowOf_58_3 w
  · exact rowOf_58_4 w
  · exact rowOf_58_5 w
  · exact rowOf_58_6 w
  · exact rowOf_58_7 w
  · exact rowOf_58_8 w
  · exact rowOf_58_9 w
  · exact rowOf_58_10 w
  · exact rowOf_58_11 w
  · exact rowOf_58_12 w
  · exact rowOf_58_13 w
  · exact rowOf_58_14 w
  · exact rowOf_58_15 w
  · exact rowOf_58_16 w
  · exact rowOf_58_17 w
  · exact rowOf_58_18 w
  · exact rowOf_58_19 w
  · exact rowOf_58_20 w
  · exact rowOf_58_21 w
  · exact rowOf_58_22 w
  · exact rowOf_58_23 w
end Go.Proofs.YtobegepebochkaaGreatDoor

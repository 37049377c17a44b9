import Derived.Lib.Strings
import Derived.Lib.Walk
import Derived.Lib.Bytealg
import Derived.Test.YtbbocbdoiealoaaGreatDoorRPaa
set_option linter.unusedVariables false
set_option linter.unusedSimpArgs false
namespace Go.Proofs.YtbbocbdoiealoaaGreatDoor
open Go.RowKit
set_option maxHeartbeats 1000000 in
set_option maxRecDepth 100000 in
theorem indexB_41 (s : ByteArray) (c : Int) (w : World) :
    Calls Tryz.prog 159 #[.string s, .int .u8 c] w fun e w' => e = .returned (.int .i64 (Lib.indexByte s.data.toList c.toNat.toUInt8)) ∧ w' = w := by
  go_enter Tryz.func159, Tryz.ntmps159
  go_wp2
  rw [run_callFunc_extern Tryz.func172 (by kernel_rfl) (by kernel_rfl) (by kernel_rfl) (e := Extern.BytealgIndexByte.indexByte) (by kernel_rfl), Lib.run_indexByteString]
  simp only [Result.andThen]
  rw [Oper.upon_value]
  go_wp2
  go_ret
  exact ⟨rfl, rfl⟩
set_option maxHeartbeats 1000000 in
theorem indexB_29 (s : ByteArray) (c : Int) (w : World) :
    Calls Tryz.prog 135 #[.string s, .int .u8 c] w fun e w' => e = .returned (.int .i64 (Lib.indexByte s.data.toList c.toNat.toUInt8)) ∧ w' = w := by
  go_enter Tryz.func135, Tryz.ntmps135
  go_wp2_with (go_at_call 159; refine (indexB_41 _ _ _).mono ?_; rintro e w' ⟨rfl, rfl⟩)
  go_ret
  exact ⟨rfl, rfl⟩
abbrev up (s : ByteArray) : Ending := .panicked [{ v := .iface 190 (.string s), recovered := false }]
theorem giveUp_27 (s : ByteArray) (w : World) :
    Calls Tryz.prog 146 #[.string s] w fun e w' => e = up s ∧ w' = w := by
  go_enter Tryz.func146, Tryz.ntmps146
  go_wp2
  exact ⟨rfl, rfl, rfl⟩
theorem ask_yes (s : ByteArray) (w : World) :
    Calls Tryz.prog 165 #[.bool true, .string s] w fun e w' => e = .returned (.tuple #[]) ∧ w' = w := by
  go_enter Tryz.func165, Tryz.ntmps165
  go_wp2
  go_end0
  exact ⟨rfl, rfl⟩
theorem ask_no (s : ByteArray) (w : World) :
    Calls Tryz.prog 165 #[.bool false, .string s] w fun e w' => e = up s ∧ w' = w := by
  go_enter Tryz.func165, Tryz.ntmps165
  go_wp2_with (go_at_call 146; refine (giveUp_27 _ _).mono ?_; rintro e w' ⟨rfl, rfl⟩)
  exact ⟨rfl, rfl, rfl⟩
abbrev rv (r : Rw) : Value := .agg #[.int .i64 r.verb, sv r.wants, sv r.may, .bool r.endless, .bool r.quiet]
theorem takes_31 (r : Rw) (n : Nat) (hn : n ≤ 4611686018427387904) (h1 : r.wants.length ≤ 100) (h2 : r.may.length ≤ 100) (w : World) :
    Calls Tryz.prog 148 #[rv r, .int .i64 n] w fun e w' => e = .returned (.bool (takes r n)) ∧ w.grownBy w' none := by
  go_enter Tryz.func148, Tryz.ntmps148
  go_wp2
  · go_ret
    refine ⟨?_, gb_alloc (gb_refl _ _) _⟩
    simp_all [takes]
  · go_ret
    refine ⟨?_, gb_alloc (gb_refl _ _) _⟩
    rename_i h3 h4
    have h5 : r.endless = false := by simpa using h4
    have h6 : decide ((n : Int) ≤ ↑(List.length r.wants) + ↑(List.length r.may)) = takes r n := by
      simp only [takes, h5, h3, decide_true, Bool.true_and, Bool.false_or]
      apply decide_eq_decide.2
      omega
    exact congrArg (fun b => Ending.returned (Value.bool b)) h6
  · go_ret
    refine ⟨?_, gb_alloc (gb_refl _ _) _⟩
    rename_i h3
    have h6 : takes r n = false := by simp [takes, h3]
    rw [h6]
    rfl
theorem letters_47 (v : Int) (w : World) :
    Calls Tryz.prog 88 #[.int .i64 v] w fun e w' => e = .returned (.tuple #[sv (bare v), sv (full v)]) ∧ w' = w := by
  go_enter Tryz.func88, Tryz.ntmps88
  go_wp2
  all_goals
    go_ret2
    refine ⟨?_, rfl⟩
    simp_all [bare, full]
theorem modes_59 (v : Int) (w : World) :
    Calls Tryz.prog 139 #[.int .i64 v] w fun e w' => e = .returned (sv (modes v)) ∧ w' = w := by
  go_enter Tryz.func139, Tryz.ntmps139
  go_wp2
  all_goals
    go_ret
    refine ⟨?_, rfl⟩
    simp_all [modes]
theorem idx_has (s : Bs) (c : UInt8) : decide (0 ≤ Lib.indexByte s c) = s.contains c := by
  induction s with
  | nil => rfl
  | cons b l ih =>
    simp only [Lib.indexByte, List.contains_cons]
    have h := Lib.indexByte_ge l c
    by_cases hb : b = c
    · subst hb; simp
    · have hb' : ¬ c = b := fun e => hb e.symm
      simp only [beq_iff_eq, hb, if_false, ← ih, show (c == b) = false from beq_eq_false_iff_ne.2 hb', Bool.false_or]
      split
      · rename_i h1; simp [h1]
      · rename_i h1; apply decide_eq_decide.2; omega
theorem has_48 (s : Bs) (c : UInt8) (w : World) :
    Calls Tryz.prog 89 #[sv s, .int .u8 c.toNat] w fun e w' => e = .returned (.bool (s.contains c)) ∧ w' = w := by
  go_enter Tryz.func89, Tryz.ntmps89
  go_wp2_with (go_at_call 135; refine (indexB_29 _ _ _).mono ?_; rintro e w' ⟨rfl, rfl⟩)
  go_ret
  exact ⟨by rw [← idx_has]; rfl, rfl⟩
theorem ba_app (a b : Bs) : (⟨a.toArray⟩ ++ ⟨b.toArray⟩ : ByteArray) = ⟨(a ++ b).toArray⟩ := by
  apply ByteArray.ext
  simp [ByteArray.data_append]
theorem ba_get (l : Bs) (i : Nat) (h : i < (ByteArray.mk l.toArray).size) : (ByteArray.mk l.toArray)[i] = l.getD i 0 := by
  have h2 : i < l.length := by simpa [ByteArray.size] using h
  show l.toArray[i] = _
  simp [List.getD, h2]
theorem ba_size (l : Bs) : (ByteArray.mk l.toArray).size = l.length := by simp [ByteArray.size]
set_option maxHeartbeats 1000000 in
theorem letter_33 (r : Rw) (n : Nat) (hn : n ≤ 4611686018427387904) (h1 : r.wants.length ≤ 100) (h2 : r.may.length ≤ 100) (h3 : 0 < (r.wants ++ r.may).length) (w : World) :
    Calls Tryz.prog 150 #[rv r, .int .i64 n] w fun e w' => e = .returned (.int .u8 (lett r n).toNat) ∧ w.grownBy w' none := by
  have h4 : (r.wants ++ r.may).length = r.wants.length + r.may.length := List.length_append
  have hle : 0 ≤ min (n : Int) (↑(List.length r.wants) + ↑(List.length r.may) - 1) ∧ min (n : Int) (↑(List.length r.wants) + ↑(List.length r.may) - 1) < ↑(List.length r.wants) + ↑(List.length r.may) := by omega
  go_enter Tryz.func150, Tryz.ntmps150
  go_wp2
  go_ret
  refine ⟨?_, gb_alloc (gb_refl _ _) _⟩
  refine congrArg (fun b : UInt8 => Ending.returned (Value.int .u8 (b.toNat : Nat))) ?_
  have e : (min (n : Int) (↑(List.length r.wants) + ↑(List.length r.may) - 1)).toNat = min n ((r.wants ++ r.may).length - 1) := by omega
  simp only [ba_app, e, ba_get, lett]
theorem plain_take (s : Bs) (k : Nat) (hk : k < s.length) : plain (s.take (k + 1)) = (plain (s.take k) && (decide (32 < s.getD k 0) && decide (s.getD k 0 ≠ 127))) := by
  have e : s.take (k + 1) = s.take k ++ [s.getD k 0] := by
    rw [List.take_add_one, List.getElem?_eq_getElem hk]; simp [List.getD, hk]
  rw [e]; simp [plain]
set_option maxHeartbeats 1000000 in
theorem isPlain_44 (s : Bs) (hs : s.length ≤ 4611686018427387904) (w : World) :
    Calls Tryz.prog 136 #[sv s] w fun e w' => e = .returned (.bool (plain s)) ∧ w' = w := by
  go_enter Tryz.func136, Tryz.ntmps136
  go_wp2
  go_loopw [6] (fun v wr => ∃ k : Nat, k ≤ s.length ∧ v = .int .i64 k ∧ wr = w ∧ plain (s.take k) = true) (fun v _ => s.length - (intOf v).toNat)
  case atStart => exact ⟨0, by omega, rfl, rfl, rfl⟩
  case round =>
    obtain ⟨k, hk, rfl, rfl, hp⟩ := hrel
    have hlt : k < s.length ∨ k = s.length := by omega
    rcases hlt with hlt | rfl
    · have d1 : decide ((k : Int) < (s.length : Int)) = true := decide_eq_true (by omega)
      obtain ⟨b, hb⟩ : ∃ b, s.getD k 0 = b := ⟨_, rfl⟩
      have hg : ∀ h : k < (ByteArray.mk s.toArray).size, (ByteArray.mk s.toArray)[k] = b := fun h => (ba_get s k h).trans hb
      have HT := plain_take s k hlt
      have HF : ∀ {x : Bool}, (decide (32 < b) && decide (b ≠ 127)) = false → x = false → x = plain s := by
        rintro x h rfl
        have h2 : plain s = (plain (s.take (k + 1)) && plain (s.drop (k + 1))) := by
          have h3 : plain (s.take (k + 1) ++ s.drop (k + 1)) = (plain (s.take (k + 1)) && plain (s.drop (k + 1))) := List.all_append
          rwa [List.take_append_drop] at h3
        rw [h2, HT, hb, h]; simp
      rw [hb, hp] at HT
      clear hp hb
      go_wp2
      · rename_i h1 h2
        go_ret
        refine ⟨congrArg (fun b => Ending.returned (Value.bool b)) (HF ?_ rfl), rfl⟩
        rcases h2 with h2 | h2
        · omega
        · have : b = 127 := by apply UInt8.toNat_inj.1; have := beq_iff_eq.1 h2; show b.toNat = 127; omega
          subst this; rfl
      · rename_i h1 h2
        refine ⟨⟨k + 1, by omega, by simp, trivial, ?_⟩, by simp [intOf]; omega⟩
        rw [HT]
        have h3 : 32 < b := UInt8.lt_iff_toNat_lt.2 (by have e : (32 : UInt8).toNat = 32 := rfl; omega)
        have h4 : b ≠ 127 := by rintro rfl; simp at h2
        simp [h3, h4]
      · rename_i h1
        go_ret
        refine ⟨congrArg (fun b => Ending.returned (Value.bool b)) (HF ?_ rfl), rfl⟩
        have h3 : ¬ 32 < b := fun h => by have : (32 : UInt8).toNat < b.toNat := UInt8.lt_iff_toNat_lt.1 h; have e : (32 : UInt8).toNat = 32 := rfl; omega
        simp [h3]
    · have d1 : decide ((s.length : Int) < (s.length : Int)) = false := decide_eq_false (by omega)
      rw [List.take_length] at hp
      go_wp2
      go_ret
      exact ⟨by rw [hp]; rfl, rfl⟩
end Go.Proofs.YtbbocbdoiealoaaGreatDoor

import Derived.Test.YtobegepebochkaaGreatDoorSE
set_option linter.unusedVariables false
set_option linter.unusedSimpArgs false
namespace Go.Proofs.YtobegepebochkaaGreatDoor
open Go.RowKit
theorem flagsOf_86 (v : Int) (w : World) :
    Calls Tryz.prog 86 #[.int .i64 v] w fun e w' => e = .returned (.tuple #[sv (bare v), sv (full v)]) ∧ w' = w := by
  go_enter Tryz.func86, Tryz.ntmps86
  go_wp2
  all_goals
    go_ret2
    refine ⟨?_, rfl⟩
    simp_all [bare, full]
set_option maxHeartbeats 1000000 in
theorem holds_87 (s : Bs) (hs : s.length ≤ 4611686018427387904) (c : UInt8) (w : World) :
    Calls Tryz.prog 87 #[sv s, .int .u8 c.toNat] w fun e w' => e = .returned (.bool (s.contains c)) ∧ w' = w := by
  go_enter Tryz.func87, Tryz.ntmps87
  go_wp2
  go_loopw [5] (fun v wr => ∃ k : Nat, k ≤ s.length ∧ v = .int .i64 k ∧ wr = w ∧ (s.take k).contains c = false) (fun v _ => s.length - (intOf v).toNat)
  case atStart => exact ⟨0, by omega, rfl, rfl, rfl⟩
  case round =>
    obtain ⟨k, hk, rfl, rfl, hp⟩ := hrel
    have hlt : k < s.length ∨ k = s.length := by omega
    rcases hlt with hlt | rfl
    · have d1 : decide ((k : Int) < (s.length : Int)) = true := decide_eq_true (by omega)
      obtain ⟨b, hb⟩ : ∃ b, s.getD k 0 = b := ⟨_, rfl⟩
      have hg : ∀ h : k < (ByteArray.mk s.toArray).size, (ByteArray.mk s.toArray)[k] = b := fun h => (ba_get s k h).trans hb
      have hget : s[k]? = some b := by rw [List.getElem?_eq_getElem hlt, ← hb]; simp [List.getD, hlt]
      have HT : (s.take (k + 1)).contains c = (c == b) := by
        rw [List.take_add_one, hget, Option.toList_some, List.contains_append, hp]; rw [Bool.eq_iff_iff]; simp
      have HY : b = c → s.contains c = true := fun e => by
        subst e; exact List.contains_iff_mem.2 (List.mem_of_getElem? hget)
      clear hp hb
      go_wp2
      · rename_i h1
        go_ret
        refine ⟨?_, rfl⟩
        rw [HY (UInt8.toNat_inj.1 (by have := beq_iff_eq.1 h1; omega))]
        rfl
      · rename_i h1
        refine ⟨⟨k + 1, by omega, by simp, trivial, ?_⟩, ?_⟩
        · rw [HT]
          refine beq_eq_false_iff_ne.2 fun e => ?_
          subst e
          simp at h1
        · simp [intOf]; omega
    · go_wp2
      go_ret
      rw [List.take_length] at hp
      exact ⟨by rw [hp]; rfl, rfl⟩
set_option maxHeartbeats 1000000 in
theorem key_97 (s : Bs) (hs : s.length ≤ 4611686018427387904) (w : World) :
    Calls Tryz.prog 97 #[sv s] w fun e w' => e = .returned (.bool (plain s && decide (1 ≤ s.length) && decide (s.length ≤ 250))) ∧ w' = w := by
  go_enter Tryz.func97, Tryz.ntmps97
  go_wp2
  go_loopw [3] (fun v wr => ∃ k : Nat, k ≤ s.length ∧ v = .int .i64 k ∧ wr = w ∧ plain (s.take k) = true) (fun v _ => s.length - (intOf v).toNat)
  case atStart => exact ⟨0, by omega, rfl, rfl, rfl⟩
  case round =>
    obtain ⟨k, hk, rfl, rfl, hp⟩ := hrel
    have hlt : k < s.length ∨ k = s.length := by omega
    rcases hlt with hlt | rfl
    · have d1 : decide ((k : Int) < (s.length : Int)) = true := decide_eq_true (by omega)
      obtain ⟨b, hb⟩ : ∃ b, s.getD k 0 = b := ⟨_, rfl⟩
      have hg : ∀ h : k < (ByteArray.mk s.toArray).size, (ByteArray.mk s.toArray)[k] = b := fun h => (ba_get s k h).trans hb
      have HT := plain_take s k hlt
      have HF : (decide (32 < b) && decide (b ≠ 127)) = false → plain s = false := by
        intro h
        have h2 : plain s = (plain (s.take (k + 1)) && plain (s.drop (k + 1))) := by
          have h3 : plain (s.take (k + 1) ++ s.drop (k + 1)) = (plain (s.take (k + 1)) && plain (s.drop (k + 1))) := List.all_append
          rwa [List.take_append_drop] at h3
        rw [h2, HT, hb, h]; simp
      rw [hb, hp] at HT
      clear hp hb
      go_wp2
      all_goals first
        | (refine ⟨⟨k + 1, by omega, by simp, trivial, ?_⟩, by simp [intOf]; omega⟩
           rw [HT]
           have h3 : 32 < b := UInt8.lt_iff_toNat_lt.2 (by have e : (32 : UInt8).toNat = 32 := rfl; omega)
           have h4 : b ≠ 127 := by rintro rfl; simp_all
           simp [h3, h4]
           done)
        | (rename_i h1
           go_ret
           have h3 : ¬ 32 < b := fun h => by have : (32 : UInt8).toNat < b.toNat := UInt8.lt_iff_toNat_lt.1 h; have e : (32 : UInt8).toNat = 32 := rfl; omega
           rw [HF (by simp [h3])]
           exact ⟨rfl, rfl⟩)
        | (rename_i h1 h2
           go_ret
           have h4 : b = 127 := by
             apply UInt8.toNat_inj.1
             show b.toNat = 127
             first | (have := beq_iff_eq.1 h2; omega) | (rcases h2 with h2 | h2; · omega
                                                         · have := beq_iff_eq.1 h2; omega)
           rw [HF (by simp [h4])]
           exact ⟨rfl, rfl⟩)
    · rw [List.take_length] at hp
      go_wp2
      all_goals
        rename_i h1
        go_ret
        refine ⟨congrArg (fun b => Ending.returned (Value.bool b)) ?_, rfl⟩
      · rw [hp, decide_eq_true (p := 1 ≤ s.length) (by omega), Bool.true_and, Bool.true_and]
        exact decide_eq_decide.2 (by omega)
      · rw [decide_eq_false (p := 1 ≤ s.length) (by omega)]
        rfl
end Go.Proofs.YtobegepebochkaaGreatDoor

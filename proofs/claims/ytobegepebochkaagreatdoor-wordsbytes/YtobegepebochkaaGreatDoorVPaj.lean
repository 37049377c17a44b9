import Derived.Test.YtobegepebochkaaGreatDoorVPag
import Derived.Test.YtobegepebochkaaGreatDoorVE
import Derived.Test.YtobegepebochkaaGreatDoorVPae
import Derived.Laws.EntriesVeiled
import Derived.Deep.RegionLaw
set_option linter.unusedVariables false
set_option linter.unusedSimpArgs false
namespace Go.Proofs.YtobegepebochkaaGreatDoor
open Go.RowKit
section
variable {w : World} {bb : Nat} {b0 b1 b2 b3 t0 t1 t2 t3 s0 s1 s2 : Value} {n : Int}
theorem look_109 (w : World) : Calls Tryz.prog 109 #[.pointer (some ⟨bb, 0, none⟩), .slice none 0 0] w fun y w' => y = .returned (.bool true) ∧ w' = w := by
  go_enter Tryz.func109, Tryz.ntmps109
  go_wp2
  go_loopw [5] (fun v wr => v = .int .i64 0 ∧ wr = w) (fun _ _ => 0)
  case atStart => exact ⟨rfl, rfl⟩
  case round =>
    obtain ⟨rfl, rfl⟩ := hrel
    go_wp2
    go_ret
    exact ⟨rfl, rfl⟩
set_option maxRecDepth 100000 in
set_option maxHeartbeats 4000000 in
theorem close_68 (h : Box w 31 bb (bkA b0 b1 b2 b3 t0 t1 t2 t3 s0 s1 s2 n)) : Calls Tryz.prog 68 #[.pointer (some ⟨bb, 0, none⟩)] w fun y w' => y = .returned (.bool true) ∧ w' = w := by
  have c0 : w.cell? ⟨bb, 4, none⟩ = some (.slice none 0 0) := h.cell 4
  have c1 : w.cell? ⟨bb, 6, none⟩ = some (.slice none 0 0) := h.cell 6
  have c2 : w.cell? ⟨bb, 7, none⟩ = some (.slice none 0 0) := h.cell 7
  have hl := look_109 (bb := bb) w
  clear h
  go_enter Tryz.func68, Tryz.ntmps68
  go_wp2
  go_loopw [3] (fun v wr => v = .int .i64 0 ∧ wr = w) (fun _ _ => 0)
  case atStart => exact ⟨rfl, rfl⟩
  case round =>
    obtain ⟨rfl, hwr⟩ := hrel
    subst hwr
    go_wp2
    go_loopw [5] (fun v wq => v = .int .i64 0 ∧ wq = wr) (fun _ _ => 0)
    case atStart => exact ⟨rfl, rfl⟩
    case round =>
      obtain ⟨rfl, hwq⟩ := hrel
      subst hwq
      go_wp2_with (first | (go_at_call 109; go_must (refine hl.mono ?_); rintro y w7 ⟨rfl, hw7⟩; subst hw7) | fail)
      go_loopw [8] (fun v wz => v = .int .i64 0 ∧ wz = w7) (fun _ _ => 0)
      case atStart => exact ⟨rfl, rfl⟩
      case round =>
        obtain ⟨rfl, hwz⟩ := hrel
        subst hwz
        go_wp2_with (first | (go_at_call 109; go_must (refine hl.mono ?_); rintro y w7 ⟨rfl, hw7⟩; subst hw7) | fail)
        go_ret
        exact ⟨rfl, rfl⟩
theorem look_112 (w : World) : Calls Tryz.prog 112 #[.pointer (some ⟨bb, 0, none⟩), .slice none 0 0] w fun y w' => y = .returned (.bool true) ∧ w' = w := by
  go_enter Tryz.func112, Tryz.ntmps112
  go_wp2
  go_loopw [5] (fun v wr => v = .int .i64 0 ∧ wr = w) (fun _ _ => 0)
  case atStart => exact ⟨rfl, rfl⟩
  case round =>
    obtain ⟨rfl, rfl⟩ := hrel
    go_wp2
    go_ret
    exact ⟨rfl, rfl⟩
set_option maxRecDepth 100000 in
set_option maxHeartbeats 4000000 in
theorem close_70 (h : Box w 31 bb (bkA b0 b1 b2 b3 t0 t1 t2 t3 s0 s1 s2 n)) : Calls Tryz.prog 70 #[.pointer (some ⟨bb, 0, none⟩)] w fun y w' => y = .returned (.bool true) ∧ w' = w := by
  have c0 : w.cell? ⟨bb, 12, none⟩ = some (.slice none 0 0) := h.cell 12
  have c1 : w.cell? ⟨bb, 14, none⟩ = some (.slice none 0 0) := h.cell 14
  have c2 : w.cell? ⟨bb, 15, none⟩ = some (.slice none 0 0) := h.cell 15
  have hl := look_112 (bb := bb) w
  clear h
  go_enter Tryz.func70, Tryz.ntmps70
  go_wp2
  go_loopw [3] (fun v wr => v = .int .i64 0 ∧ wr = w) (fun _ _ => 0)
  case atStart => exact ⟨rfl, rfl⟩
  case round =>
    obtain ⟨rfl, hwr⟩ := hrel
    subst hwr
    go_wp2
    go_loopw [5] (fun v wq => v = .int .i64 0 ∧ wq = wr) (fun _ _ => 0)
    case atStart => exact ⟨rfl, rfl⟩
    case round =>
      obtain ⟨rfl, hwq⟩ := hrel
      subst hwq
      go_wp2_with (first | (go_at_call 112; go_must (refine hl.mono ?_); rintro y w7 ⟨rfl, hw7⟩; subst hw7) | fail)
      go_loopw [8] (fun v wz => v = .int .i64 0 ∧ wz = w7) (fun _ _ => 0)
      case atStart => exact ⟨rfl, rfl⟩
      case round =>
        obtain ⟨rfl, hwz⟩ := hrel
        subst hwz
        go_wp2_with (first | (go_at_call 112; go_must (refine hl.mono ?_); rintro y w7 ⟨rfl, hw7⟩; subst hw7) | fail)
        go_ret
        exact ⟨rfl, rfl⟩
theorem look_113 (w : World) : Calls Tryz.prog 113 #[.pointer (some ⟨bb, 0, none⟩), .slice none 0 0] w fun y w' => y = .returned (.bool true) ∧ w' = w := by
  go_enter Tryz.func113, Tryz.ntmps113
  go_wp2
  go_loopw [5] (fun v wr => v = .int .i64 0 ∧ wr = w) (fun _ _ => 0)
  case atStart => exact ⟨rfl, rfl⟩
  case round =>
    obtain ⟨rfl, rfl⟩ := hrel
    go_wp2
    go_ret
    exact ⟨rfl, rfl⟩
set_option maxRecDepth 100000 in
set_option maxHeartbeats 4000000 in
theorem close_71 (h : Box w 31 bb (bkA b0 b1 b2 b3 t0 t1 t2 t3 s0 s1 s2 n)) : Calls Tryz.prog 71 #[.pointer (some ⟨bb, 0, none⟩)] w fun y w' => y = .returned (.bool true) ∧ w' = w := by
  have c0 : w.cell? ⟨bb, 16, none⟩ = some (.slice none 0 0) := h.cell 16
  have c1 : w.cell? ⟨bb, 17, none⟩ = some (.slice none 0 0) := h.cell 17
  have c2 : w.cell? ⟨bb, 18, none⟩ = some (.slice none 0 0) := h.cell 18
  have hl := look_113 (bb := bb) w
  clear h
  go_enter Tryz.func71, Tryz.ntmps71
  go_wp2
  go_loopw [3] (fun v wr => v = .int .i64 0 ∧ wr = w) (fun _ _ => 0)
  case atStart => exact ⟨rfl, rfl⟩
  case round =>
    obtain ⟨rfl, hwr⟩ := hrel
    subst hwr
    go_wp2
    go_loopw [5] (fun v wq => v = .int .i64 0 ∧ wq = wr) (fun _ _ => 0)
    case atStart => exact ⟨rfl, rfl⟩
    case round =>
      obtain ⟨rfl, hwq⟩ := hrel
      subst hwq
      go_wp2_with (first | (go_at_call 113; go_must (refine hl.mono ?_); rintro y w7 ⟨rfl, hw7⟩; subst hw7) | fail)
      go_loopw [8] (fun v wz => v = .int .i64 0 ∧ wz = w7) (fun _ _ => 0)
      case atStart => exact ⟨rfl, rfl⟩
      case round =>
        obtain ⟨rfl, hwz⟩ := hrel
        subst hwz
        go_wp2_with (first | (go_at_call 113; go_must (refine hl.mono ?_); rintro y w7 ⟨rfl, hw7⟩; subst hw7) | fail)
        go_ret
        exact ⟨rfl, rfl⟩
theorem look_114 (w : World) : Calls Tryz.prog 114 #[.pointer (some ⟨bb, 0, none⟩), .slice none 0 0] w fun y w' => y = .returned (.bool true) ∧ w' = w := by
  go_enter Tryz.func114, Tryz.ntmps114
  go_wp2
  go_loopw [5] (fun v wr => v = .int .i64 0 ∧ wr = w) (fun _ _ => 0)
  case atStart => exact ⟨rfl, rfl⟩
  case round =>
    obtain ⟨rfl, rfl⟩ := hrel
    go_wp2
    go_ret
    exact ⟨rfl, rfl⟩
set_option maxRecDepth 100000 in
set_option maxHeartbeats 4000000 in
theorem close_72 (h : Box w 31 bb (bkA b0 b1 b2 b3 t0 t1 t2 t3 s0 s1 s2 n)) : Calls Tryz.prog 72 #[.pointer (some ⟨bb, 0, none⟩)] w fun y w' => y = .returned (.bool true) ∧ w' = w := by
  have c0 : w.cell? ⟨bb, 19, none⟩ = some (.slice none 0 0) := h.cell 19
  have c1 : w.cell? ⟨bb, 20, none⟩ = some (.slice none 0 0) := h.cell 20
  have c2 : w.cell? ⟨bb, 21, none⟩ = some (.slice none 0 0) := h.cell 21
  have hl := look_114 (bb := bb) w
  clear h
  go_enter Tryz.func72, Tryz.ntmps72
  go_wp2
  go_loopw [3] (fun v wr => v = .int .i64 0 ∧ wr = w) (fun _ _ => 0)
  case atStart => exact ⟨rfl, rfl⟩
  case round =>
    obtain ⟨rfl, hwr⟩ := hrel
    subst hwr
    go_wp2
    go_loopw [5] (fun v wq => v = .int .i64 0 ∧ wq = wr) (fun _ _ => 0)
    case atStart => exact ⟨rfl, rfl⟩
    case round =>
      obtain ⟨rfl, hwq⟩ := hrel
      subst hwq
      go_wp2_with (first | (go_at_call 114; go_must (refine hl.mono ?_); rintro y w7 ⟨rfl, hw7⟩; subst hw7) | fail)
      go_loopw [8] (fun v wz => v = .int .i64 0 ∧ wz = w7) (fun _ _ => 0)
      case atStart => exact ⟨rfl, rfl⟩
      case round =>
        obtain ⟨rfl, hwz⟩ := hrel
        subst hwz
        go_wp2_with (first | (go_at_call 114; go_must (refine hl.mono ?_); rintro y w7 ⟨rfl, hw7⟩; subst hw7) | fail)
        go_ret
        exact ⟨rfl, rfl⟩
theorem look_115 (w : World) : Calls Tryz.prog 115 #[.pointer (some ⟨bb, 0, none⟩), .slice none 0 0] w fun y w' => y = .returned (.bool true) ∧ w' = w := by
  go_enter Tryz.func115, Tryz.ntmps115
  go_wp2
  go_loopw [5] (fun v wr => v = .int .i64 0 ∧ wr = w) (fun _ _ => 0)
  case atStart => exact ⟨rfl, rfl⟩
  case round =>
    obtain ⟨rfl, rfl⟩ := hrel
    go_wp2
    go_ret
    exact ⟨rfl, rfl⟩
set_option maxRecDepth 100000 in
set_option maxHeartbeats 4000000 in
theorem close_73 (h : Box w 31 bb (bkA b0 b1 b2 b3 t0 t1 t2 t3 nilS nilS nilS n)) : Calls Tryz.prog 73 #[.pointer (some ⟨bb, 0, none⟩)] w fun y w' => y = .returned (.bool true) ∧ w' = w := by
  have c0 : w.cell? ⟨bb, 22, none⟩ = some (.slice none 0 0) := h.cell 22
  have c1 : w.cell? ⟨bb, 23, none⟩ = some (.slice none 0 0) := h.cell 23
  have c2 : w.cell? ⟨bb, 24, none⟩ = some (.slice none 0 0) := h.cell 24
  have hl := look_115 (bb := bb) w
  clear h
  go_enter Tryz.func73, Tryz.ntmps73
  go_wp2
  go_loopw [3] (fun v wr => v = .int .i64 0 ∧ wr = w) (fun _ _ => 0)
  case atStart => exact ⟨rfl, rfl⟩
  case round =>
    obtain ⟨rfl, hwr⟩ := hrel
    subst hwr
    go_wp2
    go_loopw [5] (fun v wq => v = .int .i64 0 ∧ wq = wr) (fun _ _ => 0)
    case atStart => exact ⟨rfl, rfl⟩
    case round =>
      obtain ⟨rfl, hwq⟩ := hrel
      subst hwq
      go_wp2_with (first | (go_at_call 115; go_must (refine hl.mono ?_); rintro y w7 ⟨rfl, hw7⟩; subst hw7) | fail)
      go_loopw [8] (fun v wz => v = .int .i64 0 ∧ wz = w7) (fun _ _ => 0)
      case atStart => exact ⟨rfl, rfl⟩
      case round =>
        obtain ⟨rfl, hwz⟩ := hrel
        subst hwz
        go_wp2_with (first | (go_at_call 115; go_must (refine hl.mono ?_); rintro y w7 ⟨rfl, hw7⟩; subst hw7) | fail)
        go_ret
        exact ⟨rfl, rfl⟩
end
end Go.Proofs.YtobegepebochkaaGreatDoor
namespace Go.Proofs.YtobegepebochkaaGreatDoor
open Go.RowKit
theorem flagsOf_86 (v : Int) (w : World) :
    Calls Tryz.prog 86 #[.int .i64 v] w fun e w' => e = .returned (.tuple #[sv (bare v), sv (full v)]) ∧ w' = w := by
  go_enter Tryz.func86, Tryz.ntmps86
  go_wp2
  all_goals
    go_ret2
    refine ⟨?_, rfl⟩
    simp_all [bare, full]
set_option maxHeartbeats 1000000 in
theorem holds_87 (s : Bs) (hs : s.length ≤ 4611686018427387904) (c : UInt8) (w : World) :
    Calls Tryz.prog 87 #[sv s, .int .u8 c.toNat] w fun e w' => e = .returned (.bool (s.contains c)) ∧ w' = w := by
  go_enter Tryz.func87, Tryz.ntmps87
  go_wp2
  go_loopw [5] (fun v wr => ∃ k : Nat, k ≤ s.length ∧ v = .int .i64 k ∧ wr = w ∧ (s.take k).contains c = false) (fun v _ => s.length - (intOf v).toNat)
  case atStart => exact ⟨0, by omega, rfl, rfl, rfl⟩
  case round =>
    obtain ⟨k, hk, rfl, rfl, hp⟩ := hrel
    have hlt : k < s.length ∨ k = s.length := by omega
    rcases hlt with hlt | rfl
    · have d1 : decide ((k : Int) < (s.length : Int)) = true := decide_eq_true (by omega)
      obtain ⟨b, hb⟩ : ∃ b, s.getD k 0 = b := ⟨_, rfl⟩
      have hg : ∀ h : k < (ByteArray.mk s.toArray).size, (ByteArray.mk s.toArray)[k] = b := fun h => (ba_get s k h).trans hb
      have hget : s[k]? = some b := by rw [List.getElem?_eq_getElem hlt, ← hb]; simp [List.getD, hlt]
      have HT : (s.take (k + 1)).contains c = (c == b) := by
        rw [List.take_add_one, hget, Option.toList_some, List.contains_append, hp]; rw [Bool.eq_iff_iff]; simp
      have HY : b = c → s.contains c = true := fun e => by
        subst e; exact List.contains_iff_mem.2 (List.mem_of_getElem? hget)
      clear hp hb
      go_wp2
      · rename_i h1
        go_ret
        refine ⟨?_, rfl⟩
        rw [HY (UInt8.toNat_inj.1 (by have := beq_iff_eq.1 h1; omega))]
        rfl
      · rename_i h1
        refine ⟨⟨k + 1, by omega, by simp, trivial, ?_⟩, ?_⟩
        · rw [HT]
          refine beq_eq_false_iff_ne.2 fun e => ?_
          subst e
          simp at h1
        · simp [intOf]; omega
    · go_wp2
      go_ret
      rw [List.take_length] at hp
      exact ⟨by rw [hp]; rfl, rfl⟩
set_option maxHeartbeats 1000000 in
theorem key_97 (s : Bs) (hs : s.length ≤ 4611686018427387904) (w : World) :
    Calls Tryz.prog 97 #[sv s] w fun e w' => e = .returned (.bool (plain s && decide (1 ≤ s.length) && decide (s.length ≤ 250))) ∧ w' = w := by
  go_enter Tryz.func97, Tryz.ntmps97
  go_wp2
  go_loopw [3] (fun v wr => ∃ k : Nat, k ≤ s.length ∧ v = .int .i64 k ∧ wr = w ∧ plain (s.take k) = true) (fun v _ => s.length - (intOf v).toNat)
  case atStart => exact ⟨0, by omega, rfl, rfl, rfl⟩
  case round =>
    obtain ⟨k, hk, rfl, rfl, hp⟩ := hrel
    have hlt : k < s.length ∨ k = s.length := by omega
    rcases hlt with hlt | rfl
    · have d1 : decide ((k : Int) < (s.length : Int)) = true := decide_eq_true (by omega)
      obtain ⟨b, hb⟩ : ∃ b, s.getD k 0 = b := ⟨_, rfl⟩
      have hg : ∀ h : k < (ByteArray.mk s.toArray).size, (ByteArray.mk s.toArray)[k] = b := fun h => (ba_get s k h).trans hb
      have HT := plain_take s k hlt
      have HF : (decide (32 < b) && decide (b ≠ 127)) = false → plain s = false := by
        intro h
        have h2 : plain s = (plain (s.take (k + 1)) && plain (s.drop (k + 1))) := by
          have h3 : plain (s.take (k + 1) ++ s.drop (k + 1)) = (plain (s.take (k + 1)) && plain (s.drop (k + 1))) := List.all_append
          rwa [List.take_append_drop] at h3
        rw [h2, HT, hb, h]; simp
      rw [hb, hp] at HT
      clear hp hb
      go_wp2
      all_goals first
        | (refine ⟨⟨k + 1, by omega, by simp, trivial, ?_⟩, by simp [intOf]; omega⟩
           rw [HT]
           have h3 : 32 < b := UInt8.lt_iff_toNat_lt.2 (by have e : (32 : UInt8).toNat = 32 := rfl; omega)
           have h4 : b ≠ 127 := by rintro rfl; simp_all
           simp [h3, h4]
           done)
        | (rename_i h1
           go_ret
           have h3 : ¬ 32 < b := fun h => by have : (32 : UInt8).toNat < b.toNat := UInt8.lt_iff_toNat_lt.1 h; have e : (32 : UInt8).toNat = 32 := rfl; omega
           rw [HF (by simp [h3])]
           exact ⟨rfl, rfl⟩)
        | (rename_i h1 h2
           go_ret
           have h4 : b = 127 := by
             apply UInt8.toNat_inj.1
             show b.toNat = 127
             first | (have := beq_iff_eq.1 h2; omega) | (rcases h2 with h2 | h2; · omega
                                                         · have := beq_iff_eq.1 h2; omega)
           rw [HF (by simp [h4])]
           exact ⟨rfl, rfl⟩)
    · rw [List.take_length] at hp
      go_wp2
      all_goals
        rename_i h1
        go_ret
        refine ⟨congrArg (fun b => Ending.returned (Value.bool b)) ?_, rfl⟩
      · rw [hp, decide_eq_true (p := 1 ≤ s.length) (by omega), Bool.true_and, Bool.true_and]
        exact decide_eq_decide.2 (by omega)
      · rw [decide_eq_false (p := 1 ≤ s.length) (by omega)]
        rfl
end Go.Proofs.YtobegepebochkaaGreatDoor
namespace Go.Proofs.YtobegepebochkaaGreatDoor
open Go.RowKit Go.Maps
theorem spl_lenY : ∀ (l cur : Bs), (spl cur l).length ≤ l.length + 1
  | [], cur => by simp only [spl]; split <;> simp
  | b :: t, cur => by
    simp only [spl]
    split
    · split
      · have := spl_lenY t []; simp only [List.length_cons]; omega
      · have := spl_lenY t []; simp only [List.length_cons]; omega
    · have := spl_lenY t (cur ++ [b]); simp only [List.length_cons]; omega
end Go.Proofs.YtobegepebochkaaGreatDoor
namespace Go.Proofs.YtobegepebochkaaGreatDoor
open Go.RowKit
def fl (limit at_ : Nat) : Fd := ⟨limit, at_, false, at_, [], 0, 0, stp0, 0⟩
end Go.Proofs.YtobegepebochkaaGreatDoor
namespace Go.Proofs.YtobegepebochkaaGreatDoor
open Go.RowKit
def sets (vs : Array Value) : Nat → List Value → Array Value
  | _, [] => vs
  | o, v :: l => sets (vs.setIfInBounds o v) (o + 1) l
theorem Box.sets {t b : Nat} : ∀ (l : List Value) (o : Nat) {w : World} {vs : Array Value}, Box w t b vs → Box (w.setCells b o l) t b (sets vs o l)
  | [], _, _, _, h => h
  | v :: l, o, _, _, h => Box.sets l (o + 1) (h.set o v)
theorem gb_setCells {b : Nat} : ∀ (l : List Value) (o : Nat) {w0 w : World}, w0.grownBy w (some b) → w0.grownBy (w.setCells b o l) (some b)
  | [], _, _, _, h => h
  | v :: l, o, _, _, h => gb_setCells l (o + 1) (gb_setCell h v)
theorem Box.there {w : World} {t b : Nat} {vs : Array Value} (h : Box w t b vs) (o n : Nat) (hn : o + n ≤ vs.size) : w.there b o n := by
  intro j hj
  refine ⟨?_, h.fz _⟩
  rw [h.cell, Array.getElem?_eq_getElem (by omega)]
  rfl
section
variable {w : World} {ops : Array Oper} {rest : List Oper} {op : Oper} {a : Act} {Q : Exit → Act → World → Prop}
end
end Go.Proofs.YtobegepebochkaaGreatDoor

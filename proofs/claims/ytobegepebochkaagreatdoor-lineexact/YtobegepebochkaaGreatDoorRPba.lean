import Derived.Test.YtobegepebochkaaGreatDoorRBc
import Derived.Test.YtobegepebochkaaGreatDoorRE
import Derived.Test.YtobegepebochkaaGreatDoorRF
set_option linter.unusedVariables false
set_option linter.unusedSimpArgs false
set_option maxRecDepth 100000
set_option maxHeartbeats 16000000
namespace Go.Proofs.YtobegepebochkaaGreatDoor
open Go.RowKit
section
variable {w : World} {bb : Nat} {b0 b1 b2 b3 t0 t1 t2 t3 s0 s1 s2 : Value} {n : Int}
theorem look_109 (w : World) : Calls Tryz.prog 109 #[.pointer (some ⟨bb, 0, none⟩), .slice none 0 0] w fun y w' => y = .returned (.bool true) /\ w' = w := by
  go_enter Tryz.func109, Tryz.ntmps109
  go_wp2
  go_loopw [5] (fun v wr => v = .int .i64 0 /\ wr = w) (fun _ _ => 0)
  case atStart => exact ⟨rfl, rfl⟩
  case round =>
    obtain ⟨rfl, rfl⟩ := hrel
    go_wp2
    go_ret
    exact ⟨rfl, rfl⟩
theorem close_68 (h : Box w 31 bb (bkA b0 b1 b2 b3 t0 t1 t2 t3 s0 s1 s2 n)) : Calls Tryz.prog 68 #[.pointer (some ⟨bb, 0, none⟩)] w fun y w' => y = .returned (.bool true) /\ w' = w := by
  have c0 : w.cell? ⟨bb, 4, none⟩ = some (.slice none 0 0) := h.cell 4
  have c1 : w.cell? ⟨bb, 6, none⟩ = some (.slice none 0 0) := h.cell 6
  have c2 : w.cell? ⟨bb, 7, none⟩ = some (.slice none 0 0) := h.cell 7
  have hl := look_109 (bb := bb) w
  clear h
  go_enter Tryz.func68, Tryz.ntmps68
  go_wp2
  go_loopw [3] (fun v wr => v = .int .i64 0 /\ wr = w) (fun _ _ => 0)
  case atStart => exact ⟨rfl, rfl⟩
  case round =>
    obtain ⟨rfl, hwr⟩ := hrel
    subst hwr
    go_wp2
    go_loopw [5] (fun v wq => v = .int .i64 0 /\ wq = wr) (fun _ _ => 0)
    case atStart => exact ⟨rfl, rfl⟩
    case round =>
      obtain ⟨rfl, hwq⟩ := hrel
      subst hwq
      go_wp2_with (first | (go_at_call 109; go_must (refine hl.mono ?_); rintro y w7 ⟨rfl, hw7⟩; subst hw7) | fail)
      go_loopw [8] (fun v wz => v = .int .i64 0 /\ wz = w7) (fun _ _ => 0)
      case atStart => exact ⟨rfl, rfl⟩
      case round =>
        obtain ⟨rfl, hwz⟩ := hrel
        subst hwz
        go_wp2_with (first | (go_at_call 109; go_must (refine hl.mono ?_); rintro y w7 ⟨rfl, hw7⟩; subst hw7) | fail)
        go_ret
        exact ⟨rfl, rfl⟩
theorem look_112 (w : World) : Calls Tryz.prog 112 #[.pointer (some ⟨bb, 0, none⟩), .slice none 0 0] w fun y w' => y = .returned (.bool true) /\ w' = w := by
  go_enter Tryz.func112, Tryz.ntmps112
  go_wp2
  go_loopw [5] (fun v wr => v = .int .i64 0 /\ wr = w) (fun _ _ => 0)
  case atStart => exact ⟨rfl, rfl⟩
  case round =>
    obtain ⟨rfl, rfl⟩ := hrel
    go_wp2
    go_ret
    exact ⟨rfl, rfl⟩
theorem close_70 (h : Box w 31 bb (bkA b0 b1 b2 b3 t0 t1 t2 t3 s0 s1 s2 n)) : Calls Tryz.prog 70 #[.pointer (some ⟨bb, 0, none⟩)] w fun y w' => y = .returned (.bool true) /\ w' = w := by
  have c0 : w.cell? ⟨bb, 12, none⟩ = some (.slice none 0 0) := h.cell 12
  have c1 : w.cell? ⟨bb, 14, none⟩ = some (.slice none 0 0) := h.cell 14
  have c2 : w.cell? ⟨bb, 15, none⟩ = some (.slice none 0 0) := h.cell 15
  have hl := look_112 (bb := bb) w
  clear h
  go_enter Tryz.func70, Tryz.ntmps70
  go_wp2
  go_loopw [3] (fun v wr => v = .int .i64 0 /\ wr = w) (fun _ _ => 0)
  case atStart => exact ⟨rfl, rfl⟩
  case round =>
    obtain ⟨rfl, hwr⟩ := hrel
    subst hwr
    go_wp2
    go_loopw [5] (fun v wq => v = .int .i64 0 /\ wq = wr) (fun _ _ => 0)
    case atStart => exact ⟨rfl, rfl⟩
    case round =>
      obtain ⟨rfl, hwq⟩ := hrel
      subst hwq
      go_wp2_with (first | (go_at_call 112; go_must (refine hl.mono ?_); rintro y w7 ⟨rfl, hw7⟩; subst hw7) | fail)
      go_loopw [8] (fun v wz => v = .int .i64 0 /\ wz = w7) (fun _ _ => 0)
      case atStart => exact ⟨rfl, rfl⟩
      case round =>
        obtain ⟨rfl, hwz⟩ := hrel
        subst hwz
        go_wp2_with (first | (go_at_call 112; go_must (refine hl.mono ?_); rintro y w7 ⟨rfl, hw7⟩; subst hw7) | fail)
        go_ret
        exact ⟨rfl, rfl⟩
theorem look_113 (w : World) : Calls Tryz.prog 113 #[.pointer (some ⟨bb, 0, none⟩), .slice none 0 0] w fun y w' => y = .returned (.bool true) /\ w' = w := by
  go_enter Tryz.func113, Tryz.ntmps113
  go_wp2
  go_loopw [5] (fun v wr => v = .int .i64 0 /\ wr = w) (fun _ _ => 0)
  case atStart => exact ⟨rfl, rfl⟩
  case round =>
    obtain ⟨rfl, rfl⟩ := hrel
    go_wp2
    go_ret
    exact ⟨rfl, rfl⟩
theorem close_71 (h : Box w 31 bb (bkA b0 b1 b2 b3 t0 t1 t2 t3 s0 s1 s2 n)) : Calls Tryz.prog 71 #[.pointer (some ⟨bb, 0, none⟩)] w fun y w' => y = .returned (.bool true) /\ w' = w := by
  have c0 : w.cell? ⟨bb, 16, none⟩ = some (.slice none 0 0) := h.cell 16
  have c1 : w.cell? ⟨bb, 17, none⟩ = some (.slice none 0 0) := h.cell 17
  have c2 : w.cell? ⟨bb, 18, none⟩ = some (.slice none 0 0) := h.cell 18
  have hl := look_113 (bb := bb) w
  clear h
  go_enter Tryz.func71, Tryz.ntmps71
  go_wp2
  go_loopw [3] (fun v wr => v = .int .i64 0 /\ wr = w) (fun _ _ => 0)
  case atStart => exact ⟨rfl, rfl⟩
  case round =>
    obtain ⟨rfl, hwr⟩ := hrel
    subst hwr
    go_wp2
    go_loopw [5] (fun v wq => v = .int .i64 0 /\ wq = wr) (fun _ _ => 0)
    case atStart => exact ⟨rfl, rfl⟩
    case round =>
      obtain ⟨rfl, hwq⟩ := hrel
      subst hwq
      go_wp2_with (first | (go_at_call 113; go_must (refine hl.mono ?_); rintro y w7 ⟨rfl, hw7⟩; subst hw7) | fail)
      go_loopw [8] (fun v wz => v = .int .i64 0 /\ wz = w7) (fun _ _ => 0)
      case atStart => exact ⟨rfl, rfl⟩
      case round =>
        obtain ⟨rfl, hwz⟩ := hrel
        subst hwz
        go_wp2_with (first | (go_at_call 113; go_must (refine hl.mono ?_); rintro y w7 ⟨rfl, hw7⟩; subst hw7) | fail)
        go_ret
        exact ⟨rfl, rfl⟩
theorem look_114 (w : World) : Calls Tryz.prog 114 #[.pointer (some ⟨bb, 0, none⟩), .slice none 0 0] w fun y w' => y = .returned (.bool true) /\ w' = w := by
  go_enter Tryz.func114, Tryz.ntmps114
  go_wp2
  go_loopw [5] (fun v wr => v = .int .i64 0 /\ wr = w) (fun _ _ => 0)
  case atStart => exact ⟨rfl, rfl⟩
  case round =>
    obtain ⟨rfl, rfl⟩ := hrel
    go_wp2
    go_ret
    exact ⟨rfl, rfl⟩
theorem close_72 (h : Box w 31 bb (bkA b0 b1 b2 b3 t0 t1 t2 t3 s0 s1 s2 n)) : Calls Tryz.prog 72 #[.pointer (some ⟨bb, 0, none⟩)] w fun y w' => y = .returned (.bool true) /\ w' = w := by
  have c0 : w.cell? ⟨bb, 19, none⟩ = some (.slice none 0 0) := h.cell 19
  have c1 : w.cell? ⟨bb, 20, none⟩ = some (.slice none 0 0) := h.cell 20
  have c2 : w.cell? ⟨bb, 21, none⟩ = some (.slice none 0 0) := h.cell 21
  have hl := look_114 (bb := bb) w
  clear h
  go_enter Tryz.func72, Tryz.ntmps72
  go_wp2
  go_loopw [3] (fun v wr => v = .int .i64 0 /\ wr = w) (fun _ _ => 0)
  case atStart => exact ⟨rfl, rfl⟩
  case round =>
    obtain ⟨rfl, hwr⟩ := hrel
    subst hwr
    go_wp2
    go_loopw [5] (fun v wq => v = .int .i64 0 /\ wq = wr) (fun _ _ => 0)
    case atStart => exact ⟨rfl, rfl⟩
    case round =>
      obtain ⟨rfl, hwq⟩ := hrel
      subst hwq
      go_wp2_with (first | (go_at_call 114; go_must (refine hl.mono ?_); rintro y w7 ⟨rfl, hw7⟩; subst hw7) | fail)
      go_loopw [8] (fun v wz => v = .int .i64 0 /\ wz = w7) (fun _ _ => 0)
      case atStart => exact ⟨rfl, rfl⟩
      case round =>
        obtain ⟨rfl, hwz⟩ := hrel
        subst hwz
        go_wp2_with (first | (go_at_call 114; go_must (refine hl.mono ?_); rintro y w7 ⟨rfl, hw7⟩; subst hw7) | fail)
        go_ret
        exact ⟨rfl, rfl⟩
end
end Go.Proofs.YtobegepebochkaaGreatDoor
namespace Go.Proofs.YtobegepebochkaaGreatDoor
open Go.RowKit
theorem flagsOf_86 (v : Int) (w : World) :
    Calls Tryz.prog 86 #[.int .i64 v] w fun e w' => e = .returned (.tuple #[sv (bare v), sv (full v)]) /\ w' = w := by
  go_enter Tryz.func86, Tryz.ntmps86
  go_wp2
  all_goals
    go_ret2
    refine ⟨?_, rfl⟩
    simp_all [bare, full]
theorem holds_87 (s : Bs) (hs : s.length <= 4611686018427387904) (c : UInt8) (w : World) :
    Calls Tryz.prog 87 #[sv s, .int .u8 c.toNat] w fun e w' => e = .returned (.bool (s.contains c)) /\ w' = w := by
  go_enter Tryz.func87, Tryz.ntmps87
  go_wp2
  go_loopw [5] (fun v wr => ∃ k : Nat, k <= s.length /\ v = .int .i64 k /\ wr = w /\ (s.take k).contains c = false) (fun v _ => s.length - (intOf v).toNat)
  case atStart => exact ⟨0, by omega, rfl, rfl, rfl⟩
  case round =>
    obtain ⟨k, hk, rfl, rfl, hp⟩ := hrel
    have hlt : k < s.length \/ k = s.length := by omega
    rcases hlt with hlt | rfl
    . have d1 : decide ((k : Int) < (s.length : Int)) = true := decide_eq_true (by omega)
      obtain ⟨b, hb⟩ : ∃ b, s.getD k 0 = b := ⟨_, rfl⟩
      have hg : ∀ h : k < (ByteArray.mk s.toArray).size, (ByteArray.mk s.toArray)[k] = b := fun h => (ba_get s k h).trans hb
      have hget : s[k]? = some b := by rw [List.getElem?_eq_getElem hlt, <- hb]; simp [List.getD, hlt]
      have HT : (s.take (k + 1)).contains c = (c == b) := by
        rw [List.take_add_one, hget, Option.toList_some, List.contains_append, hp]; rw [Bool.eq_iff_iff]; simp
      have HY : b = c -> s.contains c = true := fun e => by
        subst e; exact List.contains_iff_mem.2 (List.mem_of_getElem? hget)
      clear hp hb
      go_wp2
      . rename_i h1
        go_ret
        refine ⟨?_, rfl⟩
        rw [HY (UInt8.toNat_inj.1 (by have := beq_iff_eq.1 h1; omega))]
        rfl
      . rename_i h1
        refine ⟨⟨k + 1, by omega, by simp, trivial, ?_⟩, ?_⟩
        . rw [HT]
          refine beq_eq_false_iff_ne.2 fun e => ?_
          subst e
          simp at h1
        . simp [intOf]; omega
    . go_wp2
      go_ret
      rw [List.take_length] at hp
      exact ⟨by rw [hp]; rfl, rfl⟩
theorem key_97 (s : Bs) (hs : s.length <= 4611686018427387904) (w : World) :
    Calls Tryz.prog 97 #[sv s] w fun e w' => e = .returned (.bool (plain s && decide (1 <= s.length) && decide (s.length <= 250))) /\ w' = w := by
  go_enter Tryz.func97, Tryz.ntmps97
  go_wp2
  go_loopw [3] (fun v wr => ∃ k : Nat, k <= s.length /\ v = .int .i64 k /\ wr = w /\ plain (s.take k) = true) (fun v _ => s.length - (intOf v).toNat)
  case atStart => exact ⟨0, by omega, rfl, rfl, rfl⟩
  case round =>
    obtain ⟨k, hk, rfl, rfl, hp⟩ := hrel
    have hlt : k < s.length \/ k = s.length := by omega
    rcases hlt with hlt | rfl
    . have d1 : decide ((k : Int) < (s.length : Int)) = true := decide_eq_true (by omega)
      obtain ⟨b, hb⟩ : ∃ b, s.getD k 0 = b := ⟨_, rfl⟩
      have hg : ∀ h : k < (ByteArray.mk s.toArray).size, (ByteArray.mk s.toArray)[k] = b := fun h => (ba_get s k h).trans hb
      have HT := plain_take s k hlt
      have HF : (decide (32 < b) && decide (b ≠ 127)) = false -> plain s = false := by
        intro h
        have h2 : plain s = (plain (s.take (k + 1)) && plain (s.drop (k + 1))) := by
          have h3 : plain (s.take (k + 1) ++ s.drop (k + 1)) = (plain (s.take (k + 1)) && plain (s.drop (k + 1))) := List.all_append
          rwa [List.take_append_drop] at h3
        rw [h2, HT, hb, h]; simp
      rw [hb, hp] at HT
      clear hp hb
      go_wp2
      all_goals first
        | (refine ⟨⟨k + 1, by omega, by simp, trivial, ?_⟩, by simp [intOf]; omega⟩
           rw [HT]
           have h3 : 32 < b := UInt8.lt_iff_toNat_lt.2 (by have e : (32 : UInt8).toNat = 32 := rfl; omega)
           have h4 : b ≠ 127 := by rintro rfl; simp_all
           simp [h3, h4]
           done)
        | (rename_i h1
           go_ret
           have h3 : ¬ 32 < b := fun h => by have : (32 : UInt8).toNat < b.toNat := UInt8.lt_iff_toNat_lt.1 h; have e : (32 : UInt8).toNat = 32 := rfl; omega
           rw [HF (by simp [h3])]
           exact ⟨rfl, rfl⟩)
        | (rename_i h1 h2
           go_ret
           have h4 : b = 127 := by
             apply UInt8.toNat_inj.1
             show b.toNat = 127
             first | (have := beq_iff_eq.1 h2; omega) | (rcases h2 with h2 | h2; · omega
                                                         . have := beq_iff_eq.1 h2; omega)
           rw [HF (by simp [h4])]
           exact ⟨rfl, rfl⟩)
    . rw [List.take_length] at hp
      go_wp2
      all_goals
        rename_i h1
        go_ret
        refine ⟨congrArg (fun b => Ending.returned (Value.bool b)) ?_, rfl⟩
      . rw [hp, decide_eq_true (p := 1 <= s.length) (by omega), Bool.true_and, Bool.true_and]
        exact decide_eq_decide.2 (by omega)
      . rw [decide_eq_false (p := 1 <= s.length) (by omega)]
        rfl
end Go.Proofs.YtobegepebochkaaGreatDoor
namespace Go.Proofs.YtobegepebochkaaGreatDoor
open Go.RowKit Go.Maps
theorem ba_more (l cur : Bs) (i : Nat) (b : UInt8) (hi : i < l.length) (hb : l.getD i 0 = b) : (ByteArray.mk cur.toArray) ++ (ByteArray.mk l.toArray).extract i (i + 1) = ⟨(cur ++ [b]).toArray⟩ := by
  apply ByteArray.ext
  rw [ByteArray.data_append, ByteArray.data_extract]
  simp
  rw [List.getD_eq_getElem?_getD, List.getElem?_eq_getElem hi] at hb
  simp at hb
  rw [List.drop_eq_getElem_cons hi, hb]
  simp
theorem spl_lenY : ∀ (l cur : Bs), (spl cur l).length <= l.length + 1
  | [], cur => by simp only [spl]; split <;> simp
  | b :: t, cur => by
    simp only [spl]
    split
    . split
      . have := spl_lenY t []; simp only [List.length_cons]; omega
      . have := spl_lenY t []; simp only [List.length_cons]; omega
    . have := spl_lenY t (cur ++ [b]); simp only [List.length_cons]; omega
theorem spl_memY : ∀ (l cur x : Bs), x ∈ spl cur l -> x ≠ [] /\ x.length <= cur.length + l.length
  | [], cur, x, h => by
    simp only [spl] at h
    split at h
    . cases h
    . simp at h; subst h; exact ⟨by assumption, by simp⟩
  | b :: t, cur, x, h => by
    simp only [spl] at h
    split at h
    . split at h
      . have := spl_memY t [] x h; exact ⟨this.1, by have := this.2; simp at this ⊢; omega⟩
      . rcases List.mem_cons.1 h with rfl | h
        . exact ⟨by assumption, by simp⟩
        . have := spl_memY t [] x h; exact ⟨this.1, by have := this.2; simp at this ⊢; omega⟩
    . have := spl_memY t (cur ++ [b]) x h; exact ⟨this.1, by have := this.2; simp at this ⊢; omega⟩
theorem words_56 (l : Bs) (hl : l.length <= 65536) (w : World) :
    Calls Tryz.prog 56 #[sv l] w fun e w' => ∃ v, e = .returned v /\ w'.ownsRow w.heap.size 9 1 v (spl [] l).length ((spl [] l).map sv) /\ w.grownBy w' none := by
  have hs : (ByteArray.mk l.toArray).size = l.length := ba_size l
  go_enter Tryz.func56, Tryz.ntmps56
  go_wp2
  go_loopw [3, 4, 5] (fun ov cv v wr => ∃ (i : Nat) (done : List Bs) (cur : Bs), i <= l.length /\ v = .int .i64 i /\ cv = sv cur /\ wr.ownsRow w.heap.size 9 1 ov done.length (done.map sv) /\ spl [] l = done ++ spl cur (l.drop i) /\ w.grownBy wr none /\ done.length <= i /\ cur.length <= i) (fun _ _ v _ => l.length - (intOf v).toNat)
  case atStart => exact ⟨0, [], [], by omega, rfl, rfl, ⟨rfl, .inl ⟨rfl, rfl⟩⟩, rfl, gb_refl _ _, by simp, by simp⟩
  case round =>
    obtain ⟨i, done, cur, hi, rfl, rfl, hrow, hspl, hg, hdl, hcl⟩ := hrel
    obtain ⟨ao, cp, hd, _, _, _, _⟩ := row_shape hrow
    subst hd
    have hsz := hg.size
    rcases (by omega : i < l.length \/ i = l.length) with hlt | rfl
    . obtain ⟨b, hb⟩ : ∃ b, l.getD i 0 = b := ⟨_, rfl⟩
      have hgt : ∀ h : i < (ByteArray.mk l.toArray).size, (ByteArray.mk l.toArray)[i] = b := fun h => (ba_get l i h).trans hb
      have hdr : l.drop i = b :: l.drop (i + 1) := by
        rw [List.drop_eq_getElem_cons hlt, <- hb]; simp [List.getD, hlt]
      rw [hdr] at hspl
      simp only [spl] at hspl
      have hmore := ba_more l cur i b hlt hb
      have d1 : (i : Int) < l.length := by omega
      have d2 : (i : Int) + 1 <= l.length := by omega
      clear hdr hb
      by_cases hb : b = 32
      . subst hb
        rw [if_pos rfl] at hspl
        cases cur with
        | nil =>
          rw [if_pos rfl] at hspl
          clear hmore
          go_wp2
          exact ⟨⟨i + 1, done, [], by omega, by go_num, rfl, hrow, hspl, hg, by omega, by simp⟩, by simp [intOf]; omega⟩
        | cons c cs =>
          rw [if_neg (by simp)] at hspl
          have hne : ¬ (ByteArray.mk (c :: cs).toArray = ⟨#[]⟩) := by intro h; injection h with h; simp at h
          clear hmore
          go_wp2_with (at_builtin; go_must (refine push9 rfl _ _ rfl w.heap.size _ done.length _ (by rfl) hrow ⟨(c :: cs).toArray⟩ (by rfl) (by omega) hsz ?_))
          intro g4 cap4 w4 hrow4 hgb4 hat4
          have hg4 := gb_far hg hgb4 (fun k hk => (World.ownsRow.lt hrow k hk).1) (Nat.le_refl _)
          have hrow5 : w4.ownsRow w.heap.size 9 1 (.slice (some ⟨g4, 0, none⟩) (done ++ [c :: cs]).length cap4) (done ++ [c :: cs]).length ((done ++ [c :: cs]).map sv) := by simpa using hrow4
          have hlen : (done ++ [c :: cs]).length = done.length + 1 := by simp
          clear hgb4 hat4 hrow hrow4
          go_wp2
          exact ⟨⟨i + 1, done ++ [c :: cs], [], by omega, by go_num, rfl, by rw [hlen] at hrow5 ⊢; exact hrow5, by rw [hspl]; simp, hg4, by rw [hlen]; omega, by simp⟩, by simp [intOf]; omega⟩
      . rw [if_neg hb] at hspl
        have hbn : ¬ b.toNat = 32 := fun h => hb (UInt8.toNat_inj.1 h)
        have hbi : ((b.toNat : Int) == 32) = false := by simp; omega
        have hbj : (b.toNat == 32) = false := by simp; omega
        go_wp2
        exact ⟨⟨i + 1, done, cur ++ [b], by omega, by go_num, by first | rw [hmore] | rfl, hrow, hspl, hg, by omega, by simp; omega⟩, by simp [intOf]; omega⟩
    . rw [List.drop_length] at hspl
      simp only [spl] at hspl
      cases cur with
      | nil =>
        rw [if_pos rfl, List.append_nil] at hspl
        have hpost : ∃ v, Ending.returned (Value.slice ao done.length cp) = .returned v /\ wr.ownsRow w.heap.size 9 1 v (spl [] l).length ((spl [] l).map sv) /\ w.grownBy wr none := ⟨_, rfl, by rw [hspl]; exact hrow, hg⟩
        go_wp2_with fail
        exact bodyPost_ret (v := .slice ao done.length cp) (results_tmp Tryz.results56 _ _ _) rfl hpost
      | cons c cs =>
        rw [if_neg (by simp)] at hspl
        have hne : ¬ (ByteArray.mk (c :: cs).toArray = ⟨#[]⟩) := by intro h; injection h with h; simp at h
        go_wp2_with (at_builtin; go_must (refine push9 rfl _ _ rfl w.heap.size _ done.length _ (by rfl) hrow ⟨(c :: cs).toArray⟩ (by rfl) (by omega) hsz ?_))
        intro g4 cap4 w4 hrow4 hgb4 hat4
        have hg4 := gb_far hg hgb4 (fun k hk => (World.ownsRow.lt hrow k hk).1) (Nat.le_refl _)
        have hrow5 : w4.ownsRow w.heap.size 9 1 (.slice (some ⟨g4, 0, none⟩) (done.length + 1) cap4) (spl [] l).length ((spl [] l).map sv) := by rw [hspl]; simpa using hrow4
        clear hgb4 hat4 hrow hrow4
        have hpost : ∃ v, Ending.returned (Value.slice (some ⟨g4, 0, none⟩) (done.length + 1) cap4) = .returned v /\ w4.ownsRow w.heap.size 9 1 v (spl [] l).length ((spl [] l).map sv) /\ w.grownBy w4 none := ⟨_, rfl, hrow5, hg4⟩
        go_wp2_with fail
        exact bodyPost_ret (v := .slice (some ⟨g4, 0, none⟩) (done.length + 1) cap4) (results_tmp Tryz.results56 _ _ _) rfl hpost
end Go.Proofs.YtobegepebochkaaGreatDoor

import Derived.Lib.AtoiErrMem
import Derived.Test.YtbbocbdoiealoaaGreatDoorRC
import Derived.Test.YtbbocbdoiealoaaGreatDoorRDa
set_option linter.unusedVariables false
set_option linter.unusedSimpArgs false
namespace Go.Proofs.YtbbocbdoiealoaaGreatDoor
open Go.RowKit Go.Shelf
def Er (w : World) : Prop := (∃ t p, w.cell? ⟨2, 0, none⟩ = some (.iface t p)) ∧ ∃ t p, w.cell? ⟨3, 0, none⟩ = some (.iface t p)
theorem Er.kept {w w' : World} (h : Er w) (hf : w.grownBy w' none) : Er w' := by
  obtain ⟨⟨a, b, h1⟩, c, d, h2⟩ := h
  exact ⟨⟨a, b, gb_cellN hf h1⟩, c, d, gb_cellN hf h2⟩
theorem gb_below {w w' : World} (h : Below w.heap.size w w') : w.grownBy w' none := ⟨h.os, h.tape, h.output, h.size, fun k hk _ => h.block k hk⟩
theorem puint_42 (l : Bs) (hl : l.length ≤ 1099511627776) (w : World) (h : Er w) :
    Calls Tryz.prog 161 #[sv l, .int .i64 10, .int .i64 64] w fun e w' => w.grownBy w' none ∧
      ((∃ u, Lib.parseUintB 64 l = .ok u ∧ e = .returned (.tuple #[.int .u64 u, .nilIface])) ∨
        ((∀ u, Lib.parseUintB 64 l ≠ .ok u) ∧ ∃ u t p, e = .returned (.tuple #[.int .u64 u, .iface t p]))) := by
  have hs : (ByteArray.mk l.toArray).size = l.length := ba_size l
  obtain ⟨⟨a, b, h1⟩, c, d, h2⟩ := h
  cases hp : Lib.parseUintB 64 l with
  | ok u =>
    refine (Any.strconv_ParseUint_10_at64_ok layPu ⟨l.toArray⟩ (by omega) u hp w).mono ?_
    rintro e w' ⟨rfl, hw⟩
    refine ⟨?_, .inl ⟨u, rfl, rfl⟩⟩
    rcases hw with rfl | rfl
    · exact gb_refl _ _
    · exact gb_below (Lib.bytesWorld_below _ _ _)
  | range =>
    refine (Any.strconv_ParseUint_10_at64_range layPu ⟨l.toArray⟩ (by omega) hp _ w h2 (.inr ⟨_, _, rfl⟩)).mono ?_
    rintro e w' ⟨n, rfl, _, _, hb⟩
    exact ⟨gb_below hb, .inr ⟨by simp, _, _, _, rfl⟩⟩
  | _ =>
    refine (Any.strconv_ParseUint_10_at64_syntax layPu ⟨l.toArray⟩ (by omega) hp _ w h1 (.inr ⟨_, _, rfl⟩)).mono ?_
    rintro e w' ⟨n, rfl, _, _, hb⟩
    exact ⟨gb_below hb, .inr ⟨by simp, _, _, _, rfl⟩⟩
theorem pint_58 (l : Bs) (hl : l.length ≤ 1099511627776) (w : World) (h : Er w) :
    Calls Tryz.prog 160 #[sv l, .int .i64 10, .int .i64 64] w fun e w' => w.grownBy w' none ∧
      ((∃ u, Lib.parseIntB 64 l = .ok u ∧ e = .returned (.tuple #[.int .i64 u, .nilIface])) ∨
        ((∀ u, Lib.parseIntB 64 l ≠ .ok u) ∧ ∃ u t p, e = .returned (.tuple #[.int .i64 u, .iface t p]))) := by
  have hs : (ByteArray.mk l.toArray).size = l.length := ba_size l
  obtain ⟨⟨a, b, h1⟩, c, d, h2⟩ := h
  cases hp : Lib.parseIntB 64 l with
  | ok u =>
    refine (Any.strconv_ParseInt_10_at64_ok layPi ⟨l.toArray⟩ (by omega) u hp w).mono ?_
    rintro e w' ⟨rfl, hw⟩
    refine ⟨?_, .inl ⟨u, rfl, rfl⟩⟩
    rcases hw with rfl | ⟨t, rfl⟩
    · exact gb_refl _ _
    · exact gb_below (Lib.bytesWorld_below _ _ _)
  | range =>
    refine (Any.strconv_ParseInt_10_at64_range layPi ⟨l.toArray⟩ (by omega) hp _ w h2 (.inr ⟨_, _, rfl⟩)).mono ?_
    rintro e w' ⟨n, rfl, _, _, hb⟩
    exact ⟨gb_below hb, .inr ⟨by simp, _, _, _, rfl⟩⟩
  | _ =>
    refine (Any.strconv_ParseInt_10_at64_syntax layPi ⟨l.toArray⟩ (by omega) hp _ w h1 (.inr ⟨_, _, rfl⟩)).mono ?_
    rintro e w' ⟨n, rfl, _, _, hb⟩
    exact ⟨gb_below hb, .inr ⟨by simp, _, _, _, rfl⟩⟩
set_option maxHeartbeats 1000000 in
theorem number_30 (l : Bs) (hl : l.length ≤ 1099511627776) (m : Int) (most : Nat) (hmm : m = (most : Int)) (hm : most ≤ 18446744073709551615) (w : World) (h : Er w) :
    Calls Tryz.prog 138 #[sv l, .int .u64 m] w fun e w' => e = .returned (.tuple #[.int .u64 ((nb most l).getD 0 : Nat), .bool (nb most l).isSome]) ∧ w.grownBy w' none := by
  have hc := puint_42 l hl w h
  have hm0 : 0 ≤ m ∧ m ≤ 18446744073709551615 := by omega
  go_enter Tryz.func138, Tryz.ntmps138
  have HM := Lib.hid hmm
  clear hmm hm
  go_wp2_with (go_at_call 161; refine hc.mono ?_; rintro e w' ⟨hg, (⟨u, hu, rfl⟩ | ⟨hu, u, t, p, rfl⟩)⟩)
  · rename_i h1
    have h2 := HM.out
    have e : nb most l = none := by unfold nb; rw [hu]; simp; omega
    rw [e]
    go_ret2
    exact ⟨rfl, hg⟩
  · rename_i h1
    have h2 := HM.out
    have e : nb most l = some u := by unfold nb; rw [hu]; simp; omega
    rw [e]
    go_ret2
    exact ⟨rfl, hg⟩
  · have e : nb most l = none := by
      unfold nb
      split
      · rename_i u hu'; exact absurd hu' (hu u)
      · rfl
    rw [e]
    go_ret2
    exact ⟨rfl, hg⟩
set_option maxHeartbeats 1000000 in
theorem time_46 (l : Bs) (hl : l.length ≤ 1099511627776) (w : World) (h : Er w) :
    Calls Tryz.prog 137 #[sv l] w fun e w' => e = .returned (.tuple #[.int .i64 ((tm l).getD 0), .bool (tm l).isSome]) ∧ w.grownBy w' none := by
  have hc := pint_58 l hl w h
  have hok : ∀ u, Lib.parseIntB 64 l = .ok u → 0 < l.length ∧ tm l = if l.getD 0 0 = 43 then none else some u := by
    intro u hu
    cases l with
    | nil => simp [Lib.parseIntB] at hu
    | cons b t => exact ⟨by simp, by simp [tm, hu]⟩
  have hno : (∀ u, Lib.parseIntB 64 l ≠ .ok u) → tm l = none := by
    intro hu
    unfold tm
    split
    · rename_i u hu'; exact absurd hu' (hu u)
    · rfl
  have hg0 : ∀ h : 0 < (ByteArray.mk l.toArray).size, (ByteArray.mk l.toArray)[0] = l.getD 0 0 := fun h => ba_get l 0 h
  obtain ⟨b, hb⟩ : ∃ b, l.getD 0 0 = b := ⟨_, rfl⟩
  rw [hb] at hok
  simp only [hb] at hg0
  clear hb
  go_enter Tryz.func137, Tryz.ntmps137
  go_wp2_with (go_at_call 160; refine hc.mono ?_; rintro e w' ⟨hg, (⟨u, hu, rfl⟩ | ⟨hu, u, t, p, rfl⟩)⟩; rotate_left)
  · rw [hno hu]
    go_ret2
    exact ⟨rfl, hg⟩
  · rename_i h1
    have h43 : b = 43 := by apply UInt8.toNat_inj.1; have := beq_iff_eq.1 h1; show b.toNat = 43; omega
    rw [(hok u hu).2, if_pos h43]
    go_ret2
    exact ⟨rfl, hg⟩
  · rename_i h1
    have h43 : b ≠ 43 := by rintro rfl; simp at h1
    rw [(hok u hu).2, if_neg h43]
    go_ret2
    exact ⟨rfl, hg⟩
theorem wanted_yes (l : Bs) (hl : l.length ≤ 1099511627776) (m : Int) (most : Nat) (hmm : m = (most : Int)) (hm : most ≤ 18446744073709551615) (s : ByteArray) (n : Nat) (hn : nb most l = some n) (w : World) (h : Er w) :
    Calls Tryz.prog 166 #[sv l, .int .u64 m, .string s] w fun e w' => e = .returned (.int .u64 n) ∧ w.grownBy w' none := by
  have hc := number_30 l hl m most hmm hm w h
  rw [hn] at hc
  clear hmm hn hm
  go_enter Tryz.func166, Tryz.ntmps166
  go_wp2_with (first | (go_at_call 138; refine hc.mono ?_; rintro e w' ⟨rfl, hg⟩) | (go_at_call 165; refine (ask_yes _ _).mono ?_; rintro e w2 ⟨rfl, rfl⟩))
  go_ret
  exact ⟨rfl, hg⟩
theorem wanted_no (l : Bs) (hl : l.length ≤ 1099511627776) (m : Int) (most : Nat) (hmm : m = (most : Int)) (hm : most ≤ 18446744073709551615) (s : ByteArray) (hn : nb most l = none) (w : World) (h : Er w) :
    Calls Tryz.prog 166 #[sv l, .int .u64 m, .string s] w fun e w' => e = up s ∧ w.grownBy w' none := by
  have hc := number_30 l hl m most hmm hm w h
  rw [hn] at hc
  clear hmm hn hm
  go_enter Tryz.func166, Tryz.ntmps166
  go_wp2_with (first | (go_at_call 138; refine hc.mono ?_; rintro e w' ⟨rfl, hg⟩) | (go_at_call 165; refine (ask_no _ _).mono ?_; rintro e w2 ⟨rfl, rfl⟩))
  exact ⟨rfl, rfl, hg⟩
abbrev fv (f : Fl) : Value := .agg #[.int .u8 f.letter.toNat, sv f.arg, .bool f.has]
theorem u8i {a : UInt8} (n : UInt8) : (a = n) = ((a.toNat : Int) = (n.toNat : Int)) := by
  apply propext
  constructor
  · rintro rfl; rfl
  · intro h; apply UInt8.toNat_inj.1; omega
set_option maxHeartbeats 2000000 in
theorem follows_49 (v : Int) (f : Fl) (hl : f.arg.length ≤ 1099511627776) (w : World) (h : Er w) :
    Calls Tryz.prog 90 #[.int .i64 v, fv f] w fun e w' => e = .returned (.bool (follows v f)) ∧ w.grownBy w' none := by
  obtain ⟨a, l, q⟩ := f
  have h1 := fun w' (hw : Er w') => time_46 l hl w' hw
  have h2 := fun w' (hw : Er w') => number_30 l hl 18446744073709551615 18446744073709551615 rfl (by omega) w' hw
  have h3 := fun w' (hw : Er w') => number_30 l hl 4294967295 4294967295 rfl (by omega) w' hw
  have h4 := fun w' => isPlain_44 l (by dsimp only at hl; omega) w'
  have h5 := fun w' => modes_59 v w'
  obtain ⟨x1, e1⟩ : ∃ x, (tm l).isSome = x := ⟨_, rfl⟩
  obtain ⟨x2, e2⟩ : ∃ x, (nb 18446744073709551615 l).isSome = x := ⟨_, rfl⟩
  obtain ⟨x3, e3⟩ : ∃ x, (nb 4294967295 l).isSome = x := ⟨_, rfl⟩
  obtain ⟨x4, e4⟩ : ∃ x, plain l = x := ⟨_, rfl⟩
  obtain ⟨y2, f2⟩ : ∃ x : Int, ((nb 18446744073709551615 l).getD 0 : Nat) = x := ⟨_, rfl⟩
  obtain ⟨y3, f3⟩ : ∃ x : Int, ((nb 4294967295 l).getD 0 : Nat) = x := ⟨_, rfl⟩
  simp only [e1, e2, e3, e4, f2, f3] at h1 h2 h3 h4
  have HF : Hid (follows v ⟨a, l, q⟩ = if (a.toNat : Int) = 79 then x4 else if (a.toNat : Int) = 84 ∨ (a.toNat : Int) = 78 then x1 else
      if (a.toNat : Int) = 82 ∨ (a.toNat : Int) = 67 ∨ (a.toNat : Int) = 68 ∨ (a.toNat : Int) = 74 then x2 else if (a.toNat : Int) = 70 then x3 else
      if (a.toNat : Int) = 77 then mode1 v l else false) := by
    show _ = _
    simp only [follows, u8i, UInt8.reduceToNat, e1, e2, e3, e4]
    rfl
  clear e1 e2 e3 e4 f2 f3
  have hE : ∀ o, Er (w.alloc o) := fun o => h.kept (gb_alloc (gb_refl _ _) _)
  have hG : ∀ o w', (w.alloc o).grownBy w' none → w.grownBy w' none := fun o w' h => gb_trans (gb_alloc (gb_refl _ _) _) h
  go_enter Tryz.func90, Tryz.ntmps90
  go_wp2_with (first | (go_at_call 136; with_reducible refine (h4 _).mono ?_; rintro e w' ⟨rfl, rfl⟩) | (go_at_call 137; with_reducible refine (h1 _ (hE _)).mono ?_; rintro e w' ⟨rfl, hg⟩) | (go_at_call 138; with_reducible refine (h2 _ (hE _)).mono ?_; rintro e w' ⟨rfl, hg⟩) | (go_at_call 138; with_reducible refine (h3 _ (hE _)).mono ?_; rintro e w' ⟨rfl, hg⟩) | (go_at_call 139; with_reducible refine (h5 _).mono ?_; rintro e w' ⟨rfl, rfl⟩))
  all_goals clear h1 h2 h3 h4 hE
  all_goals try (
    clear h5
    (try simp only [beq_iff_eq, beq_eq_false_iff_ne, ne_eq] at *)
    go_ret
    refine ⟨congrArg (fun b => Ending.returned (Value.bool b)) (Eq.trans ?_ HF.out.symm), by first | exact hG _ _ hg | exact gb_alloc (gb_refl _ _) _⟩
    simp [*]
    done)
  have hc : Hid (¬(a.toNat : Int) = 79 ∧ ¬(a.toNat : Int) = 84 ∧ ¬(a.toNat : Int) = 78 ∧ ¬(a.toNat : Int) = 82 ∧ ¬(a.toNat : Int) = 67 ∧ ¬(a.toNat : Int) = 68 ∧ ¬(a.toNat : Int) = 74 ∧ ¬(a.toNat : Int) = 70 ∧ (a.toNat : Int) = 77) := by
    show _ ∧ _
    simp only [beq_iff_eq, beq_eq_false_iff_ne, ne_eq] at *
    simp [*]
  have hM : Hid (follows v ⟨a, l, q⟩ = mode1 v l) := by
    show _ = _
    rw [HF.out]
    have := hc.out
    simp [this]
  have c1 : (w.alloc (Obj.cells #[Value.int .u8 a.toNat, sv l, Value.bool q] 43)).cell? ⟨w.heap.size, 1, none⟩ = some (sv l) := (Box.new w 43 _).cell 1
  clear HF hc
  by_cases h1 : l.length = 1
  · obtain ⟨b, rfl⟩ : ∃ b, l = [b] := List.length_eq_one_iff.1 h1
    have hg0 : ∀ h : 0 < (ByteArray.mk [b].toArray).size, (ByteArray.mk [b].toArray)[0] = b := fun _ => rfl
    have hhas := fun w' => has_48 (modes v) b w'
    go_quiet ((first | (go_at_call 139; with_reducible exact Calls.quiet_of_same (h5 _)) | (go_at_call 89; with_reducible exact Calls.quiet_of_same (hhas _))))
    go_wp2
    go_ret
    exact ⟨congrArg (fun b => Ending.returned (Value.bool b)) ((List.contains_eq_mem b (modes v)).symm.trans hM.out.symm), gb_drewN (gb_alloc (gb_refl _ _) _) _⟩
  · have d1 : ((l.length : Int) == 1) = false := by simp; omega
    go_quiet (fail)
    go_wp2
    go_ret
    refine ⟨congrArg (fun b => Ending.returned (Value.bool b)) (Eq.trans ?_ hM.out.symm), gb_drewN (gb_alloc (gb_refl _ _) _) _⟩
    match l, h1 with
    | [], _ => rfl
    | [x], h => exact absurd rfl h
    | x :: y :: t, _ => rfl
end Go.Proofs.YtbbocbdoiealoaaGreatDoor

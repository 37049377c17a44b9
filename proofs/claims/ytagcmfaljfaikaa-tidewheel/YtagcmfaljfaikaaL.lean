/-
  The wheel: NewWheel, Len, First, Take, Set.
-/
import Derived.Test.YtagcmfaljfaikaaK
namespace Go.Proofs.Ytagcmfaljfaikaa
open Go.RowKit
set_option linter.unusedVariables false

/-- A wheel at block wb that holds S, n entries; sets: how many were set. -/
def Wh (w : World) (wb : Nat) (F : Nat → Prop) (S : En → Prop) (sets n : Nat) : Prop :=
  ∃ rv mb r m, IsHp w 112 wb [.int .i64 sets] F rv mb n r n m ∧ Full n r S m ∧ Hp n r
theorem Wh.kept0 {w w' : World} {wb : Nat} {F : Nat → Prop} {S : En → Prop} {sets n : Nat} (h : Wh w wb F S sets n) (hf : w.grownBy w' none) : Wh w' wb F S sets n :=
  let ⟨rv, mb, r, m, h1, h2⟩ := h
  ⟨rv, mb, r, m, h1.kept0 hf, h2⟩
theorem Wh.kept {w w' : World} {wb : Nat} {F G : Nat → Prop} {S : En → Prop} {sets n : Nat} (h : Wh w wb F S sets n) (hf : Kp G w w') (hd : ∀ k, F k → ¬ G k) : Wh w' wb F S sets n :=
  let ⟨rv, mb, r, m, h1, h2⟩ := h
  ⟨rv, mb, r, m, h1.kept hf hd, h2⟩
theorem Wh.fl {w : World} {wb : Nat} {F : Nat → Prop} {S : En → Prop} {sets n : Nat} (h : Wh w wb F S sets n) : ∀ k, F k → k < w.heap.size :=
  let ⟨rv, mb, r, m, h1, h2⟩ := h
  h1.fl

/-- An empty heap, made here. -/
theorem hp_empty (w : World) (t : TypeId) (ht : t ≠ 123) (tl : List Value) (b mb : Nat) (hb : Box w t b (.slice none 0 0 :: .map (some mb) :: tl).toArray) (hm : Mp w mb 0 (fun _ => none)) (r : Nat → En) :
    IsHp w t b tl (fun k => k = b ∨ k = mb) (.slice none 0 0) mb 0 r 0 (fun _ => none) ∧ Full 0 r (fun _ => False) (fun _ => none) ∧ Hp 0 r := by
  refine ⟨⟨hb, ⟨rfl, .inl ⟨rfl, rfl⟩⟩, hm, .inl rfl, .inr rfl, fun k hk => by simp [Value.ownBlock] at hk, ht, ?_⟩, ⟨⟨fun i hi => by omega, fun x hx => hx.elim, fun i j hi => by omega⟩, fun i hi => by omega, fun h i hi => by simp at hi⟩, fun i _ hi => by omega⟩
  rintro k (rfl | rfl)
  · exact hb.lt
  · exact hm.lt

theorem empty_41 (w : World) : Calls Try.prog 41 #[] w fun y w' => ∃ mb, y = .returned (.agg #[.slice none 0 0, .map (some mb)]) ∧ w.grownBy w' none ∧ Mp w' mb 0 (fun _ => none) ∧ w.heap.size ≤ mb := by
  have hmm := @run_makeMap Try.prog
  have hM := Mp.made (w.alloc (.cells #[.slice none 0 0, .map (some (w.heap.size + 1))] 109))
  have hsz : (w.alloc (.cells #[.slice none 0 0, .map (some (w.heap.size + 1))] 109)).heap.size = w.heap.size + 1 := by simp
  rw [hsz] at hM
  go_enter Try.func41, Try.ntmps41
  go_wp2
  exact bodyPost_ret (v := .agg #[.slice none 0 0, .map (some (w.heap.size + 1))]) (by simp [results, Try.results41, go_sem]) rfl ⟨_, rfl, gb_alloc (gb_alloc (gb_refl _ _) _) _, hM, by omega⟩

section
variable {w : World} {wb : Nat} {F : Nat → Prop} {S : En → Prop} {sets n : Nat}
theorem len_23 (h : Wh w wb F S sets n) (hn : n < 1000000) : Calls Try.prog 23 #[.pointer (some ⟨wb, 0, none⟩)] w fun y w' => y = .returned (.int .i64 n) ∧ w' = w := by
  obtain ⟨rv, mb, r, m, h1, h2, h3⟩ := h
  obtain ⟨ao, cp, rfl, _⟩ := row_shape h1.row
  have c0 := h1.c0
  go_enter Try.func23, Try.ntmps23
  go_wp2
  go_ret
  exact ⟨rfl, rfl⟩
theorem first_no (h : Wh w wb F S sets 0) : Calls Try.prog 32 #[.pointer (some ⟨wb, 0, none⟩)] w fun y w' => y = .returned (.tuple #[.int .u64 0, .int .i64 0, .bool false]) ∧ w' = w := by
  obtain ⟨rv, mb, r, m, h1, h2, h3⟩ := h
  obtain ⟨ao, cp, rfl, _⟩ := row_shape h1.row
  have c0 := h1.c0
  go_enter Try.func32, Try.ntmps32
  go_wp2
  go_ret3
  exact ⟨rfl, rfl⟩
theorem first_yes (h : Wh w wb F S sets n) (hn : n < 1000000) (h0 : 0 < n) : ∃ e, S e ∧ (∀ y, S y → ¬ ah y e) ∧ Calls Try.prog 32 #[.pointer (some ⟨wb, 0, none⟩)] w fun y w' => y = .returned (.tuple #[.int .u64 e.h, .int .i64 e.x, .bool true]) ∧ w.grownBy w' none := by
  obtain ⟨rv, mb, r, m, h1, h2, h3⟩ := h
  refine ⟨r 0, h2.img.inn 0 h0, fun y hy => by obtain ⟨i, hi, rfl⟩ := h2.img.all y hy; exact h3.least i hi, ?_⟩
  obtain ⟨gb, cap, hrv, hcap, hmax⟩ := h1.shape h0
  subst hrv
  have c0 := h1.c0
  obtain ⟨d0, d1, d2⟩ := h1.cells rfl h0
  rw [Nat.zero_mul] at d0
  rw [Nat.zero_mul, Nat.zero_add] at d1
  have hn0 : ¬ n = 0 := by omega
  have hn1 : (0 : Int) < n := by omega
  go_enter Try.func32, Try.ntmps32
  go_wp2
  go_quiet (fail)
  go_wp2
  go_ret3
  exact ⟨rfl, gb_drewN (gb_refl _ _) _⟩
theorem take_no (h : Wh w wb F S sets n) {x : Int} (hx : isH x) (hS : ∀ y, S y → y.h ≠ x) : Calls Try.prog 33 #[.pointer (some ⟨wb, 0, none⟩), .int .u64 x] w fun y w' => y = .returned (.bool false) ∧ w' = w := by
  obtain ⟨rv, mb, r, m, h1, h2, h3⟩ := h
  have hm : m x = none := by
    cases hm : m x with
    | none => rfl
    | some i => obtain ⟨h4, h5⟩ := h2.no _ i hm; exact absurd h5 (hS _ (h2.img.inn i h4))
  have h58 := remove_no h1 hx hm
  go_enter Try.func33, Try.ntmps33
  go_wp2_with (first | (go_at_call 58; refine h58.mono ?_; rintro y w' ⟨rfl, rfl⟩) | fail)
  go_ret
  exact ⟨rfl, rfl⟩
theorem take_yes (h : Wh w wb F S sets (n + 1)) (hn : n < 900000) (hH : ∀ y, S y → isH y.h) {e : En} (hS : S e) : Calls Try.prog 33 #[.pointer (some ⟨wb, 0, none⟩), .int .u64 e.h] w fun y w' => y = .returned (.bool true) ∧ Kp F w w' ∧ Wh w' wb F (fun y => S y ∧ y.h ≠ e.h) sets n := by
  obtain ⟨rv, mb, r, m, h1, h2, h3⟩ := h
  obtain ⟨g, hg, hge⟩ := h2.img.all e hS
  have h58 := remove_yes h1 h2 h3 hn hH (hH e hS) hg (by rw [hge])
  go_enter Try.func33, Try.ntmps33
  go_wp2_with (first | (go_at_call 58; refine h58.mono ?_; rintro y w' ⟨rfl, hk, rv', r', m', hi, hfu, hhp⟩) | fail)
  go_ret
  exact ⟨rfl, hk, rv', mb, r', m', hi, hfu, hhp⟩

theorem new_21 (w : World) : Calls Try.prog 21 #[] w fun y w' => ∃ wb F, y = .returned (.pointer (some ⟨wb, 0, none⟩)) ∧ w.grownBy w' none ∧ (∀ k, F k → w.heap.size ≤ k) ∧ Wh w' wb F (fun _ => False) 0 0 := by
  have h41 := empty_41 w
  go_enter Try.func21, Try.ntmps21
  go_wp2_with (first | (go_at_call 41; refine h41.mono ?_; rintro y w1 ⟨mb, rfl, hg, hM, hmb⟩) | fail)
  go_ret
  have hb : Box (w1.alloc (.cells #[.slice none 0 0, .map (some mb), .int .i64 0] 112)) 112 w1.heap.size _ := Box.new _ _ _
  have hM2 := hM.kept (World.grownBy_alloc w1 (.cells #[.slice none 0 0, .map (some mb), .int .i64 0] 112) none) (by simp)
  obtain ⟨i1, i2, i3⟩ := hp_empty (w1.alloc (.cells #[.slice none 0 0, .map (some mb), .int .i64 0] 112)) 112 (by decide) [.int .i64 0] w1.heap.size mb hb hM2 (fun _ => ⟨0, 0, 0⟩)
  refine ⟨w1.heap.size, _, rfl, gb_alloc hg _, ?_, _, mb, _, _, i1, i2, i3⟩
  rintro k (rfl | rfl)
  · exact hg.size
  · exact hmb

theorem IsHp.setTl {t : TypeId} {b : Nat} {x v : Value} {rv : Value} {mb c : Nat} {r : Nat → En} {m : Int → Option Nat} (h : IsHp w t b [x] F rv mb n r c m) : IsHp (w.setCell ⟨b, 2, none⟩ v) t b [v] F rv mb n r c m ∧ Kp F w (w.setCell ⟨b, 2, none⟩ v) := by
  have hgs : w.grownBy (w.setCell ⟨b, 2, none⟩ v) (some b) := gb_setCell (gb_refl _ _) _
  have hb2 : Box (w.setCell ⟨b, 2, none⟩ v) t b (rv :: .map (some mb) :: [v]).toArray := by
    have := h.box.set 2 v
    simpa using this
  refine ⟨⟨hb2, row_kept h.row hgs (fun k hk => by simp; exact fun e' => h.bg hk e'.symm), h.map.kept hgs (by simp; exact fun e' => h.bm e'.symm), h.fb, h.fm, h.fr, h.tt, fun k hk => Nat.lt_of_lt_of_le (h.fl k hk) hgs.size⟩, ?_⟩
  exact (Kp.refl F w).step hgs (fun i hi => by injection hi with hi; subst hi; exact .inl h.fb)
theorem IsHp.c2 {t : TypeId} {b : Nat} {x : Value} {rv : Value} {mb c : Nat} {r : Nat → En} {m : Int → Option Nat} (h : IsHp w t b [x] F rv mb n r c m) : w.cell? ⟨b, 2, none⟩ = some x := h.box.cell 2

section
variable {x e : Int} {n0 : Nat} {S0 : En → Prop} {b0 : Bool}
theorem set_low (h1 : e < 1) (h58 : Calls Try.prog 58 #[.pointer (some ⟨wb, 0, none⟩), .int .u64 x] w fun y w' => y = .returned (.bool b0) ∧ Kp F w w' ∧ Wh w' wb F S0 sets n0) :
    Calls Try.prog 30 #[.pointer (some ⟨wb, 0, none⟩), .int .u64 x, .int .i64 e] w fun y w' => y = .returned (.tuple #[]) ∧ Kp F w w' ∧ Wh w' wb F S0 sets n0 := by
  go_enter Try.func30, Try.ntmps30
  go_wp2_with (first | (go_at_call 58; refine h58.mono ?_; rintro y w1 ⟨rfl, hk, hw⟩) | fail)
  exact bodyPost_ret (v := .tuple #[]) (results_none Try.results30 _ _ _) rfl ⟨rfl, hk, hw⟩
set_option maxRecDepth 100000 in
set_option maxHeartbeats 4000000 in
theorem set_high (h1 : ¬ e < 1) (hn : n0 < 900000) (hs : sets < 900000) (hx : isH x) (hH0 : ∀ y, S0 y → isH y.h) (hne : ∀ y, S0 y → y.h ≠ x)
    (h58 : Calls Try.prog 58 #[.pointer (some ⟨wb, 0, none⟩), .int .u64 x] w fun y w' => y = .returned (.bool b0) ∧ Kp F w w' ∧ Wh w' wb F S0 sets n0) :
    Calls Try.prog 30 #[.pointer (some ⟨wb, 0, none⟩), .int .u64 x, .int .i64 e] w fun y w' => y = .returned (.tuple #[]) ∧ Kp F w w' ∧
      ∃ F', (∀ k, F' k → F k ∨ w.heap.size ≤ k) ∧ Wh w' wb F' (fun y => S0 y ∨ y = ⟨x, e, (sets + 1 : Nat)⟩) (sets + 1) (n0 + 1) := by
  have hnw : IntKind.i64.wrap ((sets : Int) + 1) = (sets + 1 : Nat) := by rw [IntKind.wrap_i64]; omega
  go_enter Try.func30, Try.ntmps30
  go_wp2_with (first | (go_at_call 58; refine h58.mono ?_; rintro y w1 ⟨rfl, hk, rv, mb, r, m, i1, i2, i3⟩; have c2 := i1.c2; have f2 := i1.box.fz 2) | fail)
  obtain ⟨j1, hK1⟩ := i1.setTl (v := .int .i64 ((sets : Int) + 1))
  have hKw := hk.trans hK1 (fun _ h => h) (fun _ h => .inl h)
  have hsz : w.heap.size ≤ (w1.setCell ⟨wb, 2, none⟩ (.int .i64 ((sets : Int) + 1))).heap.size := hKw.size
  clear c2 f2 i1 hK1 h58
  generalize w1.setCell ⟨wb, 2, none⟩ (.int .i64 ((sets : Int) + 1)) = V at *
  have c2 := j1.c2
  have h59 := fun w' (hf : V.grownBy w' none) => add_59 (e := ⟨x, e, (sets : Int) + 1⟩) (j1.kept0 hf) i2 i3 hn hH0 hx hne
  unfold enV at h59
  go_region_held3 (fun w' => w'.cell? ⟨wb, 2, none⟩ = some (.int .i64 ((sets : Int) + 1))) ((first | exact hi3.c2 | go_keep)) ((first | (go_at_call 59; with_reducible refine (h59 _ (gb_drew (gb_refl _ _))).mono ?_; rintro y w3 ⟨rfl, hk3, F3, rv3, r3, m3, hF3, hi3, hfu3, hhp3⟩)))
  go_wp2
  go_end0
  have hsc : ((sets + 1 : Nat) : Int) = (sets : Int) + 1 := by omega
  rw [hsc]
  refine ⟨rfl, (hKw.step (gb_drew (gb_refl V none)) (by simp)).trans hk3 (fun _ h => h) (fun k hk => .inl hk), F3, fun k hk => (hF3 k hk).imp id (fun h => Nat.le_trans hsz h), rv3, mb, r3, m3, ?_, hfu3, hhp3⟩
  rw [hsc]
  exact hi3
end
end

end Go.Proofs.Ytagcmfaljfaikaa

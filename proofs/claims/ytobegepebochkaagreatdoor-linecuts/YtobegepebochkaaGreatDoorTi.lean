/-
  States.
-/
import Derived.Test.YtobegepebochkaaGreatDoorTh
namespace Go.Proofs.YtobegepebochkaaGreatDoor
open Go.RowKit Go.Maps
set_option linter.unusedVariables false
set_option linter.unusedSimpArgs false

theorem toNat_ne {b : UInt8} {n : Nat} (hn : n < 256) (h : b ≠ UInt8.ofNat n) : ¬ ((b.toNat : Int) = (n : Int)) := by
  intro e
  apply h
  have : b.toNat = n := by omega
  apply UInt8.toNat_inj.1
  rw [this]
  simp [UInt8.toNat_ofNat, Nat.mod_eq_of_lt hn]
set_option maxRecDepth 100000 in
set_option maxHeartbeats 4000000 in
theorem behind_no {w : World} {fb : Nat} {F : Fd} {kv : Value} (h : IsF w fb F kv) (hok : F.Ok) {v : Value} {l : Bs} (hv : Ck w (XF fb kv) v l) (hl : 0 < l.length) (hl2 : l.length ≤ 1099511627776) (ht : F.taken ≤ 2199023255552) (hst : F.st = 2) (b : UInt8) (t : Bs) (hbt : l = b :: t) (hb : b ≠ 13) :
    Calls Tryz.prog 172 #[.pointer (some ⟨fb, 0, none⟩), v] w fun e w' => StP F l w fb kv e w' := by
  obtain ⟨g, o, c, rfl, hc1, -, -, hc⟩ := hv.by hl
  obtain ⟨hd, lf, ck, cd, cm, hx, -, -⟩ := h
  have cb : w.cell? ⟨g, o, none⟩ = some (.int .u8 b.toNat) := hc 0 b (by rw [hbt]; rfl)
  have hne := toNat_ne (n := 13) (by omega) (b := b) (by simpa using hb)
  have h187 := spoil_187 hx.box
  have hend : ∀ w4, Box w4 136 fb (fdA fb F.spoil (.slice none 0 0) hd 0 (.slice none 0 0) (.slice none 0 0) (.slice none 0 0)) → w.grownBy w4 (some fb) → StP F l w fb kv (.returned (.tuple #[.int .i64 0, .bool false])) w4 := fun w4 b4 g4 =>
    spoil_st hok hl (by omega) (by rw [hbt]; exact run_spoil (.inl hst) b t (fun _ => hb) (fun e => by omega)) b4 g4
  obtain ⟨n, hn⟩ : ∃ n, l.length = n + 1 := ⟨t.length, by rw [hbt]; rfl⟩
  rw [hn]
  have d1 : (0 : Int) < ((n + 1 : Nat) : Int) := by omega
  clear hx hok hv hl hl2 hc hbt hb hn
  go_enter Tryz.func172, Tryz.ntmps172
  go_wp2_with (go_at_call 187; go_must ((with_reducible refine h187.mono ?_); rintro e w4 ⟨rfl, b4, g4⟩))
  go_ret2
  exact hend _ b4 g4
set_option maxRecDepth 100000 in
set_option maxHeartbeats 4000000 in
theorem last_no {w : World} {fb : Nat} {F : Fd} {kv : Value} (h : IsF w fb F kv) (hok : F.Ok) {v : Value} {l : Bs} (hv : Ck w (XF fb kv) v l) (hl : 0 < l.length) (hl2 : l.length ≤ 1099511627776) (ht : F.taken ≤ 2199023255552) (hst : F.st = 3) (b : UInt8) (t : Bs) (hbt : l = b :: t) (hb : b ≠ 10) :
    Calls Tryz.prog 188 #[.pointer (some ⟨fb, 0, none⟩), v] w fun e w' => StP F l w fb kv e w' := by
  obtain ⟨g, o, c, rfl, hc1, -, -, hc⟩ := hv.by hl
  obtain ⟨hd, lf, ck, cd, cm, hx, -, -⟩ := h
  have cb : w.cell? ⟨g, o, none⟩ = some (.int .u8 b.toNat) := hc 0 b (by rw [hbt]; rfl)
  have hne := toNat_ne (n := 10) (by omega) (b := b) (by simpa using hb)
  have h187 := spoil_187 hx.box
  have hend : ∀ w4, Box w4 136 fb (fdA fb F.spoil (.slice none 0 0) hd 0 (.slice none 0 0) (.slice none 0 0) (.slice none 0 0)) → w.grownBy w4 (some fb) → StP F l w fb kv (.returned (.tuple #[.int .i64 0, .bool false])) w4 := fun w4 b4 g4 =>
    spoil_st hok hl (by omega) (by rw [hbt]; exact run_spoil (.inr hst) b t (fun e => by omega) (fun _ => hb)) b4 g4
  obtain ⟨n, hn⟩ : ∃ n, l.length = n + 1 := ⟨t.length, by rw [hbt]; rfl⟩
  rw [hn]
  have d1 : (0 : Int) < ((n + 1 : Nat) : Int) := by omega
  clear hx hok hv hl hl2 hc hbt hb hn
  go_enter Tryz.func188, Tryz.ntmps188
  go_wp2_with (go_at_call 187; go_must ((with_reducible refine h187.mono ?_); rintro e w4 ⟨rfl, b4, g4⟩))
  go_ret2
  exact hend _ b4 g4
set_option maxRecDepth 100000 in
set_option maxHeartbeats 4000000 in
theorem behind_yes {w : World} {fb : Nat} {F : Fd} {kv : Value} (h : IsF w fb F kv) (hok : F.Ok) {v : Value} {l : Bs} (hv : Ck w (XF fb kv) v l) (hl : 0 < l.length) (hl2 : l.length ≤ 1099511627776) (ht : F.taken ≤ 2199023255552) (hst : F.st = 2) (t : Bs) (hbt : l = 13 :: t) :
    Calls Tryz.prog 172 #[.pointer (some ⟨fb, 0, none⟩), v] w fun e w' => StP F l w fb kv e w' := by
  have hmf : ∀ (fn : Fn) (first cap : Array Value) (w : World), (Instr.makeFunc fn first cap).run Tryz.prog w = .ok (.func fn first cap) w := fun _ _ _ _ => rfl
  obtain ⟨g, o, c, rfl, hc1, -, -, hc⟩ := hv.by hl
  obtain ⟨hd, lf, ck, cd, cm, hx, hh, -⟩ := h
  have ehd := hh (.inr (.inl hst))
  subst ehd
  have cb : w.cell? ⟨g, o, none⟩ = some (.int .u8 13) := hc 0 13 (by rw [hbt]; rfl)
  have hkl : F.kept.length ≤ 4398046511104 := by have := hok.taken; omega
  have ht1 : l.take 1 = [13] := by rw [hbt]; rfl
  have h135 := keep_135 hx.box hx.kept (hv.take 1 hl) (by rw [ht1]; simp) (by rw [ht1]; simp) hkl
  rw [ht1] at h135
  have hend : ∀ w4 g' cap w5, Box w4 136 fb (fdA fb (F.put [13]) (.slice (some ⟨g', 0, none⟩) (F.kept.length + 1) cap) F.head lf ck cd cm) → w4.ownsRow 0 5 1 (.slice (some ⟨g', 0, none⟩) (F.kept.length + 1) cap) (F.kept.length + 1) (F.kept.map b8 ++ [13].map b8) → Kp (XF fb kv) w w4 → (kv.ownBlock = some g' ∨ w.heap.size ≤ g') → w5 = w4.setCell ⟨fb, 23, none⟩ (stV fb 3) → StP F l w fb kv (.returned (.tuple #[.int .i64 1, .bool false])) w5 := by
    rintro w4 g' cap _ b4 r4 k4 a4 rfl
    have g5 : w4.grownBy (w4.setCell ⟨fb, 23, none⟩ (stV fb 3)) (some fb) := gb_setCell (gb_refl _ _) _
    have hx4 : IsFx w4 fb (F.put [13]) _ F.head lf ck cd cm := isfx_kp hx k4 b4 rfl (by
      show w4.ownsRow 0 5 1 _ (F.kept ++ [13]).length ((F.kept ++ [13]).map b8)
      rw [List.length_append, List.map_append]; exact r4) (fun k hk => by simp [Value.ownBlock] at hk; subst hk; exact a4)
    have hx5 := isfx_kp (G := { F.put [13] with st := 3 }) hx4 (gb_kp g5) (b4.set 23 _) rfl (row_kp hx4.kept (gb_kp g5 (kv := .slice none 0 0)) (fun k hk he => by
      rcases he with rfl | he
      · exact row_box hx4.kept hx4.box (by omega) k hk rfl
      · simp [Value.ownBlock] at he)) (fun k hk => .inl hk)
    refine ⟨1, false, { F.put [13] with st := 3 }, _, rfl, hl, ⟨_, _, _, _, _, hx5, fun _ => rfl, fun e => by simp at e⟩, ?_, fun k hk => by simp [Value.ownBlock] at hk; subst hk; exact a4, fun e => by omega, rfl, rfl, fun _ => ?_, ?_⟩
    · exact k4.trans (gb_kp (kv := .slice none 0 0) g5) (fun i hi => hi) (fun i hi => by
        rcases hi with rfl | hi
        · exact .inl (.inl rfl)
        · simp [Value.ownBlock] at hi)
    · have h3 := ok_run [13] hok
      rw [run_behind hst] at h3
      exact h3
    · refine run_cut_no ?_
      rw [ht1, run_behind hst]
      rfl
  obtain ⟨n, hn⟩ : ∃ n, l.length = n + 1 := ⟨t.length, by rw [hbt]; rfl⟩
  rw [hn]
  have d1 : (0 : Int) < ((n + 1 : Nat) : Int) := by omega
  have d2 : (1 : Int) ≤ (c : Int) := by omega
  clear hx hh hok hv hl hl2 hc hbt ht1 hkl hn
  go_enter Tryz.func172, Tryz.ntmps172
  go_wp2_with (go_at_call 135; go_must ((with_reducible refine h135.mono ?_); rintro e w4 ⟨rfl, g', cap, b4, r4, k4, a4⟩; (obtain ⟨u23, c23⟩ : ∃ u, w4.cell? ⟨fb, 23, none⟩ = some u := ⟨_, b4.cell 23⟩); (have z23 := b4.fz 23)))
  go_ret2
  exact hend _ _ _ _ b4 r4 k4 a4 rfl
end Go.Proofs.YtobegepebochkaaGreatDoor

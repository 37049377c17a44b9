import Derived.Test.YtobegepebochkaaGreatDoorZj
import Derived.Test.YtobegepebochkaaGreatDoorZk
import Derived.Lib.ConvBytes
/-
  Must, might, Join.
-/
namespace Go.Proofs.YtobegepebochkaaGreatDoor
open Go.RowKit Go.Shelf
set_option linter.unusedVariables false
set_option linter.unusedSimpArgs false

set_option maxRecDepth 100000 in
set_option maxHeartbeats 4000000 in
theorem must_K (c : Cmd) (kv dv mv : Value) (lg : Bool) (w : World) (h1 : ∃ a n c', kv = .slice a n c') (h2 : ∃ a n c', dv = .slice a n c') (h3 : ∃ a n c', mv = .slice a n c') :
    Calls Tryz.prog 125 #[.agg (cmB c kv dv mv lg), .int .u8 75] w fun e w' => e = .returned kv ∧ w.grownBy w' none := by
  obtain ⟨a1, n1, c1, rfl⟩ := h1
  obtain ⟨a2, n2, c2, rfl⟩ := h2
  obtain ⟨a3, n3, c3, rfl⟩ := h3
  go_enter Tryz.func125, Tryz.ntmps125
  go_wp2
  go_ret
  exact ⟨rfl, gb_alloc (gb_refl _ _) _⟩
set_option maxRecDepth 100000 in
set_option maxHeartbeats 4000000 in
theorem might_K (c : Cmd) (kv dv mv : Value) (lg : Bool) (w : World) (h1 : ∃ a n c', kv = .slice a n c') (h2 : ∃ a n c', dv = .slice a n c') (h3 : ∃ a n c', mv = .slice a n c') :
    Calls Tryz.prog 126 #[.agg (cmB c kv dv mv lg), .int .u8 75] w fun e w' => e = .returned (.slice none 0 0) ∧ w.grownBy w' none := by
  obtain ⟨a1, n1, c1, rfl⟩ := h1
  obtain ⟨a2, n2, c2, rfl⟩ := h2
  obtain ⟨a3, n3, c3, rfl⟩ := h3
  go_enter Tryz.func126, Tryz.ntmps126
  go_wp2
  go_ret
  exact ⟨rfl, gb_alloc (gb_refl _ _) _⟩
theorem join_24 (g o c : Nat) (ws : List Bs) (w : World) (hg : g < w.heap.size) (hn : ws.length ≤ 1000000000) (hc : ws.length ≤ c) (hcell : ∀ i x, ws[i]? = some x → w.cell? ⟨g, o + i, none⟩ = some (sv x)) (hl : (Lib.join ws [32]).length ≤ 140737488355328) :
    Calls Tryz.prog 127 #[.slice (some ⟨g, o, none⟩) ws.length c, .string ⟨#[32]⟩] w fun e w' => e = .returned (sv (Lib.join ws [32])) ∧ w.grownBy w' none := by
  have hm : (ws.map (fun x => (ByteArray.mk x.toArray))).map (·.data.toList) = ws := by simp [Function.comp_def]
  have := Any.strings_Join layJ layJX g o c (ws.map fun x => ByteArray.mk x.toArray) ⟨#[32]⟩ w (fun j x hx => by
    rw [List.getElem?_map] at hx
    cases hw : ws[j]? with
    | none => simp [hw] at hx
    | some y => simp [hw] at hx; subst hx; exact hcell j y hw) hg (by simp; omega) (by simpa using hc) (by rw [hm]; exact hl)
  rw [hm, List.length_map] at this
  exact this.mono fun e w' ⟨h1, h2⟩ => ⟨h1, gb_below h2⟩
end Go.Proofs.YtobegepebochkaaGreatDoor
/-
  Spelling a command.
-/
namespace Go.Proofs.YtobegepebochkaaGreatDoor
open Go.RowKit Go.Shelf
set_option linter.unusedVariables false
set_option linter.unusedSimpArgs false

theorem own_new {w : World} {b : Nat} {v : Value} (h : Box w 9 b #[v]) : w.ownsRow b 9 1 (.slice (some ⟨b, 0, none⟩) 1 1) 1 [v] := by
  refine ⟨rfl, .inr ⟨b, 1, #[v], rfl, Nat.le_refl _, h, Nat.le_refl _, by unfold maxLen; omega, rfl, rfl⟩⟩
set_option maxRecDepth 100000 in
set_option maxHeartbeats 4000000 in
theorem spell_12 {w : World} {gb : Nat} (hG : GM w gb rowL) (c : Cmd) (nm : Bs) (hof : ofS c.verb = some (nm, ⟨c.verb, [75], [75], true, false⟩)) (hnr : c.nr = false) (kg ko kc : Nat) (da ma : Option Addr) (dn dc mn mc : Nat) (lg : Bool) (hks : c.keys ≠ []) (hkl : c.keys.length ≤ 1000000) (hkg : kg < w.heap.size) (hkc : ∀ i x, c.keys[i]? = some x → w.cell? ⟨kg, ko + i, none⟩ = some (sv x)) (hl : (Lib.join (nm :: c.keys) [32]).length ≤ 140737488355328) :
    Calls Tryz.prog 80 #[.map (some gb), .agg (cmB c (.slice (some ⟨kg, ko, none⟩) c.keys.length kc) (.slice da dn dc) (.slice ma mn mc) lg)] w fun e w' => e = .returned (.tuple #[sv (Lib.join (nm :: c.keys) [32]), .bool true]) ∧ w.grownBy w' none := by
  have h21 := fun W (hG : GM W gb rowL) => of_21 hG c.verb
  simp only [hof, Option.map_some, Option.getD_some, Option.isSome_some] at h21
  have h22 := fun W => must_K c (.slice (some ⟨kg, ko, none⟩) c.keys.length kc) (.slice da dn dc) (.slice ma mn mc) lg W ⟨_, _, _, rfl⟩ ⟨_, _, _, rfl⟩ ⟨_, _, _, rfl⟩
  have h23 := fun W => might_K c (.slice (some ⟨kg, ko, none⟩) c.keys.length kc) (.slice da dn dc) (.slice ma mn mc) lg W ⟨_, _, _, rfl⟩ ⟨_, _, _, rfl⟩ ⟨_, _, _, rfl⟩
  have hgA := gb_alloc (gb_refl w none) (.cells (cmB c (.slice (some ⟨kg, ko, none⟩) c.keys.length kc) (.slice da dn dc) (.slice ma mn mc) lg) 41)
  have hGA := hG.kept hgA (by simp)
  have HNR := Lib.hid hnr
  clear hnr
  go_enter Tryz.func80, Tryz.ntmps80
  go_wp2_with (go_at_call 124; go_must ((with_reducible refine (h21 _ hGA).mono ?_); rintro e w2 ⟨rfl, hg2⟩))
  obtain ⟨W4, hW4⟩ : ∃ W4, (w2.alloc (.cells #[.int .i64 c.verb, .string ⟨#[75]⟩, .string ⟨#[75]⟩, .bool true, .bool false] 148)).alloc (.cells #[sv nm] 9) = W4 := ⟨_, rfl⟩
  have hg4 : w2.grownBy W4 none := by rw [← hW4]; exact gb_alloc (gb_alloc (gb_refl _ none) _) _
  have hgw4 : w.grownBy W4 none := gb_trans (gb_trans hgA hg2) hg4
  have hcb : Box W4 41 w.heap.size (cmB c (.slice (some ⟨kg, ko, none⟩) c.keys.length kc) (.slice da dn dc) (.slice ma mn mc) lg) := ((Box.new w 41 _).kept hg2 (by simp)).kept hg4 (by simp)
  have hrb : Box W4 148 w2.heap.size #[.int .i64 c.verb, .string ⟨#[75]⟩, .string ⟨#[75]⟩, .bool true, .bool false] := by rw [← hW4]; exact (Box.new w2 148 _).kept (gb_alloc (gb_refl _ none) _) (by simp)
  have hs4 : W4.heap.size = w2.heap.size + 1 + 1 := by rw [← hW4]; simp
  have hrow : W4.ownsRow (w2.heap.size + 1) 9 1 (.slice (some ⟨w2.heap.size + 1, 0, none⟩) 1 1) 1 [sv nm] := by
    have hb := Box.new (w2.alloc (.cells #[.int .i64 c.verb, .string ⟨#[75]⟩, .string ⟨#[75]⟩, .bool true, .bool false] 148)) 9 #[sv nm]
    simp only [World.size_alloc] at hb
    rw [hW4] at hb
    exact own_new hb
  have hlt2 : w.heap.size < w2.heap.size := by have := hg2.size; simp at this; omega
  rw [hW4]
  clear hW4
  go_loopw [9, 27] (fun x y wr => w.grownBy wr none ∧ Box wr 41 w.heap.size (cmB c (.slice (some ⟨kg, ko, none⟩) c.keys.length kc) (.slice da dn dc) (.slice ma mn mc) lg) ∧ Box wr 148 w2.heap.size #[.int .i64 c.verb, .string ⟨#[75]⟩, .string ⟨#[75]⟩, .bool true, .bool false] ∧ w2.heap.size + 1 + 1 ≤ wr.heap.size ∧
      ((y = .int .i64 0 ∧ x = .slice (some ⟨w2.heap.size + 1, 0, none⟩) 1 1 ∧ wr.ownsRow (w2.heap.size + 1) 9 1 x 1 [sv nm]) ∨ (y = .int .i64 1 ∧ ∃ g cap, x = .slice (some ⟨g, 0, none⟩) (1 + c.keys.length) cap ∧ wr.ownsRow (w2.heap.size + 1) 9 1 x (1 + c.keys.length) (sv nm :: c.keys.map sv)))) (fun _ y _ => 1 - (intOf y).toNat)
  case atStart => exact ⟨hgw4, hcb, hrb, by omega, .inl ⟨rfl, rfl, hrow⟩⟩
  case round =>
    obtain ⟨hgr, hcr, hrr, hsr, h01⟩ := hrel
    rcases h01 with ⟨rfl, rfl, hw0⟩ | ⟨rfl, g, cap, rfl, hw1⟩
    · go_wp2
      have hix : ∀ h : 0 < (ByteArray.mk #[75]).size, (ByteArray.mk #[75])[0] = 75 := fun _ => rfl
      have gd := gb_drew (gb_refl wr none)
      refine wp_region_noPanic ?_
      refine wp_region_held_drew (S := fun W : World => Box W 41 w.heap.size (cmB c (.slice (some ⟨kg, ko, none⟩) c.keys.length kc) (.slice da dn dc) (.slice ma mn mc) lg) ∧ Box W 148 w2.heap.size #[.int .i64 c.verb, .string ⟨#[75]⟩, .string ⟨#[75]⟩, .bool true, .bool false]) (by kernel_rfl) ⟨hcr.kept gd (by simp), hrr.kept gd (by simp)⟩ (fun hS0 => ?_)
      refine wpAnyH_take (i := 0) (oi := { dst := some 30, op := Op.move (Operand.tmp 9), type := 36, pos := _, after := #[], guard := none }) (v := ?_) rfl (by kernel_rfl) (by kernel_rfl) (by kernel_rfl) (fun _ _ _ h => h) (Or.inl ⟨by rfl, ?_⟩) (by first | trivial | assumption) ?_
      rotate_left 1
      · (intro W hSw; obtain ⟨sB, sP⟩ := hSw; have e0 : W.cell? ⟨w.heap.size, 0, none⟩ = some (.int .i64 c.verb) := sB.cell 0; have e1 : W.cell? ⟨w.heap.size, 1, none⟩ = some (.slice (some ⟨kg, ko, none⟩) c.keys.length kc) := sB.cell 1; have e2 : W.cell? ⟨w.heap.size, 2, none⟩ = some (.int .u64 c.flags) := sB.cell 2; have e3 : W.cell? ⟨w.heap.size, 3, none⟩ = some (.int .i64 c.exp) := sB.cell 3; have e4 : W.cell? ⟨w.heap.size, 4, none⟩ = some (.int .u64 c.tok) := sB.cell 4; have e5 : W.cell? ⟨w.heap.size, 5, none⟩ = some (.int .u64 c.del) := sB.cell 5; have e6 : W.cell? ⟨w.heap.size, 6, none⟩ = some (.slice da dn dc) := sB.cell 6; have e7 : W.cell? ⟨w.heap.size, 7, none⟩ = some (.bool c.nr) := sB.cell 7; have e8 : W.cell? ⟨w.heap.size, 8, none⟩ = some (.bool lg) := sB.cell 8; have e9 : W.cell? ⟨w.heap.size, 9, none⟩ = some (.slice ma mn mc) := sB.cell 9; have e10 : W.cell? ⟨w.heap.size, 10, none⟩ = some (sv c.what) := sB.cell 10; have e11 : W.cell? ⟨w2.heap.size, 1, none⟩ = some (.string ⟨#[75]⟩) := sP.cell 1; go_simp; (try (with_reducible rfl)))
      try simp only [Act.put, List.setIfInBounds_toArray, List.set_cons_zero, List.set_cons_succ]
      refine wpAnyH_take (i := 1) (oi := { dst := some 31, op := Op.load 41 (Operand.tmp 3), type := 41, pos := _, after := #[], guard := none }) (v := ?_) rfl (by kernel_rfl) (by kernel_rfl) (by kernel_rfl) (fun _ _ _ h => h) (Or.inl ⟨by rfl, ?_⟩) (by first | trivial | assumption) ?_
      rotate_left 1
      · (intro W hSw; obtain ⟨sB, sP⟩ := hSw; have e0 : W.cell? ⟨w.heap.size, 0, none⟩ = some (.int .i64 c.verb) := sB.cell 0; have e1 : W.cell? ⟨w.heap.size, 1, none⟩ = some (.slice (some ⟨kg, ko, none⟩) c.keys.length kc) := sB.cell 1; have e2 : W.cell? ⟨w.heap.size, 2, none⟩ = some (.int .u64 c.flags) := sB.cell 2; have e3 : W.cell? ⟨w.heap.size, 3, none⟩ = some (.int .i64 c.exp) := sB.cell 3; have e4 : W.cell? ⟨w.heap.size, 4, none⟩ = some (.int .u64 c.tok) := sB.cell 4; have e5 : W.cell? ⟨w.heap.size, 5, none⟩ = some (.int .u64 c.del) := sB.cell 5; have e6 : W.cell? ⟨w.heap.size, 6, none⟩ = some (.slice da dn dc) := sB.cell 6; have e7 : W.cell? ⟨w.heap.size, 7, none⟩ = some (.bool c.nr) := sB.cell 7; have e8 : W.cell? ⟨w.heap.size, 8, none⟩ = some (.bool lg) := sB.cell 8; have e9 : W.cell? ⟨w.heap.size, 9, none⟩ = some (.slice ma mn mc) := sB.cell 9; have e10 : W.cell? ⟨w.heap.size, 10, none⟩ = some (sv c.what) := sB.cell 10; have e11 : W.cell? ⟨w2.heap.size, 1, none⟩ = some (.string ⟨#[75]⟩) := sP.cell 1; go_simp; (try (with_reducible rfl)))
      try simp only [Act.put, List.setIfInBounds_toArray, List.set_cons_zero, List.set_cons_succ]
      refine wpAnyH_take (i := 2) (oi := { dst := some 32, op := Op.fieldAddr 148 (Operand.tmp 7) 1, type := 0, pos := _, after := #[], guard := none }) (v := ?_) rfl (by kernel_rfl) (by kernel_rfl) (by kernel_rfl) (fun _ _ _ h => h) (Or.inl ⟨by rfl, ?_⟩) (by first | trivial | assumption) ?_
      rotate_left 1
      · (intro W hSw; obtain ⟨sB, sP⟩ := hSw; have e0 : W.cell? ⟨w.heap.size, 0, none⟩ = some (.int .i64 c.verb) := sB.cell 0; have e1 : W.cell? ⟨w.heap.size, 1, none⟩ = some (.slice (some ⟨kg, ko, none⟩) c.keys.length kc) := sB.cell 1; have e2 : W.cell? ⟨w.heap.size, 2, none⟩ = some (.int .u64 c.flags) := sB.cell 2; have e3 : W.cell? ⟨w.heap.size, 3, none⟩ = some (.int .i64 c.exp) := sB.cell 3; have e4 : W.cell? ⟨w.heap.size, 4, none⟩ = some (.int .u64 c.tok) := sB.cell 4; have e5 : W.cell? ⟨w.heap.size, 5, none⟩ = some (.int .u64 c.del) := sB.cell 5; have e6 : W.cell? ⟨w.heap.size, 6, none⟩ = some (.slice da dn dc) := sB.cell 6; have e7 : W.cell? ⟨w.heap.size, 7, none⟩ = some (.bool c.nr) := sB.cell 7; have e8 : W.cell? ⟨w.heap.size, 8, none⟩ = some (.bool lg) := sB.cell 8; have e9 : W.cell? ⟨w.heap.size, 9, none⟩ = some (.slice ma mn mc) := sB.cell 9; have e10 : W.cell? ⟨w.heap.size, 10, none⟩ = some (sv c.what) := sB.cell 10; have e11 : W.cell? ⟨w2.heap.size, 1, none⟩ = some (.string ⟨#[75]⟩) := sP.cell 1; go_simp; (try (with_reducible rfl)))
      try simp only [Act.put, List.setIfInBounds_toArray, List.set_cons_zero, List.set_cons_succ]
      refine wpAnyH_take (i := 3) (oi := { dst := some 33, op := Op.load 9 (Operand.tmp 32), type := 9, pos := _, after := #[{ on := 2, ground := Ground.data }], guard := none }) (v := ?_) rfl (by kernel_rfl) (by kernel_rfl) (by kernel_rfl) (fun _ _ _ h => h) (Or.inl ⟨by rfl, ?_⟩) (by first | trivial | assumption) ?_
      rotate_left 1
      · (intro W hSw; obtain ⟨sB, sP⟩ := hSw; have e0 : W.cell? ⟨w.heap.size, 0, none⟩ = some (.int .i64 c.verb) := sB.cell 0; have e1 : W.cell? ⟨w.heap.size, 1, none⟩ = some (.slice (some ⟨kg, ko, none⟩) c.keys.length kc) := sB.cell 1; have e2 : W.cell? ⟨w.heap.size, 2, none⟩ = some (.int .u64 c.flags) := sB.cell 2; have e3 : W.cell? ⟨w.heap.size, 3, none⟩ = some (.int .i64 c.exp) := sB.cell 3; have e4 : W.cell? ⟨w.heap.size, 4, none⟩ = some (.int .u64 c.tok) := sB.cell 4; have e5 : W.cell? ⟨w.heap.size, 5, none⟩ = some (.int .u64 c.del) := sB.cell 5; have e6 : W.cell? ⟨w.heap.size, 6, none⟩ = some (.slice da dn dc) := sB.cell 6; have e7 : W.cell? ⟨w.heap.size, 7, none⟩ = some (.bool c.nr) := sB.cell 7; have e8 : W.cell? ⟨w.heap.size, 8, none⟩ = some (.bool lg) := sB.cell 8; have e9 : W.cell? ⟨w.heap.size, 9, none⟩ = some (.slice ma mn mc) := sB.cell 9; have e10 : W.cell? ⟨w.heap.size, 10, none⟩ = some (sv c.what) := sB.cell 10; have e11 : W.cell? ⟨w2.heap.size, 1, none⟩ = some (.string ⟨#[75]⟩) := sP.cell 1; go_simp; (try (with_reducible rfl)))
      try simp only [Act.put, List.setIfInBounds_toArray, List.set_cons_zero, List.set_cons_succ]
      refine wpAnyH_take (i := 4) (oi := { dst := some 34, op := Op.move (Operand.tmp 10), type := 3, pos := _, after := #[], guard := none }) (v := ?_) rfl (by kernel_rfl) (by kernel_rfl) (by kernel_rfl) (fun _ _ _ h => h) (Or.inl ⟨by rfl, ?_⟩) (by first | trivial | assumption) ?_
      rotate_left 1
      · (intro W hSw; obtain ⟨sB, sP⟩ := hSw; have e0 : W.cell? ⟨w.heap.size, 0, none⟩ = some (.int .i64 c.verb) := sB.cell 0; have e1 : W.cell? ⟨w.heap.size, 1, none⟩ = some (.slice (some ⟨kg, ko, none⟩) c.keys.length kc) := sB.cell 1; have e2 : W.cell? ⟨w.heap.size, 2, none⟩ = some (.int .u64 c.flags) := sB.cell 2; have e3 : W.cell? ⟨w.heap.size, 3, none⟩ = some (.int .i64 c.exp) := sB.cell 3; have e4 : W.cell? ⟨w.heap.size, 4, none⟩ = some (.int .u64 c.tok) := sB.cell 4; have e5 : W.cell? ⟨w.heap.size, 5, none⟩ = some (.int .u64 c.del) := sB.cell 5; have e6 : W.cell? ⟨w.heap.size, 6, none⟩ = some (.slice da dn dc) := sB.cell 6; have e7 : W.cell? ⟨w.heap.size, 7, none⟩ = some (.bool c.nr) := sB.cell 7; have e8 : W.cell? ⟨w.heap.size, 8, none⟩ = some (.bool lg) := sB.cell 8; have e9 : W.cell? ⟨w.heap.size, 9, none⟩ = some (.slice ma mn mc) := sB.cell 9; have e10 : W.cell? ⟨w.heap.size, 10, none⟩ = some (sv c.what) := sB.cell 10; have e11 : W.cell? ⟨w2.heap.size, 1, none⟩ = some (.string ⟨#[75]⟩) := sP.cell 1; go_simp; (try (with_reducible rfl)))
      try simp only [Act.put, List.setIfInBounds_toArray, List.set_cons_zero, List.set_cons_succ]
      refine wpAnyH_take (i := 5) (oi := { dst := some 35, op := Op.index 9 (Operand.tmp 33) (Operand.tmp 34), type := 5, pos := _, after := #[{ on := 3, ground := Ground.data }, { on := 4, ground := Ground.data }], guard := none }) (v := ?_) rfl (by kernel_rfl) (by kernel_rfl) (by kernel_rfl) (fun _ _ _ h => h) (Or.inl ⟨by rfl, ?_⟩) (by first | trivial | assumption) ?_
      rotate_left 1
      · (intro W hSw; obtain ⟨sB, sP⟩ := hSw; have e0 : W.cell? ⟨w.heap.size, 0, none⟩ = some (.int .i64 c.verb) := sB.cell 0; have e1 : W.cell? ⟨w.heap.size, 1, none⟩ = some (.slice (some ⟨kg, ko, none⟩) c.keys.length kc) := sB.cell 1; have e2 : W.cell? ⟨w.heap.size, 2, none⟩ = some (.int .u64 c.flags) := sB.cell 2; have e3 : W.cell? ⟨w.heap.size, 3, none⟩ = some (.int .i64 c.exp) := sB.cell 3; have e4 : W.cell? ⟨w.heap.size, 4, none⟩ = some (.int .u64 c.tok) := sB.cell 4; have e5 : W.cell? ⟨w.heap.size, 5, none⟩ = some (.int .u64 c.del) := sB.cell 5; have e6 : W.cell? ⟨w.heap.size, 6, none⟩ = some (.slice da dn dc) := sB.cell 6; have e7 : W.cell? ⟨w.heap.size, 7, none⟩ = some (.bool c.nr) := sB.cell 7; have e8 : W.cell? ⟨w.heap.size, 8, none⟩ = some (.bool lg) := sB.cell 8; have e9 : W.cell? ⟨w.heap.size, 9, none⟩ = some (.slice ma mn mc) := sB.cell 9; have e10 : W.cell? ⟨w.heap.size, 10, none⟩ = some (sv c.what) := sB.cell 10; have e11 : W.cell? ⟨w2.heap.size, 1, none⟩ = some (.string ⟨#[75]⟩) := sP.cell 1; go_simp; (try (with_reducible rfl)))
      try simp only [Act.put, List.setIfInBounds_toArray, List.set_cons_zero, List.set_cons_succ]
      refine wpAnyH_ready (rs := [6]) (by kernel_rfl) (by simp) ?_
      refine (AllReadyH.cons rfl (fun K hK => ?_) AllReadyH.nil)
      go_simp
      go_at_call 125
      with_reducible refine (h22 _).mono ?_
      rintro e w5 ⟨rfl, hg5⟩
      try simp only []
      have gd5 := gb_trans gd hg5
      refine hK.out _ _ ⟨hcr.kept gd5 (by simp), hrr.kept gd5 (by simp)⟩ (fun hS1 => ?_)
      clear hK K
      try simp only [Act.put, List.setIfInBounds_toArray, List.set_cons_zero, List.set_cons_succ]
      have hw5 := row_kept hw0 gd5 (by simp)
      have hgw5 := gb_trans hgr gd5
      obtain ⟨i0, hi, hz0, hz1, hz2⟩ := info_parts Tryz.info9
      have hnl : c.keys.length ≠ 0 := fun e => hks (List.length_eq_zero_iff.1 e)
      have hs5 := gd5.size
      refine wpAnyH_ready (rs := [7]) (by kernel_rfl) (by simp) ?_
      refine AllReadyH.cons rfl (fun K hK => ?_) AllReadyH.nil
      refine step_append_lies _ rfl _ _ 36 rfl (w2.heap.size + 1) 9 i0 _ 1 16 Tryz.underlying36 hi hz0 hz1 hz2 rfl (by omega) _ 1 _ (by rfl) hw5 ⟨kg, ko, none⟩ c.keys.length kc (c.keys.map sv) (by rfl) (by simp) ?_ (by intro u hu; simp at hu; obtain ⟨x, _, rfl⟩ := hu; rfl) (by omega) (by unfold maxLen; omega) (by omega) (by omega) _ rfl ?_
      · intro j u hu
        rw [List.getElem?_map] at hu
        cases hj : c.keys[j]? with
        | none => simp [hj] at hu
        | some y => simp [hj] at hu; subst hu; rw [Addr.add_mid]; exact gb_cellN hgw5 (hkc j y hj)
      intro g cap W6 h1 hg6 _ _
      have hne1 : some w.heap.size ≠ (Value.slice (some ⟨w2.heap.size + 1, 0, none⟩) 1 1).ownBlock := fun e => by simp [Value.ownBlock] at e; omega
      have hne2 : some w2.heap.size ≠ (Value.slice (some ⟨w2.heap.size + 1, 0, none⟩) 1 1).ownBlock := fun e => by simp [Value.ownBlock] at e
      have hc6 := (hcr.kept gd5 (by simp)).kept hg6 hne1
      have hr6 := (hrr.kept gd5 (by simp)).kept hg6 hne2
      refine hK.out _ _ ⟨hc6, hr6⟩ (fun hS2 => ?_)
      clear hK K
      try simp only [Act.put, List.setIfInBounds_toArray, List.set_cons_zero, List.set_cons_succ]
      refine wpAnyH_take (i := 8) (oi := { dst := some 9, op := Op.assign (Operand.tmp 37), type := 36, pos := _, after := #[{ on := 7, ground := Ground.data }, { on := 7, ground := Ground.chain }, { on := 0, ground := Ground.phase }, { on := 1, ground := Ground.phase }, { on := 2, ground := Ground.phase }, { on := 3, ground := Ground.phase }, { on := 4, ground := Ground.phase }, { on := 5, ground := Ground.phase }, { on := 6, ground := Ground.phase }, { on := 7, ground := Ground.phase }], guard := none }) (v := ?_) rfl (by kernel_rfl) (by kernel_rfl) (by kernel_rfl) (fun _ _ _ h => h) (Or.inl ⟨by rfl, ?_⟩) (by first | trivial | assumption) ?_
      rotate_left 1
      · (intro W hSw; obtain ⟨sB, sP⟩ := hSw; go_simp; (try (with_reducible rfl)))
      try simp only [Act.put, List.setIfInBounds_toArray, List.set_cons_zero, List.set_cons_succ]
      refine wpAnyH_done (by kernel_rfl) ?_ _
      refine NoPanic.normal ?_
      have hgw6 : w.grownBy W6 none := gb_mine hgw5 (show w5.grownBy W6 (some (w2.heap.size + 1)) from hg6) (by omega)
      have hs6 := hg6.size
      go_wp2
      refine ⟨⟨hgw6, hc6, hr6, by omega, .inr ⟨rfl, g, cap, rfl, h1⟩⟩, by simp [intOf]⟩
    · have y2 : wr.cell? ⟨w2.heap.size, 2, none⟩ = some (.string ⟨#[75]⟩) := hrr.cell 2
      clear hcb hrb hgw4 hs4 hrow hg4
      have hgl : g < wr.heap.size := by obtain ⟨cur, hcur⟩ := row_block hw1 g rfl; exact lt_of_block hcur
      go_wp2
      go_loopw [9, 42] (fun x y wq => w.grownBy wq none ∧ Box wq 41 w.heap.size (cmB c (.slice (some ⟨kg, ko, none⟩) c.keys.length kc) (.slice da dn dc) (.slice ma mn mc) lg) ∧ Box wq 148 w2.heap.size #[.int .i64 c.verb, .string ⟨#[75]⟩, .string ⟨#[75]⟩, .bool true, .bool false] ∧ g < wq.heap.size ∧ x = .slice (some ⟨g, 0, none⟩) (1 + c.keys.length) cap ∧ wq.ownsRow (w2.heap.size + 1) 9 1 (.slice (some ⟨g, 0, none⟩) (1 + c.keys.length) cap) (1 + c.keys.length) (sv nm :: c.keys.map sv) ∧ (y = .int .i64 0 ∨ y = .int .i64 1)) (fun _ y _ => 1 - (intOf y).toNat)
      case atStart => exact ⟨hgr, hcr, hrr, hgl, rfl, hw1, .inl rfl⟩
      case round =>
        clear hgr hcr hrr hw1 hgl y2
        obtain ⟨hgr, hcr, hrr, hgl, rfl, hw, h01⟩ := hrel
        rcases h01 with rfl | rfl
        · go_wp2
          have hix : ∀ h : 0 < (ByteArray.mk #[75]).size, (ByteArray.mk #[75])[0] = 75 := fun _ => rfl
          have gd := gb_drew (gb_refl wr none)
          refine wp_region_noPanic ?_
          refine wp_region_held_drew (S := fun W : World => Box W 41 w.heap.size (cmB c (.slice (some ⟨kg, ko, none⟩) c.keys.length kc) (.slice da dn dc) (.slice ma mn mc) lg) ∧ Box W 148 w2.heap.size #[.int .i64 c.verb, .string ⟨#[75]⟩, .string ⟨#[75]⟩, .bool true, .bool false]) (by kernel_rfl) ⟨hcr.kept gd (by simp), hrr.kept gd (by simp)⟩ (fun hS0 => ?_)
          refine wpAnyH_take (i := 0) (oi := { dst := some 45, op := Op.move (Operand.tmp 9), type := 36, pos := _, after := #[], guard := none }) (v := ?_) rfl (by kernel_rfl) (by kernel_rfl) (by kernel_rfl) (fun _ _ _ h => h) (Or.inl ⟨by rfl, ?_⟩) (by first | trivial | assumption) ?_
          rotate_left 1
          · (intro W hSw; obtain ⟨sB, sP⟩ := hSw; have e0 : W.cell? ⟨w.heap.size, 0, none⟩ = some (.int .i64 c.verb) := sB.cell 0; have e1 : W.cell? ⟨w.heap.size, 1, none⟩ = some (.slice (some ⟨kg, ko, none⟩) c.keys.length kc) := sB.cell 1; have e2 : W.cell? ⟨w.heap.size, 2, none⟩ = some (.int .u64 c.flags) := sB.cell 2; have e3 : W.cell? ⟨w.heap.size, 3, none⟩ = some (.int .i64 c.exp) := sB.cell 3; have e4 : W.cell? ⟨w.heap.size, 4, none⟩ = some (.int .u64 c.tok) := sB.cell 4; have e5 : W.cell? ⟨w.heap.size, 5, none⟩ = some (.int .u64 c.del) := sB.cell 5; have e6 : W.cell? ⟨w.heap.size, 6, none⟩ = some (.slice da dn dc) := sB.cell 6; have e7 : W.cell? ⟨w.heap.size, 7, none⟩ = some (.bool c.nr) := sB.cell 7; have e8 : W.cell? ⟨w.heap.size, 8, none⟩ = some (.bool lg) := sB.cell 8; have e9 : W.cell? ⟨w.heap.size, 9, none⟩ = some (.slice ma mn mc) := sB.cell 9; have e10 : W.cell? ⟨w.heap.size, 10, none⟩ = some (sv c.what) := sB.cell 10; have e11 : W.cell? ⟨w2.heap.size, 2, none⟩ = some (.string ⟨#[75]⟩) := sP.cell 2; go_simp; (try (with_reducible rfl)))
          try simp only [Act.put, List.setIfInBounds_toArray, List.set_cons_zero, List.set_cons_succ]
          refine wpAnyH_take (i := 1) (oi := { dst := some 46, op := Op.load 41 (Operand.tmp 3), type := 41, pos := _, after := #[], guard := none }) (v := ?_) rfl (by kernel_rfl) (by kernel_rfl) (by kernel_rfl) (fun _ _ _ h => h) (Or.inl ⟨by rfl, ?_⟩) (by first | trivial | assumption) ?_
          rotate_left 1
          · (intro W hSw; obtain ⟨sB, sP⟩ := hSw; have e0 : W.cell? ⟨w.heap.size, 0, none⟩ = some (.int .i64 c.verb) := sB.cell 0; have e1 : W.cell? ⟨w.heap.size, 1, none⟩ = some (.slice (some ⟨kg, ko, none⟩) c.keys.length kc) := sB.cell 1; have e2 : W.cell? ⟨w.heap.size, 2, none⟩ = some (.int .u64 c.flags) := sB.cell 2; have e3 : W.cell? ⟨w.heap.size, 3, none⟩ = some (.int .i64 c.exp) := sB.cell 3; have e4 : W.cell? ⟨w.heap.size, 4, none⟩ = some (.int .u64 c.tok) := sB.cell 4; have e5 : W.cell? ⟨w.heap.size, 5, none⟩ = some (.int .u64 c.del) := sB.cell 5; have e6 : W.cell? ⟨w.heap.size, 6, none⟩ = some (.slice da dn dc) := sB.cell 6; have e7 : W.cell? ⟨w.heap.size, 7, none⟩ = some (.bool c.nr) := sB.cell 7; have e8 : W.cell? ⟨w.heap.size, 8, none⟩ = some (.bool lg) := sB.cell 8; have e9 : W.cell? ⟨w.heap.size, 9, none⟩ = some (.slice ma mn mc) := sB.cell 9; have e10 : W.cell? ⟨w.heap.size, 10, none⟩ = some (sv c.what) := sB.cell 10; have e11 : W.cell? ⟨w2.heap.size, 2, none⟩ = some (.string ⟨#[75]⟩) := sP.cell 2; go_simp; (try (with_reducible rfl)))
          try simp only [Act.put, List.setIfInBounds_toArray, List.set_cons_zero, List.set_cons_succ]
          refine wpAnyH_take (i := 2) (oi := { dst := some 47, op := Op.fieldAddr 148 (Operand.tmp 7) 2, type := 0, pos := _, after := #[], guard := none }) (v := ?_) rfl (by kernel_rfl) (by kernel_rfl) (by kernel_rfl) (fun _ _ _ h => h) (Or.inl ⟨by rfl, ?_⟩) (by first | trivial | assumption) ?_
          rotate_left 1
          · (intro W hSw; obtain ⟨sB, sP⟩ := hSw; have e0 : W.cell? ⟨w.heap.size, 0, none⟩ = some (.int .i64 c.verb) := sB.cell 0; have e1 : W.cell? ⟨w.heap.size, 1, none⟩ = some (.slice (some ⟨kg, ko, none⟩) c.keys.length kc) := sB.cell 1; have e2 : W.cell? ⟨w.heap.size, 2, none⟩ = some (.int .u64 c.flags) := sB.cell 2; have e3 : W.cell? ⟨w.heap.size, 3, none⟩ = some (.int .i64 c.exp) := sB.cell 3; have e4 : W.cell? ⟨w.heap.size, 4, none⟩ = some (.int .u64 c.tok) := sB.cell 4; have e5 : W.cell? ⟨w.heap.size, 5, none⟩ = some (.int .u64 c.del) := sB.cell 5; have e6 : W.cell? ⟨w.heap.size, 6, none⟩ = some (.slice da dn dc) := sB.cell 6; have e7 : W.cell? ⟨w.heap.size, 7, none⟩ = some (.bool c.nr) := sB.cell 7; have e8 : W.cell? ⟨w.heap.size, 8, none⟩ = some (.bool lg) := sB.cell 8; have e9 : W.cell? ⟨w.heap.size, 9, none⟩ = some (.slice ma mn mc) := sB.cell 9; have e10 : W.cell? ⟨w.heap.size, 10, none⟩ = some (sv c.what) := sB.cell 10; have e11 : W.cell? ⟨w2.heap.size, 2, none⟩ = some (.string ⟨#[75]⟩) := sP.cell 2; go_simp; (try (with_reducible rfl)))
          try simp only [Act.put, List.setIfInBounds_toArray, List.set_cons_zero, List.set_cons_succ]
          refine wpAnyH_take (i := 3) (oi := { dst := some 48, op := Op.load 9 (Operand.tmp 47), type := 9, pos := _, after := #[{ on := 2, ground := Ground.data }], guard := none }) (v := ?_) rfl (by kernel_rfl) (by kernel_rfl) (by kernel_rfl) (fun _ _ _ h => h) (Or.inl ⟨by rfl, ?_⟩) (by first | trivial | assumption) ?_
          rotate_left 1
          · (intro W hSw; obtain ⟨sB, sP⟩ := hSw; have e0 : W.cell? ⟨w.heap.size, 0, none⟩ = some (.int .i64 c.verb) := sB.cell 0; have e1 : W.cell? ⟨w.heap.size, 1, none⟩ = some (.slice (some ⟨kg, ko, none⟩) c.keys.length kc) := sB.cell 1; have e2 : W.cell? ⟨w.heap.size, 2, none⟩ = some (.int .u64 c.flags) := sB.cell 2; have e3 : W.cell? ⟨w.heap.size, 3, none⟩ = some (.int .i64 c.exp) := sB.cell 3; have e4 : W.cell? ⟨w.heap.size, 4, none⟩ = some (.int .u64 c.tok) := sB.cell 4; have e5 : W.cell? ⟨w.heap.size, 5, none⟩ = some (.int .u64 c.del) := sB.cell 5; have e6 : W.cell? ⟨w.heap.size, 6, none⟩ = some (.slice da dn dc) := sB.cell 6; have e7 : W.cell? ⟨w.heap.size, 7, none⟩ = some (.bool c.nr) := sB.cell 7; have e8 : W.cell? ⟨w.heap.size, 8, none⟩ = some (.bool lg) := sB.cell 8; have e9 : W.cell? ⟨w.heap.size, 9, none⟩ = some (.slice ma mn mc) := sB.cell 9; have e10 : W.cell? ⟨w.heap.size, 10, none⟩ = some (sv c.what) := sB.cell 10; have e11 : W.cell? ⟨w2.heap.size, 2, none⟩ = some (.string ⟨#[75]⟩) := sP.cell 2; go_simp; (try (with_reducible rfl)))
          try simp only [Act.put, List.setIfInBounds_toArray, List.set_cons_zero, List.set_cons_succ]
          refine wpAnyH_take (i := 4) (oi := { dst := some 49, op := Op.move (Operand.tmp 11), type := 3, pos := _, after := #[], guard := none }) (v := ?_) rfl (by kernel_rfl) (by kernel_rfl) (by kernel_rfl) (fun _ _ _ h => h) (Or.inl ⟨by rfl, ?_⟩) (by first | trivial | assumption) ?_
          rotate_left 1
          · (intro W hSw; obtain ⟨sB, sP⟩ := hSw; have e0 : W.cell? ⟨w.heap.size, 0, none⟩ = some (.int .i64 c.verb) := sB.cell 0; have e1 : W.cell? ⟨w.heap.size, 1, none⟩ = some (.slice (some ⟨kg, ko, none⟩) c.keys.length kc) := sB.cell 1; have e2 : W.cell? ⟨w.heap.size, 2, none⟩ = some (.int .u64 c.flags) := sB.cell 2; have e3 : W.cell? ⟨w.heap.size, 3, none⟩ = some (.int .i64 c.exp) := sB.cell 3; have e4 : W.cell? ⟨w.heap.size, 4, none⟩ = some (.int .u64 c.tok) := sB.cell 4; have e5 : W.cell? ⟨w.heap.size, 5, none⟩ = some (.int .u64 c.del) := sB.cell 5; have e6 : W.cell? ⟨w.heap.size, 6, none⟩ = some (.slice da dn dc) := sB.cell 6; have e7 : W.cell? ⟨w.heap.size, 7, none⟩ = some (.bool c.nr) := sB.cell 7; have e8 : W.cell? ⟨w.heap.size, 8, none⟩ = some (.bool lg) := sB.cell 8; have e9 : W.cell? ⟨w.heap.size, 9, none⟩ = some (.slice ma mn mc) := sB.cell 9; have e10 : W.cell? ⟨w.heap.size, 10, none⟩ = some (sv c.what) := sB.cell 10; have e11 : W.cell? ⟨w2.heap.size, 2, none⟩ = some (.string ⟨#[75]⟩) := sP.cell 2; go_simp; (try (with_reducible rfl)))
          try simp only [Act.put, List.setIfInBounds_toArray, List.set_cons_zero, List.set_cons_succ]
          refine wpAnyH_take (i := 5) (oi := { dst := some 50, op := Op.index 9 (Operand.tmp 48) (Operand.tmp 49), type := 5, pos := _, after := #[{ on := 3, ground := Ground.data }, { on := 4, ground := Ground.data }], guard := none }) (v := ?_) rfl (by kernel_rfl) (by kernel_rfl) (by kernel_rfl) (fun _ _ _ h => h) (Or.inl ⟨by rfl, ?_⟩) (by first | trivial | assumption) ?_
          rotate_left 1
          · (intro W hSw; obtain ⟨sB, sP⟩ := hSw; have e0 : W.cell? ⟨w.heap.size, 0, none⟩ = some (.int .i64 c.verb) := sB.cell 0; have e1 : W.cell? ⟨w.heap.size, 1, none⟩ = some (.slice (some ⟨kg, ko, none⟩) c.keys.length kc) := sB.cell 1; have e2 : W.cell? ⟨w.heap.size, 2, none⟩ = some (.int .u64 c.flags) := sB.cell 2; have e3 : W.cell? ⟨w.heap.size, 3, none⟩ = some (.int .i64 c.exp) := sB.cell 3; have e4 : W.cell? ⟨w.heap.size, 4, none⟩ = some (.int .u64 c.tok) := sB.cell 4; have e5 : W.cell? ⟨w.heap.size, 5, none⟩ = some (.int .u64 c.del) := sB.cell 5; have e6 : W.cell? ⟨w.heap.size, 6, none⟩ = some (.slice da dn dc) := sB.cell 6; have e7 : W.cell? ⟨w.heap.size, 7, none⟩ = some (.bool c.nr) := sB.cell 7; have e8 : W.cell? ⟨w.heap.size, 8, none⟩ = some (.bool lg) := sB.cell 8; have e9 : W.cell? ⟨w.heap.size, 9, none⟩ = some (.slice ma mn mc) := sB.cell 9; have e10 : W.cell? ⟨w.heap.size, 10, none⟩ = some (sv c.what) := sB.cell 10; have e11 : W.cell? ⟨w2.heap.size, 2, none⟩ = some (.string ⟨#[75]⟩) := sP.cell 2; go_simp; (try (with_reducible rfl)))
          try simp only [Act.put, List.setIfInBounds_toArray, List.set_cons_zero, List.set_cons_succ]
          refine wpAnyH_ready (rs := [6]) (by kernel_rfl) (by simp) ?_
          refine (AllReadyH.cons rfl (fun K hK => ?_) AllReadyH.nil)
          go_simp
          go_at_call 126
          with_reducible refine (h23 _).mono ?_
          rintro e w5 ⟨rfl, hg5⟩
          try simp only []
          have gd5 := gb_trans gd hg5
          refine hK.out _ _ ⟨hcr.kept gd5 (by simp), hrr.kept gd5 (by simp)⟩ (fun hS1 => ?_)
          clear hK K
          try simp only [Act.put, List.setIfInBounds_toArray, List.set_cons_zero, List.set_cons_succ]
          have hw5 := row_kept hw gd5 (by simp)
          have hgw5 := gb_trans hgr gd5
          have hs5 := gd5.size
          have hcap : 1 + c.keys.length ≤ cap := by obtain ⟨ao', cp', h1, _, h2, _⟩ := row_shape hw; injection h1 with _ _ h3; omega
          refine wpAnyH_ready (rs := [7]) (by kernel_rfl) (by simp) ?_
          refine AllReadyH.cons rfl (fun K hK => ?_) AllReadyH.nil
          go_simp
          refine hK.out _ _ ⟨hcr.kept gd5 (by simp), hrr.kept gd5 (by simp)⟩ (fun hS2 => ?_)
          clear hK K
          try simp only [Act.put, List.setIfInBounds_toArray, List.set_cons_zero, List.set_cons_succ]
          refine wpAnyH_take (i := 8) (oi := { dst := some 9, op := Op.assign (Operand.tmp 52), type := 36, pos := _, after := #[{ on := 7, ground := Ground.data }, { on := 7, ground := Ground.chain }, { on := 0, ground := Ground.phase }, { on := 1, ground := Ground.phase }, { on := 2, ground := Ground.phase }, { on := 3, ground := Ground.phase }, { on := 4, ground := Ground.phase }, { on := 5, ground := Ground.phase }, { on := 6, ground := Ground.phase }, { on := 7, ground := Ground.phase }], guard := none }) (v := ?_) rfl (by kernel_rfl) (by kernel_rfl) (by kernel_rfl) (fun _ _ _ h => h) (Or.inl ⟨by rfl, ?_⟩) (by first | trivial | assumption) ?_
          rotate_left 1
          · (intro W hSw; obtain ⟨sB, sP⟩ := hSw; go_simp; (try (with_reducible rfl)))
          try simp only [Act.put, List.setIfInBounds_toArray, List.set_cons_zero, List.set_cons_succ]
          refine wpAnyH_done (by kernel_rfl) ?_ _
          refine NoPanic.normal ?_
          go_wp2
          refine ⟨⟨hgw5, hcr.kept gd5 (by simp), hrr.kept gd5 (by simp), by omega, rfl, hw5, .inr rfl⟩, by simp [intOf]⟩
        · have y7 : wr.cell? ⟨w.heap.size, 7, none⟩ = some (.bool c.nr) := hcr.cell 7
          rw [HNR.out] at y7
          have h24 := join_24 g 0 cap (nm :: c.keys) wr hgl (by simp; omega) (by obtain ⟨ao', cp', h1, _, h2, _⟩ := row_shape hw; injection h1 with _ _ h3; simp; omega) (fun i x hx => by rw [Nat.zero_add]; exact row_cell hw i _ (by rw [show sv nm :: c.keys.map sv = (nm :: c.keys).map sv from rfl, List.getElem?_map, hx]; rfl)) hl
          rw [show (nm :: c.keys).length = 1 + c.keys.length by simp; omega] at h24
          go_wp2_with (go_at_call 127; go_must ((with_reducible refine h24.mono ?_); rintro e w9 ⟨rfl, hg9⟩))
          go_ret2
          exact ⟨rfl, gb_trans hgr hg9⟩
end Go.Proofs.YtobegepebochkaaGreatDoor
/-
  Two commands are the same.
-/
namespace Go.Proofs.YtobegepebochkaaGreatDoor
open Go.RowKit Go.Shelf
set_option linter.unusedVariables false
set_option linter.unusedSimpArgs false

set_option maxRecDepth 100000 in
set_option maxHeartbeats 4000000 in
theorem equal_25 {w : World} {u v : Value} {ws : List Bs} (hu : Ws w u ws) (hv : Ws w v ws) (hn : ws.length ≤ 1000000000) :
    Calls Tryz.prog 128 #[u, v] w fun e w' => e = .returned (.bool true) ∧ w.grownBy w' none := by
  obtain ⟨n, hnn⟩ : ∃ n, ws.length = n := ⟨_, rfl⟩
  have hcu : ∃ a c, u = .slice a n c ∧ ∀ i x, ws[i]? = some x → ∃ g o, a = some ⟨g, o, none⟩ ∧ w.cell? ⟨g, o + i, none⟩ = some (sv x) := by
    rcases hu with ⟨rfl, a, c, rfl⟩ | ⟨g, o, c, rfl, _, _, h⟩
    · exact ⟨a, c, by rw [← hnn]; rfl, fun i x hx => by simp at hx⟩
    · exact ⟨_, c, by rw [hnn], fun i x hx => ⟨g, o, rfl, h i x hx⟩⟩
  have hcv : ∃ a c, v = .slice a n c ∧ ∀ i x, ws[i]? = some x → ∃ g o, a = some ⟨g, o, none⟩ ∧ w.cell? ⟨g, o + i, none⟩ = some (sv x) := by
    rcases hv with ⟨rfl, a, c, rfl⟩ | ⟨g, o, c, rfl, _, _, h⟩
    · exact ⟨a, c, by rw [← hnn]; rfl, fun i x hx => by simp at hx⟩
    · exact ⟨_, c, by rw [hnn], fun i x hx => ⟨g, o, rfl, h i x hx⟩⟩
  obtain ⟨ua, uc, rfl, hcu⟩ := hcu
  obtain ⟨va, vc, rfl, hcv⟩ := hcv
  clear hu hv
  go_enter Tryz.func128, Tryz.ntmps128
  go_wp2
  go_loopw [13] (fun x wr => ∃ k : Nat, k ≤ n ∧ x = .int .i64 k ∧ w.grownBy wr none) (fun x _ => n - (intOf x).toNat)
  case atStart => exact ⟨0, by omega, rfl, gb_refl _ _⟩
  case round =>
    obtain ⟨k, hk, rfl, hg⟩ := hrel
    rcases (by omega : k < n ∨ k = n) with hlt | rfl
    · obtain ⟨x, hx⟩ : ∃ x, ws[k]? = some x := ⟨_, List.getElem?_eq_getElem (by omega)⟩
      obtain ⟨g1, o1, rfl, c1⟩ := hcu k x hx
      obtain ⟨g2, o2, rfl, c2⟩ := hcv k x hx
      have c1 := gb_cellN hg c1
      have c2 := gb_cellN hg c2
      have d1 : ((k : Int) < (n : Int)) := by omega
      clear hcu hcv
      go_wp2
      go_quiet (fail)
      go_wp2
      refine ⟨⟨k + 1, by omega, by simp, gb_drewN hg _⟩, by simp [intOf]; omega⟩
    · have d1 : decide ((k : Int) < (k : Int)) = false := decide_eq_false (by omega)
      go_wp2
      go_ret
      exact ⟨rfl, hg⟩
set_option maxRecDepth 100000 in
set_option maxHeartbeats 4000000 in
theorem equalF_nil (a b : Option Addr) (c d : Nat) (w : World) :
    Calls Tryz.prog 129 #[.slice a 0 c, .slice b 0 d] w fun e w' => e = .returned (.bool true) ∧ w.grownBy w' none := by
  go_enter Tryz.func129, Tryz.ntmps129
  go_wp2
  go_loopw [13] (fun x wr => x = .int .i64 0 ∧ wr = w) (fun _ _ => 0)
  case atStart => exact ⟨rfl, rfl⟩
  case round =>
    obtain ⟨rfl, rfl⟩ := hrel
    go_wp2
    go_ret
    exact ⟨rfl, gb_refl _ _⟩
set_option maxRecDepth 100000 in
set_option maxHeartbeats 4000000 in
theorem same_13 {w : World} (c : Cmd) (kv kv' dv dv' mv mv' : Value) (hk : Ws w kv c.keys) (hk' : Ws w kv' c.keys) (hn : c.keys.length ≤ 1000000000) (hm : ∃ a c', mv = .slice a 0 c') (hm' : ∃ a c', mv' = .slice a 0 c') (hd : ∃ a n c', dv = .slice a n c') (hd' : ∃ a n c', dv' = .slice a n c') :
    Calls Tryz.prog 81 #[.agg (cmB c kv dv mv false), .agg (cmB c kv' dv' mv' false)] w fun e w' => e = .returned (.bool true) ∧ w.grownBy w' none := by
  have hks : ∃ a n c', kv = .slice a n c' := by
    rcases hk with ⟨_, a, c, rfl⟩ | ⟨g, o, c, rfl, _⟩ <;> exact ⟨_, _, _, rfl⟩
  have hks' : ∃ a n c', kv' = .slice a n c' := by
    rcases hk' with ⟨_, a, c, rfl⟩ | ⟨g, o, c, rfl, _⟩ <;> exact ⟨_, _, _, rfl⟩
  obtain ⟨a1, n1, c1, rfl⟩ := hks
  obtain ⟨a2, n2, c2, rfl⟩ := hks'
  obtain ⟨a3, c3, rfl⟩ := hm
  obtain ⟨a4, c4, rfl⟩ := hm'
  obtain ⟨a5, n5, c5, rfl⟩ := hd
  obtain ⟨a6, n6, c6, rfl⟩ := hd'
  have h25 := fun W (hg : w.grownBy W none) => equal_25 (hk.kept hg) (hk'.kept hg) hn
  have h26 := fun W => equalF_nil a3 a4 c3 c4 W
  have b1 := Box.new w 41 (cmB c (.slice a1 n1 c1) (.slice a5 n5 c5) (.slice a3 0 c3) false)
  have b2 := Box.new (w.alloc (.cells (cmB c (.slice a1 n1 c1) (.slice a5 n5 c5) (.slice a3 0 c3) false) 41)) 41 (cmB c (.slice a2 n2 c2) (.slice a6 n6 c6) (.slice a4 0 c4) false)
  simp only [World.size_alloc] at b2
  have gA := gb_alloc (gb_refl (w.alloc (.cells (cmB c (.slice a1 n1 c1) (.slice a5 n5 c5) (.slice a3 0 c3) false) 41)) none) (.cells (cmB c (.slice a2 n2 c2) (.slice a6 n6 c6) (.slice a4 0 c4) false) 41)
  have gW := gb_trans (gb_alloc (gb_refl w none) (.cells (cmB c (.slice a1 n1 c1) (.slice a5 n5 c5) (.slice a3 0 c3) false) 41)) gA
  go_enter Tryz.func81, Tryz.ntmps81
  go_wp2_with (first | (go_at_call 128; go_must ((with_reducible refine (h25 _ gW).mono ?_); rintro e w3 ⟨rfl, hg3⟩; (have z1 := (b1.kept gA (by simp)).kept hg3 (by simp)); (have z2 := b2.kept hg3 (by simp)); (have p0 : w3.cell? ⟨w.heap.size, 0, none⟩ = some (.int .i64 c.verb) := z1.cell 0); (have p1 : w3.cell? ⟨w.heap.size, 1, none⟩ = some (.slice a1 n1 c1) := z1.cell 1); (have p2 : w3.cell? ⟨w.heap.size, 2, none⟩ = some (.int .u64 c.flags) := z1.cell 2); (have p3 : w3.cell? ⟨w.heap.size, 3, none⟩ = some (.int .i64 c.exp) := z1.cell 3); (have p4 : w3.cell? ⟨w.heap.size, 4, none⟩ = some (.int .u64 c.tok) := z1.cell 4); (have p5 : w3.cell? ⟨w.heap.size, 5, none⟩ = some (.int .u64 c.del) := z1.cell 5); (have p6 : w3.cell? ⟨w.heap.size, 6, none⟩ = some (.slice a5 n5 c5) := z1.cell 6); (have p7 : w3.cell? ⟨w.heap.size, 7, none⟩ = some (.bool c.nr) := z1.cell 7); (have p8 : w3.cell? ⟨w.heap.size, 8, none⟩ = some (.bool false) := z1.cell 8); (have p9 : w3.cell? ⟨w.heap.size, 9, none⟩ = some (.slice a3 0 c3) := z1.cell 9); (have p10 : w3.cell? ⟨w.heap.size, 10, none⟩ = some (sv c.what) := z1.cell 10); (have q0 : w3.cell? ⟨w.heap.size + 1, 0, none⟩ = some (.int .i64 c.verb) := z2.cell 0); (have q1 : w3.cell? ⟨w.heap.size + 1, 1, none⟩ = some (.slice a2 n2 c2) := z2.cell 1); (have q2 : w3.cell? ⟨w.heap.size + 1, 2, none⟩ = some (.int .u64 c.flags) := z2.cell 2); (have q3 : w3.cell? ⟨w.heap.size + 1, 3, none⟩ = some (.int .i64 c.exp) := z2.cell 3); (have q4 : w3.cell? ⟨w.heap.size + 1, 4, none⟩ = some (.int .u64 c.tok) := z2.cell 4); (have q5 : w3.cell? ⟨w.heap.size + 1, 5, none⟩ = some (.int .u64 c.del) := z2.cell 5); (have q6 : w3.cell? ⟨w.heap.size + 1, 6, none⟩ = some (.slice a6 n6 c6) := z2.cell 6); (have q7 : w3.cell? ⟨w.heap.size + 1, 7, none⟩ = some (.bool c.nr) := z2.cell 7); (have q8 : w3.cell? ⟨w.heap.size + 1, 8, none⟩ = some (.bool false) := z2.cell 8); (have q9 : w3.cell? ⟨w.heap.size + 1, 9, none⟩ = some (.slice a4 0 c4) := z2.cell 9); (have q10 : w3.cell? ⟨w.heap.size + 1, 10, none⟩ = some (sv c.what) := z2.cell 10))) | (go_at_call 129; go_must ((with_reducible refine (h26 _).mono ?_); rintro e w4 ⟨rfl, hg4⟩; (have y1 : w4.cell? ⟨w.heap.size, 10, none⟩ = some (sv c.what) := (z1.kept hg4 (by simp)).cell 10); (have y2 : w4.cell? ⟨w.heap.size + 1, 10, none⟩ = some (sv c.what) := (z2.kept hg4 (by simp)).cell 10))))
  go_ret
  exact ⟨rfl, gb_trans gW (gb_trans hg3 hg4)⟩
end Go.Proofs.YtobegepebochkaaGreatDoor
/-
  Bytes of a command.
-/
namespace Go.Proofs.YtobegepebochkaaGreatDoor
open Go.RowKit Go.Shelf
set_option linter.unusedVariables false
set_option linter.unusedSimpArgs false

/-- []byte(s). -/
theorem conv_by (w : World) (l : Bs) (hl : l.length ≤ 1099511627776) : ∃ W c, (convert 9 38 (sv l)).run Tryz.prog w = .ok (.slice (some ⟨w.heap.size, 0, none⟩) l.length c) W ∧ w.grownBy W none ∧ By W (.slice (some ⟨w.heap.size, 0, none⟩) l.length c) l ∧ W.heap.size = w.heap.size + 1 := by
  have hr := Lib.run_convert_string_bytes (P := Tryz.prog) w 9 38 5 ⟨l.toArray⟩ Tryz.underlying9 Tryz.underlying38 Tryz.underlying5
  rw [ba_size] at hr
  refine ⟨_, _, hr, gb_below (Lib.bytesWorld_below _ _ _), .inr ⟨w.heap.size, 0, _, rfl, hl, by rw [Lib.bytesWorld_size]; omega, fun i x hx => ?_⟩, Lib.bytesWorld_size _ _ _⟩
  have hi : i < l.length := (List.getElem?_eq_some_iff.1 hx).1
  rw [Nat.zero_add, Lib.bytesWorld_cell w 5 _ i (by rw [ba_size]; exact hi)]
  show some (Value.int .u8 ((l.getD i 0).toNat : Int)) = _
  rw [List.getD, hx]; rfl
theorem lnp_ok {l : Bs} {w w' : World} {e : Ending} {c : Cmd} (hls : lineS l = .inl (c, -1)) (hmt : c.mt = [])
    (hL : (∃ c n kv mv, lineS l = .inl (c, n) ∧ e = .returned (.tuple #[.agg (cmA c kv mv), .int .i64 n, .agg #[.int .i64 0, sv [], .int .i64 0]]) ∧ w'.ownsRow w.heap.size 9 1 kv c.keys.length (c.keys.map sv) ∧ w'.ownsRow w.heap.size 79 3 mv c.mt.length (fcs c.mt)) ∨
      ∃ k t p, lineS l = .inr (k, t, p) ∧ e = .returned (.tuple #[.agg (Z31 0 false), .int .i64 (-1), .agg #[.int .i64 k, sv t, .int .i64 p]])) :
    ∃ kv mv, e = .returned (.tuple #[.agg (cmA c kv mv), .int .i64 (-1), .agg #[.int .i64 0, sv [], .int .i64 0]]) ∧ w'.ownsRow w.heap.size 9 1 kv c.keys.length (c.keys.map sv) ∧ ∃ a b, mv = .slice a 0 b := by
  rcases hL with ⟨c', n, kv, mv, h1, h2, h3, h4⟩ | ⟨k, t, p, h1, _⟩
  · rw [hls] at h1
    injection h1 with h1
    injection h1 with h5 h6
    subst h5 h6
    refine ⟨kv, mv, h2, h3, ?_⟩
    rw [hmt] at h4
    obtain ⟨a, b, h5, _⟩ := row_shape h4
    exact ⟨a, b, h5⟩
  · rw [hls] at h1; cases h1
set_option maxRecDepth 100000 in
set_option maxHeartbeats 4000000 in
theorem bytes_8 {w : World} (hE : Er w) (c : Cmd) (nm : Bs) (hof : ofS c.verb = some (nm, ⟨c.verb, [75], [75], true, false⟩)) (hnr : c.nr = false) (hmt : c.mt = []) (kg ko kc dc mc : Nat) (da mo : Option Addr) (hks : c.keys ≠ []) (hkl : c.keys.length ≤ 1000000) (hkcap : c.keys.length ≤ kc) (hkg : kg < w.heap.size) (hkc : ∀ i x, c.keys[i]? = some x → w.cell? ⟨kg, ko + i, none⟩ = some (sv x)) (hl : (Lib.join (nm :: c.keys) [32]).length ≤ 1000000) (hls : lineS (Lib.join (nm :: c.keys) [32]) = .inl (c, -1)) :
    Calls Tryz.prog 33 #[.agg (cmB c (.slice (some ⟨kg, ko, none⟩) c.keys.length kc) (.slice da 0 dc) (.slice mo 0 mc) false)] w fun e w' => ∃ v, e = .returned (.tuple #[v, .int .i64 0]) ∧ By w' v (Lib.join (nm :: c.keys) [32] ++ [13, 10]) ∧ w.grownBy w' none := by
  obtain ⟨l, hll⟩ : ∃ l, Lib.join (nm :: c.keys) [32] = l := ⟨_, rfl⟩
  have hgA := gb_alloc (gb_refl w none) (.cells (cmB c (.slice (some ⟨kg, ko, none⟩) c.keys.length kc) (.slice da 0 dc) (.slice mo 0 mc) false) 41)
  have bA := Box.new w 41 (cmB c (.slice (some ⟨kg, ko, none⟩) c.keys.length kc) (.slice da 0 dc) (.slice mo 0 mc) false)
  have h9 := rows_9 (w.alloc (.cells (cmB c (.slice (some ⟨kg, ko, none⟩) c.keys.length kc) (.slice da 0 dc) (.slice mo 0 mc) false) 41))
  simp only [World.size_alloc] at h9
  have h12 := fun W gb (hG : GM W gb rowL) (hg : w.grownBy W none) => spell_12 hG c nm hof hnr kg ko kc da mo 0 dc 0 mc false hks hkl (Nat.lt_of_lt_of_le hkg hg.size) (fun i x hx => gb_cellN hg (hkc i x hx)) (by omega)
  rw [hll] at h12 hls hl ⊢
  have h10 := fun W gb v (hG : GM W gb rowL) (hg : w.grownBy W none) (hB : By W v l) => line_10 hG (hE.kept hg) v l hB
  have h13 : ∀ (w5 : World) (ka : Option Addr) (kb : Nat) (ma : Option Addr) (mb : Nat) (W : World), w.grownBy w5 none → w5.grownBy W none → w5.ownsRow w.heap.size 9 1 (.slice ka c.keys.length kb) c.keys.length (c.keys.map sv) → Calls Tryz.prog 81 #[.agg #[.int .i64 c.verb, .slice ka c.keys.length kb, .int .u64 c.flags, .int .i64 c.exp, .int .u64 c.tok, .int .u64 c.del, .slice none 0 0, .bool c.nr, .bool false, .slice ma 0 mb, sv c.what], .agg #[.int .i64 c.verb, .slice (some ⟨kg, ko, none⟩) c.keys.length kc, .int .u64 c.flags, .int .i64 c.exp, .int .u64 c.tok, .int .u64 c.del, .slice da 0 dc, .bool c.nr, .bool false, .slice mo 0 mc, sv c.what]] W fun e w' => e = .returned (.bool true) ∧ W.grownBy w' none := fun w5 ka kb ma mb W h1 h2 h3 =>
    same_13 c _ _ _ _ _ _ ((ws_row h3 rfl).kept h2) (.inr ⟨kg, ko, kc, rfl, hkcap, Nat.lt_of_lt_of_le hkg (gb_trans h1 h2).size, fun i x hx => gb_cellN (gb_trans h1 h2) (hkc i x hx)⟩) (by omega) ⟨_, _, rfl⟩ ⟨_, _, rfl⟩ ⟨_, _, _, rfl⟩ ⟨_, _, _, rfl⟩
  have hcat : (ByteArray.mk l.toArray ++ ByteArray.mk #[13, 10]) = ⟨(l ++ [13, 10]).toArray⟩ := ba_app l [13, 10]
  have HNR := Lib.hid hnr
  have HMT := Lib.hid hmt
  have HLS := Lib.hid hls
  clear hll hnr hmt hls hof
  go_enter Tryz.func33, Tryz.ntmps33
  go_wp2_with (first | (go_at_call 62; go_must ((with_reducible refine h9.mono ?_); rintro e w2 ⟨rfl, hG2, hg2⟩; (have b2 := bA.kept hg2 (by simp)); (have p0 : w2.cell? ⟨w.heap.size, 0, none⟩ = some (.int .i64 c.verb) := b2.cell 0); (have p1 : w2.cell? ⟨w.heap.size, 1, none⟩ = some (.slice (some ⟨kg, ko, none⟩) c.keys.length kc) := b2.cell 1); (have p2 : w2.cell? ⟨w.heap.size, 2, none⟩ = some (.int .u64 c.flags) := b2.cell 2); (have p3 : w2.cell? ⟨w.heap.size, 3, none⟩ = some (.int .i64 c.exp) := b2.cell 3); (have p4 : w2.cell? ⟨w.heap.size, 4, none⟩ = some (.int .u64 c.tok) := b2.cell 4); (have p5 : w2.cell? ⟨w.heap.size, 5, none⟩ = some (.int .u64 c.del) := b2.cell 5); (have p6 : w2.cell? ⟨w.heap.size, 6, none⟩ = some (.slice da 0 dc) := b2.cell 6); (have p7 : w2.cell? ⟨w.heap.size, 7, none⟩ = some (.bool c.nr) := b2.cell 7); (have p8 : w2.cell? ⟨w.heap.size, 8, none⟩ = some (.bool false) := b2.cell 8); (have p9 : w2.cell? ⟨w.heap.size, 9, none⟩ = some (.slice mo 0 mc) := b2.cell 9); (have p10 : w2.cell? ⟨w.heap.size, 10, none⟩ = some (sv c.what) := b2.cell 10))) | (go_at_call 80; go_must ((with_reducible refine (h12 _ _ hG2 (gb_trans hgA hg2)).mono ?_); rintro e w3 ⟨rfl, hg3⟩; obtain ⟨W4, cc, hcv, hg4, hB4, hs4⟩ := conv_by w3 l (by omega))) | (go_at_call 63; go_must ((with_reducible refine (h10 _ _ _ ((hG2.kept hg3 (by simp)).kept hg4 (by simp)) (gb_trans (gb_trans (gb_trans hgA hg2) hg3) hg4) hB4).mono ?_); rintro e w5 ⟨hL, hg5⟩; (have hgw5 := gb_trans (gb_trans (gb_trans (gb_trans hgA hg2) hg3) hg4) hg5); (have b5 := ((b2.kept hg3 (by simp)).kept hg4 (by simp)).kept hg5 (by simp)); obtain ⟨kv', mv', rfl, kr, mr⟩ := lnp_ok HLS.out HMT.out hL; obtain ⟨ka, kb, rfl, -, -, -, -⟩ := row_shape kr; obtain ⟨ma, mb, rfl⟩ := mr; (have gX := gb_alloc (gb_alloc (gb_refl w5 none) (.cells #[.int .i64 c.verb, .slice ka c.keys.length kb, .int .u64 c.flags, .int .i64 c.exp, .int .u64 c.tok, .int .u64 c.del, .slice none 0 0, .bool c.nr, .bool false, .slice ma 0 mb, sv c.what] 41)) (.cells #[.int .i64 0, .string ⟨#[]⟩, .int .i64 0] 43)); (have s0 : ((w5.alloc (.cells #[.int .i64 c.verb, .slice ka c.keys.length kb, .int .u64 c.flags, .int .i64 c.exp, .int .u64 c.tok, .int .u64 c.del, .slice none 0 0, .bool c.nr, .bool false, .slice ma 0 mb, sv c.what] 41)).alloc (.cells #[.int .i64 0, .string ⟨#[]⟩, .int .i64 0] 43)).cell? ⟨w.heap.size, 0, none⟩ = some (.int .i64 c.verb) := (b5.kept gX (by simp)).cell 0); (have s1 : ((w5.alloc (.cells #[.int .i64 c.verb, .slice ka c.keys.length kb, .int .u64 c.flags, .int .i64 c.exp, .int .u64 c.tok, .int .u64 c.del, .slice none 0 0, .bool c.nr, .bool false, .slice ma 0 mb, sv c.what] 41)).alloc (.cells #[.int .i64 0, .string ⟨#[]⟩, .int .i64 0] 43)).cell? ⟨w.heap.size, 1, none⟩ = some (.slice (some ⟨kg, ko, none⟩) c.keys.length kc) := (b5.kept gX (by simp)).cell 1); (have s2 : ((w5.alloc (.cells #[.int .i64 c.verb, .slice ka c.keys.length kb, .int .u64 c.flags, .int .i64 c.exp, .int .u64 c.tok, .int .u64 c.del, .slice none 0 0, .bool c.nr, .bool false, .slice ma 0 mb, sv c.what] 41)).alloc (.cells #[.int .i64 0, .string ⟨#[]⟩, .int .i64 0] 43)).cell? ⟨w.heap.size, 2, none⟩ = some (.int .u64 c.flags) := (b5.kept gX (by simp)).cell 2); (have s3 : ((w5.alloc (.cells #[.int .i64 c.verb, .slice ka c.keys.length kb, .int .u64 c.flags, .int .i64 c.exp, .int .u64 c.tok, .int .u64 c.del, .slice none 0 0, .bool c.nr, .bool false, .slice ma 0 mb, sv c.what] 41)).alloc (.cells #[.int .i64 0, .string ⟨#[]⟩, .int .i64 0] 43)).cell? ⟨w.heap.size, 3, none⟩ = some (.int .i64 c.exp) := (b5.kept gX (by simp)).cell 3); (have s4 : ((w5.alloc (.cells #[.int .i64 c.verb, .slice ka c.keys.length kb, .int .u64 c.flags, .int .i64 c.exp, .int .u64 c.tok, .int .u64 c.del, .slice none 0 0, .bool c.nr, .bool false, .slice ma 0 mb, sv c.what] 41)).alloc (.cells #[.int .i64 0, .string ⟨#[]⟩, .int .i64 0] 43)).cell? ⟨w.heap.size, 4, none⟩ = some (.int .u64 c.tok) := (b5.kept gX (by simp)).cell 4); (have s5 : ((w5.alloc (.cells #[.int .i64 c.verb, .slice ka c.keys.length kb, .int .u64 c.flags, .int .i64 c.exp, .int .u64 c.tok, .int .u64 c.del, .slice none 0 0, .bool c.nr, .bool false, .slice ma 0 mb, sv c.what] 41)).alloc (.cells #[.int .i64 0, .string ⟨#[]⟩, .int .i64 0] 43)).cell? ⟨w.heap.size, 5, none⟩ = some (.int .u64 c.del) := (b5.kept gX (by simp)).cell 5); (have s6 : ((w5.alloc (.cells #[.int .i64 c.verb, .slice ka c.keys.length kb, .int .u64 c.flags, .int .i64 c.exp, .int .u64 c.tok, .int .u64 c.del, .slice none 0 0, .bool c.nr, .bool false, .slice ma 0 mb, sv c.what] 41)).alloc (.cells #[.int .i64 0, .string ⟨#[]⟩, .int .i64 0] 43)).cell? ⟨w.heap.size, 6, none⟩ = some (.slice da 0 dc) := (b5.kept gX (by simp)).cell 6); (have s7 : ((w5.alloc (.cells #[.int .i64 c.verb, .slice ka c.keys.length kb, .int .u64 c.flags, .int .i64 c.exp, .int .u64 c.tok, .int .u64 c.del, .slice none 0 0, .bool c.nr, .bool false, .slice ma 0 mb, sv c.what] 41)).alloc (.cells #[.int .i64 0, .string ⟨#[]⟩, .int .i64 0] 43)).cell? ⟨w.heap.size, 7, none⟩ = some (.bool c.nr) := (b5.kept gX (by simp)).cell 7); (have s8 : ((w5.alloc (.cells #[.int .i64 c.verb, .slice ka c.keys.length kb, .int .u64 c.flags, .int .i64 c.exp, .int .u64 c.tok, .int .u64 c.del, .slice none 0 0, .bool c.nr, .bool false, .slice ma 0 mb, sv c.what] 41)).alloc (.cells #[.int .i64 0, .string ⟨#[]⟩, .int .i64 0] 43)).cell? ⟨w.heap.size, 8, none⟩ = some (.bool false) := (b5.kept gX (by simp)).cell 8); (have s9 : ((w5.alloc (.cells #[.int .i64 c.verb, .slice ka c.keys.length kb, .int .u64 c.flags, .int .i64 c.exp, .int .u64 c.tok, .int .u64 c.del, .slice none 0 0, .bool c.nr, .bool false, .slice ma 0 mb, sv c.what] 41)).alloc (.cells #[.int .i64 0, .string ⟨#[]⟩, .int .i64 0] 43)).cell? ⟨w.heap.size, 9, none⟩ = some (.slice mo 0 mc) := (b5.kept gX (by simp)).cell 9); (have s10 : ((w5.alloc (.cells #[.int .i64 c.verb, .slice ka c.keys.length kb, .int .u64 c.flags, .int .i64 c.exp, .int .u64 c.tok, .int .u64 c.del, .slice none 0 0, .bool c.nr, .bool false, .slice ma 0 mb, sv c.what] 41)).alloc (.cells #[.int .i64 0, .string ⟨#[]⟩, .int .i64 0] 43)).cell? ⟨w.heap.size, 10, none⟩ = some (sv c.what) := (b5.kept gX (by simp)).cell 10); clear p0 p1 p2 p3 p4 p5 p6 p7 p8 p9 p10 hcv)) | (go_at_call 81; go_must ((with_reducible refine (h13 w5 ka kb ma mb _ hgw5 gX (row_base kr (gb_trans (gb_trans (gb_trans hgA hg2) hg3) hg4).size)).mono ?_); rintro e w7 ⟨rfl, hg7⟩; (have pd : w7.cell? ⟨w.heap.size, 6, none⟩ = some (.slice da 0 dc) := ((b5.kept gX (by simp)).kept hg7 (by simp)).cell 6); obtain ⟨W8, c8, hcv8, hg8, hB8, hs8⟩ := conv_by w7 (l ++ [13, 10]) (by simp; omega))))
  go_ret2
  have hlen : (l ++ ([13, 10] : Bs)).length = l.length + 2 := by simp
  rw [hlen] at hB8
  exact ⟨_, rfl, hB8, gb_trans hgw5 (gb_trans gX (gb_trans hg7 hg8))⟩
end Go.Proofs.YtobegepebochkaaGreatDoor

import Derived.Test.YtbbocbdoiealoaaGreatDoorRPaz
set_option linter.unusedVariables false
set_option linter.unusedSimpArgs false
namespace Go.Proofs.YtbbocbdoiealoaaGreatDoor
open Go.RowKit Go.Shelf
theorem own_new {w : World} {b : Nat} {v : Value} (h : Box w 9 b #[v]) : w.ownsRow b 9 1 (.slice (some ⟨b, 0, none⟩) 1 1) 1 [v] := by
  refine ⟨rfl, .inr ⟨b, 1, #[v], rfl, Nat.le_refl _, h, Nat.le_refl _, by unfold maxLen; omega, rfl, rfl⟩⟩
set_option maxRecDepth 100000 in
set_option maxHeartbeats 4000000 in
theorem spell_12 {w : World} {gb : Nat} (hG : GM w gb rowL) (c : Cmd) (nm : Bs) (hof : ofS c.verb = some (nm, ⟨c.verb, [75], [75], true, false⟩)) (hnr : c.nr = false) (kg ko kc : Nat) (da ma : Option Addr) (dn dc mn mc : Nat) (lg : Bool) (hks : c.keys ≠ []) (hkl : c.keys.length ≤ 1000000) (hkg : kg < w.heap.size) (hkc : ∀ i x, c.keys[i]? = some x → w.cell? ⟨kg, ko + i, none⟩ = some (sv x)) (hl : (Lib.join (nm :: c.keys) [32]).length ≤ 140737488355328) :
    Calls Tryz.prog 85 #[.map (some gb), .agg (cmB c (.slice (some ⟨kg, ko, none⟩) c.keys.length kc) (.slice da dn dc) (.slice ma mn mc) lg)] w fun e w' => e = .returned (.tuple #[sv (Lib.join (nm :: c.keys) [32]), .bool true]) ∧ w.grownBy w' none := by
  have h21 := fun W (hG : GM W gb rowL) => of_21 hG c.verb
  simp only [hof, Option.map_some, Option.getD_some, Option.isSome_some] at h21
  have h22 := fun W => must_K c (.slice (some ⟨kg, ko, none⟩) c.keys.length kc) (.slice da dn dc) (.slice ma mn mc) lg W ⟨_, _, _, rfl⟩ ⟨_, _, _, rfl⟩ ⟨_, _, _, rfl⟩
  have h23 := fun W => might_K c (.slice (some ⟨kg, ko, none⟩) c.keys.length kc) (.slice da dn dc) (.slice ma mn mc) lg W ⟨_, _, _, rfl⟩ ⟨_, _, _, rfl⟩ ⟨_, _, _, rfl⟩
  have hgA := gb_alloc (gb_refl w none) (.cells (cmB c (.slice (some ⟨kg, ko, none⟩) c.keys.length kc) (.slice da dn dc) (.slice ma mn mc) lg) 41)
  have hGA := hG.kept hgA (by simp)
  have HNR := Lib.hid hnr
  clear hnr
  go_enter Tryz.func85, Tryz.ntmps85
  go_wp2_with (go_at_call 129; go_must ((with_reducible refine (h21 _ hGA).mono ?_); rintro e w2 ⟨rfl, hg2⟩))
  obtain ⟨W4, hW4⟩ : ∃ W4, (w2.alloc (.cells #[.int .i64 c.verb, .string ⟨#[75]⟩, .string ⟨#[75]⟩, .bool true, .bool false] 151)).alloc (.cells #[sv nm] 9) = W4 := ⟨_, rfl⟩
  have hg4 : w2.grownBy W4 none := by rw [← hW4]; exact gb_alloc (gb_alloc (gb_refl _ none) _) _
  have hgw4 : w.grownBy W4 none := gb_trans (gb_trans hgA hg2) hg4
  have hcb : Box W4 41 w.heap.size (cmB c (.slice (some ⟨kg, ko, none⟩) c.keys.length kc) (.slice da dn dc) (.slice ma mn mc) lg) := ((Box.new w 41 _).kept hg2 (by simp)).kept hg4 (by simp)
  have hrb : Box W4 151 w2.heap.size #[.int .i64 c.verb, .string ⟨#[75]⟩, .string ⟨#[75]⟩, .bool true, .bool false] := by rw [← hW4]; exact (Box.new w2 151 _).kept (gb_alloc (gb_refl _ none) _) (by simp)
  have hs4 : W4.heap.size = w2.heap.size + 1 + 1 := by rw [← hW4]; simp
  have hrow : W4.ownsRow (w2.heap.size + 1) 9 1 (.slice (some ⟨w2.heap.size + 1, 0, none⟩) 1 1) 1 [sv nm] := by
    have hb := Box.new (w2.alloc (.cells #[.int .i64 c.verb, .string ⟨#[75]⟩, .string ⟨#[75]⟩, .bool true, .bool false] 151)) 9 #[sv nm]
    simp only [World.size_alloc] at hb
    rw [hW4] at hb
    exact own_new hb
  have hlt2 : w.heap.size < w2.heap.size := by have := hg2.size; simp at this; omega
  rw [hW4]
  clear hW4
  go_loopw [9, 27] (fun x y wr => w.grownBy wr none ∧ Box wr 41 w.heap.size (cmB c (.slice (some ⟨kg, ko, none⟩) c.keys.length kc) (.slice da dn dc) (.slice ma mn mc) lg) ∧ Box wr 151 w2.heap.size #[.int .i64 c.verb, .string ⟨#[75]⟩, .string ⟨#[75]⟩, .bool true, .bool false] ∧ w2.heap.size + 1 + 1 ≤ wr.heap.size ∧
      ((y = .int .i64 0 ∧ x = .slice (some ⟨w2.heap.size + 1, 0, none⟩) 1 1 ∧ wr.ownsRow (w2.heap.size + 1) 9 1 x 1 [sv nm]) ∨ (y = .int .i64 1 ∧ ∃ g cap, x = .slice (some ⟨g, 0, none⟩) (1 + c.keys.length) cap ∧ wr.ownsRow (w2.heap.size + 1) 9 1 x (1 + c.keys.length) (sv nm :: c.keys.map sv)))) (fun _ y _ => 1 - (intOf y).toNat)
  case atStart => exact ⟨hgw4, hcb, hrb, by omega, .inl ⟨rfl, rfl, hrow⟩⟩
  case round =>
    obtain ⟨hgr, hcr, hrr, hsr, h01⟩ := hrel
    rcases h01 with ⟨rfl, rfl, hw0⟩ | ⟨rfl, g, cap, rfl, hw1⟩
    · go_wp2
      have hix : ∀ h : 0 < (ByteArray.mk #[75]).size, (ByteArray.mk #[75])[0] = 75 := fun _ => rfl
      have gd := gb_drew (gb_refl wr none)
      refine wp_region_noPanic ?_
      refine wp_region_held_drew (S := fun W : World => Box W 41 w.heap.size (cmB c (.slice (some ⟨kg, ko, none⟩) c.keys.length kc) (.slice da dn dc) (.slice ma mn mc) lg) ∧ Box W 151 w2.heap.size #[.int .i64 c.verb, .string ⟨#[75]⟩, .string ⟨#[75]⟩, .bool true, .bool false]) (by kernel_rfl) ⟨hcr.kept gd (by simp), hrr.kept gd (by simp)⟩ (fun hS0 => ?_)
      refine wpAnyH_take (i := 0) (oi := { dst := some 30, op := Op.move (Operand.tmp 9), type := 36, pos := _, after := #[], guard := none }) (v := ?_) rfl (by kernel_rfl) (by kernel_rfl) (by kernel_rfl) (fun _ _ _ h => h) (Or.inl ⟨by rfl, ?_⟩) (by first | trivial | assumption) ?_
      rotate_left 1
      · (intro W hSw; obtain ⟨sB, sP⟩ := hSw; have e0 : W.cell? ⟨w.heap.size, 0, none⟩ = some (.int .i64 c.verb) := sB.cell 0; have e1 : W.cell? ⟨w.heap.size, 1, none⟩ = some (.slice (some ⟨kg, ko, none⟩) c.keys.length kc) := sB.cell 1; have e2 : W.cell? ⟨w.heap.size, 2, none⟩ = some (.int .u64 c.flags) := sB.cell 2; have e3 : W.cell? ⟨w.heap.size, 3, none⟩ = some (.int .i64 c.exp) := sB.cell 3; have e4 : W.cell? ⟨w.heap.size, 4, none⟩ = some (.int .u64 c.tok) := sB.cell 4; have e5 : W.cell? ⟨w.heap.size, 5, none⟩ = some (.int .u64 c.del) := sB.cell 5; have e6 : W.cell? ⟨w.heap.size, 6, none⟩ = some (.slice da dn dc) := sB.cell 6; have e7 : W.cell? ⟨w.heap.size, 7, none⟩ = some (.bool c.nr) := sB.cell 7; have e8 : W.cell? ⟨w.heap.size, 8, none⟩ = some (.bool lg) := sB.cell 8; have e9 : W.cell? ⟨w.heap.size, 9, none⟩ = some (.slice ma mn mc) := sB.cell 9; have e10 : W.cell? ⟨w.heap.size, 10, none⟩ = some (sv c.what) := sB.cell 10; have e11 : W.cell? ⟨w2.heap.size, 1, none⟩ = some (.string ⟨#[75]⟩) := sP.cell 1; go_simp; (try (with_reducible rfl)))
      try simp only [Act.put, List.setIfInBounds_toArray, List.set_cons_zero, List.set_cons_succ]
      refine wpAnyH_take (i := 1) (oi := { dst := some 31, op := Op.load 41 (Operand.tmp 3), type := 41, pos := _, after := #[], guard := none }) (v := ?_) rfl (by kernel_rfl) (by kernel_rfl) (by kernel_rfl) (fun _ _ _ h => h) (Or.inl ⟨by rfl, ?_⟩) (by first | trivial | assumption) ?_
      rotate_left 1
      · (intro W hSw; obtain ⟨sB, sP⟩ := hSw; have e0 : W.cell? ⟨w.heap.size, 0, none⟩ = some (.int .i64 c.verb) := sB.cell 0; have e1 : W.cell? ⟨w.heap.size, 1, none⟩ = some (.slice (some ⟨kg, ko, none⟩) c.keys.length kc) := sB.cell 1; have e2 : W.cell? ⟨w.heap.size, 2, none⟩ = some (.int .u64 c.flags) := sB.cell 2; have e3 : W.cell? ⟨w.heap.size, 3, none⟩ = some (.int .i64 c.exp) := sB.cell 3; have e4 : W.cell? ⟨w.heap.size, 4, none⟩ = some (.int .u64 c.tok) := sB.cell 4; have e5 : W.cell? ⟨w.heap.size, 5, none⟩ = some (.int .u64 c.del) := sB.cell 5; have e6 : W.cell? ⟨w.heap.size, 6, none⟩ = some (.slice da dn dc) := sB.cell 6; have e7 : W.cell? ⟨w.heap.size, 7, none⟩ = some (.bool c.nr) := sB.cell 7; have e8 : W.cell? ⟨w.heap.size, 8, none⟩ = some (.bool lg) := sB.cell 8; have e9 : W.cell? ⟨w.heap.size, 9, none⟩ = some (.slice ma mn mc) := sB.cell 9; have e10 : W.cell? ⟨w.heap.size, 10, none⟩ = some (sv c.what) := sB.cell 10; have e11 : W.cell? ⟨w2.heap.size, 1, none⟩ = some (.string ⟨#[75]⟩) := sP.cell 1; go_simp; (try (with_reducible rfl)))
      try simp only [Act.put, List.setIfInBounds_toArray, List.set_cons_zero, List.set_cons_succ]
      refine wpAnyH_take (i := 2) (oi := { dst := some 32, op := Op.fieldAddr 151 (Operand.tmp 7) 1, type := 0, pos := _, after := #[], guard := none }) (v := ?_) rfl (by kernel_rfl) (by kernel_rfl) (by kernel_rfl) (fun _ _ _ h => h) (Or.inl ⟨by rfl, ?_⟩) (by first | trivial | assumption) ?_
      rotate_left 1
      · (intro W hSw; obtain ⟨sB, sP⟩ := hSw; have e0 : W.cell? ⟨w.heap.size, 0, none⟩ = some (.int .i64 c.verb) := sB.cell 0; have e1 : W.cell? ⟨w.heap.size, 1, none⟩ = some (.slice (some ⟨kg, ko, none⟩) c.keys.length kc) := sB.cell 1; have e2 : W.cell? ⟨w.heap.size, 2, none⟩ = some (.int .u64 c.flags) := sB.cell 2; have e3 : W.cell? ⟨w.heap.size, 3, none⟩ = some (.int .i64 c.exp) := sB.cell 3; have e4 : W.cell? ⟨w.heap.size, 4, none⟩ = some (.int .u64 c.tok) := sB.cell 4; have e5 : W.cell? ⟨w.heap.size, 5, none⟩ = some (.int .u64 c.del) := sB.cell 5; have e6 : W.cell? ⟨w.heap.size, 6, none⟩ = some (.slice da dn dc) := sB.cell 6; have e7 : W.cell? ⟨w.heap.size, 7, none⟩ = some (.bool c.nr) := sB.cell 7; have e8 : W.cell? ⟨w.heap.size, 8, none⟩ = some (.bool lg) := sB.cell 8; have e9 : W.cell? ⟨w.heap.size, 9, none⟩ = some (.slice ma mn mc) := sB.cell 9; have e10 : W.cell? ⟨w.heap.size, 10, none⟩ = some (sv c.what) := sB.cell 10; have e11 : W.cell? ⟨w2.heap.size, 1, none⟩ = some (.string ⟨#[75]⟩) := sP.cell 1; go_simp; (try (with_reducible rfl)))
      try simp only [Act.put, List.setIfInBounds_toArray, List.set_cons_zero, List.set_cons_succ]
      refine wpAnyH_take (i := 3) (oi := { dst := some 33, op := Op.load 9 (Operand.tmp 32), type := 9, pos := _, after := #[{ on := 2, ground := Ground.data }], guard := none }) (v := ?_) rfl (by kernel_rfl) (by kernel_rfl) (by kernel_rfl) (fun _ _ _ h => h) (Or.inl ⟨by rfl, ?_⟩) (by first | trivial | assumption) ?_
      rotate_left 1
      · (intro W hSw; obtain ⟨sB, sP⟩ := hSw; have e0 : W.cell? ⟨w.heap.size, 0, none⟩ = some (.int .i64 c.verb) := sB.cell 0; have e1 : W.cell? ⟨w.heap.size, 1, none⟩ = some (.slice (some ⟨kg, ko, none⟩) c.keys.length kc) := sB.cell 1; have e2 : W.cell? ⟨w.heap.size, 2, none⟩ = some (.int .u64 c.flags) := sB.cell 2; have e3 : W.cell? ⟨w.heap.size, 3, none⟩ = some (.int .i64 c.exp) := sB.cell 3; have e4 : W.cell? ⟨w.heap.size, 4, none⟩ = some (.int .u64 c.tok) := sB.cell 4; have e5 : W.cell? ⟨w.heap.size, 5, none⟩ = some (.int .u64 c.del) := sB.cell 5; have e6 : W.cell? ⟨w.heap.size, 6, none⟩ = some (.slice da dn dc) := sB.cell 6; have e7 : W.cell? ⟨w.heap.size, 7, none⟩ = some (.bool c.nr) := sB.cell 7; have e8 : W.cell? ⟨w.heap.size, 8, none⟩ = some (.bool lg) := sB.cell 8; have e9 : W.cell? ⟨w.heap.size, 9, none⟩ = some (.slice ma mn mc) := sB.cell 9; have e10 : W.cell? ⟨w.heap.size, 10, none⟩ = some (sv c.what) := sB.cell 10; have e11 : W.cell? ⟨w2.heap.size, 1, none⟩ = some (.string ⟨#[75]⟩) := sP.cell 1; go_simp; (try (with_reducible rfl)))
      try simp only [Act.put, List.setIfInBounds_toArray, List.set_cons_zero, List.set_cons_succ]
      refine wpAnyH_take (i := 4) (oi := { dst := some 34, op := Op.move (Operand.tmp 10), type := 3, pos := _, after := #[], guard := none }) (v := ?_) rfl (by kernel_rfl) (by kernel_rfl) (by kernel_rfl) (fun _ _ _ h => h) (Or.inl ⟨by rfl, ?_⟩) (by first | trivial | assumption) ?_
      rotate_left 1
      · (intro W hSw; obtain ⟨sB, sP⟩ := hSw; have e0 : W.cell? ⟨w.heap.size, 0, none⟩ = some (.int .i64 c.verb) := sB.cell 0; have e1 : W.cell? ⟨w.heap.size, 1, none⟩ = some (.slice (some ⟨kg, ko, none⟩) c.keys.length kc) := sB.cell 1; have e2 : W.cell? ⟨w.heap.size, 2, none⟩ = some (.int .u64 c.flags) := sB.cell 2; have e3 : W.cell? ⟨w.heap.size, 3, none⟩ = some (.int .i64 c.exp) := sB.cell 3; have e4 : W.cell? ⟨w.heap.size, 4, none⟩ = some (.int .u64 c.tok) := sB.cell 4; have e5 : W.cell? ⟨w.heap.size, 5, none⟩ = some (.int .u64 c.del) := sB.cell 5; have e6 : W.cell? ⟨w.heap.size, 6, none⟩ = some (.slice da dn dc) := sB.cell 6; have e7 : W.cell? ⟨w.heap.size, 7, none⟩ = some (.bool c.nr) := sB.cell 7; have e8 : W.cell? ⟨w.heap.size, 8, none⟩ = some (.bool lg) := sB.cell 8; have e9 : W.cell? ⟨w.heap.size, 9, none⟩ = some (.slice ma mn mc) := sB.cell 9; have e10 : W.cell? ⟨w.heap.size, 10, none⟩ = some (sv c.what) := sB.cell 10; have e11 : W.cell? ⟨w2.heap.size, 1, none⟩ = some (.string ⟨#[75]⟩) := sP.cell 1; go_simp; (try (with_reducible rfl)))
      try simp only [Act.put, List.setIfInBounds_toArray, List.set_cons_zero, List.set_cons_succ]
      refine wpAnyH_take (i := 5) (oi := { dst := some 35, op := Op.index 9 (Operand.tmp 33) (Operand.tmp 34), type := 5, pos := _, after := #[{ on := 3, ground := Ground.data }, { on := 4, ground := Ground.data }], guard := none }) (v := ?_) rfl (by kernel_rfl) (by kernel_rfl) (by kernel_rfl) (fun _ _ _ h => h) (Or.inl ⟨by rfl, ?_⟩) (by first | trivial | assumption) ?_
      rotate_left 1
      · (intro W hSw; obtain ⟨sB, sP⟩ := hSw; have e0 : W.cell? ⟨w.heap.size, 0, none⟩ = some (.int .i64 c.verb) := sB.cell 0; have e1 : W.cell? ⟨w.heap.size, 1, none⟩ = some (.slice (some ⟨kg, ko, none⟩) c.keys.length kc) := sB.cell 1; have e2 : W.cell? ⟨w.heap.size, 2, none⟩ = some (.int .u64 c.flags) := sB.cell 2; have e3 : W.cell? ⟨w.heap.size, 3, none⟩ = some (.int .i64 c.exp) := sB.cell 3; have e4 : W.cell? ⟨w.heap.size, 4, none⟩ = some (.int .u64 c.tok) := sB.cell 4; have e5 : W.cell? ⟨w.heap.size, 5, none⟩ = some (.int .u64 c.del) := sB.cell 5; have e6 : W.cell? ⟨w.heap.size, 6, none⟩ = some (.slice da dn dc) := sB.cell 6; have e7 : W.cell? ⟨w.heap.size, 7, none⟩ = some (.bool c.nr) := sB.cell 7; have e8 : W.cell? ⟨w.heap.size, 8, none⟩ = some (.bool lg) := sB.cell 8; have e9 : W.cell? ⟨w.heap.size, 9, none⟩ = some (.slice ma mn mc) := sB.cell 9; have e10 : W.cell? ⟨w.heap.size, 10, none⟩ = some (sv c.what) := sB.cell 10; have e11 : W.cell? ⟨w2.heap.size, 1, none⟩ = some (.string ⟨#[75]⟩) := sP.cell 1; go_simp; (try (with_reducible rfl)))
      try simp only [Act.put, List.setIfInBounds_toArray, List.set_cons_zero, List.set_cons_succ]
      refine wpAnyH_ready (rs := [6]) (by kernel_rfl) (by simp) ?_
      refine (AllReadyH.cons rfl (fun K hK => ?_) AllReadyH.nil)
      go_simp
      go_at_call 130
      with_reducible refine (h22 _).mono ?_
      rintro e w5 ⟨rfl, hg5⟩
      try simp only []
      have gd5 := gb_trans gd hg5
      refine hK.out _ _ ⟨hcr.kept gd5 (by simp), hrr.kept gd5 (by simp)⟩ (fun hS1 => ?_)
      clear hK K
      try simp only [Act.put, List.setIfInBounds_toArray, List.set_cons_zero, List.set_cons_succ]
      have hw5 := row_kept hw0 gd5 (by simp)
      have hgw5 := gb_trans hgr gd5
      obtain ⟨i0, hi, hz0, hz1, hz2⟩ := info_parts Tryz.info9
      have hnl : c.keys.length ≠ 0 := fun e => hks (List.length_eq_zero_iff.1 e)
      have hs5 := gd5.size
      refine wpAnyH_ready (rs := [7]) (by kernel_rfl) (by simp) ?_
      refine AllReadyH.cons rfl (fun K hK => ?_) AllReadyH.nil
      refine step_append_lies _ rfl _ _ 36 rfl (w2.heap.size + 1) 9 i0 _ 1 16 Tryz.underlying36 hi hz0 hz1 hz2 rfl (by omega) _ 1 _ (by rfl) hw5 ⟨kg, ko, none⟩ c.keys.length kc (c.keys.map sv) (by rfl) (by simp) ?_ (by intro u hu; simp at hu; obtain ⟨x, _, rfl⟩ := hu; rfl) (by omega) (by unfold maxLen; omega) (by omega) (by omega) _ rfl ?_
      · intro j u hu
        rw [List.getElem?_map] at hu
        cases hj : c.keys[j]? with
        | none => simp [hj] at hu
        | some y => simp [hj] at hu; subst hu; rw [Addr.add_mid]; exact gb_cellN hgw5 (hkc j y hj)
      intro g cap W6 h1 hg6 _ _
      have hne1 : some w.heap.size ≠ (Value.slice (some ⟨w2.heap.size + 1, 0, none⟩) 1 1).ownBlock := fun e => by simp [Value.ownBlock] at e; omega
      have hne2 : some w2.heap.size ≠ (Value.slice (some ⟨w2.heap.size + 1, 0, none⟩) 1 1).ownBlock := fun e => by simp [Value.ownBlock] at e
      have hc6 := (hcr.kept gd5 (by simp)).kept hg6 hne1
      have hr6 := (hrr.kept gd5 (by simp)).kept hg6 hne2
      refine hK.out _ _ ⟨hc6, hr6⟩ (fun hS2 => ?_)
      clear hK K
      try simp only [Act.put, List.setIfInBounds_toArray, List.set_cons_zero, List.set_cons_succ]
      refine wpAnyH_take (i := 8) (oi := { dst := some 9, op := Op.assign (Operand.tmp 37), type := 36, pos := _, after := #[{ on := 7, ground := Ground.data }, { on := 7, ground := Ground.chain }, { on := 0, ground := Ground.phase }, { on := 1, ground := Ground.phase }, { on := 2, ground := Ground.phase }, { on := 3, ground := Ground.phase }, { on := 4, ground := Ground.phase }, { on := 5, ground := Ground.phase }, { on := 6, ground := Ground.phase }, { on := 7, ground := Ground.phase }], guard := none }) (v := ?_) rfl (by kernel_rfl) (by kernel_rfl) (by kernel_rfl) (fun _ _ _ h => h) (Or.inl ⟨by rfl, ?_⟩) (by first | trivial | assumption) ?_
      rotate_left 1
      · (intro W hSw; obtain ⟨sB, sP⟩ := hSw; go_simp; (try (with_reducible rfl)))
      try simp only [Act.put, List.setIfInBounds_toArray, List.set_cons_zero, List.set_cons_succ]
      refine wpAnyH_done (by kernel_rfl) ?_ _
      refine NoPanic.normal ?_
      have hgw6 : w.grownBy W6 none := gb_mine hgw5 (show w5.grownBy W6 (some (w2.heap.size + 1)) from hg6) (by omega)
      have hs6 := hg6.size
      go_wp2
      refine ⟨⟨hgw6, hc6, hr6, by omega, .inr ⟨rfl, g, cap, rfl, h1⟩⟩, by simp [intOf]⟩
    · have y2 : wr.cell? ⟨w2.heap.size, 2, none⟩ = some (.string ⟨#[75]⟩) := hrr.cell 2
      clear hcb hrb hgw4 hs4 hrow hg4
      have hgl : g < wr.heap.size := by obtain ⟨cur, hcur⟩ := row_block hw1 g rfl; exact lt_of_block hcur
      go_wp2
      go_loopw [9, 42] (fun x y wq => w.grownBy wq none ∧ Box wq 41 w.heap.size (cmB c (.slice (some ⟨kg, ko, none⟩) c.keys.length kc) (.slice da dn dc) (.slice ma mn mc) lg) ∧ Box wq 151 w2.heap.size #[.int .i64 c.verb, .string ⟨#[75]⟩, .string ⟨#[75]⟩, .bool true, .bool false] ∧ g < wq.heap.size ∧ x = .slice (some ⟨g, 0, none⟩) (1 + c.keys.length) cap ∧ wq.ownsRow (w2.heap.size + 1) 9 1 (.slice (some ⟨g, 0, none⟩) (1 + c.keys.length) cap) (1 + c.keys.length) (sv nm :: c.keys.map sv) ∧ (y = .int .i64 0 ∨ y = .int .i64 1)) (fun _ y _ => 1 - (intOf y).toNat)
      case atStart => exact ⟨hgr, hcr, hrr, hgl, rfl, hw1, .inl rfl⟩
      case round =>
        clear hgr hcr hrr hw1 hgl y2
        obtain ⟨hgr, hcr, hrr, hgl, rfl, hw, h01⟩ := hrel
        rcases h01 with rfl | rfl
        · go_wp2
          have hix : ∀ h : 0 < (ByteArray.mk #[75]).size, (ByteArray.mk #[75])[0] = 75 := fun _ => rfl
          have gd := gb_drew (gb_refl wr none)
          refine wp_region_noPanic ?_
          refine wp_region_held_drew (S := fun W : World => Box W 41 w.heap.size (cmB c (.slice (some ⟨kg, ko, none⟩) c.keys.length kc) (.slice da dn dc) (.slice ma mn mc) lg) ∧ Box W 151 w2.heap.size #[.int .i64 c.verb, .string ⟨#[75]⟩, .string ⟨#[75]⟩, .bool true, .bool false]) (by kernel_rfl) ⟨hcr.kept gd (by simp), hrr.kept gd (by simp)⟩ (fun hS0 => ?_)
          refine wpAnyH_take (i := 0) (oi := { dst := some 45, op := Op.move (Operand.tmp 9), type := 36, pos := _, after := #[], guard := none }) (v := ?_) rfl (by kernel_rfl) (by kernel_rfl) (by kernel_rfl) (fun _ _ _ h => h) (Or.inl ⟨by rfl, ?_⟩) (by first | trivial | assumption) ?_
          rotate_left 1
          · (intro W hSw; obtain ⟨sB, sP⟩ := hSw; have e0 : W.cell? ⟨w.heap.size, 0, none⟩ = some (.int .i64 c.verb) := sB.cell 0; have e1 : W.cell? ⟨w.heap.size, 1, none⟩ = some (.slice (some ⟨kg, ko, none⟩) c.keys.length kc) := sB.cell 1; have e2 : W.cell? ⟨w.heap.size, 2, none⟩ = some (.int .u64 c.flags) := sB.cell 2; have e3 : W.cell? ⟨w.heap.size, 3, none⟩ = some (.int .i64 c.exp) := sB.cell 3; have e4 : W.cell? ⟨w.heap.size, 4, none⟩ = some (.int .u64 c.tok) := sB.cell 4; have e5 : W.cell? ⟨w.heap.size, 5, none⟩ = some (.int .u64 c.del) := sB.cell 5; have e6 : W.cell? ⟨w.heap.size, 6, none⟩ = some (.slice da dn dc) := sB.cell 6; have e7 : W.cell? ⟨w.heap.size, 7, none⟩ = some (.bool c.nr) := sB.cell 7; have e8 : W.cell? ⟨w.heap.size, 8, none⟩ = some (.bool lg) := sB.cell 8; have e9 : W.cell? ⟨w.heap.size, 9, none⟩ = some (.slice ma mn mc) := sB.cell 9; have e10 : W.cell? ⟨w.heap.size, 10, none⟩ = some (sv c.what) := sB.cell 10; have e11 : W.cell? ⟨w2.heap.size, 2, none⟩ = some (.string ⟨#[75]⟩) := sP.cell 2; go_simp; (try (with_reducible rfl)))
          try simp only [Act.put, List.setIfInBounds_toArray, List.set_cons_zero, List.set_cons_succ]
          refine wpAnyH_take (i := 1) (oi := { dst := some 46, op := Op.load 41 (Operand.tmp 3), type := 41, pos := _, after := #[], guard := none }) (v := ?_) rfl (by kernel_rfl) (by kernel_rfl) (by kernel_rfl) (fun _ _ _ h => h) (Or.inl ⟨by rfl, ?_⟩) (by first | trivial | assumption) ?_
          rotate_left 1
          · (intro W hSw; obtain ⟨sB, sP⟩ := hSw; have e0 : W.cell? ⟨w.heap.size, 0, none⟩ = some (.int .i64 c.verb) := sB.cell 0; have e1 : W.cell? ⟨w.heap.size, 1, none⟩ = some (.slice (some ⟨kg, ko, none⟩) c.keys.length kc) := sB.cell 1; have e2 : W.cell? ⟨w.heap.size, 2, none⟩ = some (.int .u64 c.flags) := sB.cell 2; have e3 : W.cell? ⟨w.heap.size, 3, none⟩ = some (.int .i64 c.exp) := sB.cell 3; have e4 : W.cell? ⟨w.heap.size, 4, none⟩ = some (.int .u64 c.tok) := sB.cell 4; have e5 : W.cell? ⟨w.heap.size, 5, none⟩ = some (.int .u64 c.del) := sB.cell 5; have e6 : W.cell? ⟨w.heap.size, 6, none⟩ = some (.slice da dn dc) := sB.cell 6; have e7 : W.cell? ⟨w.heap.size, 7, none⟩ = some (.bool c.nr) := sB.cell 7; have e8 : W.cell? ⟨w.heap.size, 8, none⟩ = some (.bool lg) := sB.cell 8; have e9 : W.cell? ⟨w.heap.size, 9, none⟩ = some (.slice ma mn mc) := sB.cell 9; have e10 : W.cell? ⟨w.heap.size, 10, none⟩ = some (sv c.what) := sB.cell 10; have e11 : W.cell? ⟨w2.heap.size, 2, none⟩ = some (.string ⟨#[75]⟩) := sP.cell 2; go_simp; (try (with_reducible rfl)))
          try simp only [Act.put, List.setIfInBounds_toArray, List.set_cons_zero, List.set_cons_succ]
          refine wpAnyH_take (i := 2) (oi := { dst := some 47, op := Op.fieldAddr 151 (Operand.tmp 7) 2, type := 0, pos := _, after := #[], guard := none }) (v := ?_) rfl (by kernel_rfl) (by kernel_rfl) (by kernel_rfl) (fun _ _ _ h => h) (Or.inl ⟨by rfl, ?_⟩) (by first | trivial | assumption) ?_
          rotate_left 1
          · (intro W hSw; obtain ⟨sB, sP⟩ := hSw; have e0 : W.cell? ⟨w.heap.size, 0, none⟩ = some (.int .i64 c.verb) := sB.cell 0; have e1 : W.cell? ⟨w.heap.size, 1, none⟩ = some (.slice (some ⟨kg, ko, none⟩) c.keys.length kc) := sB.cell 1; have e2 : W.cell? ⟨w.heap.size, 2, none⟩ = some (.int .u64 c.flags) := sB.cell 2; have e3 : W.cell? ⟨w.heap.size, 3, none⟩ = some (.int .i64 c.exp) := sB.cell 3; have e4 : W.cell? ⟨w.heap.size, 4, none⟩ = some (.int .u64 c.tok) := sB.cell 4; have e5 : W.cell? ⟨w.heap.size, 5, none⟩ = some (.int .u64 c.del) := sB.cell 5; have e6 : W.cell? ⟨w.heap.size, 6, none⟩ = some (.slice da dn dc) := sB.cell 6; have e7 : W.cell? ⟨w.heap.size, 7, none⟩ = some (.bool c.nr) := sB.cell 7; have e8 : W.cell? ⟨w.heap.size, 8, none⟩ = some (.bool lg) := sB.cell 8; have e9 : W.cell? ⟨w.heap.size, 9, none⟩ = some (.slice ma mn mc) := sB.cell 9; have e10 : W.cell? ⟨w.heap.size, 10, none⟩ = some (sv c.what) := sB.cell 10; have e11 : W.cell? ⟨w2.heap.size, 2, none⟩ = some (.string ⟨#[75]⟩) := sP.cell 2; go_simp; (try (with_reducible rfl)))
          try simp only [Act.put, List.setIfInBounds_toArray, List.set_cons_zero, List.set_cons_succ]
          refine wpAnyH_take (i := 3) (oi := { dst := some 48, op := Op.load 9 (Operand.tmp 47), type := 9, pos := _, after := #[{ on := 2, ground := Ground.data }], guard := none }) (v := ?_) rfl (by kernel_rfl) (by kernel_rfl) (by kernel_rfl) (fun _ _ _ h => h) (Or.inl ⟨by rfl, ?_⟩) (by first | trivial | assumption) ?_
          rotate_left 1
          · (intro W hSw; obtain ⟨sB, sP⟩ := hSw; have e0 : W.cell? ⟨w.heap.size, 0, none⟩ = some (.int .i64 c.verb) := sB.cell 0; have e1 : W.cell? ⟨w.heap.size, 1, none⟩ = some (.slice (some ⟨kg, ko, none⟩) c.keys.length kc) := sB.cell 1; have e2 : W.cell? ⟨w.heap.size, 2, none⟩ = some (.int .u64 c.flags) := sB.cell 2; have e3 : W.cell? ⟨w.heap.size, 3, none⟩ = some (.int .i64 c.exp) := sB.cell 3; have e4 : W.cell? ⟨w.heap.size, 4, none⟩ = some (.int .u64 c.tok) := sB.cell 4; have e5 : W.cell? ⟨w.heap.size, 5, none⟩ = some (.int .u64 c.del) := sB.cell 5; have e6 : W.cell? ⟨w.heap.size, 6, none⟩ = some (.slice da dn dc) := sB.cell 6; have e7 : W.cell? ⟨w.heap.size, 7, none⟩ = some (.bool c.nr) := sB.cell 7; have e8 : W.cell? ⟨w.heap.size, 8, none⟩ = some (.bool lg) := sB.cell 8; have e9 : W.cell? ⟨w.heap.size, 9, none⟩ = some (.slice ma mn mc) := sB.cell 9; have e10 : W.cell? ⟨w.heap.size, 10, none⟩ = some (sv c.what) := sB.cell 10; have e11 : W.cell? ⟨w2.heap.size, 2, none⟩ = some (.string ⟨#[75]⟩) := sP.cell 2; go_simp; (try (with_reducible rfl)))
          try simp only [Act.put, List.setIfInBounds_toArray, List.set_cons_zero, List.set_cons_succ]
          refine wpAnyH_take (i := 4) (oi := { dst := some 49, op := Op.move (Operand.tmp 11), type := 3, pos := _, after := #[], guard := none }) (v := ?_) rfl (by kernel_rfl) (by kernel_rfl) (by kernel_rfl) (fun _ _ _ h => h) (Or.inl ⟨by rfl, ?_⟩) (by first | trivial | assumption) ?_
          rotate_left 1
          · (intro W hSw; obtain ⟨sB, sP⟩ := hSw; have e0 : W.cell? ⟨w.heap.size, 0, none⟩ = some (.int .i64 c.verb) := sB.cell 0; have e1 : W.cell? ⟨w.heap.size, 1, none⟩ = some (.slice (some ⟨kg, ko, none⟩) c.keys.length kc) := sB.cell 1; have e2 : W.cell? ⟨w.heap.size, 2, none⟩ = some (.int .u64 c.flags) := sB.cell 2; have e3 : W.cell? ⟨w.heap.size, 3, none⟩ = some (.int .i64 c.exp) := sB.cell 3; have e4 : W.cell? ⟨w.heap.size, 4, none⟩ = some (.int .u64 c.tok) := sB.cell 4; have e5 : W.cell? ⟨w.heap.size, 5, none⟩ = some (.int .u64 c.del) := sB.cell 5; have e6 : W.cell? ⟨w.heap.size, 6, none⟩ = some (.slice da dn dc) := sB.cell 6; have e7 : W.cell? ⟨w.heap.size, 7, none⟩ = some (.bool c.nr) := sB.cell 7; have e8 : W.cell? ⟨w.heap.size, 8, none⟩ = some (.bool lg) := sB.cell 8; have e9 : W.cell? ⟨w.heap.size, 9, none⟩ = some (.slice ma mn mc) := sB.cell 9; have e10 : W.cell? ⟨w.heap.size, 10, none⟩ = some (sv c.what) := sB.cell 10; have e11 : W.cell? ⟨w2.heap.size, 2, none⟩ = some (.string ⟨#[75]⟩) := sP.cell 2; go_simp; (try (with_reducible rfl)))
          try simp only [Act.put, List.setIfInBounds_toArray, List.set_cons_zero, List.set_cons_succ]
          refine wpAnyH_take (i := 5) (oi := { dst := some 50, op := Op.index 9 (Operand.tmp 48) (Operand.tmp 49), type := 5, pos := _, after := #[{ on := 3, ground := Ground.data }, { on := 4, ground := Ground.data }], guard := none }) (v := ?_) rfl (by kernel_rfl) (by kernel_rfl) (by kernel_rfl) (fun _ _ _ h => h) (Or.inl ⟨by rfl, ?_⟩) (by first | trivial | assumption) ?_
          rotate_left 1
          · (intro W hSw; obtain ⟨sB, sP⟩ := hSw; have e0 : W.cell? ⟨w.heap.size, 0, none⟩ = some (.int .i64 c.verb) := sB.cell 0; have e1 : W.cell? ⟨w.heap.size, 1, none⟩ = some (.slice (some ⟨kg, ko, none⟩) c.keys.length kc) := sB.cell 1; have e2 : W.cell? ⟨w.heap.size, 2, none⟩ = some (.int .u64 c.flags) := sB.cell 2; have e3 : W.cell? ⟨w.heap.size, 3, none⟩ = some (.int .i64 c.exp) := sB.cell 3; have e4 : W.cell? ⟨w.heap.size, 4, none⟩ = some (.int .u64 c.tok) := sB.cell 4; have e5 : W.cell? ⟨w.heap.size, 5, none⟩ = some (.int .u64 c.del) := sB.cell 5; have e6 : W.cell? ⟨w.heap.size, 6, none⟩ = some (.slice da dn dc) := sB.cell 6; have e7 : W.cell? ⟨w.heap.size, 7, none⟩ = some (.bool c.nr) := sB.cell 7; have e8 : W.cell? ⟨w.heap.size, 8, none⟩ = some (.bool lg) := sB.cell 8; have e9 : W.cell? ⟨w.heap.size, 9, none⟩ = some (.slice ma mn mc) := sB.cell 9; have e10 : W.cell? ⟨w.heap.size, 10, none⟩ = some (sv c.what) := sB.cell 10; have e11 : W.cell? ⟨w2.heap.size, 2, none⟩ = some (.string ⟨#[75]⟩) := sP.cell 2; go_simp; (try (with_reducible rfl)))
          try simp only [Act.put, List.setIfInBounds_toArray, List.set_cons_zero, List.set_cons_succ]
          refine wpAnyH_ready (rs := [6]) (by kernel_rfl) (by simp) ?_
          refine (AllReadyH.cons rfl (fun K hK => ?_) AllReadyH.nil)
          go_simp
          go_at_call 131
          with_reducible refine (h23 _).mono ?_
          rintro e w5 ⟨rfl, hg5⟩
          try simp only []
          have gd5 := gb_trans gd hg5
          refine hK.out _ _ ⟨hcr.kept gd5 (by simp), hrr.kept gd5 (by simp)⟩ (fun hS1 => ?_)
          clear hK K
          try simp only [Act.put, List.setIfInBounds_toArray, List.set_cons_zero, List.set_cons_succ]
          have hw5 := row_kept hw gd5 (by simp)
          have hgw5 := gb_trans hgr gd5
          have hs5 := gd5.size
          have hcap : 1 + c.keys.length ≤ cap := by obtain ⟨ao', cp', h1, _, h2, _⟩ := row_shape hw; injection h1 with _ _ h3; omega
          refine wpAnyH_ready (rs := [7]) (by kernel_rfl) (by simp) ?_
          refine AllReadyH.cons rfl (fun K hK => ?_) AllReadyH.nil
          go_simp
          refine hK.out _ _ ⟨hcr.kept gd5 (by simp), hrr.kept gd5 (by simp)⟩ (fun hS2 => ?_)
          clear hK K
          try simp only [Act.put, List.setIfInBounds_toArray, List.set_cons_zero, List.set_cons_succ]
          refine wpAnyH_take (i := 8) (oi := { dst := some 9, op := Op.assign (Operand.tmp 52), type := 36, pos := _, after := #[{ on := 7, ground := Ground.data }, { on := 7, ground := Ground.chain }, { on := 0, ground := Ground.phase }, { on := 1, ground := Ground.phase }, { on := 2, ground := Ground.phase }, { on := 3, ground := Ground.phase }, { on := 4, ground := Ground.phase }, { on := 5, ground := Ground.phase }, { on := 6, ground := Ground.phase }, { on := 7, ground := Ground.phase }], guard := none }) (v := ?_) rfl (by kernel_rfl) (by kernel_rfl) (by kernel_rfl) (fun _ _ _ h => h) (Or.inl ⟨by rfl, ?_⟩) (by first | trivial | assumption) ?_
          rotate_left 1
          · (intro W hSw; obtain ⟨sB, sP⟩ := hSw; go_simp; (try (with_reducible rfl)))
          try simp only [Act.put, List.setIfInBounds_toArray, List.set_cons_zero, List.set_cons_succ]
          refine wpAnyH_done (by kernel_rfl) ?_ _
          refine NoPanic.normal ?_
          go_wp2
          refine ⟨⟨hgw5, hcr.kept gd5 (by simp), hrr.kept gd5 (by simp), by omega, rfl, hw5, .inr rfl⟩, by simp [intOf]⟩
        · have y7 : wr.cell? ⟨w.heap.size, 7, none⟩ = some (.bool c.nr) := hcr.cell 7
          rw [HNR.out] at y7
          have h24 := join_24 g 0 cap (nm :: c.keys) wr hgl (by simp; omega) (by obtain ⟨ao', cp', h1, _, h2, _⟩ := row_shape hw; injection h1 with _ _ h3; simp; omega) (fun i x hx => by rw [Nat.zero_add]; exact row_cell hw i _ (by rw [show sv nm :: c.keys.map sv = (nm :: c.keys).map sv from rfl, List.getElem?_map, hx]; rfl)) hl
          rw [show (nm :: c.keys).length = 1 + c.keys.length by simp; omega] at h24
          go_wp2_with (go_at_call 132; go_must ((with_reducible refine h24.mono ?_); rintro e w9 ⟨rfl, hg9⟩))
          go_ret2
          exact ⟨rfl, gb_trans hgr hg9⟩
end Go.Proofs.YtbbocbdoiealoaaGreatDoor

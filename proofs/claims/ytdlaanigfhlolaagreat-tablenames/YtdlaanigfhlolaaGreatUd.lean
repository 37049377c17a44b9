import Derived.Test.YtdlaanigfhlolaaGreatUc
/-
  The first Put; a Find behind it; New.
-/
namespace Go.Proofs.YtdlaanigfhlolaaGreat
open Go.RowKit
set_option linter.unusedVariables false

section
variable {w : World} {tb hb sb : Nat} {mo it bu mv st : Int} {hs : List Nat} {F : Nat → Prop} {B : Bl} {b c d e f g : Int} {A : Ab} {zs : List Int}

theorem field120_2 (x y z : Value) (w : World) : (Instr.field 120 (.agg #[x, y, z]) 2).run Tryz.prog w = .ok z w := by kernel_rfl
theorem IsT.items (h : IsT w tb hb sb mo it bu mv st hs) (v : Int) : IsT (w.setCell ⟨tb, 2, none⟩ (.int .i64 v)) tb hb sb mo v bu mv st hs := by
  refine ⟨h.box.set 2 _, ?_, h.len⟩
  rw [heap_setCell_other _ _ _ _ h.ne]
  exact h.hd

set_option maxRecDepth 100000 in
set_option maxHeartbeats 1000000 in
theorem put1 (hT : IsT w tb hb sb mo 0 16 0 st hs) (h : IsS w sb F B b c d e f g A zs) (hA : Fit2 A) {H p k : Nat} (hH : IsH A H p k) (t : It) (hI : IsI zs (A.place p k) t) (hfit : 58 + t.key.length + t.val.length ≤ A.sz (A.own p)) (ht : ¬ F tb) (hh : ¬ F hb) (h0 : hs.getD (sumB t.key % hs.length) 0 = 0) (hmo : 16 ≤ mo) :
    Calls Tryz.prog 56 #[.pointer (some ⟨tb, 0, none⟩), .int .u64 H] w fun y w' => y = .returned (.int .i64 0) ∧ Kp (fun k => F k ∨ k = hb ∨ k = tb) w w' ∧ IsS w' sb F B b c d e f g A (lay zs (A.place p k) (be 4 0)) ∧ IsT w' tb hb sb mo 1 16 0 st (hs.set (sumB t.key % hs.length) H) := by
  have hk1 := hI.k1
  have hky := key_yes hT h hA hH t hI hfit
  have hsk := fun W (hf : w.grownBy W none) g (hy : Has W (some ⟨g, 0, none⟩) t.key.length t.key) => seek0 (c := t.key.length) (hT.kept0 hf) hy hI.kb (by omega)
  have hmod := Nat.mod_lt (sumB t.key) hT.len.1
  have hhg := fun W (hf : w.grownBy W none) => (hang0 (hT.kept0 hf) (h.kept0 hf) hA hH t hI ht hh hmod h0).mono (R' := fun y w' => y = .returned (.tuple #[]) ∧ w'.cell? ⟨tb, 2, none⟩ = some (.int .i64 0) ∧ w'.cell? ⟨tb, 3, none⟩ = some (.int .i64 16) ∧ w'.frozen? ⟨tb, 2, none⟩ = false ∧ Hid (Kp (fun k => F k ∨ k = hb) w w' ∧ IsS w' sb F B b c d e f g A (lay zs (A.place p k) (be 4 0)) ∧ IsT w' tb hb sb mo 0 16 0 st (hs.set (sumB t.key % hs.length) H))) (by
    rintro y w' ⟨rfl, h1, h2, h3⟩
    exact ⟨rfl, h3.box.cell 2, h3.box.cell 3, h3.box.fz 2, (Kp.of hf).trans h1 (fun _ h => h) (fun i hi => .inl hi), h2, h3⟩)
  have hkz : decide ((t.key.length : Int) = 0) = false := decide_eq_false (by omega)
  have hkz2 : ((t.key.length : Int) == 0) = false := beq_eq_false_iff_ne.2 (by omega)
  have htF : Hid (¬ F tb ∧ hb ≠ tb) := ⟨ht, hT.ne⟩
  clear hT h hH hI
  generalize sumB t.key % hs.length = r at *
  generalize hkl : t.key.length = kl at *
  go_enter Tryz.func56, Tryz.ntmps56
  go_wp2_with (first | (go_at_call 77; go_must (refine hky.mono ?_); rintro y w1 ⟨g1, rfl, hg1, hf1, hy1⟩) | (go_at_call 64; go_must (refine (hsk _ hf1 g1 hy1).mono ?_); rintro y w2 ⟨rfl, hf2⟩; (have hf12 := gb_alloc (gb_trans hf1 hf2) (.cells #[.pointer (some ⟨hb, r, none⟩), .int .u64 0, .int .u64 0] 120))) | (go_at_call 109; go_must (refine (hhg _ hf12).mono ?_); rintro y w3 ⟨rfl, d2, d3, d4, hE⟩) | fail)
  have hE4 : Hid (Kp (fun k => F k ∨ k = hb ∨ k = tb) w (w3.setCell ⟨tb, 2, none⟩ (.int .i64 1)) ∧ IsS (w3.setCell ⟨tb, 2, none⟩ (.int .i64 1)) sb F B b c d e f g A (lay zs (A.place p k) (be 4 0)) ∧ IsT (w3.setCell ⟨tb, 2, none⟩ (.int .i64 1)) tb hb sb mo 1 16 0 st (hs.set r H)) := by
    obtain ⟨h1, h2, h3⟩ := hE.out
    have hK : Kp (fun k => k = tb) w3 (w3.setCell ⟨tb, 2, none⟩ (.int .i64 1)) := (Kp.refl (fun k => k = tb) w3).step (gb_setCell (gb_refl _ _) _) (fun i hi => .inl (by simpa using hi.symm))
    exact ⟨h1.trans hK (fun i hi => hi.elim .inl (fun e => .inr (.inl e))) (fun i hi => .inl (.inr (.inr hi))), h2.kept hK (fun k hk e => htF.out.1 (e ▸ hk)), h3.items 1⟩
  have q2 : (w3.setCell ⟨tb, 2, none⟩ (.int .i64 1)).cell? ⟨tb, 2, none⟩ = some (.int .i64 1) := hE4.out.2.2.box.cell 2
  have q3 : (w3.setCell ⟨tb, 2, none⟩ (.int .i64 1)).cell? ⟨tb, 3, none⟩ = some (.int .i64 16) := hE4.out.2.2.box.cell 3
  generalize w3.setCell ⟨tb, 2, none⟩ (.int .i64 1) = W4 at *
  go_quiet (fail)
  have hE5 : Hid (Kp (fun k => F k ∨ k = hb ∨ k = tb) w (W4.drewN nq) ∧ IsS (W4.drewN nq) sb F B b c d e f g A (lay zs (A.place p k) (be 4 0)) ∧ IsT (W4.drewN nq) tb hb sb mo 1 16 0 st (hs.set r H)) := by
    obtain ⟨h1, h2, h3⟩ := hE4.out
    have hf := gb_drewN (gb_refl W4 none) nq
    exact ⟨h1.step hf (by simp), h2.kept0 hf, h3.kept0 hf⟩
  go_wp2
  go_ret
  exact ⟨rfl, hE5.out⟩

set_option maxRecDepth 100000 in
theorem find1 (hT : IsT w tb hb sb mo 1 bu mv st hs) (h : IsS w sb F B b c d e f g A zs) (hA : Fit2 A) {H p k : Nat} (hH : IsH A H p k) (t : It) (hI : IsI zs (A.place p k) t) (hfit : 58 + t.key.length + t.val.length ≤ A.sz (A.own p)) {a : Option Addr} {n cp : Nat} (hy : Has w a n t.key) (hn : n ≤ 281474976710656) (hd : hs.getD (sumB t.key % hs.length) 0 = H) (hH0 : 0 < H) :
    Calls Tryz.prog 24 #[.pointer (some ⟨tb, 0, none⟩), .slice a n cp] w fun y w' => y = .returned (.tuple #[.int .u64 H, .bool true]) ∧ w.grownBy w' none := by
  have hsk := seek1 hT h hA hH t hI hfit (cp := cp) hy hn hd hH0
  generalize sumB t.key % hs.length = r at *
  have hHz : ((H : Int) == 0) = false := beq_eq_false_iff_ne.2 (by omega)
  have hfd := field120_2
  have hHn : ((H : Int) != 0) = true := bne_iff_ne.2 (by omega)
  clear hT h hH hI hy hd
  go_enter Tryz.func24, Tryz.ntmps24
  go_wp2_with (first | (go_at_call 64; go_must (refine hsk.mono ?_); rintro y w1 ⟨rfl, hf1⟩) | fail)
  go_ret2
  exact ⟨rfl, hf1⟩
theorem len_any2 (hT : IsT w tb hb sb mo it bu mv st hs) : Calls Tryz.prog 25 #[.pointer (some ⟨tb, 0, none⟩)] w fun y w' => y = .returned (.int .i64 it) ∧ w = w' := by
  have c2 := hT.box.cell 2
  simp [tabC] at c2
  clear hT
  go_enter Tryz.func25, Tryz.ntmps25
  go_wp2
  go_ret
  exact ⟨rfl, rfl⟩

set_option maxRecDepth 100000 in
theorem chunksOf_any (h : IsS w sb F B b c d e f g A zs) (hA : Szs A) : Calls Tryz.prog 115 #[.pointer (some ⟨sb, 0, none⟩)] w fun y w' => y = .returned (.int .i64 (A.m * (A.ps / A.sz 0) : Nat)) ∧ w.grownBy w' none := by
  have hcf := fun W (hf : w.grownBy W none) => config_22 (h.kept0 hf)
  have hck := fun W (hf : w.grownBy W none) => chunk_yes (h.kept0 hf) hA 0 hA.n1
  have hbm := h.bm
  rw [hbm] at hcf
  have hlo := hA.lo 0 hA.n1
  have hm2 := hA.mm.2
  have hps := hA.ps0
  have hq : A.ps / A.sz 0 ≤ 1048576 := by have := Nat.div_le_self A.ps (A.sz 0); omega
  have hmul : A.m * (A.ps / A.sz 0) ≤ 1024 * 1048576 := Nat.mul_le_mul hm2 hq
  clear h hbm
  have hne : ¬ ((A.sz 0 : Int) = 0) := by omega
  have hne2 : ((A.sz 0 : Int) == 0) = false := beq_eq_false_iff_ne.2 (by omega)
  have hquo : (A.ps : Int).tdiv (A.sz 0) = ((A.ps / A.sz 0 : Nat) : Int) := by rw [Int.tdiv_eq_ediv_of_nonneg (by omega)]; simp
  have hquo2 : (A.ps : Int) / (A.sz 0) = ((A.ps / A.sz 0 : Nat) : Int) := by simp
  generalize A.ps / A.sz 0 = q at *
  generalize A.ps = ps at *
  generalize A.sz 0 = s at *
  have hmi : (A.m : Int) * (q : Int) = ((A.m * q : Nat) : Int) := by simp
  generalize A.m = m at *
  obtain ⟨mq, hmq⟩ : ∃ mq, mq = m * q := ⟨_, rfl⟩
  rw [← hmq] at hmi hmul ⊢
  clear hmq
  have hwr : IntKind.i64.wrap (mq : Int) = mq := by rw [IntKind.wrap_i64]; omega
  unfold cfgV at hcf
  go_enter Tryz.func115, Tryz.ntmps115
  go_wp2_with (first | (go_at_call 143; go_must (refine (hcf _ (gb_refl _ _)).mono ?_); rintro y w1 ⟨rfl, hf1⟩) | (go_at_call 131; go_must (refine (hck _ hf1).mono ?_); rintro y w2 ⟨rfl, hf2⟩) | fail)
  have hb2 := Box.new w2 76 #[.int .i64 ps, .int .i64 m, .int .i64 c, .int .i64 d, .int .i64 e, .int .i64 f, .int .i64 g]
  have hf3 : w.grownBy (w2.alloc (.cells #[.int .i64 ps, .int .i64 m, .int .i64 c, .int .i64 d, .int .i64 e, .int .i64 f, .int .i64 g] 76)) none := gb_alloc (gb_trans hf1 hf2) _
  generalize w2.alloc (.cells #[.int .i64 ps, .int .i64 m, .int .i64 c, .int .i64 d, .int .i64 e, .int .i64 f, .int .i64 g] 76) = W3 at *
  have z0 := hb2.cell 0
  have z1 := hb2.cell 1
  simp at z0 z1
  go_quiet (fail)
  go_wp2
  go_ret
  exact ⟨rfl, gb_drewN hf3 _⟩

set_option maxRecDepth 100000 in
theorem mostOf_any (h : IsS w sb F B b c d e f g A zs) (hA : Szs A) : Calls Tryz.prog 70 #[.pointer (some ⟨sb, 0, none⟩)] w fun y w' => ∃ mo : Nat, y = .returned (.int .i64 mo) ∧ 16 ≤ mo ∧ w.grownBy w' none := by
  have hck := fun W (hf : w.grownBy W none) => chunksOf_any (h.kept0 hf) hA
  have hm2 := hA.mm.2
  have hps := hA.ps0
  have hq : A.ps / A.sz 0 ≤ 1048576 := by have := Nat.div_le_self A.ps (A.sz 0); omega
  have hmul : A.m * (A.ps / A.sz 0) ≤ 1024 * 1048576 := Nat.mul_le_mul hm2 hq
  generalize A.m * (A.ps / A.sz 0) = mq at *
  obtain ⟨lim, hl, hl2⟩ : ∃ lim : Nat, min (1048576 : Int) (4 * (mq : Int)) = lim ∧ lim ≤ 1048576 := ⟨min 1048576 (4 * mq), by omega, by omega⟩
  have hl3 : (if 4 * (mq : Int) < 1048576 then 4 * (mq : Int) else 1048576) = lim := by split <;> omega
  have hl4 : (if (1048576 : Int) < 4 * (mq : Int) then 1048576 else 4 * (mq : Int)) = lim := by split <;> omega
  have hl5 : (if (1048576 : Int) ≤ 4 * (mq : Int) then 1048576 else 4 * (mq : Int)) = lim := by split <;> omega
  have hwr : IntKind.i64.wrap (4 * (mq : Int)) = 4 * mq := by rw [IntKind.wrap_i64]; omega
  clear h
  go_enter Tryz.func70, Tryz.ntmps70
  go_wp2_with (first | (go_at_call 115; go_must (refine (hck _ (gb_refl _ _)).mono ?_); rintro y w1 ⟨rfl, hf1⟩) | fail)
  go_loopw [4] (fun v wr => ∃ m : Nat, v = .int .i64 m ∧ 16 ≤ m ∧ m ≤ 1048576 ∧ w1 = wr) (fun v _ => lim - (intOf v).toNat)
  case atStart => exact ⟨16, rfl, by omega, by omega, rfl⟩
  case round =>
    obtain ⟨m, rfl, hm16, hm20, rfl⟩ := hrel
    by_cases hlt : 2 * m ≤ lim
    · have hd : decide (2 * (m : Int) ≤ lim) = true := decide_eq_true (by omega)
      go_wp2
      go_roundw
      case rel => exact ⟨2 * m, congrArg (Value.int .i64) (show (m : Int) * 2 = ((2 * m : Nat) : Int) by omega), by omega, by omega, by first | rfl | trivial⟩
      case measure => simp [intOf]; omega
    · have hd : decide (2 * (m : Int) ≤ lim) = false := decide_eq_false (by omega)
      go_wp2
      go_ret
      exact ⟨m, rfl, hm16, hf1⟩

theorem run_make_heads (w : World) : (Instr.makeSlice 55 (.int .i64 16) (.int .i64 16)).run Tryz.prog w = .ok (.slice (some ⟨w.heap.size, 0, none⟩) 16 16) (w.alloc (.cells (u64s (List.replicate 16 0)).toArray 60)) := by kernel_rfl

set_option maxRecDepth 100000 in
set_option maxHeartbeats 1000000 in
theorem tnew_ok (h : IsS w sb F B b c d e f g A zs) (hA : Szs A) : Calls Tryz.prog 29 #[.pointer (some ⟨sb, 0, none⟩)] w fun y w' => ∃ (tb hb mo : Nat), y = .returned (.tuple #[.pointer (some ⟨tb, 0, none⟩), .int .i64 0]) ∧ w.grownBy w' none ∧ w.heap.size ≤ tb ∧ w.heap.size ≤ hb ∧ 16 ≤ mo ∧ IsT w' tb hb sb mo 0 16 0 2 (List.replicate 16 0) := by
  have hmo := fun W (hf : w.grownBy W none) => mostOf_any (h.kept0 hf) hA
  have hmk := run_make_heads
  obtain ⟨hds, hhd⟩ : ∃ hds, hds = (u64s (List.replicate 16 0)).toArray := ⟨_, rfl⟩
  have HH : Hid (hds = (u64s (List.replicate 16 0)).toArray) := hhd
  rw [← hhd] at hmk
  clear h hhd
  go_enter Tryz.func29, Tryz.ntmps29
  go_wp2
  go_region_law ((go_simp; go_at_call 70; refine (hmo _ (by first | exact gb_drew (gb_refl _ _) | exact gb_alloc (gb_drew (gb_refl _ _)) _ | exact gb_drew (gb_alloc (gb_refl _ _) _) | exact gb_refl _ _)).mono ?_; rintro y w1 ⟨mo, rfl, hm, hf1⟩))
  · have hs1 : w.heap.size ≤ w1.heap.size := hf1.size
    go_wp2
    go_ret2
    refine ⟨w1.heap.size + 1, w1.heap.size, mo, rfl, gb_alloc (gb_alloc (gb_trans (gb_drew (gb_refl _ _)) hf1) _) _, by omega, hs1, hm, ⟨?_, ?_, by simp⟩⟩
    · have hbx := Box.new (w1.alloc (.cells hds 60)) 111 #[.pointer (some ⟨sb, 0, none⟩), .int .i64 mo, .int .i64 0, .int .i64 16, .int .i64 0, .int .i64 2, .slice (some ⟨w1.heap.size, 0, none⟩) 16 16, .slice none 0 0]
      rw [World.size_alloc] at hbx
      exact hbx
    · rw [← HH.out]
      exact heap_alloc2_old w1 _ _
  · have hs1 := hf1.size
    have hs2 : w.heap.size + 1 ≤ w1.heap.size := by simpa using hs1
    go_wp2
    go_ret2
    refine ⟨w1.heap.size, w.heap.size, mo, rfl, gb_alloc (gb_trans (gb_drew (gb_alloc (gb_refl _ _) _)) hf1) _, by omega, Nat.le_refl _, hm, ⟨?_, ?_, by simp⟩⟩
    · exact Box.new w1 111 #[.pointer (some ⟨sb, 0, none⟩), .int .i64 mo, .int .i64 0, .int .i64 16, .int .i64 0, .int .i64 2, .slice (some ⟨w.heap.size, 0, none⟩) 16 16, .slice none 0 0]
    · rw [← HH.out]
      have h1 := hf1.block w.heap.size (by simp) (by simp)
      have h2 := (World.grownBy_alloc w1 (.cells #[.pointer (some ⟨sb, 0, none⟩), .int .i64 mo, .int .i64 0, .int .i64 16, .int .i64 0, .int .i64 2, .slice (some ⟨w.heap.size, 0, none⟩) 16 16, .slice none 0 0] 111) none).block w.heap.size (by omega) (by simp)
      rw [h2, h1]
      exact heap_alloc_new w _

theorem tnew_nil (w : World) : Calls Tryz.prog 29 #[.pointer none] w fun y w' => y = .returned (.tuple #[.pointer none, .int .i64 1]) ∧ w = w' := by
  go_enter Tryz.func29, Tryz.ntmps29
  go_wp2
  go_ret2
  exact ⟨rfl, rfl⟩
end

end Go.Proofs.YtdlaanigfhlolaaGreat

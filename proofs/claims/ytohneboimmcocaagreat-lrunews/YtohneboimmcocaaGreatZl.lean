import Derived.Test.YtohneboimmcocaaGreatZk
import Derived.Test.YtohneboimmcocaaGreatMd
import Derived.Test.YtohneboimmcocaaGreatUa
import Derived.Great.BuildSlice
import Derived.Deep.Cut
/-
  The document's queue: New, Lay; the program's New; the law's small ones.
-/
namespace Go.Proofs.YtohneboimmcocaaGreat
open Go.RowKit Go.Great
set_option linter.unusedVariables false

theorem num_any (n : Int) (w : World) : Calls Tryz.prog 26 #[.int .i64 n] w fun e w' => e = .returned (.int .i64 n) ∧ w = w' := by
  go_enter Tryz.func26, Tryz.ntmps26
  go_wp2
  go_ret
  exact ⟨rfl, rfl⟩
theorem tmod_add (i n : Int) (h : 0 < n) : (i.tmod n + n) % n = i % n := by
  rw [Int.add_emod_right, Int.tmod_eq_emod]
  split
  · simp
  · have : ((n.natAbs : Nat) : Int) = n := by omega
    rw [this, Int.sub_emod_right, Int.emod_emod]
theorem within_any (i n : Int) (h1 : 1 ≤ n) (h2 : n ≤ 1099511627776) (w : World) : Calls Tryz.prog 28 #[.int .i64 i, .int .i64 n] w fun e w' => e = .returned (.int .i64 (i % n)) ∧ w = w' := by
  obtain ⟨r, hr⟩ : ∃ r, i.tmod n = r := ⟨_, rfl⟩
  have h3 : -n < r := by rw [← hr]; exact Int.lt_tmod_of_pos _ (by omega)
  have h4 : r < n := by rw [← hr]; exact Int.tmod_lt_of_pos _ (by omega)
  have h5 : Hid ((r + n) % n = i % n) := by rw [← hr]; exact tmod_add i n (by omega)
  go_enter Tryz.func28, Tryz.ntmps28
  go_wp2
  go_ret
  refine ⟨?_, rfl⟩
  rw [← h5.out]
  rfl

set_option maxRecDepth 100000 in
set_option maxHeartbeats 1000000 in
/-- The document's Lay of a handle that is new. -/
theorem rlay_new {w : World} {lb rb : Nat} {lv lsv : Value} {xs : List Nat} {H : Nat} (hb : Box w 127 lb #[.pointer (some ⟨rb, 0, none⟩), lv, lsv]) (hr : w.ownsRow 0 27 1 lv xs.length (uvs xs)) (hl : xs.length ≤ 1000000) (hno : H ∉ xs) :
    Calls Tryz.prog 90 #[.pointer (some ⟨lb, 0, none⟩), .int .u64 H] w fun y w' => y = .returned (.tuple #[]) ∧ Kp (fun k => k = lb ∨ lv.ownBlock = some k) w w' ∧ ∃ lv', Box w' 127 lb #[.pointer (some ⟨rb, 0, none⟩), lv', lsv] ∧ w'.ownsRow 0 27 1 lv' (xs.length + 1) (uvs (xs ++ [H])) ∧ (∀ k, lv'.ownBlock = some k → lv.ownBlock = some k ∨ w.heap.size ≤ k) := by
  obtain ⟨ao, cc, rfl, _, _, _, _⟩ := row_shape hr
  have hat := rat_no hr (by omega) hno
  have c1 := hb.cell 1
  simp at c1
  have hne : ∀ k, (Value.slice ao xs.length cc).ownBlock = some k → lb ≠ k := fun k hk e => by
    obtain ⟨cur, hc⟩ := row_block hr k hk
    exact ne_of_type hb hc (by decide) e
  have hlt := hb.lt
  obtain ⟨n, hn⟩ : ∃ n, xs.length = n := ⟨_, rfl⟩
  rw [hn] at hb hr hat c1 hne hl ⊢
  have HR : Hid (uvs (xs ++ [H]) = uvs xs ++ [.int .u64 (H : Int)]) := uvs_app xs H
  generalize uvs (xs ++ [H]) = us2 at *
  generalize uvs xs = us at *
  clear hno hn
  go_enter Tryz.func90, Tryz.ntmps90
  go_wp2_with (first | (go_at_call 86; go_must (refine hat.mono ?_); rintro y w' ⟨rfl, rfl⟩; (have ca : ∀ o, (w.alloc o).cell? ⟨lb, 1, none⟩ = some (.slice ao n cc) := fun o => gb_cellN (World.grownBy_alloc w o none) c1)) | (at_builtin; go_must (refine push26 rfl _ _ rfl 0 (.slice ao n cc) n us (by rfl) hr (H : Int) (by rfl) (by omega) (Nat.zero_le _) ?_); intro g1 cap1 w4 ho4 hg4 hat4; (have hb4 : Hid (Box w4 127 lb #[.pointer (some ⟨rb, 0, none⟩), .slice ao n cc, lsv]) := hb.kept hg4 (fun e => hne _ e.symm rfl)); (have e1 := hb4.out.cell 1); simp at e1; (have z1 := hb4.out.fz 1)) | fail)
  go_end0
  refine ⟨rfl, ?_, .slice (some ⟨g1, 0, none⟩) (n + 1) cap1, hb4.out.set 1 _, ?_, fun k hk => ?_⟩
  · refine ((Kp.refl _ _).step hg4 (fun i hi => .inl (.inr hi))).step (gb_setCell (gb_refl _ (some lb)) _) (fun i hi => .inl (.inl (by simpa using hi.symm)))
  · rw [HR.out]
    refine row_kept ho4 (gb_setCell (gb_refl _ (some lb)) _) ?_
    obtain ⟨cur, hc⟩ := row_block ho4 g1 rfl
    have hne4 : g1 ≠ lb := ne_of_type hc hb4.out (by decide)
    simp [Value.ownBlock, hne4]
  · simp [Value.ownBlock] at hk
    subst hk
    exact hat4

theorem run_make92 (w : World) : ∃ W, (Instr.makeSlice 125 (.int .i64 9) (.int .i64 9)).run Tryz.prog w = .ok (.slice (some ⟨w.heap.size, 0, none⟩) 9 9) W ∧ w.grownBy W none := by
  obtain ⟨i0, hi, hz0, hz1, hz2⟩ := info_parts (show (Tryz.prog.info? 38).map (fun i => (i.zero, i.size, i.bytes)) = some (some (.slice none 0 0), 1, 24) by kernel_rfl)
  have := run_make (P := Tryz.prog) w 125 38 i0 (.slice none 0 0) Tryz.underlying125 hi hz0 .i64 .i64 9 9 (by omega) (by omega) (by rw [hz2]; omega) (by omega)
  exact ⟨_, this, World.grownBy_alloc _ _ _⟩
set_option maxRecDepth 100000 in
set_option maxHeartbeats 1000000 in
theorem rnew6 {w : World} {rb : Nat} {F : Nat → Prop} {Q : Rl} {c d e : Int} {R : Rb} (h : IsR w rb F Q c d e R) (hR : RFit R) (h3 : R.n = 3) : Calls Tryz.prog 69 #[.pointer (some ⟨rb, 0, none⟩)] w fun y w' => ∃ (lb : Nat) (lsv : Value), y = .returned (.pointer (some ⟨lb, 0, none⟩)) ∧ w.grownBy w' none ∧ w.heap.size ≤ lb ∧ Box w' 127 lb #[.pointer (some ⟨rb, 0, none⟩), .slice none 0 0, lsv] := by
  obtain ⟨sb, sc, ob, oc, vb, vc, hsv, hov, hrv⟩ := h.shapes hR.n0 hR.m0
  have c5 := h.sc 5
  simp [rset, hsv] at c5
  rw [h3] at c5
  obtain ⟨W, hmk, hfW⟩ := run_make92 w
  have hs := hfW.size
  clear h hR hsv hov hrv h3
  go_enter Tryz.func69, Tryz.ntmps69
  go_wp2
  go_ret
  exact ⟨W.heap.size, _, rfl, gb_trans hfW (World.grownBy_alloc _ _ _), hs, Box.new _ _ _⟩

def L0 : Ls := ⟨fun _ _ => 0, fun _ _ => 0, fun _ _ => 0⟩
theorem run_make86 (w : World) : (Instr.makeSlice 167 (.int .i64 3) (.int .i64 3)).run Tryz.prog w = .ok (.slice (some ⟨w.heap.size, 0, none⟩) 3 3) (w.alloc (.cells (rng 3 (lsC L0)).toArray 170)) := by
  obtain ⟨i0, hi, hz0, hz1, hz2⟩ := info_parts (show (Tryz.prog.info? 170).map (fun i => (i.zero, i.size, i.bytes)) = some (some (.agg #[.int .u64 0, .int .u64 0, .int .i64 0, .int .u64 0, .int .u64 0, .int .i64 0, .int .u64 0, .int .u64 0, .int .i64 0]), 9, 72) by kernel_rfl)
  have := run_make (P := Tryz.prog) w 167 170 i0 (.agg #[.int .u64 0, .int .u64 0, .int .i64 0, .int .u64 0, .int .u64 0, .int .i64 0, .int .u64 0, .int .u64 0, .int .i64 0]) Tryz.underlying167 hi hz0 .i64 .i64 3 3 (by omega) (by omega) (by rw [hz2]; omega) (by omega)
  rw [this, hz1]
  have e : (madeCells (Value.agg #[.int .u64 0, .int .u64 0, .int .i64 0, .int .u64 0, .int .u64 0, .int .i64 0, .int .u64 0, .int .u64 0, .int .i64 0]).cells (Int.toNat 3 * 9)) = (rng 3 (lsC L0)).toArray := by kernel_rfl
  rw [e]
  rfl

set_option maxRecDepth 100000 in
set_option maxHeartbeats 1000000 in
/-- The program's New. -/
theorem qnew_ok {w : World} {sb : Nat} {F : Nat → Prop} {B : Bl} {b c d e f g : Int} {A : Ab} {zs : List Int} (h : IsS w sb F B b c d e f g A zs) (hI : Inv A) (h3 : A.n = 3) :
    Calls Tryz.prog 68 #[.pointer (some ⟨sb, 0, none⟩)] w fun y w' => ∃ qb gl gc, y = .returned (.tuple #[.pointer (some ⟨qb, 0, none⟩), .int .i64 0]) ∧ w.grownBy w' none ∧ w.heap.size ≤ qb ∧ w.heap.size ≤ gl ∧ QM w' sb qb gl gc F B b c d e f g A zs [] (fun _ => ⟨0, 0, 0, 0, 0, 0, 0, 0, 0, 0, 0, [], []⟩) (fun _ => 0) (fun _ => 0) (fun _ => 0) L0 := by
  have hcl := classes_20 h hI.toSzs
  rw [h3] at hcl
  have hmk := run_make86 w
  have hlt := h.lt
  have hfz : (w.alloc (.cells (rng 3 (lsC L0)).toArray 170)).heap[w.heap.size]? = some (.cells (rng 3 (lsC L0)).toArray 170 (0, 0)) := heap_alloc_new w _
  have hs1 : (w.alloc (.cells (rng 3 (lsC L0)).toArray 170)).heap.size = w.heap.size + 1 := by simp
  have hf1 := World.grownBy_alloc w (.cells (rng 3 (lsC L0)).toArray 170) none
  generalize w.alloc (.cells (rng 3 (lsC L0)).toArray 170) = W at *
  have hfin : Hid (∀ W2, W.grownBy W2 none → Box W2 169 W.heap.size #[.pointer (some ⟨sb, 0, none⟩), .slice (some ⟨w.heap.size, 0, none⟩) 3 3] → QM W2 sb W.heap.size w.heap.size 3 F B b c d e f g A zs [] (fun _ => ⟨0, 0, 0, 0, 0, 0, 0, 0, 0, 0, 0, [], []⟩) (fun _ => 0) (fun _ => 0) (fun _ => 0) L0) := fun W2 hf2 hb => by
    refine ⟨h.kept0 (gb_trans hf1 hf2), hI, by rw [h3]; exact hb, ?_, fun hF => ?_, fun hF => ?_, fun H hH => by simp at hH, fun H hH => by simp at hH⟩
    · rw [h3]
      have hbl : W2.heap[w.heap.size]? = some (.cells (rng 3 (lsC L0)).toArray 170 (0, 0)) := by
        rw [hf2.block _ (by omega) (by simp)]; exact hfz
      refine ⟨by rw [rng_len (lsC_len L0)], .inr ⟨w.heap.size, 3, _, rfl, Nat.zero_le _, hbl, by omega, by unfold maxLen; omega, ?_, ?_⟩⟩
      · simp [rng_len (lsC_len L0)]
      · have : (rng 3 (lsC L0)).length = 27 := by rw [rng_len (lsC_len L0)]
        simp [List.take_of_length_le, this]
    · have := hlt _ hF; omega
    · have := hlt _ hF; omega
  clear h hlt h3
  go_enter Tryz.func68, Tryz.ntmps68
  go_wp2_with (first | (go_at_call 114; go_must (refine hcl.mono ?_); rintro y w' ⟨rfl, rfl⟩) | fail)
  go_ret2
  have hq := hfin.out _ (World.grownBy_alloc _ _ _) (Box.new _ _ _)
  rw [hs1] at hq
  exact ⟨w.heap.size + 1, w.heap.size, 3, rfl, gb_trans hf1 (World.grownBy_alloc _ _ _), by omega, by omega, hq⟩
theorem qnew_nil (w : World) : Calls Tryz.prog 68 #[.pointer none] w fun y w' => y = .returned (.tuple #[.pointer none, .int .i64 1]) ∧ w = w' := by
  go_enter Tryz.func68, Tryz.ntmps68
  go_wp2
  go_ret2
  exact ⟨rfl, rfl⟩

end Go.Proofs.YtohneboimmcocaaGreat

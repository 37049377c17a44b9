import Derived.Test.YtoaaaeefcipdcaaXa
import Derived.Deep.RegionHeld3
/-
  ClassApart: what is told.
-/
namespace Go.Proofs.Ytoaaaeefcipdcaa
open Go.RowKit
set_option linter.unusedVariables false

section
variable {w : World} {sb : Nat} {F : Nat → Prop} {B : Bl} {b c d e f g : Int} {A : Ab} {zs : List Int} {hv : Value} {hs : List Nat}

/-- Where a telling stands. -/
structure TlS (w : World) (dn an bn : Int) (H : Nat) (rw' : Bool) (vv : Value) (W : World) : Prop where
  gr : w.grownBy W none
  bx : Box W 44 w.heap.size #[.int .i64 dn, .int .i64 an, .int .i64 bn, .int .u64 H, Value.bool rw', vv]
theorem TlS.step {w W W' : World} {dn an bn : Int} {H : Nat} {rw' : Bool} {vv : Value} (h : TlS w dn an bn H rw' vv W) (hf : W.grownBy W' none) : TlS w dn an bn H rw' vv W' := ⟨gb_trans h.gr hf, h.bx.kept hf (by simp)⟩
theorem TlS.drew {w W : World} {dn an bn : Int} {H : Nat} {rw' : Bool} {vv : Value} (h : TlS w dn an bn H rw' vv W) : TlS w dn an bn H rw' vv W.drew := h.step (gb_drew (gb_refl _ _))
theorem TlS.cc {w W : World} {dn an bn : Int} {H : Nat} {rw' : Bool} {vv : Value} (h : TlS w dn an bn H rw' vv W) : W.cell? ⟨w.heap.size, 1, none⟩ = some (.int .i64 an) := h.bx.cell 1

theorem one_end2 {w w1 : World} {sb : Nat} {F : Nat → Prop} {b c d e f g : Int} {A' : Ab} {hs : List Nat} {hv : Value} (hT : Tk w w1 sb F b c d e f g A' hv hs) (o : List Int) (ov : Value) (ho : w1.ownsRow w.heap.size 3 1 ov o.length (iL o)) :
    OneR w sb F b c d e f g A' o hv hs (.returned (.tuple #[ov, hv])) w1 := by
  obtain ⟨F', B', zs', h1, h2, h3⟩ := hT.set
  exact ⟨_, _, F', B', zs', rfl, ho, hT.row, h1, hT.K.mono (fun k hk => .inl (.inl hk)), h2, fun k hk => ⟨.inl hk, h3 k hk⟩⟩

set_option maxRecDepth 100000 in
set_option maxHeartbeats 4000000 in
theorem one_tell_nt (h : IsS w sb F B b c d e f g A zs) (hI : Inv A) (hr : w.ownsRow 0 59 1 hv hs.length (hdls hs)) (hl : hs.length ≤ 1000000) (hF : ∀ k, hv.ownBlock = some k → ¬ F k) (an bn : Int) (H : Nat) (vv : Value)  (dn : Int) (hd1 : dn ≠ 1) (hd2 : dn ≠ 2) (p cc er fp ow qu fr tk : Int) (kk : Nat) (hat : ∀ W, w.grownBy W none → Calls Try.prog 26 #[.pointer (some ⟨sb, 0, none⟩), .int .u64 (H : Nat)] W fun y w' => y = .returned (.tuple #[.int .i64 p, .int .i64 cc, .int .i64 er]) ∧ W.grownBy w' none) (hof : ∀ W, w.grownBy W none → Calls Try.prog 66 #[.pointer (some ⟨sb, 0, none⟩), .int .i64 p] W fun y w' => y = .returned (.tuple #[.int .u64 kk, .bool false]) ∧ W.grownBy w' none) (hfp : ∀ W, w.grownBy W none → Calls Try.prog 58 #[.pointer (some ⟨sb, 0, none⟩)] W fun y w' => y = .returned (.int .i64 fp) ∧ W.grownBy w' none) (how : ∀ W, w.grownBy W none → Calls Try.prog 64 #[.pointer (some ⟨sb, 0, none⟩), .int .i64 an] W fun y w' => y = .returned (.int .i64 ow) ∧ W.grownBy w' none) (hqu : ∀ W, w.grownBy W none → Calls Try.prog 71 #[.pointer (some ⟨sb, 0, none⟩), .int .i64 an] W fun y w' => y = .returned (.int .i64 qu) ∧ W.grownBy w' none) (hfr : ∀ W, w.grownBy W none → Calls Try.prog 70 #[.pointer (some ⟨sb, 0, none⟩), .int .i64 an] W fun y w' => y = .returned (.int .i64 fr) ∧ W.grownBy w' none) (htk : ∀ W, w.grownBy W none → Calls Try.prog 69 #[.pointer (some ⟨sb, 0, none⟩), .int .i64 an] W fun y w' => y = .returned (.int .i64 tk) ∧ W.grownBy w' none) :
    Calls Try.prog 28 #[.pointer (some ⟨sb, 0, none⟩), .agg (opC dn an bn H true vv), hv] w (OneR w sb F b c d e f g A [p, cc, er, IntKind.i64.wrap kk, fp, ow, qu, fr, tk] hv hs) := by
  have hal := World.grownBy_alloc w (.cells (opC dn an bn H true vv) 44) none
  have hbx := Box.new w 44 (opC dn an bn H true vv)
  obtain ⟨ha, hc, rfl, _, _, _, hha⟩ := row_shape hr
  have hT0 := fun W (hf : w.grownBy W none) => tk_of (A' := A) hf hr hF (Kp.refl F W) ⟨F, B, zs, h.kept0 hf, fun k hk => .inl hk⟩
  have hdz1 : (dn == 1) = false := beq_eq_false_iff_ne.2 hd1
  have hdz2 : (dn == 2) = false := beq_eq_false_iff_ne.2 hd2
  have hcs := fun W (hf : w.grownBy W none) => hf
  unfold opC at *
  clear hr hF h
  go_enter Try.func28, Try.ntmps28
  go_wp2_with (first | (go_at_call 26; go_must (with_reducible refine (hat _ hal).mono ?_); rintro y w1 ⟨rfl, hf1⟩; (have hF1 := gb_trans hal hf1)) | (go_at_call 66; go_must (with_reducible refine (hof _ hF1).mono ?_); rintro y w2 ⟨rfl, hf2⟩; (have hF2 := gb_trans hF1 hf2); (have hbx2 := (hbx.kept hf1 (by simp)).kept hf2 (by simp)); (have e1 := hbx2.cell 1); simp at e1) | fail)
  have hT2 : TlS w dn an bn H _ vv w2 := ⟨hF2, hbx2⟩
  have hT2d := hT2.drew
  clear hbx2 hbx hat hof hf1 hf2 hF1 hcs hal hha hl
  go_region_held3 (fun w' => w'.cell? ⟨w.heap.size, 1, none⟩ = some (.int .i64 an)) ((first | with_reducible exact hT7.cc | with_reducible exact hT6.cc | with_reducible exact hT5.cc | with_reducible exact hT4.cc | with_reducible exact hT3.cc | with_reducible exact hT2d.cc | go_keep)) ((first | (go_at_call 13; with_reducible refine (num_any2 _ _).mono ?_; rintro y w' ⟨rfl, rfl⟩) | (go_at_call 58; with_reducible refine (hfp _ hT2d.gr).mono ?_; rintro y w3 ⟨rfl, hf3⟩; (have hT3 := hT2d.step hf3)) | (go_at_call 64; with_reducible refine (how _ hT3.gr).mono ?_; rintro y w4 ⟨rfl, hf4⟩; (have hT4 := hT3.step hf4)) | (go_at_call 71; with_reducible refine (hqu _ hT4.gr).mono ?_; rintro y w5 ⟨rfl, hf5⟩; (have hT5 := hT4.step hf5)) | (go_at_call 70; with_reducible refine (hfr _ hT5.gr).mono ?_; rintro y w6 ⟨rfl, hf6⟩; (have hT6 := hT5.step hf6)) | (go_at_call 69; with_reducible refine (htk _ hT6.gr).mono ?_; rintro y w7 ⟨rfl, hf7⟩; (have hT7 := hT6.step hf7))))
  have hg8 := World.grownBy_alloc w7 (.cells #[.int .i64 p, .int .i64 cc, .int .i64 er, .int .i64 (IntKind.i64.wrap kk), .int .i64 fp, .int .i64 ow, .int .i64 qu, .int .i64 fr, .int .i64 tk] 3) none
  have hrow8 : (w7.alloc (.cells #[.int .i64 p, .int .i64 cc, .int .i64 er, .int .i64 (IntKind.i64.wrap kk), .int .i64 fp, .int .i64 ow, .int .i64 qu, .int .i64 fr, .int .i64 tk] 3)).ownsRow w.heap.size 3 1 (.slice (some ⟨w7.heap.size, 0, none⟩) 9 9) 9 (iL [p, cc, er, IntKind.i64.wrap kk, fp, ow, qu, fr, tk]) := row_new w7 w.heap.size 3 #[.int .i64 p, .int .i64 cc, .int .i64 er, .int .i64 (IntKind.i64.wrap kk), .int .i64 fp, .int .i64 ow, .int .i64 qu, .int .i64 fr, .int .i64 tk] hT7.gr.size (by simp)
  generalize (w7.alloc (.cells #[.int .i64 p, .int .i64 cc, .int .i64 er, .int .i64 (IntKind.i64.wrap kk), .int .i64 fp, .int .i64 ow, .int .i64 qu, .int .i64 fr, .int .i64 tk] 3)) = w8 at *
  have hG8 := gb_trans hT7.gr hg8
  have hsz8 := hG8.size
  have hsz7 := hT7.gr.size
  clear hfp how hqu hfr htk
  go_wp2
  go_ret2
  exact one_end2 (hs := hs) (hT0 _ hG8) [p, cc, er, IntKind.i64.wrap kk, fp, ow, qu, fr, tk] _ hrow8

set_option maxRecDepth 100000 in
set_option maxHeartbeats 4000000 in
theorem one_tell_ne (h : IsS w sb F B b c d e f g A zs) (hI : Inv A) (hr : w.ownsRow 0 59 1 hv hs.length (hdls hs)) (hl : hs.length ≤ 1000000) (hF : ∀ k, hv.ownBlock = some k → ¬ F k) (an bn : Int) (H : Nat) (vv : Value) (hz : hs = []) (dn : Int) (hd1 : dn ≠ 1) (hd2 : dn ≠ 2) (p cc er fp ow qu fr tk : Int) (kk : Nat) (hat : ∀ W, w.grownBy W none → Calls Try.prog 26 #[.pointer (some ⟨sb, 0, none⟩), .int .u64 (H : Nat)] W fun y w' => y = .returned (.tuple #[.int .i64 p, .int .i64 cc, .int .i64 er]) ∧ W.grownBy w' none) (hof : ∀ W, w.grownBy W none → Calls Try.prog 66 #[.pointer (some ⟨sb, 0, none⟩), .int .i64 p] W fun y w' => y = .returned (.tuple #[.int .u64 kk, .bool false]) ∧ W.grownBy w' none) (hfp : ∀ W, w.grownBy W none → Calls Try.prog 58 #[.pointer (some ⟨sb, 0, none⟩)] W fun y w' => y = .returned (.int .i64 fp) ∧ W.grownBy w' none) (how : ∀ W, w.grownBy W none → Calls Try.prog 64 #[.pointer (some ⟨sb, 0, none⟩), .int .i64 an] W fun y w' => y = .returned (.int .i64 ow) ∧ W.grownBy w' none) (hqu : ∀ W, w.grownBy W none → Calls Try.prog 71 #[.pointer (some ⟨sb, 0, none⟩), .int .i64 an] W fun y w' => y = .returned (.int .i64 qu) ∧ W.grownBy w' none) (hfr : ∀ W, w.grownBy W none → Calls Try.prog 70 #[.pointer (some ⟨sb, 0, none⟩), .int .i64 an] W fun y w' => y = .returned (.int .i64 fr) ∧ W.grownBy w' none) (htk : ∀ W, w.grownBy W none → Calls Try.prog 69 #[.pointer (some ⟨sb, 0, none⟩), .int .i64 an] W fun y w' => y = .returned (.int .i64 tk) ∧ W.grownBy w' none) :
    Calls Try.prog 28 #[.pointer (some ⟨sb, 0, none⟩), .agg (opC dn an bn H false vv), hv] w (OneR w sb F b c d e f g A [p, cc, er, IntKind.i64.wrap kk, fp, ow, qu, fr, tk] hv hs) := by
  have hal := World.grownBy_alloc w (.cells (opC dn an bn H false vv) 44) none
  have hbx := Box.new w 44 (opC dn an bn H false vv)
  obtain ⟨ha, hc, rfl, _, _, _, hha⟩ := row_shape hr
  have hT0 := fun W (hf : w.grownBy W none) => tk_of (A' := A) hf hr hF (Kp.refl F W) ⟨F, B, zs, h.kept0 hf, fun k hk => .inl hk⟩
  have hdz1 : (dn == 1) = false := beq_eq_false_iff_ne.2 hd1
  have hdz2 : (dn == 2) = false := beq_eq_false_iff_ne.2 hd2
  have hcs := fun W (hf : w.grownBy W none) => hf
  unfold opC at *
  subst hz
  clear hr hF h
  simp only [List.length_nil] at *
  go_enter Try.func28, Try.ntmps28
  go_wp2_with (first | (go_at_call 26; go_must (with_reducible refine (hat _ hal).mono ?_); rintro y w1 ⟨rfl, hf1⟩; (have hF1 := gb_trans hal hf1)) | (go_at_call 66; go_must (with_reducible refine (hof _ hF1).mono ?_); rintro y w2 ⟨rfl, hf2⟩; (have hF2 := gb_trans hF1 hf2); (have hbx2 := (hbx.kept hf1 (by simp)).kept hf2 (by simp)); (have e1 := hbx2.cell 1); simp at e1) | fail)
  have hT2 : TlS w dn an bn H _ vv w2 := ⟨hF2, hbx2⟩
  have hT2d := hT2.drew
  clear hbx2 hbx hat hof hf1 hf2 hF1 hcs hal hha hl
  go_region_held3 (fun w' => w'.cell? ⟨w.heap.size, 1, none⟩ = some (.int .i64 an)) ((first | with_reducible exact hT7.cc | with_reducible exact hT6.cc | with_reducible exact hT5.cc | with_reducible exact hT4.cc | with_reducible exact hT3.cc | with_reducible exact hT2d.cc | go_keep)) ((first | (go_at_call 13; with_reducible refine (num_any2 _ _).mono ?_; rintro y w' ⟨rfl, rfl⟩) | (go_at_call 58; with_reducible refine (hfp _ hT2d.gr).mono ?_; rintro y w3 ⟨rfl, hf3⟩; (have hT3 := hT2d.step hf3)) | (go_at_call 64; with_reducible refine (how _ hT3.gr).mono ?_; rintro y w4 ⟨rfl, hf4⟩; (have hT4 := hT3.step hf4)) | (go_at_call 71; with_reducible refine (hqu _ hT4.gr).mono ?_; rintro y w5 ⟨rfl, hf5⟩; (have hT5 := hT4.step hf5)) | (go_at_call 70; with_reducible refine (hfr _ hT5.gr).mono ?_; rintro y w6 ⟨rfl, hf6⟩; (have hT6 := hT5.step hf6)) | (go_at_call 69; with_reducible refine (htk _ hT6.gr).mono ?_; rintro y w7 ⟨rfl, hf7⟩; (have hT7 := hT6.step hf7))))
  have hg8 := World.grownBy_alloc w7 (.cells #[.int .i64 p, .int .i64 cc, .int .i64 er, .int .i64 (IntKind.i64.wrap kk), .int .i64 fp, .int .i64 ow, .int .i64 qu, .int .i64 fr, .int .i64 tk] 3) none
  have hrow8 : (w7.alloc (.cells #[.int .i64 p, .int .i64 cc, .int .i64 er, .int .i64 (IntKind.i64.wrap kk), .int .i64 fp, .int .i64 ow, .int .i64 qu, .int .i64 fr, .int .i64 tk] 3)).ownsRow w.heap.size 3 1 (.slice (some ⟨w7.heap.size, 0, none⟩) 9 9) 9 (iL [p, cc, er, IntKind.i64.wrap kk, fp, ow, qu, fr, tk]) := row_new w7 w.heap.size 3 #[.int .i64 p, .int .i64 cc, .int .i64 er, .int .i64 (IntKind.i64.wrap kk), .int .i64 fp, .int .i64 ow, .int .i64 qu, .int .i64 fr, .int .i64 tk] hT7.gr.size (by simp)
  generalize (w7.alloc (.cells #[.int .i64 p, .int .i64 cc, .int .i64 er, .int .i64 (IntKind.i64.wrap kk), .int .i64 fp, .int .i64 ow, .int .i64 qu, .int .i64 fr, .int .i64 tk] 3)) = w8 at *
  have hG8 := gb_trans hT7.gr hg8
  have hsz8 := hG8.size
  have hsz7 := hT7.gr.size
  clear hfp how hqu hfr htk
  go_wp2
  go_ret2
  exact one_end2 (hs := []) (hT0 _ hG8) [p, cc, er, IntKind.i64.wrap kk, fp, ow, qu, fr, tk] _ hrow8

set_option maxRecDepth 100000 in
set_option maxHeartbeats 4000000 in
theorem one_tell_nn (h : IsS w sb F B b c d e f g A zs) (hI : Inv A) (hr : w.ownsRow 0 59 1 hv hs.length (hdls hs)) (hl : hs.length ≤ 1000000) (hF : ∀ k, hv.ownBlock = some k → ¬ F k) (an bn : Int) (H : Nat) (vv : Value) (j : Nat) (hj : j < hs.length) (hjw : ∀ W, Calls Try.prog 21 #[.int .i64 an, .int .i64 hs.length] W fun e w' => e = .returned (.int .i64 j) ∧ W = w') (dn : Int) (hd1 : dn ≠ 1) (hd2 : dn ≠ 2) (p cc er fp ow qu fr tk : Int) (kk : Nat) (hat : ∀ W, w.grownBy W none → Calls Try.prog 26 #[.pointer (some ⟨sb, 0, none⟩), .int .u64 ((hs.getD j 0) : Nat)] W fun y w' => y = .returned (.tuple #[.int .i64 p, .int .i64 cc, .int .i64 er]) ∧ W.grownBy w' none) (hof : ∀ W, w.grownBy W none → Calls Try.prog 66 #[.pointer (some ⟨sb, 0, none⟩), .int .i64 p] W fun y w' => y = .returned (.tuple #[.int .u64 kk, .bool false]) ∧ W.grownBy w' none) (hfp : ∀ W, w.grownBy W none → Calls Try.prog 58 #[.pointer (some ⟨sb, 0, none⟩)] W fun y w' => y = .returned (.int .i64 fp) ∧ W.grownBy w' none) (how : ∀ W, w.grownBy W none → Calls Try.prog 64 #[.pointer (some ⟨sb, 0, none⟩), .int .i64 an] W fun y w' => y = .returned (.int .i64 ow) ∧ W.grownBy w' none) (hqu : ∀ W, w.grownBy W none → Calls Try.prog 71 #[.pointer (some ⟨sb, 0, none⟩), .int .i64 an] W fun y w' => y = .returned (.int .i64 qu) ∧ W.grownBy w' none) (hfr : ∀ W, w.grownBy W none → Calls Try.prog 70 #[.pointer (some ⟨sb, 0, none⟩), .int .i64 an] W fun y w' => y = .returned (.int .i64 fr) ∧ W.grownBy w' none) (htk : ∀ W, w.grownBy W none → Calls Try.prog 69 #[.pointer (some ⟨sb, 0, none⟩), .int .i64 an] W fun y w' => y = .returned (.int .i64 tk) ∧ W.grownBy w' none) :
    Calls Try.prog 28 #[.pointer (some ⟨sb, 0, none⟩), .agg (opC dn an bn H false vv), hv] w (OneR w sb F b c d e f g A [p, cc, er, IntKind.i64.wrap kk, fp, ow, qu, fr, tk] hv hs) := by
  have hal := World.grownBy_alloc w (.cells (opC dn an bn H false vv) 44) none
  have hbx := Box.new w 44 (opC dn an bn H false vv)
  obtain ⟨ha, hc, rfl, _, _, _, hha⟩ := row_shape hr
  have hT0 := fun W (hf : w.grownBy W none) => tk_of (A' := A) hf hr hF (Kp.refl F W) ⟨F, B, zs, h.kept0 hf, fun k hk => .inl hk⟩
  have hdz1 : (dn == 1) = false := beq_eq_false_iff_ne.2 hd1
  have hdz2 : (dn == 2) = false := beq_eq_false_iff_ne.2 hd2
  have hcs := fun W (hf : w.grownBy W none) => hf
  unfold opC at *
  obtain ⟨gh, rfl⟩ := hha (by omega)
  have hjc : ∀ W, w.grownBy W none → W.cell? ⟨gh, j, none⟩ = some (.int .u64 (hs.getD j 0 : Nat)) := fun W hf => by
    have := row_cell (row_kept hr hf (by simp)) j (.int .u64 (hs.getD j 0 : Nat)) (by simp [hdls, hj, List.getD])
    exact this
  have hj0 := hjc _ hal
  have hlz : decide ((hs.length : Int) > 0) = true := decide_eq_true (by omega)
  have hlz2 : decide (0 < (hs.length : Int)) = true := decide_eq_true (by omega)
  have hjz : (j : Int) < (hs.length : Int) := by omega
  clear hr hF h hjc
  generalize hs.getD j 0 = hj1 at *
  go_enter Try.func28, Try.ntmps28
  go_wp2_with (first | (go_at_call 26; go_must (with_reducible refine (hat _ hal).mono ?_); rintro y w1 ⟨rfl, hf1⟩; (have hF1 := gb_trans hal hf1)) | (go_at_call 66; go_must (with_reducible refine (hof _ hF1).mono ?_); rintro y w2 ⟨rfl, hf2⟩; (have hF2 := gb_trans hF1 hf2); (have hbx2 := (hbx.kept hf1 (by simp)).kept hf2 (by simp)); (have e1 := hbx2.cell 1); simp at e1) | (go_at_call 21; go_must (refine (hjw _).mono ?_); rintro y w' ⟨rfl, rfl⟩) | fail)
  have hT2 : TlS w dn an bn H _ vv w2 := ⟨hF2, hbx2⟩
  have hT2d := hT2.drew
  clear hbx2 hbx hat hof hf1 hf2 hF1 hcs hal hha hl
  go_region_held3 (fun w' => w'.cell? ⟨w.heap.size, 1, none⟩ = some (.int .i64 an)) ((first | with_reducible exact hT7.cc | with_reducible exact hT6.cc | with_reducible exact hT5.cc | with_reducible exact hT4.cc | with_reducible exact hT3.cc | with_reducible exact hT2d.cc | go_keep)) ((first | (go_at_call 13; with_reducible refine (num_any2 _ _).mono ?_; rintro y w' ⟨rfl, rfl⟩) | (go_at_call 58; with_reducible refine (hfp _ hT2d.gr).mono ?_; rintro y w3 ⟨rfl, hf3⟩; (have hT3 := hT2d.step hf3)) | (go_at_call 64; with_reducible refine (how _ hT3.gr).mono ?_; rintro y w4 ⟨rfl, hf4⟩; (have hT4 := hT3.step hf4)) | (go_at_call 71; with_reducible refine (hqu _ hT4.gr).mono ?_; rintro y w5 ⟨rfl, hf5⟩; (have hT5 := hT4.step hf5)) | (go_at_call 70; with_reducible refine (hfr _ hT5.gr).mono ?_; rintro y w6 ⟨rfl, hf6⟩; (have hT6 := hT5.step hf6)) | (go_at_call 69; with_reducible refine (htk _ hT6.gr).mono ?_; rintro y w7 ⟨rfl, hf7⟩; (have hT7 := hT6.step hf7))))
  have hg8 := World.grownBy_alloc w7 (.cells #[.int .i64 p, .int .i64 cc, .int .i64 er, .int .i64 (IntKind.i64.wrap kk), .int .i64 fp, .int .i64 ow, .int .i64 qu, .int .i64 fr, .int .i64 tk] 3) none
  have hrow8 : (w7.alloc (.cells #[.int .i64 p, .int .i64 cc, .int .i64 er, .int .i64 (IntKind.i64.wrap kk), .int .i64 fp, .int .i64 ow, .int .i64 qu, .int .i64 fr, .int .i64 tk] 3)).ownsRow w.heap.size 3 1 (.slice (some ⟨w7.heap.size, 0, none⟩) 9 9) 9 (iL [p, cc, er, IntKind.i64.wrap kk, fp, ow, qu, fr, tk]) := row_new w7 w.heap.size 3 #[.int .i64 p, .int .i64 cc, .int .i64 er, .int .i64 (IntKind.i64.wrap kk), .int .i64 fp, .int .i64 ow, .int .i64 qu, .int .i64 fr, .int .i64 tk] hT7.gr.size (by simp)
  generalize (w7.alloc (.cells #[.int .i64 p, .int .i64 cc, .int .i64 er, .int .i64 (IntKind.i64.wrap kk), .int .i64 fp, .int .i64 ow, .int .i64 qu, .int .i64 fr, .int .i64 tk] 3)) = w8 at *
  have hG8 := gb_trans hT7.gr hg8
  have hsz8 := hG8.size
  have hsz7 := hT7.gr.size
  clear hfp how hqu hfr htk
  go_wp2
  go_ret2
  exact one_end2 (hs := hs) (hT0 _ hG8) [p, cc, er, IntKind.i64.wrap kk, fp, ow, qu, fr, tk] _ hrow8

set_option maxRecDepth 100000 in
set_option maxHeartbeats 4000000 in
theorem one_tell_yt (h : IsS w sb F B b c d e f g A zs) (hI : Inv A) (hr : w.ownsRow 0 59 1 hv hs.length (hdls hs)) (hl : hs.length ≤ 1000000) (hF : ∀ k, hv.ownBlock = some k → ¬ F k) (an bn : Int) (H : Nat) (vv : Value)  (dn : Int) (hd1 : dn ≠ 1) (hd2 : dn ≠ 2) (p cc er fp ow qu fr tk : Int) (kk : Nat) (hat : ∀ W, w.grownBy W none → Calls Try.prog 26 #[.pointer (some ⟨sb, 0, none⟩), .int .u64 (H : Nat)] W fun y w' => y = .returned (.tuple #[.int .i64 p, .int .i64 cc, .int .i64 er]) ∧ W.grownBy w' none) (hof : ∀ W, w.grownBy W none → Calls Try.prog 66 #[.pointer (some ⟨sb, 0, none⟩), .int .i64 p] W fun y w' => y = .returned (.tuple #[.int .u64 kk, .bool true]) ∧ W.grownBy w' none) (hfp : ∀ W, w.grownBy W none → Calls Try.prog 58 #[.pointer (some ⟨sb, 0, none⟩)] W fun y w' => y = .returned (.int .i64 fp) ∧ W.grownBy w' none) (how : ∀ W, w.grownBy W none → Calls Try.prog 64 #[.pointer (some ⟨sb, 0, none⟩), .int .i64 an] W fun y w' => y = .returned (.int .i64 ow) ∧ W.grownBy w' none) (hqu : ∀ W, w.grownBy W none → Calls Try.prog 71 #[.pointer (some ⟨sb, 0, none⟩), .int .i64 an] W fun y w' => y = .returned (.int .i64 qu) ∧ W.grownBy w' none) (hfr : ∀ W, w.grownBy W none → Calls Try.prog 70 #[.pointer (some ⟨sb, 0, none⟩), .int .i64 an] W fun y w' => y = .returned (.int .i64 fr) ∧ W.grownBy w' none) (htk : ∀ W, w.grownBy W none → Calls Try.prog 69 #[.pointer (some ⟨sb, 0, none⟩), .int .i64 an] W fun y w' => y = .returned (.int .i64 tk) ∧ W.grownBy w' none) :
    Calls Try.prog 28 #[.pointer (some ⟨sb, 0, none⟩), .agg (opC dn an bn H true vv), hv] w (OneR w sb F b c d e f g A [p, cc, er, IntKind.i64.wrap kk, fp, ow, qu, fr, tk, 1] hv hs) := by
  have hal := World.grownBy_alloc w (.cells (opC dn an bn H true vv) 44) none
  have hbx := Box.new w 44 (opC dn an bn H true vv)
  obtain ⟨ha, hc, rfl, _, _, _, hha⟩ := row_shape hr
  have hT0 := fun W (hf : w.grownBy W none) => tk_of (A' := A) hf hr hF (Kp.refl F W) ⟨F, B, zs, h.kept0 hf, fun k hk => .inl hk⟩
  have hdz1 : (dn == 1) = false := beq_eq_false_iff_ne.2 hd1
  have hdz2 : (dn == 2) = false := beq_eq_false_iff_ne.2 hd2
  have hcs := fun W (hf : w.grownBy W none) => hf
  unfold opC at *
  clear hr hF h
  go_enter Try.func28, Try.ntmps28
  go_wp2_with (first | (go_at_call 26; go_must (with_reducible refine (hat _ hal).mono ?_); rintro y w1 ⟨rfl, hf1⟩; (have hF1 := gb_trans hal hf1)) | (go_at_call 66; go_must (with_reducible refine (hof _ hF1).mono ?_); rintro y w2 ⟨rfl, hf2⟩; (have hF2 := gb_trans hF1 hf2); (have hbx2 := (hbx.kept hf1 (by simp)).kept hf2 (by simp)); (have e1 := hbx2.cell 1); simp at e1) | fail)
  have hT2 : TlS w dn an bn H _ vv w2 := ⟨hF2, hbx2⟩
  have hT2d := hT2.drew
  clear hbx2 hbx hat hof hf1 hf2 hF1 hcs hal hha hl
  go_region_held3 (fun w' => w'.cell? ⟨w.heap.size, 1, none⟩ = some (.int .i64 an)) ((first | with_reducible exact hT7.cc | with_reducible exact hT6.cc | with_reducible exact hT5.cc | with_reducible exact hT4.cc | with_reducible exact hT3.cc | with_reducible exact hT2d.cc | go_keep)) ((first | (go_at_call 13; with_reducible refine (num_any2 _ _).mono ?_; rintro y w' ⟨rfl, rfl⟩) | (go_at_call 58; with_reducible refine (hfp _ hT2d.gr).mono ?_; rintro y w3 ⟨rfl, hf3⟩; (have hT3 := hT2d.step hf3)) | (go_at_call 64; with_reducible refine (how _ hT3.gr).mono ?_; rintro y w4 ⟨rfl, hf4⟩; (have hT4 := hT3.step hf4)) | (go_at_call 71; with_reducible refine (hqu _ hT4.gr).mono ?_; rintro y w5 ⟨rfl, hf5⟩; (have hT5 := hT4.step hf5)) | (go_at_call 70; with_reducible refine (hfr _ hT5.gr).mono ?_; rintro y w6 ⟨rfl, hf6⟩; (have hT6 := hT5.step hf6)) | (go_at_call 69; with_reducible refine (htk _ hT6.gr).mono ?_; rintro y w7 ⟨rfl, hf7⟩; (have hT7 := hT6.step hf7))))
  have hg8 := World.grownBy_alloc w7 (.cells #[.int .i64 p, .int .i64 cc, .int .i64 er, .int .i64 (IntKind.i64.wrap kk), .int .i64 fp, .int .i64 ow, .int .i64 qu, .int .i64 fr, .int .i64 tk] 3) none
  have hrow8 : (w7.alloc (.cells #[.int .i64 p, .int .i64 cc, .int .i64 er, .int .i64 (IntKind.i64.wrap kk), .int .i64 fp, .int .i64 ow, .int .i64 qu, .int .i64 fr, .int .i64 tk] 3)).ownsRow w.heap.size 3 1 (.slice (some ⟨w7.heap.size, 0, none⟩) 9 9) 9 (iL [p, cc, er, IntKind.i64.wrap kk, fp, ow, qu, fr, tk]) := row_new w7 w.heap.size 3 #[.int .i64 p, .int .i64 cc, .int .i64 er, .int .i64 (IntKind.i64.wrap kk), .int .i64 fp, .int .i64 ow, .int .i64 qu, .int .i64 fr, .int .i64 tk] hT7.gr.size (by simp)
  generalize (w7.alloc (.cells #[.int .i64 p, .int .i64 cc, .int .i64 er, .int .i64 (IntKind.i64.wrap kk), .int .i64 fp, .int .i64 ow, .int .i64 qu, .int .i64 fr, .int .i64 tk] 3)) = w8 at *
  have hG8 := gb_trans hT7.gr hg8
  have hsz8 := hG8.size
  have hsz7 := hT7.gr.size
  clear hfp how hqu hfr htk
  go_wp2_with (first | (at_builtin; go_must (refine push3 rfl _ _ rfl w.heap.size (.slice (some ⟨w7.heap.size, 0, none⟩) 9 9) 9 _ (by rfl) hrow8 1 (by rfl) (by omega) hsz8 ?_); intro g1 cap1 w9 ho9 hg9 hat9) | fail)
  go_ret2
  exact one_end2 (hs := hs) (hT0 _ (gb_mine hG8 hg9 hsz7)) [p, cc, er, IntKind.i64.wrap kk, fp, ow, qu, fr, tk, 1] _ ho9

set_option maxRecDepth 100000 in
set_option maxHeartbeats 4000000 in
theorem one_tell_ye (h : IsS w sb F B b c d e f g A zs) (hI : Inv A) (hr : w.ownsRow 0 59 1 hv hs.length (hdls hs)) (hl : hs.length ≤ 1000000) (hF : ∀ k, hv.ownBlock = some k → ¬ F k) (an bn : Int) (H : Nat) (vv : Value) (hz : hs = []) (dn : Int) (hd1 : dn ≠ 1) (hd2 : dn ≠ 2) (p cc er fp ow qu fr tk : Int) (kk : Nat) (hat : ∀ W, w.grownBy W none → Calls Try.prog 26 #[.pointer (some ⟨sb, 0, none⟩), .int .u64 (H : Nat)] W fun y w' => y = .returned (.tuple #[.int .i64 p, .int .i64 cc, .int .i64 er]) ∧ W.grownBy w' none) (hof : ∀ W, w.grownBy W none → Calls Try.prog 66 #[.pointer (some ⟨sb, 0, none⟩), .int .i64 p] W fun y w' => y = .returned (.tuple #[.int .u64 kk, .bool true]) ∧ W.grownBy w' none) (hfp : ∀ W, w.grownBy W none → Calls Try.prog 58 #[.pointer (some ⟨sb, 0, none⟩)] W fun y w' => y = .returned (.int .i64 fp) ∧ W.grownBy w' none) (how : ∀ W, w.grownBy W none → Calls Try.prog 64 #[.pointer (some ⟨sb, 0, none⟩), .int .i64 an] W fun y w' => y = .returned (.int .i64 ow) ∧ W.grownBy w' none) (hqu : ∀ W, w.grownBy W none → Calls Try.prog 71 #[.pointer (some ⟨sb, 0, none⟩), .int .i64 an] W fun y w' => y = .returned (.int .i64 qu) ∧ W.grownBy w' none) (hfr : ∀ W, w.grownBy W none → Calls Try.prog 70 #[.pointer (some ⟨sb, 0, none⟩), .int .i64 an] W fun y w' => y = .returned (.int .i64 fr) ∧ W.grownBy w' none) (htk : ∀ W, w.grownBy W none → Calls Try.prog 69 #[.pointer (some ⟨sb, 0, none⟩), .int .i64 an] W fun y w' => y = .returned (.int .i64 tk) ∧ W.grownBy w' none) :
    Calls Try.prog 28 #[.pointer (some ⟨sb, 0, none⟩), .agg (opC dn an bn H false vv), hv] w (OneR w sb F b c d e f g A [p, cc, er, IntKind.i64.wrap kk, fp, ow, qu, fr, tk, 1] hv hs) := by
  have hal := World.grownBy_alloc w (.cells (opC dn an bn H false vv) 44) none
  have hbx := Box.new w 44 (opC dn an bn H false vv)
  obtain ⟨ha, hc, rfl, _, _, _, hha⟩ := row_shape hr
  have hT0 := fun W (hf : w.grownBy W none) => tk_of (A' := A) hf hr hF (Kp.refl F W) ⟨F, B, zs, h.kept0 hf, fun k hk => .inl hk⟩
  have hdz1 : (dn == 1) = false := beq_eq_false_iff_ne.2 hd1
  have hdz2 : (dn == 2) = false := beq_eq_false_iff_ne.2 hd2
  have hcs := fun W (hf : w.grownBy W none) => hf
  unfold opC at *
  subst hz
  clear hr hF h
  simp only [List.length_nil] at *
  go_enter Try.func28, Try.ntmps28
  go_wp2_with (first | (go_at_call 26; go_must (with_reducible refine (hat _ hal).mono ?_); rintro y w1 ⟨rfl, hf1⟩; (have hF1 := gb_trans hal hf1)) | (go_at_call 66; go_must (with_reducible refine (hof _ hF1).mono ?_); rintro y w2 ⟨rfl, hf2⟩; (have hF2 := gb_trans hF1 hf2); (have hbx2 := (hbx.kept hf1 (by simp)).kept hf2 (by simp)); (have e1 := hbx2.cell 1); simp at e1) | fail)
  have hT2 : TlS w dn an bn H _ vv w2 := ⟨hF2, hbx2⟩
  have hT2d := hT2.drew
  clear hbx2 hbx hat hof hf1 hf2 hF1 hcs hal hha hl
  go_region_held3 (fun w' => w'.cell? ⟨w.heap.size, 1, none⟩ = some (.int .i64 an)) ((first | with_reducible exact hT7.cc | with_reducible exact hT6.cc | with_reducible exact hT5.cc | with_reducible exact hT4.cc | with_reducible exact hT3.cc | with_reducible exact hT2d.cc | go_keep)) ((first | (go_at_call 13; with_reducible refine (num_any2 _ _).mono ?_; rintro y w' ⟨rfl, rfl⟩) | (go_at_call 58; with_reducible refine (hfp _ hT2d.gr).mono ?_; rintro y w3 ⟨rfl, hf3⟩; (have hT3 := hT2d.step hf3)) | (go_at_call 64; with_reducible refine (how _ hT3.gr).mono ?_; rintro y w4 ⟨rfl, hf4⟩; (have hT4 := hT3.step hf4)) | (go_at_call 71; with_reducible refine (hqu _ hT4.gr).mono ?_; rintro y w5 ⟨rfl, hf5⟩; (have hT5 := hT4.step hf5)) | (go_at_call 70; with_reducible refine (hfr _ hT5.gr).mono ?_; rintro y w6 ⟨rfl, hf6⟩; (have hT6 := hT5.step hf6)) | (go_at_call 69; with_reducible refine (htk _ hT6.gr).mono ?_; rintro y w7 ⟨rfl, hf7⟩; (have hT7 := hT6.step hf7))))
  have hg8 := World.grownBy_alloc w7 (.cells #[.int .i64 p, .int .i64 cc, .int .i64 er, .int .i64 (IntKind.i64.wrap kk), .int .i64 fp, .int .i64 ow, .int .i64 qu, .int .i64 fr, .int .i64 tk] 3) none
  have hrow8 : (w7.alloc (.cells #[.int .i64 p, .int .i64 cc, .int .i64 er, .int .i64 (IntKind.i64.wrap kk), .int .i64 fp, .int .i64 ow, .int .i64 qu, .int .i64 fr, .int .i64 tk] 3)).ownsRow w.heap.size 3 1 (.slice (some ⟨w7.heap.size, 0, none⟩) 9 9) 9 (iL [p, cc, er, IntKind.i64.wrap kk, fp, ow, qu, fr, tk]) := row_new w7 w.heap.size 3 #[.int .i64 p, .int .i64 cc, .int .i64 er, .int .i64 (IntKind.i64.wrap kk), .int .i64 fp, .int .i64 ow, .int .i64 qu, .int .i64 fr, .int .i64 tk] hT7.gr.size (by simp)
  generalize (w7.alloc (.cells #[.int .i64 p, .int .i64 cc, .int .i64 er, .int .i64 (IntKind.i64.wrap kk), .int .i64 fp, .int .i64 ow, .int .i64 qu, .int .i64 fr, .int .i64 tk] 3)) = w8 at *
  have hG8 := gb_trans hT7.gr hg8
  have hsz8 := hG8.size
  have hsz7 := hT7.gr.size
  clear hfp how hqu hfr htk
  go_wp2_with (first | (at_builtin; go_must (refine push3 rfl _ _ rfl w.heap.size (.slice (some ⟨w7.heap.size, 0, none⟩) 9 9) 9 _ (by rfl) hrow8 1 (by rfl) (by omega) hsz8 ?_); intro g1 cap1 w9 ho9 hg9 hat9) | fail)
  go_ret2
  exact one_end2 (hs := []) (hT0 _ (gb_mine hG8 hg9 hsz7)) [p, cc, er, IntKind.i64.wrap kk, fp, ow, qu, fr, tk, 1] _ ho9

set_option maxRecDepth 100000 in
set_option maxHeartbeats 4000000 in
theorem one_tell_yn (h : IsS w sb F B b c d e f g A zs) (hI : Inv A) (hr : w.ownsRow 0 59 1 hv hs.length (hdls hs)) (hl : hs.length ≤ 1000000) (hF : ∀ k, hv.ownBlock = some k → ¬ F k) (an bn : Int) (H : Nat) (vv : Value) (j : Nat) (hj : j < hs.length) (hjw : ∀ W, Calls Try.prog 21 #[.int .i64 an, .int .i64 hs.length] W fun e w' => e = .returned (.int .i64 j) ∧ W = w') (dn : Int) (hd1 : dn ≠ 1) (hd2 : dn ≠ 2) (p cc er fp ow qu fr tk : Int) (kk : Nat) (hat : ∀ W, w.grownBy W none → Calls Try.prog 26 #[.pointer (some ⟨sb, 0, none⟩), .int .u64 ((hs.getD j 0) : Nat)] W fun y w' => y = .returned (.tuple #[.int .i64 p, .int .i64 cc, .int .i64 er]) ∧ W.grownBy w' none) (hof : ∀ W, w.grownBy W none → Calls Try.prog 66 #[.pointer (some ⟨sb, 0, none⟩), .int .i64 p] W fun y w' => y = .returned (.tuple #[.int .u64 kk, .bool true]) ∧ W.grownBy w' none) (hfp : ∀ W, w.grownBy W none → Calls Try.prog 58 #[.pointer (some ⟨sb, 0, none⟩)] W fun y w' => y = .returned (.int .i64 fp) ∧ W.grownBy w' none) (how : ∀ W, w.grownBy W none → Calls Try.prog 64 #[.pointer (some ⟨sb, 0, none⟩), .int .i64 an] W fun y w' => y = .returned (.int .i64 ow) ∧ W.grownBy w' none) (hqu : ∀ W, w.grownBy W none → Calls Try.prog 71 #[.pointer (some ⟨sb, 0, none⟩), .int .i64 an] W fun y w' => y = .returned (.int .i64 qu) ∧ W.grownBy w' none) (hfr : ∀ W, w.grownBy W none → Calls Try.prog 70 #[.pointer (some ⟨sb, 0, none⟩), .int .i64 an] W fun y w' => y = .returned (.int .i64 fr) ∧ W.grownBy w' none) (htk : ∀ W, w.grownBy W none → Calls Try.prog 69 #[.pointer (some ⟨sb, 0, none⟩), .int .i64 an] W fun y w' => y = .returned (.int .i64 tk) ∧ W.grownBy w' none) :
    Calls Try.prog 28 #[.pointer (some ⟨sb, 0, none⟩), .agg (opC dn an bn H false vv), hv] w (OneR w sb F b c d e f g A [p, cc, er, IntKind.i64.wrap kk, fp, ow, qu, fr, tk, 1] hv hs) := by
  have hal := World.grownBy_alloc w (.cells (opC dn an bn H false vv) 44) none
  have hbx := Box.new w 44 (opC dn an bn H false vv)
  obtain ⟨ha, hc, rfl, _, _, _, hha⟩ := row_shape hr
  have hT0 := fun W (hf : w.grownBy W none) => tk_of (A' := A) hf hr hF (Kp.refl F W) ⟨F, B, zs, h.kept0 hf, fun k hk => .inl hk⟩
  have hdz1 : (dn == 1) = false := beq_eq_false_iff_ne.2 hd1
  have hdz2 : (dn == 2) = false := beq_eq_false_iff_ne.2 hd2
  have hcs := fun W (hf : w.grownBy W none) => hf
  unfold opC at *
  obtain ⟨gh, rfl⟩ := hha (by omega)
  have hjc : ∀ W, w.grownBy W none → W.cell? ⟨gh, j, none⟩ = some (.int .u64 (hs.getD j 0 : Nat)) := fun W hf => by
    have := row_cell (row_kept hr hf (by simp)) j (.int .u64 (hs.getD j 0 : Nat)) (by simp [hdls, hj, List.getD])
    exact this
  have hj0 := hjc _ hal
  have hlz : decide ((hs.length : Int) > 0) = true := decide_eq_true (by omega)
  have hlz2 : decide (0 < (hs.length : Int)) = true := decide_eq_true (by omega)
  have hjz : (j : Int) < (hs.length : Int) := by omega
  clear hr hF h hjc
  generalize hs.getD j 0 = hj1 at *
  go_enter Try.func28, Try.ntmps28
  go_wp2_with (first | (go_at_call 26; go_must (with_reducible refine (hat _ hal).mono ?_); rintro y w1 ⟨rfl, hf1⟩; (have hF1 := gb_trans hal hf1)) | (go_at_call 66; go_must (with_reducible refine (hof _ hF1).mono ?_); rintro y w2 ⟨rfl, hf2⟩; (have hF2 := gb_trans hF1 hf2); (have hbx2 := (hbx.kept hf1 (by simp)).kept hf2 (by simp)); (have e1 := hbx2.cell 1); simp at e1) | (go_at_call 21; go_must (refine (hjw _).mono ?_); rintro y w' ⟨rfl, rfl⟩) | fail)
  have hT2 : TlS w dn an bn H _ vv w2 := ⟨hF2, hbx2⟩
  have hT2d := hT2.drew
  clear hbx2 hbx hat hof hf1 hf2 hF1 hcs hal hha hl
  go_region_held3 (fun w' => w'.cell? ⟨w.heap.size, 1, none⟩ = some (.int .i64 an)) ((first | with_reducible exact hT7.cc | with_reducible exact hT6.cc | with_reducible exact hT5.cc | with_reducible exact hT4.cc | with_reducible exact hT3.cc | with_reducible exact hT2d.cc | go_keep)) ((first | (go_at_call 13; with_reducible refine (num_any2 _ _).mono ?_; rintro y w' ⟨rfl, rfl⟩) | (go_at_call 58; with_reducible refine (hfp _ hT2d.gr).mono ?_; rintro y w3 ⟨rfl, hf3⟩; (have hT3 := hT2d.step hf3)) | (go_at_call 64; with_reducible refine (how _ hT3.gr).mono ?_; rintro y w4 ⟨rfl, hf4⟩; (have hT4 := hT3.step hf4)) | (go_at_call 71; with_reducible refine (hqu _ hT4.gr).mono ?_; rintro y w5 ⟨rfl, hf5⟩; (have hT5 := hT4.step hf5)) | (go_at_call 70; with_reducible refine (hfr _ hT5.gr).mono ?_; rintro y w6 ⟨rfl, hf6⟩; (have hT6 := hT5.step hf6)) | (go_at_call 69; with_reducible refine (htk _ hT6.gr).mono ?_; rintro y w7 ⟨rfl, hf7⟩; (have hT7 := hT6.step hf7))))
  have hg8 := World.grownBy_alloc w7 (.cells #[.int .i64 p, .int .i64 cc, .int .i64 er, .int .i64 (IntKind.i64.wrap kk), .int .i64 fp, .int .i64 ow, .int .i64 qu, .int .i64 fr, .int .i64 tk] 3) none
  have hrow8 : (w7.alloc (.cells #[.int .i64 p, .int .i64 cc, .int .i64 er, .int .i64 (IntKind.i64.wrap kk), .int .i64 fp, .int .i64 ow, .int .i64 qu, .int .i64 fr, .int .i64 tk] 3)).ownsRow w.heap.size 3 1 (.slice (some ⟨w7.heap.size, 0, none⟩) 9 9) 9 (iL [p, cc, er, IntKind.i64.wrap kk, fp, ow, qu, fr, tk]) := row_new w7 w.heap.size 3 #[.int .i64 p, .int .i64 cc, .int .i64 er, .int .i64 (IntKind.i64.wrap kk), .int .i64 fp, .int .i64 ow, .int .i64 qu, .int .i64 fr, .int .i64 tk] hT7.gr.size (by simp)
  generalize (w7.alloc (.cells #[.int .i64 p, .int .i64 cc, .int .i64 er, .int .i64 (IntKind.i64.wrap kk), .int .i64 fp, .int .i64 ow, .int .i64 qu, .int .i64 fr, .int .i64 tk] 3)) = w8 at *
  have hG8 := gb_trans hT7.gr hg8
  have hsz8 := hG8.size
  have hsz7 := hT7.gr.size
  clear hfp how hqu hfr htk
  go_wp2_with (first | (at_builtin; go_must (refine push3 rfl _ _ rfl w.heap.size (.slice (some ⟨w7.heap.size, 0, none⟩) 9 9) 9 _ (by rfl) hrow8 1 (by rfl) (by omega) hsz8 ?_); intro g1 cap1 w9 ho9 hg9 hat9) | fail)
  go_ret2
  exact one_end2 (hs := hs) (hT0 _ (gb_mine hG8 hg9 hsz7)) [p, cc, er, IntKind.i64.wrap kk, fp, ow, qu, fr, tk, 1] _ ho9

end
end Go.Proofs.Ytoaaaeefcipdcaa

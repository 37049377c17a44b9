/-
  pair.all.
-/
import Derived.Test.YtknhoncnaigogaaBq
namespace Go.Proofs.Ytknhoncnaigogaa
open Go.RowKit
set_option linter.unusedVariables false

set_option maxRecDepth 100000 in
set_option maxHeartbeats 4000000 in
theorem all_any {w : World} {p ab ag rb rg hb : Nat} {F P : Nat → Prop} {ps m : Nat} {zs : List Int} (hP : IsP w p ab ag rb rg hb F P ps m zs) :
    Calls Try.prog 13 #[.pointer (some ⟨p, 0, none⟩)] w fun e w' => e = .returned (.bool true) ∧ w.grownBy w' none := by
  have p0 := hP.box.cell 0
  have p1 := hP.box.cell 1
  simp at p0 p1
  have c0 := hP.r.c0
  have c1 := hP.r.c1
  have a0 := hP.a.c0
  have a1 := hP.a.c1
  have a2 := hP.a.c2
  have hb := hP.a.bounds
  have hpg := hP.a.hpg
  have hlen := hP.len
  have hps0 : (ps : Int) ≠ 0 := by omega
  have hq : (zs.length : Int).tdiv ps = m := by
    rw [hlen, Int.tdiv_eq_ediv_of_nonneg (by omega)]
    push_cast
    exact Int.mul_ediv_cancel_left _ hps0
  have hqw : IntKind.i64.wrap (m : Int) = m := by rw [IntKind.wrap_i64]; omega
  have HL : Hid (zs.length = ps * m) := hlen
  clear hlen
  go_enter Try.func13, Try.ntmps13
  go_wp2
  go_quiet (fail)
  have hG := gb_drewN (gb_refl w none) nq
  have hP1 := hP.kept0 hG
  clear p0 p1 c0 c1 a0 a1 a2 hP
  generalize w.drewN nq = V at *
  have p0 := hP1.box.cell 0
  have p1 := hP1.box.cell 1
  simp at p0 p1
  have c0 := hP1.r.c0
  have c1 := hP1.r.c1
  have k17 : ∀ q, Calls Try.prog 17 #[.pointer (some ⟨ab, 0, none⟩)] (V.drewN q) fun e w' => e = .returned (.int .i64 ps) ∧ w' = V.drewN q := fun q => (pageSize_any ab ps (V.drewN q) hP1.a.c0).mono fun e w' h => ⟨h.1, h.2.symm⟩
  have k18 : ∀ q, Calls Try.prog 18 #[.pointer (some ⟨ab, 0, none⟩)] (V.drewN q) fun e w' => e = .returned (.int .i64 m) ∧ w' = V.drewN q := fun q => (pages_any ab m (V.drewN q) hP1.a.c1).mono fun e w' h => ⟨h.1, h.2.symm⟩
  have k19 : ∀ q, Calls Try.prog 19 #[.pointer (some ⟨ab, 0, none⟩)] (V.drewN q) fun e w' => e = .returned (.int .i64 zs.length) ∧ w' = V.drewN q := fun q => (len_any ab ag zs.length (V.drewN q) hP1.a.c2).mono fun e w' h => ⟨h.1, h.2.symm⟩
  clear hq hqw
  go_wp2
  go_quiet ((first | (go_at_call 17; with_reducible exact Calls.quiet_of_same (k17 _)) | (go_at_call 18; with_reducible exact Calls.quiet_of_same (k18 _)) | (go_at_call 19; with_reducible exact Calls.quiet_of_same (k19 _))))
  have hG2 := gb_drewN hG nq
  have hP2 := hP1.kept0 (gb_drewN (gb_refl V none) nq)
  clear k17 k18 k19 p0 p1 c0 c1 hP1 hG
  generalize V.drewN nq = V2 at *
  go_wp2
  go_loopw [4] (fun c wr => ∃ i : Int, -1 ≤ i ∧ i ≤ m + 1 ∧ c = .int .i64 i ∧ V2.grownBy wr none) (fun c _ => (m + 1 - intOf c).toNat)
  case atStart => exact ⟨-1, by omega, by omega, rfl, gb_refl _ _⟩
  case round =>
    obtain ⟨i, hi0, hi1, rfl, hF⟩ := hrel
    by_cases hlt : i ≤ m
    · have hP3 := hP2.kept0 hF
      obtain ⟨xs, err, hbx, hlx, hcA, hcR⟩ := pack_page ps m zs hP2.a.hz hb.1.2 HL.out hpg.2 i
      unfold TellsA at hcA
      unfold TellsR at hcR
      dsimp only at hcA hcR
      have p0 := hP3.box.cell 0
      simp at p0
      have hd : decide (i ≤ (m : Int)) = true := by simpa using hlt
      go_wp2_with fail
      refine (hcA _ _ _ hP3.a).mono ?_
      rintro e w1 ⟨t, rfl, rfl, hf1, ht3, ht4⟩
      have hP4 := hP3.kept0 hf1
      have p1 := hP4.box.cell 1
      simp at p1
      have q1 : Has w1 t.adr t.xs.length t.xs := got_has ht3 (fun g hg => (ht4 g hg).2)
      clear hcA ht3 ht4 p0 hP3
      go_wp2_with fail
      refine (hcR _ _ _ hP4.r).mono ?_
      rintro e w2 ⟨ao, cap, rfl, hf2, hown⟩
      have q2 := hown.has
      have q1' := q1.kept0 hf2
      have hF2 := gb_trans (gb_trans hF hf1) hf2
      clear hcR q1 hown hf1 hf2 hP4 p1
      go_wp2_with (first | (go_at_call 16; refine (num_q _ _).mono ?_; rintro e w' ⟨rfl, hw⟩; subst hw) | (go_at_call 34; refine (equal_same q1' q2 hbx _ _).mono ?_; rintro e w' ⟨rfl, hw⟩; subst hw))
      go_roundw
      case rel => exact ⟨i + 1, by omega, by omega, by go_num, hF2⟩
      case measure => simp [intOf]; omega
    · have hd : decide (i ≤ (m : Int)) = false := by simpa using hlt
      go_wp2
      go_ret
      exact ⟨rfl, gb_trans hG2 hF⟩

end Go.Proofs.Ytknhoncnaigogaa

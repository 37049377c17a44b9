import Derived.Test.YtndjimdegkdljaaMf
/-
  Append, where no fault cuts what is appended.
-/
namespace Go.Proofs.Ytndjimdegkdljaa
open Go.RowKit Go.MapKept
set_option linter.unusedVariables false
set_option linter.unusedSimpArgs false
attribute [local go_sem] Oper.semAt_some

set_option maxRecDepth 100000 in
set_option maxHeartbeats 4000000 in
theorem append_26 {w : World} {p : Pl} {M : Md} (h : RP w p M) (ha : M.acts < 100000) (s : Bs) (hl : s.length ≤ 9223372036854775807) {L : List (Bs × Nat)} (hL : Rep L M.names) (hsm : sumL M L ≤ 1000000000000)
    {b : Bs} {g cp : Nat} (hb : Rdr w 5 1 g b.length cp (b.map b8)) (hgc : p.d ≠ g) (rm : Nat) (hrm : (rm : Int) = max (M.space - (sumL M L : Int)) 0) (hbd : b.length ≤ 2097152) (hbd2 : ∀ k, (M.file k).1.length + b.length ≤ 1000000000)
    (hk3 : (fvo (M.plan ((M.acts + 1 : Nat) : Int))).kind ≠ 3) :
    Calls Try.prog 26 #[pv p.d, sv s, .slice (some ⟨g, 0, none⟩) b.length cp] w fun e w' => ∃ v, e = .returned v ∧ ErrV w' v [97, 112, 112, 101, 110, 100] s (actR M (doAp M.act1 rm s b)).1 ∧ ∃ p', RP w' p' (actR M (doAp M.act1 rm s b)).2 ∧ Aft w w' p p' := by
  obtain ⟨bv, hbv⟩ : ∃ bv, Value.slice (some ⟨g, 0, none⟩) b.length cp = bv := ⟨_, rfl⟩
  have gg : w.grownBy (((w.alloc (.cells #[pv p.d] 25)).alloc (.cells #[sv s] 9)).alloc (.cells #[.slice (some ⟨g, 0, none⟩) b.length cp] 38)) none := gb_alloc (gb_alloc (gb_alloc (gb_refl w none) _) _) _
  have B1 : Box (((w.alloc (.cells #[pv p.d] 25)).alloc (.cells #[sv s] 9)).alloc (.cells #[.slice (some ⟨g, 0, none⟩) b.length cp] 38)) 25 w.heap.size #[pv p.d] := ((Box.new w 25 _).kept (gb_alloc (gb_refl _ none) _) (by simp)).kept (gb_alloc (gb_refl _ none) _) (by simp)
  have B2 : Box (((w.alloc (.cells #[pv p.d] 25)).alloc (.cells #[sv s] 9)).alloc (.cells #[.slice (some ⟨g, 0, none⟩) b.length cp] 38)) 9 (w.heap.size + 1) #[sv s] := by
    have := Box.new (w.alloc (.cells #[pv p.d] 25)) 9 #[sv s]
    rw [show (w.alloc (.cells #[pv p.d] 25)).heap.size = w.heap.size + 1 by simp] at this
    exact this.kept (gb_alloc (gb_refl _ none) _) (by simp)
  have B3 : Box (((w.alloc (.cells #[pv p.d] 25)).alloc (.cells #[sv s] 9)).alloc (.cells #[.slice (some ⟨g, 0, none⟩) b.length cp] 38)) 38 (w.heap.size + 2) #[.slice (some ⟨g, 0, none⟩) b.length cp] := by
    have := Box.new ((w.alloc (.cells #[pv p.d] 25)).alloc (.cells #[sv s] 9)) 38 #[.slice (some ⟨g, 0, none⟩) b.length cp]
    rwa [show ((w.alloc (.cells #[pv p.d] 25)).alloc (.cells #[sv s] 9)).heap.size = w.heap.size + 2 by simp] at this
  have hlt := h.lt p.d (by rw [h.cd]; decide)
  have h62 := begin_62 (h.gb gg) ha
  have hbd1 : ∀ k, (M.act1.file k).1.length + b.length ≤ M.act1.acts * 2097152 := fun k => by
    have : (M.file k).1.length ≤ M.acts * 2097152 := by
      by_cases hk : k < M.files.length
      · exact h.ok.nb _ (List.mem_of_getElem? (file_some hk))
      · unfold Md.file
        rw [List.getElem?_eq_none (by omega)]
        simp
    show (M.file k).1.length + b.length ≤ (M.acts + 1) * 2097152
    omega
  have hbg := hb.kept gg (by simp)
  obtain ⟨W0, hW0⟩ : ∃ W, ((w.alloc (.cells #[pv p.d] 25)).alloc (.cells #[sv s] 9)).alloc (.cells #[.slice (some ⟨g, 0, none⟩) b.length cp] 38) = W := ⟨_, rfl⟩
  rw [hW0] at gg B1 B2 B3 h62 hbg
  have hW0' := hW0
  have c1 : W0.cell? ⟨w.heap.size, 0, none⟩ = some (pv p.d) := B1.cell 0
  obtain ⟨f, hf⟩ : ∃ f, fvo (M.plan ((M.acts + 1 : Nat) : Int)) = f := ⟨_, rfl⟩
  unfold actR
  rw [hf] at h62 hk3 ⊢
  obtain ⟨r, hr⟩ : ∃ r, doAp M.act1 rm s b = r := ⟨_, rfl⟩
  rw [hr]
  have HRR := Lib.hid hr
  clear hr
  obtain ⟨st, kd, pt⟩ := f
  have hk3' : (kd == 3) = false := by simpa using hk3
  have HH := Lib.hid (And.intro h (And.intro gg (And.intro B1 (And.intro B2 (And.intro B3 hbg)))))
  obtain ⟨nb, hnb⟩ : ∃ nb, b.length = nb := ⟨_, rfl⟩
  rw [hnb]
  rw [hnb] at hW0
  clear h hb B1 B2 B3 hbg hf gg hbv hW0'
  go_enter Try.func26, Try.ntmps26
  go_upto_region 4 with (go_at_call 62; go_must (refine h62.mono ?_); rintro e w1 ⟨rfl, hp1, hk1⟩; (have HP := Lib.hid (And.intro hp1 hk1)); clear hp1 hk1 h62)
  obtain ⟨hp1, hk1⟩ := HP.out
  obtain ⟨h, gg, B1, B2, B3, hbg⟩ := HH.out
  have gV := gb_alloc (gb_refl w1 none) (.cells #[.int .i64 st, .int .i64 kd, .int .i64 pt] 117)
  have BV := Box.new w1 117 #[.int .i64 st, .int .i64 kd, .int .i64 pt]
  obtain ⟨V, hV⟩ : ∃ V, w1.alloc (.cells #[.int .i64 st, .int .i64 kd, .int .i64 pt] 117) = V := ⟨_, rfl⟩
  rw [hV] at gV BV ⊢
  have hpV : RP V p M.act1 := hp1.gb gV
  have C1 := (hk1.box B1 (by omega)).kept gV (by simp)
  have C2 := (hk1.box B2 (by omega)).kept gV (by simp)
  have C3 := (hk1.box B3 (by omega)).kept gV (by simp)
  have hbV : Rdr V 5 1 g b.length cp (b.map b8) := (hbg.same (hk1.block g hbg.lt (by omega))).kept gV (by simp)
  have h63 := fun (W : World) (gW : V.grownBy W none) => bear_64 (hpV.gb gW) ⟨st, kd, pt⟩ #[pv w.heap.size, pv (w.heap.size + 1), pv (w.heap.size + 1 + 1)] r.1 (M2 := r.2) (fun W' gW' => HRR.out ▸ clo_64 ((hpV.gb gW).gb gW') s hl hL hsm ((hbV.kept gW (by simp)).kept gW' (by simp)) rm hrm hbd1 hbd2 ((C1.kept gW (by simp)).kept gW' (by simp)) ((C2.kept gW (by simp)).kept gW' (by simp)) ((C3.kept gW (by simp)).kept gW' (by simp)))
  have hA : Aft w V p p := ((Aft.of gg).trans (Aft.kp1 (h.gb gg) hk1)).trans (Aft.of gV)
  have hcol : p.col (w.heap.size + 1) = 0 := by
    by_cases hc : p.col (w.heap.size + 1) = 0
    · exact hc
    · have := h.lt _ hc
      omega
  have v1 : V.cell? ⟨w.heap.size, 0, none⟩ = some (pv p.d) := C1.cell 0
  have v2 : V.cell? ⟨w.heap.size + 1, 0, none⟩ = some (sv s) := C2.cell 0
  have v3 : V.cell? ⟨w1.heap.size, 0, none⟩ = some (.int .i64 st) := BV.cell 0
  have v4 : V.cell? ⟨w1.heap.size, 1, none⟩ = some (.int .i64 kd) := BV.cell 1
  have v5 : V.cell? ⟨w1.heap.size, 2, none⟩ = some (.int .i64 pt) := BV.cell 2
  have h30 := refusal_30 [97, 112, 112, 101, 110, 100] s (bearR kd r.1 M.act1 r.2).1
  have HA := Lib.hid (And.intro hA (And.intro hcol C2))
  clear hp1 hk1 h gg B1 B2 B3 hbg HP HH hV hW0 hpV C1 C2 C3 hbV hA hcol BV gV c1
  clear HRR
  go_region_with (first
    | (go_at_call 63; go_must (refine (h63 _ (gb_drew (gb_refl _ _))).mono ?_); rintro y w2 ⟨rfl, p2, hp2, ha2⟩; (have n2 : w2.cell? ⟨w.heap.size + 1, 0, none⟩ = some (sv s) := (ha2.kp.box (show Box V.drew 9 _ _ from HA.out.2.2) (by simp [HA.out.2.1])).cell 0); (have HP2 := Lib.hid (And.intro hp2 ha2)); clear hp2 ha2)
    | (go_at_call 30; go_must (refine (h30 _).mono ?_); rintro y w3 ⟨v, rfl, hv, g3⟩; (have HV := Lib.hid (And.intro hv g3)); clear hv g3))
  all_goals
    go_wp2
    go_ret
    exact ⟨v, rfl, HV.out.1, p2, HP2.out.1.gb HV.out.2, ((HA.out.1.trans (Aft.of (gb_drew (gb_refl _ _)))).trans HP2.out.2).trans (Aft.of HV.out.2)⟩
end Go.Proofs.Ytndjimdegkdljaa

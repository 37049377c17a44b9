import Derived.Test.YtndjimdegkdljaaZe
import Derived.Test.YtndjimdegkdljaaYh
/-
  Append of the program, whatever fault bears on it.
-/
namespace Go.Proofs.Ytndjimdegkdljaa
open Go.RowKit Go.MapKept
set_option linter.unusedVariables false
set_option linter.unusedSimpArgs false
attribute [local go_sem] Oper.semAt_some

/-- Two cells of two boxes of the call's own turned, in either order. -/
theorem two_set {V : World} {a b : Nat} {t1 t2 : TypeId} {A B : Array Value} (hA : Box V t1 a A) (hB : Box V t2 b B) (hne : a ≠ b) (i j : Nat) (x y : Value) (X : World)
    (hX : X = ((V.setCell ⟨a, i, none⟩ x).setCell ⟨b, j, none⟩ y) ∨ X = ((V.setCell ⟨b, j, none⟩ y).setCell ⟨a, i, none⟩ x)) :
    Box X t1 a (A.setIfInBounds i x) ∧ Box X t2 b (B.setIfInBounds j y) ∧ Kp (fun k => k = a ∨ k = b) V X := by
  rcases hX with rfl | rfl
  · exact ⟨(hA.set i x).kept (gb_setCell (gb_refl _ (some b)) y) (by simpa using hne), (hB.kept (gb_setCell (gb_refl _ (some a)) x) (by simpa using hne.symm)).set j y,
      ((Kp.refl _ V).step (gb_setCell (gb_refl _ (some a)) x) (fun k hk => .inl (.inl (Option.some.inj hk).symm))).step (gb_setCell (gb_refl _ (some b)) y) (fun k hk => .inl (.inr (Option.some.inj hk).symm))⟩
  · exact ⟨(hA.kept (gb_setCell (gb_refl _ (some b)) y) (by simpa using hne)).set i x, (hB.set j y).kept (gb_setCell (gb_refl _ (some a)) x) (by simpa using hne.symm),
      ((Kp.refl _ V).step (gb_setCell (gb_refl _ (some b)) y) (fun k hk => .inl (.inr (Option.some.inj hk).symm))).step (gb_setCell (gb_refl _ (some a)) x) (fun k hk => .inl (.inl (Option.some.inj hk).symm))⟩
set_option maxRecDepth 100000 in
set_option maxHeartbeats 4000000 in
theorem append_26t {w : World} {p : Pl} {M : Md} (h : RP w p M) (ha : M.acts < 100000) (s : Bs) (hl : s.length ≤ 9223372036854775807) {L : List (Bs × Nat)} (hL : Rep L M.names) (hsm : sumL M L ≤ 1000000000000)
    {b : Bs} {g cp : Nat} (hb : Rdr w 5 1 g b.length cp (b.map b8)) (hgc : p.d ≠ g) (rm : Nat) (hrm : (rm : Int) = max (M.space - (sumL M L : Int)) 0) (hbd : b.length ≤ 2097152) (hbd2 : ∀ k, (M.file k).1.length + b.length ≤ 1000000000)
    (hk3 : (fvo (M.plan ((M.acts + 1 : Nat) : Int))).kind = 3) :
    Calls Try.prog 26 #[pv p.d, sv s, .slice (some ⟨g, 0, none⟩) b.length cp] w fun e w' => ∃ v, e = .returned v ∧ ErrV w' v [97, 112, 112, 101, 110, 100] s (bearR 2 (doAp M.act1 rm s (b.take (cutP M b.length))).1 M.act1 (doAp M.act1 rm s (b.take (cutP M b.length))).2).1 ∧ ∃ p', RP w' p' (bearR 2 (doAp M.act1 rm s (b.take (cutP M b.length))).1 M.act1 (doAp M.act1 rm s (b.take (cutP M b.length))).2).2 ∧ Aft w w' p p' := by
  have gg : w.grownBy (((w.alloc (.cells #[pv p.d] 25)).alloc (.cells #[sv s] 9)).alloc (.cells #[.slice (some ⟨g, 0, none⟩) b.length cp] 38)) none := gb_alloc (gb_alloc (gb_alloc (gb_refl w none) _) _) _
  have B1 : Box (((w.alloc (.cells #[pv p.d] 25)).alloc (.cells #[sv s] 9)).alloc (.cells #[.slice (some ⟨g, 0, none⟩) b.length cp] 38)) 25 w.heap.size #[pv p.d] := ((Box.new w 25 _).kept (gb_alloc (gb_refl _ none) _) (by simp)).kept (gb_alloc (gb_refl _ none) _) (by simp)
  have B2 : Box (((w.alloc (.cells #[pv p.d] 25)).alloc (.cells #[sv s] 9)).alloc (.cells #[.slice (some ⟨g, 0, none⟩) b.length cp] 38)) 9 (w.heap.size + 1) #[sv s] := by
    have := Box.new (w.alloc (.cells #[pv p.d] 25)) 9 #[sv s]
    rw [show (w.alloc (.cells #[pv p.d] 25)).heap.size = w.heap.size + 1 by simp] at this
    exact this.kept (gb_alloc (gb_refl _ none) _) (by simp)
  have B3 : Box (((w.alloc (.cells #[pv p.d] 25)).alloc (.cells #[sv s] 9)).alloc (.cells #[.slice (some ⟨g, 0, none⟩) b.length cp] 38)) 38 (w.heap.size + 2) #[.slice (some ⟨g, 0, none⟩) b.length cp] := by
    have := Box.new ((w.alloc (.cells #[pv p.d] 25)).alloc (.cells #[sv s] 9)) 38 #[.slice (some ⟨g, 0, none⟩) b.length cp]
    rwa [show ((w.alloc (.cells #[pv p.d] 25)).alloc (.cells #[sv s] 9)).heap.size = w.heap.size + 2 by simp] at this
  have hlt := h.lt p.d (by rw [h.cd]; decide)
  have h62 := begin_62 (h.gb gg) ha
  have hct := cutP_le M b.length
  have hcte := cutP_eq M b.length
  obtain ⟨m3, hm3⟩ : ∃ m, cutP M b.length = m := ⟨_, rfl⟩
  rw [hm3] at hct hcte ⊢
  have hlen : (b.take m3).length = m3 := by rw [List.length_take]; omega
  have hbt := hb.take hct
  rw [Nat.mul_one, ← List.map_take] at hbt
  have hncp : b.length ≤ cp := hb.2.1
  have hcpm : cp ≤ maxLen := hb.2.2.1
  unfold maxLen at hcpm
  obtain ⟨b3, hb3⟩ : ∃ b3, b.take m3 = b3 := ⟨_, rfl⟩
  rw [hb3] at hbt hlen ⊢
  have hbd1 := act1_bd h.ok (n := b3.length) (by omega)
  have hbd3 : ∀ k, (M.act1.file k).1.length + b3.length ≤ 1000000000 := fun k => by have := hbd2 k; show (M.file k).1.length + _ ≤ _; omega
  have hbg := hbt.kept gg (by simp)
  obtain ⟨W0, hW0⟩ : ∃ W, ((w.alloc (.cells #[pv p.d] 25)).alloc (.cells #[sv s] 9)).alloc (.cells #[.slice (some ⟨g, 0, none⟩) b.length cp] 38) = W := ⟨_, rfl⟩
  rw [hW0] at gg B1 B2 B3 h62 hbg
  have hW0' := hW0
  have hWs : W0.heap.size = w.heap.size + 3 := by rw [← hW0]; simp
  have c1 : W0.cell? ⟨w.heap.size, 0, none⟩ = some (pv p.d) := B1.cell 0
  obtain ⟨f, hf⟩ : ∃ f, fvo (M.plan ((M.acts + 1 : Nat) : Int)) = f := ⟨_, rfl⟩
  rw [hf] at h62 hk3 hcte
  obtain ⟨r, hr⟩ : ∃ r, doAp M.act1 rm s b3 = r := ⟨_, rfl⟩
  rw [hr]
  have HRR := Lib.hid hr
  clear hr
  obtain ⟨st, kd, pt⟩ := f
  simp only at hk3 hcte
  subst hk3
  have h46 := fun W => within_46 pt (b.length : Int) (by omega) W
  rw [hcte] at h46
  have i0 : (0 : Int) ≤ (m3 : Int) := by omega
  have i1 : (m3 : Int) ≤ (cp : Int) := by omega
  have i2 : m3 ≤ cp := by omega
  have HH := Lib.hid (And.intro h (And.intro gg (And.intro B1 (And.intro B2 (And.intro B3 (And.intro hbg (And.intro hlen hWs)))))))
  obtain ⟨nb, hnb⟩ : ∃ nb, b.length = nb := ⟨_, rfl⟩
  rw [hnb] at h46 ⊢
  rw [hnb] at hW0 hncp hct
  clear h hb B1 B2 B3 hbg hf gg hW0' hbt hm3 hcte hlen hb3 hWs
  go_enter Try.func26, Try.ntmps26
  go_upto_region 3 with (go_at_call 62; go_must (refine h62.mono ?_); rintro e w1 ⟨rfl, hp1, hk1⟩; (have HP := Lib.hid (And.intro hp1 hk1)); clear hp1 hk1 h62)
  obtain ⟨hp1, hk1⟩ := HP.out
  obtain ⟨h, gg, B1, B2, B3, hbg, hlen, hWs⟩ := HH.out
  have gV := gb_alloc (gb_refl w1 none) (.cells #[.int .i64 st, .int .i64 3, .int .i64 pt] 117)
  have BV := Box.new w1 117 #[.int .i64 st, .int .i64 3, .int .i64 pt]
  obtain ⟨V, hV⟩ : ∃ V, w1.alloc (.cells #[.int .i64 st, .int .i64 3, .int .i64 pt] 117) = V := ⟨_, rfl⟩
  rw [hV] at gV BV ⊢
  have hpV : RP V p M.act1 := hp1.gb gV
  have C1 := (hk1.box B1 (by omega)).kept gV (by simp)
  have C2 := (hk1.box B2 (by omega)).kept gV (by simp)
  have C3 := (hk1.box B3 (by omega)).kept gV (by simp)
  rw [hnb] at C3
  have hbV : Rdr V 5 1 g b3.length cp (b3.map b8) := by
    rw [hlen]
    exact (hbg.same (hk1.block g hbg.lt (by omega))).kept gV (by simp)
  have hA : Aft w V p p := ((Aft.of gg).trans (Aft.kp1 (h.gb gg) hk1)).trans (Aft.of gV)
  have hz1 : w.heap.size + 3 ≤ w1.heap.size := by have := hk1.size; omega
  have hgw1 : g < w.heap.size + 3 := by rw [← hWs]; exact hbg.lt
  have hgn : g ≠ w.heap.size + 2 := by
    intro e
    obtain ⟨_, _, _, cur, fr, hc, _⟩ := hbV
    have hb3 : V.heap[w.heap.size + 2]? = _ := C3
    rw [e] at hc
    rw [hc] at hb3
    cases hb3
  have v3 : V.cell? ⟨w1.heap.size, 0, none⟩ = some (.int .i64 st) := BV.cell 0
  have v4 : V.cell? ⟨w1.heap.size, 1, none⟩ = some (.int .i64 3) := BV.cell 1
  have v5 : V.cell? ⟨w1.heap.size, 2, none⟩ = some (.int .i64 pt) := BV.cell 2
  have v6 : V.cell? ⟨w.heap.size + 2, 0, none⟩ = some (.slice (some ⟨g, 0, none⟩) nb cp) := C3.cell 0
  have z4 : V.frozen? ⟨w1.heap.size, 1, none⟩ = false := BV.fz 1
  have z6 : V.frozen? ⟨w.heap.size + 2, 0, none⟩ = false := C3.fz 0
  have hne1 : ¬ w.heap.size + 2 = w1.heap.size := by omega
  have hne2 : ¬ w1.heap.size = w.heap.size + 2 := by omega
  have HV := Lib.hid (And.intro hpV (And.intro C1 (And.intro C2 (And.intro C3 (And.intro hbV (And.intro hA BV))))))
  have HLT := Lib.hid (And.intro h.lt hp1.lt)
  clear hp1 hk1 h gg B1 B2 B3 hbg HP HH hV hW0 hpV C1 C2 C3 hbV hA BV gV c1
  go_cut [] from 13 to 20 (fun wd => Box wd 38 (w.heap.size + 2) #[.slice (some ⟨g, 0, none⟩) m3 cp] ∧ Box wd 117 w1.heap.size #[.int .i64 st, .int .i64 2, .int .i64 pt] ∧ Kp (fun k => k = w.heap.size + 2 ∨ k = w1.heap.size) V wd)
  case first =>
    go_region_with (go_at_call 46; go_must (refine (h46 _).mono ?_); rintro y w9 ⟨rfl, hw9⟩; have hw8 := hw9.symm; subst hw8)
    all_goals
      go_wp2_with fail
      go_meet
      obtain ⟨q1, q2, q3⟩ := two_set HV.out.2.2.2.1 HV.out.2.2.2.2.2.2 hne1 0 1 (.slice (some ⟨g, 0, none⟩) m3 cp) (.int .i64 2) _ (.inl rfl)
      exact ⟨q1, q2, q3.step (gb_drew (gb_refl _ none)) (by simp)⟩
  case rest =>
    obtain ⟨X1, X2, XK⟩ := hcut
    obtain ⟨X, hX⟩ : ∃ X, X = wc := ⟨_, rfl⟩
    subst hX
    obtain ⟨hpV, C1, C2, C3, hbV, hA, BV⟩ := HV.out
    obtain ⟨hLT, hLT1⟩ := HLT.out
    have u1 : p.col (w.heap.size + 2) = 0 := by
      by_cases hc : p.col (w.heap.size + 2) = 0
      · exact hc
      · have := hLT _ hc; omega
    have u2 : p.col w1.heap.size = 0 := by
      by_cases hc : p.col w1.heap.size = 0
      · exact hc
      · have := hLT1 _ hc; omega
    have hn0 : ∀ k, p.col k ≠ 0 → ¬ (k = w.heap.size + 2 ∨ k = w1.heap.size) := by
      rintro k hk (rfl | rfl)
      · exact hk u1
      · exact hk u2
    have hpX := hpV.kp XK hn0
    have D1 := XK.box C1 (by omega)
    have D2 := XK.box C2 (by omega)
    have hbX : Rdr X 5 1 g b3.length cp (b3.map b8) := hbV.same (XK.block g hbV.lt (by omega))
    have hAX : Aft w X p p := ⟨hA.kp.trans XK (fun _ h => h) (fun k hk => .inr (by omega)), rfl, fun _ _ h => h⟩
    have h63 := fun (W : World) (gW : X.grownBy W none) => bear_64 (hpX.gb gW) ⟨st, 2, pt⟩ #[pv w.heap.size, pv (w.heap.size + 1), pv (w.heap.size + 1 + 1)] r.1 (M2 := r.2) (fun W' gW' => HRR.out ▸ clo_64 ((hpX.gb gW).gb gW') s hl hL hsm ((hbX.kept gW (by simp)).kept gW' (by simp)) rm hrm hbd1 hbd3 ((D1.kept gW (by simp)).kept gW' (by simp)) ((D2.kept gW (by simp)).kept gW' (by simp)) (by rw [hlen]; exact (X1.kept gW (by simp)).kept gW' (by simp)))
    have hcol : p.col (w.heap.size + 1) = 0 := by
      by_cases hc : p.col (w.heap.size + 1) = 0
      · exact hc
      · have := hLT _ hc
        omega
    have v1 : X.cell? ⟨w.heap.size, 0, none⟩ = some (pv p.d) := D1.cell 0
    have v2 : X.cell? ⟨w.heap.size + 1, 0, none⟩ = some (sv s) := D2.cell 0
    have v3 : X.cell? ⟨w1.heap.size, 0, none⟩ = some (.int .i64 st) := X2.cell 0
    have v4 : X.cell? ⟨w1.heap.size, 1, none⟩ = some (.int .i64 2) := X2.cell 1
    have v5 : X.cell? ⟨w1.heap.size, 2, none⟩ = some (.int .i64 pt) := X2.cell 2
    have h30 := refusal_30 [97, 112, 112, 101, 110, 100] s (bearR 2 r.1 M.act1 r.2).1
    have HA := Lib.hid (And.intro hAX (And.intro hcol D2))
    clear hpV C1 C2 C3 hbV hA BV hLT hLT1 u1 u2 hn0 hpX D1 D2 hbX hAX X1 X2 XK hcol HV HLT HRR
    go_upto_region 4 with fail
    go_region_with (first
      | (go_at_call 63; go_must (refine (h63 _ (gb_drew (gb_refl _ _))).mono ?_); rintro y w2 ⟨rfl, p2, hp2, ha2⟩; (have n2 : w2.cell? ⟨w.heap.size + 1, 0, none⟩ = some (sv s) := (ha2.kp.box (show Box X.drew 9 _ _ from HA.out.2.2) (by simp [HA.out.2.1])).cell 0); (have HP2 := Lib.hid (And.intro hp2 ha2)); clear hp2 ha2)
      | (go_at_call 30; go_must (refine (h30 _).mono ?_); rintro y w3 ⟨v, rfl, hv, g3⟩; (have HV := Lib.hid (And.intro hv g3)); clear hv g3))
    all_goals
      go_wp2
      go_ret
      exact ⟨v, rfl, HV.out.1, p2, HP2.out.1.gb HV.out.2, ((HA.out.1.trans (Aft.of (gb_drew (gb_refl _ _)))).trans HP2.out.2).trans (Aft.of HV.out.2)⟩
/-- Append, whatever fault bears on it. -/
theorem append_26x {w : World} {p : Pl} {M : Md} (h : RP w p M) (ha : M.acts < 100000) (s : Bs) (hl : s.length ≤ 9223372036854775807) {L : List (Bs × Nat)} (hL : Rep L M.names) (hsm : sumL M L ≤ 1000000000000)
    {b : Bs} {g cp : Nat} (hb : Rdr w 5 1 g b.length cp (b.map b8)) (hgc : p.d ≠ g) (rm : Nat) (hrm : (rm : Int) = max (M.space - (sumL M L : Int)) 0) (hbd : b.length ≤ 2097152) (hbd2 : ∀ k, (M.file k).1.length + b.length ≤ 1000000000) :
    Calls Try.prog 26 #[pv p.d, sv s, .slice (some ⟨g, 0, none⟩) b.length cp] w fun e w' => ∃ v, e = .returned v ∧ ErrV w' v [97, 112, 112, 101, 110, 100] s (apX M rm s b).1 ∧ ∃ p', RP w' p' (apX M rm s b).2 ∧ Aft w w' p p' := by
  by_cases hk3 : (fvo (M.plan ((M.acts + 1 : Nat) : Int))).kind = 3
  · have := append_26t h ha s hl hL hsm hb hgc rm hrm hbd hbd2 hk3
    have e : apX M rm s b = bearR 2 (doAp M.act1 rm s (b.take (cutP M b.length))).1 M.act1 (doAp M.act1 rm s (b.take (cutP M b.length))).2 := by
      unfold apX apR
      rw [if_pos hk3]
    rw [e]
    exact this
  · have := append_26 h ha s hl hL hsm hb hgc rm hrm hbd hbd2 hk3
    have e : apX M rm s b = actR M (doAp M.act1 rm s b) := by
      unfold apX apR
      rw [if_neg hk3]
    rw [e]
    exact this
end Go.Proofs.Ytndjimdegkdljaa

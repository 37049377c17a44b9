import Derived.Test.YtohneboimmcocaaGreatPc
import Derived.Test.YtohneboimmcocaaGreatPa
import Derived.Test.YtohneboimmcocaaGreatOi
/-
  LruExact: pick.
-/
namespace Go.Proofs.YtohneboimmcocaaGreat
open Go.RowKit
set_option linter.unusedVariables false

theorem below_gb {w W : World} (h : Below w.heap.size w W) : w.grownBy W none := ⟨h.os, h.tape, h.output, h.size, fun k hk _ => h.block k hk⟩
/-- Two boxes of slices. -/
theorem two_boxes (w2 : World) (dv : Value) {W6 : World} (hW : W6 = (w2.alloc (.cells #[dv] 38)).alloc (.cells #[.slice none 0 0] 38)) :
    Box W6 38 w2.heap.size #[dv] ∧ Box W6 38 (w2.heap.size + 1) #[.slice none 0 0] ∧ w2.grownBy W6 none ∧ W6.heap.size = w2.heap.size + 1 + 1 := by
  subst hW
  have b1 := Box.new w2 38 #[dv]
  have g2 := World.grownBy_alloc w2 (.cells #[dv] 38) none
  have s2 : (w2.alloc (.cells #[dv] 38)).heap.size = w2.heap.size + 1 := by simp
  generalize w2.alloc (.cells #[dv] 38) = V at *
  have g3 := World.grownBy_alloc V (.cells #[.slice none 0 0] 38) none
  refine ⟨b1.kept g3 (by simp), ?_, gb_trans g2 g3, by simp [s2]⟩
  have := Box.new V 38 #[.slice none 0 0]
  rw [s2] at this
  exact this

section
variable {w : World} {P : Nat → Prop} {wb N : Nat} {hot warm : Nat} {D0 : Wd}
set_option maxRecDepth 100000 in
set_option maxHeartbeats 4000000 in
theorem pick_11 (hG : GS w P wb N hot warm D0) (o : Opv) (ho : o.Ok) (bt : Int) :
    Calls Tryz.prog 11 #[.pointer (some ⟨wb, 0, none⟩), .agg o.cs, .int .i64 bt] w fun y w' => y = .returned (.bool true) ∧ w.grownBy w' none := by
  have hal := World.grownBy_alloc w (.cells o.cs 29) none
  obtain ⟨H, h64, h14⟩ := handle_14 (hG.kept0 hal) o ho
  have hb0 := Box.new w 29 o.cs
  have h14' := h14.mono (R' := fun y w1 => y = .returned (.int .u64 H) ∧ w.grownBy w1 none ∧ Box w1 29 w.heap.size o.cs) (by
    rintro y w1 ⟨rfl, hf⟩
    exact ⟨rfl, gb_trans hal hf, hb0.kept hf (by simp)⟩)
  have h39 := fun W (hf : w.grownBy W none) => deads_39 (hG.kept0 hf) bt
  have hcs := fun W (hf : w.grownBy W none) => (hG.kept0 hf).cells
  obtain ⟨R, T, mk, hR⟩ := gs_row hG o.c
  have hlw : wb < w.heap.size := World.block_lt_of_cell? _ _ (hcs w (gb_refl _ _)).1
  clear hG h14 ho
  unfold Opv.cs at *
  obtain ⟨d0, a0, b0, c0v, h0v, r0⟩ := o
  dsimp only at *
  -- whoever is its own
  have hmain : ∀ (own : Nat) (w1 : World), w.grownBy w1 none → Box w1 29 w.heap.size #[.int .i64 d0, .int .i64 a0, .int .i64 b0, .int .i64 c0v, .int .u64 h0v, .bool r0] → ∀ (w2 : World) (dv : Value) (ds : List Nat), ds.length ≤ 300 → w1.grownBy w2 none → w2.ownsRow w1.heap.size 27 1 dv ds.length (uvs ds) → ∀ W6, W6 = (w2.alloc (.cells #[dv] 38)).alloc (.cells #[.slice none 0 0] 38) →
      Hid (w.grownBy W6.drew none ∧ JP w.heap.size (w2.heap.size + 1 + 1) (w2.heap.size + 1) w2.heap.size w.heap.size #[.int .i64 d0, .int .i64 a0, .int .i64 b0, .int .i64 c0v, .int .u64 h0v, .bool r0] dv ds W6.drew []) ∧ Calls Tryz.prog 38 #[.pointer (some ⟨D0.xb, 0, none⟩), .int .i64 c0v, .int .u64 own, .int .i64 b0, .func (.func 40) #[] #[.pointer (some ⟨w2.heap.size + 1, 0, none⟩), .pointer (some ⟨w2.heap.size, 0, none⟩)]] W6.drew fun y w' => y = .returned (.tuple #[.int .u64 (pd own b0 mk (fun x => decide (x ∈ ds)) ⟨0, false, 0⟩ R).1.h, .bool (pd own b0 mk (fun x => decide (x ∈ ds)) ⟨0, false, 0⟩ R).2, .int .i64 (pd own b0 mk (fun x => decide (x ∈ ds)) ⟨0, false, 0⟩ R).1.lk]) ∧ Hid (w.grownBy w' none ∧ JP w.heap.size (w2.heap.size + 1 + 1) (w2.heap.size + 1) w2.heap.size w.heap.size #[.int .i64 d0, .int .i64 a0, .int .i64 b0, .int .i64 c0v, .int .u64 h0v, .bool r0] dv ds w' (snf own b0 (fun x => decide (x ∈ ds)) R [])) := by
    intro own w1 hf1 hbo w2 dv ds hds hf2 hrd W6 hW6
    obtain ⟨k1, k2, k3, k4⟩ := two_boxes w2 dv hW6
    have hd : W6.grownBy W6.drew none := gb_drew (gb_refl _ _)
    have hsz : W6.drew.heap.size = w2.heap.size + 1 + 1 := k4
    have hf6 := gb_trans hf1 (gb_trans hf2 (gb_trans k3 hd))
    have l1 := hf1.size
    have l2 := hf2.size
    have lo := hbo.lt
    have hJL : JL w.heap.size (w2.heap.size + 1 + 1) (w2.heap.size + 1) w2.heap.size w.heap.size dv := ⟨by omega, ⟨by omega, by omega⟩, by omega, by omega, by omega, by omega, fun k hk => by have := (hrd.lt k hk).2; omega⟩
    have hJ0 : JP w.heap.size (w2.heap.size + 1 + 1) (w2.heap.size + 1) w2.heap.size w.heap.size #[.int .i64 d0, .int .i64 a0, .int .i64 b0, .int .i64 c0v, .int .u64 h0v, .bool r0] dv ds W6.drew [] := by
      refine ⟨⟨_, k2.kept hd (by simp), World.ownsRow_nil _ _ _ _, fun k hk => by simp [Value.ownBlock] at hk⟩, k1.kept hd (by simp), row_down (row_kept hrd (gb_trans k3 hd) (by simp)) l1, ((hbo.kept hf2 (by simp)).kept (gb_trans k3 hd) (by simp))⟩
    refine ⟨⟨hf6, hJ0⟩, ?_⟩
    have hB6 : Below w.heap.size w W6.drew := blw hf6 (Nat.le_refl _)
    have hok := jp_ok (o6 := #[.int .i64 d0, .int .i64 a0, .int .i64 b0, .int .i64 c0v, .int .u64 h0v, .bool r0]) (ds := ds) hJL
    rw [← hsz] at hok hJ0 ⊢
    rw [← hsz] at hJL
    refine (pick_38G (w := W6.drew) (n₀ := w.heap.size) (by omega) (fun W Bl Bc m h1 h2 h3 h4 h5 h6 h7 => hR.seq W Bl Bc m h1 h2 h3 h4 h5 h6 (hB6.trans h7)) (fun W H h1 h2 => hR.act W H (hB6.trans h1) h2) own b0 (fun x => decide (x ∈ ds)) hok hJ0 hR.ln (fun W x xs h1 h2 h3 h4 _ => ask_40 hJL h2 h3 hds h4 x)).mono ?_
    rintro y w' ⟨rfl, hb, hj⟩
    exact ⟨rfl, below_gb (hB6.trans hb), hj⟩
  have hdoc : ∀ (own : Nat) (n0 : Nat) (ta td : Nat) (dv : Value) (ds : List Nat) (W : World), ds.length ≤ 300 → Hid (w.grownBy W none ∧ JP w.heap.size n0 ta td w.heap.size #[.int .i64 d0, .int .i64 a0, .int .i64 b0, .int .i64 c0v, .int .u64 h0v, .bool r0] dv ds W (snf own b0 (fun x => decide (x ∈ ds)) R [])) → Calls Tryz.prog 41 #[.pointer (some ⟨D0.mb, 0, none⟩), .int .i64 c0v, .int .u64 own, .int .i64 b0, dv] W fun y w' => ∃ v, y = .returned (.tuple #[.int .u64 (pd own b0 mk (fun x => decide (x ∈ ds)) ⟨0, false, 0⟩ R).1.h, .bool (pd own b0 mk (fun x => decide (x ∈ ds)) ⟨0, false, 0⟩ R).2, v]) ∧ W.grownBy w' none ∧ w'.ownsRow W.heap.size 27 1 v (snf own b0 (fun x => decide (x ∈ ds)) R []).length (uvs (snf own b0 (fun x => decide (x ∈ ds)) R [])) := by
    intro own n0 ta td dv ds W hds hH
    obtain ⟨hf, hj⟩ := hH.out
    refine d_pick hR.ln (hR.row W hf) (fun W' H hf' => ?_) (fun W' H hf' hH => hR.is W' H (gb_trans hf hf') hH)
    obtain ⟨da, dc, rfl, _⟩ := row_shape hj.b3
    exact in_83 (row_kept hj.b3 hf' (by simp)) (by omega)
  have hlen : ∀ (own : Nat) (ds : List Nat), (pd own b0 mk (fun x => decide (x ∈ ds)) ⟨0, false, 0⟩ R).1.lk = (snf own b0 (fun x => decide (x ∈ ds)) R []).length := fun own ds => pd_len
  have hln5 : ∀ (own : Nat) (ds : List Nat), (snf own b0 (fun x => decide (x ∈ ds)) R []).length ≤ 5000 := fun own ds => by
    have h1 := snf_le own b0 (fun x => decide (x ∈ ds)) R []
    have h2 := hR.ln
    simp at h1
    omega
  have u0 := hb0.cell 0
  have u1 := hb0.cell 1
  have u2 := hb0.cell 2
  have u3 := hb0.cell 3
  have u4 := hb0.cell 4
  have u5 := hb0.cell 5
  simp at u0 u1 u2 u3 u4 u5
  clear hR hb0
  have hkk : ∀ (n0 ta td : Nat) (dv : Value) (ds : List Nat) (W : World) (xs : List Nat), Hid (w.grownBy W none ∧ JP w.heap.size n0 ta td w.heap.size #[.int .i64 d0, .int .i64 a0, .int .i64 b0, .int .i64 c0v, .int .u64 h0v, .bool r0] dv ds W xs) → W.cell? ⟨wb, 2, none⟩ = some (.pointer (some ⟨D0.xb, 0, none⟩)) ∧ W.cell? ⟨w.heap.size, 3, none⟩ = some (.int .i64 c0v) ∧ W.cell? ⟨w.heap.size, 2, none⟩ = some (.int .i64 b0) := fun n0 ta td dv ds W xs h => ⟨(hcs W h.out.1).2.2.1, h.out.2.b4.cell 3, h.out.2.b4.cell 2⟩
  have hkm : ∀ (n0 ta td : Nat) (dv : Value) (ds : List Nat) (W : World) (xs : List Nat), Hid (w.grownBy W none ∧ JP w.heap.size n0 ta td w.heap.size #[.int .i64 d0, .int .i64 a0, .int .i64 b0, .int .i64 c0v, .int .u64 h0v, .bool r0] dv ds W xs) → W.cell? ⟨wb, 5, none⟩ = some (.pointer (some ⟨D0.mb, 0, none⟩)) ∧ W.cell? ⟨w.heap.size, 3, none⟩ = some (.int .i64 c0v) ∧ W.cell? ⟨w.heap.size, 2, none⟩ = some (.int .i64 b0) ∧ W.cell? ⟨td, 0, none⟩ = some dv := fun n0 ta td dv ds W xs h => ⟨(hcs W h.out.1).2.2.2.2.2, h.out.2.b4.cell 3, h.out.2.b4.cell 2, h.out.2.b2.cell 0⟩
  have hgo : ∀ (n0 ta td : Nat) (dv : Value) (ds : List Nat) (W W' : World) (xs : List Nat), Hid (w.grownBy W none ∧ JP w.heap.size n0 ta td w.heap.size #[.int .i64 d0, .int .i64 a0, .int .i64 b0, .int .i64 c0v, .int .u64 h0v, .bool r0] dv ds W xs) → W.grownBy W' none → Hid (w.grownBy W' none ∧ JP w.heap.size n0 ta td w.heap.size #[.int .i64 d0, .int .i64 a0, .int .i64 b0, .int .i64 c0v, .int .u64 h0v, .bool r0] dv ds W' xs) := fun n0 ta td dv ds W W' xs h hf => by
    obtain ⟨tv, q1, q2, q3⟩ := h.out.2.b1
    exact ⟨gb_trans h.out.1 hf, ⟨tv, q1.kept hf (by simp), row_kept q2 hf (by simp), q3⟩, h.out.2.b2.kept hf (by simp), row_kept h.out.2.b3 hf (by simp), h.out.2.b4.kept hf (by simp)⟩
  have hask : ∀ (n0 ta td : Nat) (dv : Value) (ds : List Nat) (W : World) (SN : List Nat) (sv : Value) (B : Nat), Hid (w.grownBy W none ∧ JP w.heap.size n0 ta td w.heap.size #[.int .i64 d0, .int .i64 a0, .int .i64 b0, .int .i64 c0v, .int .u64 h0v, .bool r0] dv ds W SN) → W.ownsRow B 27 1 sv SN.length (uvs SN) → ∃ aa ac sa sc, sv = .slice sa SN.length sc ∧ (∀ W', W.grownBy W' none → W'.cell? ⟨ta, 0, none⟩ = some (.slice aa SN.length ac)) ∧ ∀ W', W.grownBy W' none → ∀ k, k < SN.length → ∃ g1 g2 v : Nat, aa = some ⟨g1, 0, none⟩ ∧ sa = some ⟨g2, 0, none⟩ ∧ W'.cell? ⟨g1, k, none⟩ = some (.int .u64 (v : Int)) ∧ W'.cell? ⟨g2, k, none⟩ = some (.int .u64 (v : Int)) := fun n0 ta td dv ds W SN sv B h hs => by
    obtain ⟨tv, q1, q2, q3⟩ := h.out.2.b1
    obtain ⟨aa, ac, rfl, _, _, _, haa⟩ := row_shape q2
    obtain ⟨sa, sc, rfl, _, _, _, hsa⟩ := row_shape hs
    refine ⟨aa, ac, sa, sc, rfl, fun W' hf => (q1.kept hf (by simp)).cell 0, fun W' hf k hk => ?_⟩
    obtain ⟨g1, rfl⟩ := haa (by omega)
    obtain ⟨g2, rfl⟩ := hsa (by omega)
    exact ⟨g1, g2, SN[k], rfl, rfl, gb_cellN hf (row_cell q2 k _ (uvs_get (List.getElem?_eq_getElem hk))), gb_cellN hf (row_cell hs k _ (uvs_get (List.getElem?_eq_getElem hk)))⟩
  go_enter Tryz.func11, Tryz.ntmps11
  go_wp2_with (first | (go_at_call 14; go_must (refine h14'.mono ?_); rintro y w1 ⟨rfl, hf1, hb1⟩; (have v1 := hb1.cell 1); (have v5 := hb1.cell 5); simp at v1 v5) | fail)
  clear u0 u1 u2 u3 u4 u5 h14' v1 v5
  · refine (h39 _ hf1).mono ?_
    rintro y w2 ⟨dv, ds, hds, rfl, hf2, hrd⟩
    obtain ⟨da, dc, hdv, _⟩ := row_shape hrd
    subst hdv
    go_wp2_with fail
    obtain ⟨hE6, h38⟩ := hmain 0 w1 hf1 hb1 w2 (.slice da ds.length dc) ds hds hf2 hrd _ rfl
    have h41 := fun W hH => hdoc 0 (w2.heap.size + 1 + 1) (w2.heap.size + 1) w2.heap.size (.slice da ds.length dc) ds W hds hH
    have hl5 := hln5 0 ds
    rw [hlen 0 ds] at h38
    simp only [show (((0 : Nat) : Nat) : Int) = 0 from rfl] at h38 h41
    clear hmain hdoc hlen hln5 h39 hf1 hb1 hf2 hrd hds
    generalize pd 0 b0 mk (fun x => decide (x ∈ ds)) ⟨0, false, 0⟩ R = r at *
    generalize snf 0 b0 (fun x => decide (x ∈ ds)) R [] = SN at *
    generalize (w2.alloc (.cells #[.slice da ds.length dc] 38)).alloc (.cells #[.slice none 0 0] 38) = W6 at *
    have hk0 := hkk _ _ _ _ _ _ _ hE6
    go_region_held3 (fun W => W.cell? ⟨wb, 2, none⟩ = some (.pointer (some ⟨D0.xb, 0, none⟩)) ∧ W.cell? ⟨w.heap.size, 3, none⟩ = some (.int .i64 c0v) ∧ W.cell? ⟨w.heap.size, 2, none⟩ = some (.int .i64 b0)) ((first | with_reducible exact hk1 | with_reducible exact hk0 | go_keep)) ((go_at_call 38; with_reducible refine h38.mono ?_; rintro y w7 ⟨rfl, hE7⟩; (have hk1 := hkk _ _ _ _ _ _ _ hE7)))
    clear hk0 hk1 h38 hE6 hkk
    go_wp2_with fail
    have hE8 := hgo _ _ _ _ _ _ _ _ hE7 (gb_drew (gb_refl w7 none))
    have h41' := h41 _ hE8
    have hk0 := hkm _ _ _ _ _ _ _ hE8
    go_region_held3 (fun W => W.cell? ⟨wb, 5, none⟩ = some (.pointer (some ⟨D0.mb, 0, none⟩)) ∧ W.cell? ⟨w.heap.size, 3, none⟩ = some (.int .i64 c0v) ∧ W.cell? ⟨w.heap.size, 2, none⟩ = some (.int .i64 b0) ∧ W.cell? ⟨w2.heap.size, 0, none⟩ = some (.slice da ds.length dc)) ((first | with_reducible exact hk1 | with_reducible exact hk0 | go_keep)) ((go_at_call 41; with_reducible refine h41'.mono ?_; rintro y w8 ⟨sv, rfl, hf8, hr8⟩; (have hE9 := hgo _ _ _ _ _ _ _ _ hE8 hf8); (have hk1 := hkm _ _ _ _ _ _ _ hE9)))
    obtain ⟨aa, ac, sa, sc, rfl, hca, hcel⟩ := hask _ _ _ _ _ _ _ _ _ hE9 hr8
    have hfin : Hid (w.grownBy w8 none) := hE9.out.1
    clear hk0 hk1 h41 h41' hE7 hE8 hE9 hgo hkm hask hcs hr8 hf8
    generalize SN.length = ln at *
    have ca := hca _ (gb_refl _ _)
    go_wp2
    go_loopw [16] (fun iv wz => ∃ k : Nat, k ≤ ln ∧ iv = .int .i64 k ∧ w8.grownBy wz none) (fun iv _ => ln - (intOf iv).toNat)
    case atStart => exact ⟨0, by omega, rfl, gb_refl _ _⟩
    case round =>
      obtain ⟨k, hk, rfl, hgz⟩ := hrel
      have ck := hca _ hgz
      by_cases hkl : k < ln
      · have e1 : decide ((k : Int) < ln) = true := decide_eq_true (by omega)
        have e2 : (k : Int) < ln := by omega
        obtain ⟨g1', g2', v, rfl, rfl, q1, q2⟩ := hcel _ hgz k hkl
        clear hca hcel
        go_wp2_with fail
        go_quiet (fail)
        go_wp2_with fail
        exact ⟨⟨k + 1, by omega, by go_num, gb_trans hgz (gb_drewN (gb_refl _ _) _)⟩, by simp [intOf]; omega⟩
      · obtain rfl : k = ln := by omega
        have e1 : decide ((k : Int) < k) = false := decide_eq_false (by omega)
        clear hca hcel
        go_wp2
        go_ret
        exact ⟨rfl, gb_trans hfin.out hgz⟩
  · refine (h39 _ hf1).mono ?_
    rintro y w2 ⟨dv, ds, hds, rfl, hf2, hrd⟩
    obtain ⟨da, dc, hdv, _⟩ := row_shape hrd
    subst hdv
    go_wp2_with fail
    obtain ⟨hE6, h38⟩ := hmain H w1 hf1 hb1 w2 (.slice da ds.length dc) ds hds hf2 hrd _ rfl
    have h41 := fun W hH => hdoc H (w2.heap.size + 1 + 1) (w2.heap.size + 1) w2.heap.size (.slice da ds.length dc) ds W hds hH
    have hl5 := hln5 H ds
    rw [hlen H ds] at h38
    clear hmain hdoc hlen hln5 h39 hf1 hb1 hf2 hrd hds
    generalize pd H b0 mk (fun x => decide (x ∈ ds)) ⟨0, false, 0⟩ R = r at *
    generalize snf H b0 (fun x => decide (x ∈ ds)) R [] = SN at *
    generalize (w2.alloc (.cells #[.slice da ds.length dc] 38)).alloc (.cells #[.slice none 0 0] 38) = W6 at *
    have hk0 := hkk _ _ _ _ _ _ _ hE6
    go_region_held3 (fun W => W.cell? ⟨wb, 2, none⟩ = some (.pointer (some ⟨D0.xb, 0, none⟩)) ∧ W.cell? ⟨w.heap.size, 3, none⟩ = some (.int .i64 c0v) ∧ W.cell? ⟨w.heap.size, 2, none⟩ = some (.int .i64 b0)) ((first | with_reducible exact hk1 | with_reducible exact hk0 | go_keep)) ((go_at_call 38; with_reducible refine h38.mono ?_; rintro y w7 ⟨rfl, hE7⟩; (have hk1 := hkk _ _ _ _ _ _ _ hE7)))
    clear hk0 hk1 h38 hE6 hkk
    go_wp2_with fail
    have hE8 := hgo _ _ _ _ _ _ _ _ hE7 (gb_drew (gb_refl w7 none))
    have h41' := h41 _ hE8
    have hk0 := hkm _ _ _ _ _ _ _ hE8
    go_region_held3 (fun W => W.cell? ⟨wb, 5, none⟩ = some (.pointer (some ⟨D0.mb, 0, none⟩)) ∧ W.cell? ⟨w.heap.size, 3, none⟩ = some (.int .i64 c0v) ∧ W.cell? ⟨w.heap.size, 2, none⟩ = some (.int .i64 b0) ∧ W.cell? ⟨w2.heap.size, 0, none⟩ = some (.slice da ds.length dc)) ((first | with_reducible exact hk1 | with_reducible exact hk0 | go_keep)) ((go_at_call 41; with_reducible refine h41'.mono ?_; rintro y w8 ⟨sv, rfl, hf8, hr8⟩; (have hE9 := hgo _ _ _ _ _ _ _ _ hE8 hf8); (have hk1 := hkm _ _ _ _ _ _ _ hE9)))
    obtain ⟨aa, ac, sa, sc, rfl, hca, hcel⟩ := hask _ _ _ _ _ _ _ _ _ hE9 hr8
    have hfin : Hid (w.grownBy w8 none) := hE9.out.1
    clear hk0 hk1 h41 h41' hE7 hE8 hE9 hgo hkm hask hcs hr8 hf8
    generalize SN.length = ln at *
    have ca := hca _ (gb_refl _ _)
    go_wp2
    go_loopw [16] (fun iv wz => ∃ k : Nat, k ≤ ln ∧ iv = .int .i64 k ∧ w8.grownBy wz none) (fun iv _ => ln - (intOf iv).toNat)
    case atStart => exact ⟨0, by omega, rfl, gb_refl _ _⟩
    case round =>
      obtain ⟨k, hk, rfl, hgz⟩ := hrel
      have ck := hca _ hgz
      by_cases hkl : k < ln
      · have e1 : decide ((k : Int) < ln) = true := decide_eq_true (by omega)
        have e2 : (k : Int) < ln := by omega
        obtain ⟨g1', g2', v, rfl, rfl, q1, q2⟩ := hcel _ hgz k hkl
        clear hca hcel
        go_wp2_with fail
        go_quiet (fail)
        go_wp2_with fail
        exact ⟨⟨k + 1, by omega, by go_num, gb_trans hgz (gb_drewN (gb_refl _ _) _)⟩, by simp [intOf]; omega⟩
      · obtain rfl : k = ln := by omega
        have e1 : decide ((k : Int) < k) = false := decide_eq_false (by omega)
        clear hca hcel
        go_wp2
        go_ret
        exact ⟨rfl, gb_trans hfin.out hgz⟩
  · refine (h39 _ hf1).mono ?_
    rintro y w2 ⟨dv, ds, hds, rfl, hf2, hrd⟩
    obtain ⟨da, dc, hdv, _⟩ := row_shape hrd
    subst hdv
    go_wp2_with fail
    obtain ⟨hE6, h38⟩ := hmain H w1 hf1 hb1 w2 (.slice da ds.length dc) ds hds hf2 hrd _ rfl
    have h41 := fun W hH => hdoc H (w2.heap.size + 1 + 1) (w2.heap.size + 1) w2.heap.size (.slice da ds.length dc) ds W hds hH
    have hl5 := hln5 H ds
    rw [hlen H ds] at h38
    clear hmain hdoc hlen hln5 h39 hf1 hb1 hf2 hrd hds
    generalize pd H b0 mk (fun x => decide (x ∈ ds)) ⟨0, false, 0⟩ R = r at *
    generalize snf H b0 (fun x => decide (x ∈ ds)) R [] = SN at *
    generalize (w2.alloc (.cells #[.slice da ds.length dc] 38)).alloc (.cells #[.slice none 0 0] 38) = W6 at *
    have hk0 := hkk _ _ _ _ _ _ _ hE6
    go_region_held3 (fun W => W.cell? ⟨wb, 2, none⟩ = some (.pointer (some ⟨D0.xb, 0, none⟩)) ∧ W.cell? ⟨w.heap.size, 3, none⟩ = some (.int .i64 c0v) ∧ W.cell? ⟨w.heap.size, 2, none⟩ = some (.int .i64 b0)) ((first | with_reducible exact hk1 | with_reducible exact hk0 | go_keep)) ((go_at_call 38; with_reducible refine h38.mono ?_; rintro y w7 ⟨rfl, hE7⟩; (have hk1 := hkk _ _ _ _ _ _ _ hE7)))
    clear hk0 hk1 h38 hE6 hkk
    go_wp2_with fail
    have hE8 := hgo _ _ _ _ _ _ _ _ hE7 (gb_drew (gb_refl w7 none))
    have h41' := h41 _ hE8
    have hk0 := hkm _ _ _ _ _ _ _ hE8
    go_region_held3 (fun W => W.cell? ⟨wb, 5, none⟩ = some (.pointer (some ⟨D0.mb, 0, none⟩)) ∧ W.cell? ⟨w.heap.size, 3, none⟩ = some (.int .i64 c0v) ∧ W.cell? ⟨w.heap.size, 2, none⟩ = some (.int .i64 b0) ∧ W.cell? ⟨w2.heap.size, 0, none⟩ = some (.slice da ds.length dc)) ((first | with_reducible exact hk1 | with_reducible exact hk0 | go_keep)) ((go_at_call 41; with_reducible refine h41'.mono ?_; rintro y w8 ⟨sv, rfl, hf8, hr8⟩; (have hE9 := hgo _ _ _ _ _ _ _ _ hE8 hf8); (have hk1 := hkm _ _ _ _ _ _ _ hE9)))
    obtain ⟨aa, ac, sa, sc, rfl, hca, hcel⟩ := hask _ _ _ _ _ _ _ _ _ hE9 hr8
    have hfin : Hid (w.grownBy w8 none) := hE9.out.1
    clear hk0 hk1 h41 h41' hE7 hE8 hE9 hgo hkm hask hcs hr8 hf8
    generalize SN.length = ln at *
    have ca := hca _ (gb_refl _ _)
    go_wp2
    go_loopw [16] (fun iv wz => ∃ k : Nat, k ≤ ln ∧ iv = .int .i64 k ∧ w8.grownBy wz none) (fun iv _ => ln - (intOf iv).toNat)
    case atStart => exact ⟨0, by omega, rfl, gb_refl _ _⟩
    case round =>
      obtain ⟨k, hk, rfl, hgz⟩ := hrel
      have ck := hca _ hgz
      by_cases hkl : k < ln
      · have e1 : decide ((k : Int) < ln) = true := decide_eq_true (by omega)
        have e2 : (k : Int) < ln := by omega
        obtain ⟨g1', g2', v, rfl, rfl, q1, q2⟩ := hcel _ hgz k hkl
        clear hca hcel
        go_wp2_with fail
        go_quiet (fail)
        go_wp2_with fail
        exact ⟨⟨k + 1, by omega, by go_num, gb_trans hgz (gb_drewN (gb_refl _ _) _)⟩, by simp [intOf]; omega⟩
      · obtain rfl : k = ln := by omega
        have e1 : decide ((k : Int) < k) = false := decide_eq_false (by omega)
        clear hca hcel
        go_wp2
        go_ret
        exact ⟨rfl, gb_trans hfin.out hgz⟩
end
end Go.Proofs.YtohneboimmcocaaGreat

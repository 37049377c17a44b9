/-
  CountOrder.
-/
import Derived.Test.YtonbkpfnpnlkpaaDoorY1
import Derived.Test.YtonbkpfnpnlkpaaDoorM
import Derived.Test.YtonbkpfnpnlkpaaDoorN
import Derived.Test.YtonbkpfnpnlkpaaDoorW
import Derived.Deep.MidRow
import Derived.Deep.RegionHeld3
import Derived.Deep.CutRange
import Derived.Great.Walk
namespace Go.Proofs.YtonbkpfnpnlkpaaDoor
open Go.ChangeShapes Go.WideShapes Go.ChangeAt Go.RowKit
set_option linter.unusedVariables false
set_option linter.unusedSimpArgs false
attribute [local go_sem] Oper.semAt_some

/-- The four boards. -/
structure Od (w W : World) (A B C D : Nat) (Na Nb Nc Nd : Cn) : Prop where
  a : Bd W A 0 Na
  b : Bd W B 0 Nb
  c : Bd W C 0 Nc
  d : Bd W D 0 Nd
  gb : w.grownBy W none
theorem Od.grown {w W W' : World} {A B C D : Nat} {Na Nb Nc Nd : Cn} (h : Od w W A B C D Na Nb Nc Nd) (g : W.grownBy W' none) : Od w W' A B C D Na Nb Nc Nd :=
  ⟨Box.kept h.a g (by simp), Box.kept h.b g (by simp), Box.kept h.c g (by simp), Box.kept h.d g (by simp), gb_trans h.gb g⟩
theorem StP.keptK {Bs : Nat} {N : Cn} {v : Value} {w w' : World} {b : Nat} (h : StP Bs N v w) (kp : Kp (· = b) w w') (hb : b < Bs) : StP Bs N v w' := by
  obtain ⟨g, c, rfl, hr⟩ := h
  refine ⟨g, c, rfl, row_same hr (fun k hk => ?_)⟩
  have := World.ownsRow.lt hr k hk
  exact kp.block k this.2 (by omega)
set_option maxRecDepth 100000 in
set_option maxHeartbeats 8000000 in
theorem order_6 (v : Value) (l : List Oc) (w : World) (hW : Wo w) (hv : Ocs w v l) :
    Calls Tryd.prog 6 #[v] w fun e w' => e = .returned (.bool true) ∧ w.grownBy w' none := by
  obtain ⟨ao, c, rfl, hlc, hc, hx⟩ := hv
  unfold maxLen at hc
  have hlen : l.length ≤ 9223372036854775807 := by omega
  have h10 := wakes_10 w hW
  have h00 := hW.lt
  go_enter Tryd.func6, Tryd.ntmps6
  go_wp2_with (go_at_call 10; (with_reducible refine h10.mono ?_); rintro e w1 ⟨rfl, hg1⟩)
  refine (new_11 w1).mono ?_
  rintro e w2 ⟨rfl, hb2, hg2, hs2⟩
  go_wp2_with fail
  refine (new_11 w2).mono ?_
  rintro e w3 ⟨rfl, hb3, hg3, hs3⟩
  go_wp2_with fail
  refine (new_11 w3).mono ?_
  rintro e w4 ⟨rfl, hb4, hg4, hs4⟩
  go_wp2_with fail
  refine (new_11 w4).mono ?_
  rintro e w5 ⟨rfl, hb5, hg5, hs5⟩
  rw [hs2] at hb3 hs3
  rw [hs3] at hb4 hs4
  rw [hs4] at hb5 ⊢
  obtain ⟨A, hA⟩ : ∃ A, A = w1.heap.size := ⟨_, rfl⟩
  obtain ⟨B, hB⟩ : ∃ B, B = w1.heap.size + 1 := ⟨_, rfl⟩
  obtain ⟨C, hC⟩ : ∃ C, C = w1.heap.size + 1 + 1 := ⟨_, rfl⟩
  obtain ⟨D, hD⟩ : ∃ D, D = w1.heap.size + 1 + 1 + 1 := ⟨_, rfl⟩
  rw [← hD, ← hC, ← hB, ← hA]
  rw [← hA] at hb2
  rw [← hB] at hb3
  rw [← hC] at hb4
  rw [← hD] at hb5
  have hn1 := hg1.size
  have hwA : w.heap.size ≤ A := by omega
  have hAB : A < B := by omega
  have hBC : B < C := by omega
  have hCD : C < D := by omega
  obtain ⟨n, hn⟩ : ∃ n, n = min l.length 2000 := ⟨_, rfl⟩
  have hnm : min (l.length : Int) 2000 = (n : Int) := by omega
  have O0 : Od w w5 A B C D (plus N0 (su (fO l) 0)) (plus N0 (su (fun k => fO l (n - 1 - k)) 0)) (plus N0 (su (ev (fO l)) 0)) (plus N0 (su (od (fO l)) 0)) := by
    have e : plus N0 (fun _ => 0) = N0 := plus_zero N0_fit
    simp only [su, e]
    exact ⟨Box.kept (Box.kept (Box.kept hb2 hg3 (by simp)) hg4 (by simp)) hg5 (by simp), Box.kept (Box.kept hb3 hg4 (by simp)) hg5 (by simp), Box.kept hb4 hg5 (by simp), hb5, gb_trans (gb_trans (gb_trans (gb_trans hg1 hg2) hg3) hg4) hg5⟩
  clear hb2 hb3 hb4 hb5 hA hB hC hD hg2 hg3 hg4 hg5 hs2 hs3 hs4 hs5 h10
  go_wp2
  rw [← hn]
  have hnl : n ≤ l.length := by omega
  have hn2 : n ≤ 2000 := by omega
  clear hn hnm
  go_loopw [8] (fun v wr => ∃ i : Nat, i ≤ n ∧ v = .int .i64 i ∧ Od w wr A B C D (plus N0 (su (fO l) i)) (plus N0 (su (fun k => fO l (n - 1 - k)) i)) (plus N0 (su (ev (fO l)) i)) (plus N0 (su (od (fO l)) i))) (fun v _ => n - (intOf v).toNat)
  case atStart => exact ⟨0, by omega, rfl, O0⟩
  case round =>
    clear O0
    obtain ⟨i, hi, rfl, E⟩ := hrel
    rcases (by omega : i < n ∨ i = n) with hlt | hend
    · obtain ⟨j1, hj1⟩ : ∃ j1, j1 + 1 = n := ⟨n - 1, by omega⟩
      obtain ⟨j, hj⟩ : ∃ j, j + i = j1 := ⟨j1 - i, by omega⟩
      have hjn : n - 1 - i = j := by omega
      obtain ⟨x, hxi⟩ : ∃ x, l[i]? = some x := ⟨_, List.getElem?_eq_getElem (by omega)⟩
      obtain ⟨z, hzi⟩ : ∃ z, l[j]? = some z := ⟨_, List.getElem?_eq_getElem (by omega)⟩
      obtain ⟨okx, g, o, rfl, cx⟩ := hx i x hxi
      obtain ⟨okz, g', o', eo, cz⟩ := hx j z hzi
      injection eo with eo
      injection eo with eo1 eo2
      subst eo1 eo2
      have rgx : wr.rangeAt g (o + i * 23) (ocL x) := fun k u hu => gb_cellN E.gb (cx k u hu)
      have rgz : wr.rangeAt g (o + j * 23) (ocL z) := fun k u hu => gb_cellN E.gb (cz k u hu)
      have d1 : IntKind.i64.wrap ((n : Int) - 1) = (j1 : Int) := by rw [IntKind.wrap_i64]; omega
      have d2 : IntKind.i64.wrap ((j1 : Int) - i) = (j : Int) := by rw [IntKind.wrap_i64]; omega
      have d3 : IntKind.i64.wrap (j1 : Int) = (j1 : Int) := by rw [IntKind.wrap_i64]; omega
      have d4 : IntKind.i64.wrap (j : Int) = (j : Int) := by rw [IntKind.wrap_i64]; omega
      have e1 : (n : Int) - 1 = (j1 : Int) := by omega
      have e2 : (j1 : Int) - i = (j : Int) := by omega
      have dd1 : (i : Int) < l.length := by omega
      have dd2 : (j : Int) < l.length := by omega
      have dd3 : (i : Int) < n := by omega
      clear hx cx cz
      have h22x := fun (X : World) (hX : wr.grownBy X none) => fewer_22 x X (okx.kept (gb_trans E.gb hX))
      have h22z := fun (X : World) (hX : wr.grownBy X none) => fewer_22 z X (okz.kept (gb_trans E.gb hX))
      have fx := okx.few
      have fz := okz.few
      have nx : (Tryd.prog.info? 53).map (·.size) = some (ocL x).length := by rw [ocL_len]; exact size53
      have nz : (Tryd.prog.info? 53).map (·.size) = some (ocL z).length := by rw [ocL_len]; exact size53
      obtain ⟨i0, hi0, hz0, hz1, hz2⟩ := info_parts Tryd.info53
      go_wp2_with fail
      go_cut [9, 10] from 40 to 52 (fun v9 v10 wc => ∃ b9 b10, v9 = .pointer (some ⟨b9, 0, none⟩) ∧ v10 = .pointer (some ⟨b10, 0, none⟩) ∧ b9 ≠ b10 ∧ wr.heap.size ≤ b9 ∧ wr.heap.size ≤ b10 ∧ Box wc 53 b9 (ocL (fewO x)).toArray ∧ Box wc 53 b10 (ocL (fewO z)).toArray ∧ wr.grownBy wc none)
      case first =>
        refine wp_region_noPanic ?_
        refine wp_region_held_drew (S := fun W : World => wr.grownBy W none) (by kernel_rfl) (gb_drew (gb_refl _ none)) (fun hg => ?_)
        generalize wr.drew = W at hg ⊢
        refine wpAnyH_take (i := 0) (oi := { dst := some 40, op := Op.move (Operand.tmp 0), type := 50, pos := _, after := #[], guard := none }) (v := ?_) rfl (by kernel_rfl) (by kernel_rfl) (by kernel_rfl) (fun _ _ _ h => h) (Or.inl ⟨by rfl, ?_⟩) (by first | trivial | assumption) ?_
        rotate_left 1
        · (intro W hSw; go_simp; (try (with_reducible rfl)))
        try simp only [Act.put, List.setIfInBounds_toArray, List.set_cons_zero, List.set_cons_succ]
        refine wpAnyH_take (i := 1) (oi := { dst := some 41, op := Op.move (Operand.tmp 8), type := 3, pos := _, after := #[], guard := none }) (v := ?_) rfl (by kernel_rfl) (by kernel_rfl) (by kernel_rfl) (fun _ _ _ h => h) (Or.inl ⟨by rfl, ?_⟩) (by first | trivial | assumption) ?_
        rotate_left 1
        · (intro W hSw; go_simp; (try (with_reducible rfl)))
        try simp only [Act.put, List.setIfInBounds_toArray, List.set_cons_zero, List.set_cons_succ]
        refine wpAnyH_take (i := 2) (oi := { dst := some 42, op := Op.indexAddr 50 (Operand.tmp 40) (Operand.tmp 41), type := 0, pos := _, after := #[{ on := 0, ground := Ground.data }, { on := 1, ground := Ground.data }], guard := none }) (v := ?_) rfl (by kernel_rfl) (by kernel_rfl) (by kernel_rfl) (fun _ _ _ h => h) (Or.inl ⟨by rfl, ?_⟩) (by first | trivial | assumption) ?_
        rotate_left 1
        · (intro W hSw; go_simp; (try (with_reducible rfl)))
        try simp only [Act.put, List.setIfInBounds_toArray, List.set_cons_zero, List.set_cons_succ]
        refine wpAnyH_take (i := 3) (oi := { dst := some 43, op := Op.load 53 (Operand.tmp 42), type := 53, pos := _, after := #[{ on := 2, ground := Ground.data }], guard := none }) (v := _) rfl (by kernel_rfl) (by kernel_rfl) (by kernel_rfl) (fun _ _ _ h => h) (yieldsIf_load_mid (by rfl) _ _ rfl g (o + i * 23) rfl (ocL x) _ (fun W h k u hu => gb_cellN h (rgx k u hu)) Tryd.underlying53 rfl nx) (by assumption) ?_
        try simp only [Act.put, List.setIfInBounds_toArray, List.set_cons_zero, List.set_cons_succ]
        refine wpAnyH_take (i := 5) (oi := { dst := some 45, op := Op.move (Operand.tmp 0), type := 50, pos := _, after := #[], guard := none }) (v := ?_) rfl (by kernel_rfl) (by kernel_rfl) (by kernel_rfl) (fun _ _ _ h => h) (Or.inl ⟨by rfl, ?_⟩) (by first | trivial | assumption) ?_
        rotate_left 1
        · (intro W hSw; go_simp; (try (with_reducible rfl)))
        try simp only [Act.put, List.setIfInBounds_toArray, List.set_cons_zero, List.set_cons_succ]
        refine wpAnyH_take (i := 6) (oi := { dst := some 46, op := Op.move (Operand.tmp 7), type := 3, pos := _, after := #[], guard := none }) (v := ?_) rfl (by kernel_rfl) (by kernel_rfl) (by kernel_rfl) (fun _ _ _ h => h) (Or.inl ⟨by rfl, ?_⟩) (by first | trivial | assumption) ?_
        rotate_left 1
        · (intro W hSw; go_simp; (try (with_reducible rfl)))
        try simp only [Act.put, List.setIfInBounds_toArray, List.set_cons_zero, List.set_cons_succ]
        refine wpAnyH_take (i := 7) (oi := { dst := some 47, op := Op.binOp BinOp.sub 3 (Operand.tmp 46) (Operand.const (Value.int IntKind.i64 1)) 3, type := 3, pos := _, after := #[{ on := 6, ground := Ground.data }], guard := none }) (v := ?_) rfl (by kernel_rfl) (by kernel_rfl) (by kernel_rfl) (fun _ _ _ h => h) (Or.inl ⟨by rfl, ?_⟩) (by first | trivial | assumption) ?_
        rotate_left 1
        · (intro W hSw; go_simp; (try (with_reducible rfl)))
        try simp only [Act.put, List.setIfInBounds_toArray, List.set_cons_zero, List.set_cons_succ]
        refine wpAnyH_take (i := 8) (oi := { dst := some 48, op := Op.move (Operand.tmp 8), type := 3, pos := _, after := #[], guard := none }) (v := ?_) rfl (by kernel_rfl) (by kernel_rfl) (by kernel_rfl) (fun _ _ _ h => h) (Or.inl ⟨by rfl, ?_⟩) (by first | trivial | assumption) ?_
        rotate_left 1
        · (intro W hSw; go_simp; (try (with_reducible rfl)))
        try simp only [Act.put, List.setIfInBounds_toArray, List.set_cons_zero, List.set_cons_succ]
        refine wpAnyH_take (i := 9) (oi := { dst := some 49, op := Op.binOp BinOp.sub 3 (Operand.tmp 47) (Operand.tmp 48) 3, type := 3, pos := _, after := #[{ on := 7, ground := Ground.data }, { on := 8, ground := Ground.data }], guard := none }) (v := ?_) rfl (by kernel_rfl) (by kernel_rfl) (by kernel_rfl) (fun _ _ _ h => h) (Or.inl ⟨by rfl, ?_⟩) (by first | trivial | assumption) ?_
        rotate_left 1
        · (intro W hSw; go_simp; (try (with_reducible rfl)))
        try simp only [Act.put, List.setIfInBounds_toArray, List.set_cons_zero, List.set_cons_succ]
        refine wpAnyH_take (i := 10) (oi := { dst := some 50, op := Op.indexAddr 50 (Operand.tmp 45) (Operand.tmp 49), type := 0, pos := _, after := #[{ on := 5, ground := Ground.data }, { on := 9, ground := Ground.data }], guard := none }) (v := ?_) rfl (by kernel_rfl) (by kernel_rfl) (by kernel_rfl) (fun _ _ _ h => h) (Or.inl ⟨by rfl, ?_⟩) (by first | trivial | assumption) ?_
        rotate_left 1
        · (intro W hSw; go_simp; (try (with_reducible rfl)))
        try simp only [Act.put, List.setIfInBounds_toArray, List.set_cons_zero, List.set_cons_succ]
        refine wpAnyH_take (i := 11) (oi := { dst := some 51, op := Op.load 53 (Operand.tmp 50), type := 53, pos := _, after := #[{ on := 10, ground := Ground.data }], guard := none }) (v := _) rfl (by kernel_rfl) (by kernel_rfl) (by kernel_rfl) (fun _ _ _ h => h) (yieldsIf_load_mid (by rfl) _ _ rfl g (o + j * 23) rfl (ocL z) _ (fun W h k u hu => gb_cellN h (rgz k u hu)) Tryd.underlying53 rfl nz) (by assumption) ?_
        try simp only [Act.put, List.setIfInBounds_toArray, List.set_cons_zero, List.set_cons_succ]
        refine wpAnyH_ready (rs := [4, 13, 14]) (by kernel_rfl) (by simp) ?_
        refine (AllReadyH.cons rfl (fun K hK => ?_) (AllReadyH.cons rfl (fun K hK => ?_) (AllReadyH.cons rfl (fun K hK => ?_) AllReadyH.nil)))
        · go_simp
          go_at_call 22
          (with_reducible refine (h22x W hg).mono ?_)
          rintro e W1 ⟨rfl, gx⟩
          replace hg := gb_trans hg gx
          clear gx
          refine hK.out _ _ hg (fun hS => ?_)
          clear hK K hS
          try simp only [Act.put, List.setIfInBounds_toArray, List.set_cons_zero, List.set_cons_succ]
          refine wpAnyH_ready (rs := [12, 13, 14]) (by kernel_rfl) (by simp) ?_
          refine (AllReadyH.cons rfl (fun K hK => ?_) (AllReadyH.cons rfl (fun K hK => ?_) (AllReadyH.cons rfl (fun K hK => ?_) AllReadyH.nil)))
          · go_simp
            go_at_call 22
            (with_reducible refine (h22z W1 hg).mono ?_)
            rintro e W2 ⟨rfl, gx⟩
            replace hg := gb_trans hg gx
            clear gx
            refine hK.out _ _ hg (fun hS => ?_)
            clear hK K hS
            try simp only [Act.put, List.setIfInBounds_toArray, List.set_cons_zero, List.set_cons_succ]
            refine wpAnyH_ready (rs := [13, 14]) (by kernel_rfl) (by simp) ?_
            refine (AllReadyH.cons rfl (fun K hK => ?_) (AllReadyH.cons rfl (fun K hK => ?_) AllReadyH.nil))
            · go_simp
              have gx := gb_alloc (gb_refl W2 none) (.cells #[.int .i64 0, .slice none 0 0, .int .u64 0, .int .i64 0, .int .u64 0, .int .u64 0, .slice none 0 0, .bool false, .bool false, .slice none 0 0, .string ⟨#[]⟩, .int .i64 0, .slice none 0 0, .int .u64 0, .string ⟨#[]⟩, .slice none 0 0, .slice none 0 0, .int .i64 0, .int .i64 0, .int .i64 0, .int .i64 0, .int .i64 0, .int .i64 0] 53)
              have B9 : Box (W2.alloc (.cells #[.int .i64 0, .slice none 0 0, .int .u64 0, .int .i64 0, .int .u64 0, .int .u64 0, .slice none 0 0, .bool false, .bool false, .slice none 0 0, .string ⟨#[]⟩, .int .i64 0, .slice none 0 0, .int .u64 0, .string ⟨#[]⟩, .slice none 0 0, .slice none 0 0, .int .i64 0, .int .i64 0, .int .i64 0, .int .i64 0, .int .i64 0, .int .i64 0] 53)) 53 W2.heap.size #[.int .i64 0, .slice none 0 0, .int .u64 0, .int .i64 0, .int .u64 0, .int .u64 0, .slice none 0 0, .bool false, .bool false, .slice none 0 0, .string ⟨#[]⟩, .int .i64 0, .slice none 0 0, .int .u64 0, .string ⟨#[]⟩, .slice none 0 0, .slice none 0 0, .int .i64 0, .int .i64 0, .int .i64 0, .int .i64 0, .int .i64 0, .int .i64 0] := Box.new W2 53 _
              have l9 : wr.heap.size ≤ W2.heap.size := hg.size
              generalize W2.heap.size = b9 at B9 l9 ⊢
              replace hg := gb_trans hg gx
              generalize W2.alloc (.cells #[.int .i64 0, .slice none 0 0, .int .u64 0, .int .i64 0, .int .u64 0, .int .u64 0, .slice none 0 0, .bool false, .bool false, .slice none 0 0, .string ⟨#[]⟩, .int .i64 0, .slice none 0 0, .int .u64 0, .string ⟨#[]⟩, .slice none 0 0, .slice none 0 0, .int .i64 0, .int .i64 0, .int .i64 0, .int .i64 0, .int .i64 0, .int .i64 0] 53) = W3 at *
              clear gx
              refine hK.out _ _ hg (fun hS => ?_)
              clear hK K hS
              try simp only [Act.put, List.setIfInBounds_toArray, List.set_cons_zero, List.set_cons_succ]
              refine wpAnyH_ready (rs := [14]) (by kernel_rfl) (by simp) ?_
              refine (AllReadyH.cons rfl (fun K hK => ?_) AllReadyH.nil)
              go_simp
              have gx := gb_alloc (gb_refl W3 none) (.cells #[.int .i64 0, .slice none 0 0, .int .u64 0, .int .i64 0, .int .u64 0, .int .u64 0, .slice none 0 0, .bool false, .bool false, .slice none 0 0, .string ⟨#[]⟩, .int .i64 0, .slice none 0 0, .int .u64 0, .string ⟨#[]⟩, .slice none 0 0, .slice none 0 0, .int .i64 0, .int .i64 0, .int .i64 0, .int .i64 0, .int .i64 0, .int .i64 0] 53)
              have hlt9 := B9.lt
              replace B9 := B9.kept gx (by simp)
              have B10 : Box (W3.alloc (.cells #[.int .i64 0, .slice none 0 0, .int .u64 0, .int .i64 0, .int .u64 0, .int .u64 0, .slice none 0 0, .bool false, .bool false, .slice none 0 0, .string ⟨#[]⟩, .int .i64 0, .slice none 0 0, .int .u64 0, .string ⟨#[]⟩, .slice none 0 0, .slice none 0 0, .int .i64 0, .int .i64 0, .int .i64 0, .int .i64 0, .int .i64 0, .int .i64 0] 53)) 53 W3.heap.size #[.int .i64 0, .slice none 0 0, .int .u64 0, .int .i64 0, .int .u64 0, .int .u64 0, .slice none 0 0, .bool false, .bool false, .slice none 0 0, .string ⟨#[]⟩, .int .i64 0, .slice none 0 0, .int .u64 0, .string ⟨#[]⟩, .slice none 0 0, .slice none 0 0, .int .i64 0, .int .i64 0, .int .i64 0, .int .i64 0, .int .i64 0, .int .i64 0] := Box.new W3 53 _
              have l10 : wr.heap.size ≤ W3.heap.size := hg.size
              generalize W3.heap.size = b10 at B10 l10 hlt9 ⊢
              replace hg := gb_trans hg gx
              generalize W3.alloc (.cells #[.int .i64 0, .slice none 0 0, .int .u64 0, .int .i64 0, .int .u64 0, .int .u64 0, .slice none 0 0, .bool false, .bool false, .slice none 0 0, .string ⟨#[]⟩, .int .i64 0, .slice none 0 0, .int .u64 0, .string ⟨#[]⟩, .slice none 0 0, .slice none 0 0, .int .i64 0, .int .i64 0, .int .i64 0, .int .i64 0, .int .i64 0, .int .i64 0] 53) = W4 at *
              have hne : b9 ≠ b10 := by omega
              clear gx
              refine hK.out _ _ hg (fun hS => ?_)
              clear hK K hS
              try simp only [Act.put, List.setIfInBounds_toArray, List.set_cons_zero, List.set_cons_succ]
              refine wpAnyH_ready (rs := [15]) (by kernel_rfl) (by simp) ?_
              refine (AllReadyH.cons rfl (fun K hK => ?_) AllReadyH.nil)
              rw [if_pos (by rfl)]
              refine wp_store_mid 53 _ _ rfl b9 0 (ocL (fewO x)).toArray rfl rfl (B9.there 0 23 (by simp)) (by exact size53) (ocL_one fx) ?_
              simp only [List.toList_toArray]
              have yb9 : Box (W4.setCells b9 0 (ocL (fewO x))) 53 b9 (ocL (fewO x)).toArray := by have h := Box.sets (ocL (fewO x)) 0 B9; rw [show sets #[.int .i64 0, .slice none 0 0, .int .u64 0, .int .i64 0, .int .u64 0, .int .u64 0, .slice none 0 0, .bool false, .bool false, .slice none 0 0, .string ⟨#[]⟩, .int .i64 0, .slice none 0 0, .int .u64 0, .string ⟨#[]⟩, .slice none 0 0, .slice none 0 0, .int .i64 0, .int .i64 0, .int .i64 0, .int .i64 0, .int .i64 0, .int .i64 0] 0 (ocL (fewO x)) = (ocL (fewO x)).toArray from setsZ _] at h; exact h
              have gx := gb_setCells (ocL (fewO x)) 0 (gb_refl W4 (some b9))
              replace B10 := B10.kept gx (fun e => by injection e with e; omega)
              have hg1 := gb_mine hg gx l9
              generalize W4.setCells b9 0 (ocL (fewO x)) = S1 at *
              refine hK.out _ _ hg1 (fun hS => ?_)
              clear hK K hS gx
              try simp only [Act.put, List.setIfInBounds_toArray, List.set_cons_zero, List.set_cons_succ]
              refine wpAnyH_ready (rs := [16]) (by kernel_rfl) (by simp) ?_
              refine (AllReadyH.cons rfl (fun K hK => ?_) AllReadyH.nil)
              rw [if_pos (by rfl)]
              refine wp_store_mid 53 _ _ rfl b10 0 (ocL (fewO z)).toArray rfl rfl (B10.there 0 23 (by simp)) (by exact size53) (ocL_one fz) ?_
              simp only [List.toList_toArray]
              have yb10 : Box (S1.setCells b10 0 (ocL (fewO z))) 53 b10 (ocL (fewO z)).toArray := by have h := Box.sets (ocL (fewO z)) 0 B10; rw [show sets #[.int .i64 0, .slice none 0 0, .int .u64 0, .int .i64 0, .int .u64 0, .int .u64 0, .slice none 0 0, .bool false, .bool false, .slice none 0 0, .string ⟨#[]⟩, .int .i64 0, .slice none 0 0, .int .u64 0, .string ⟨#[]⟩, .slice none 0 0, .slice none 0 0, .int .i64 0, .int .i64 0, .int .i64 0, .int .i64 0, .int .i64 0, .int .i64 0] 0 (ocL (fewO z)) = (ocL (fewO z)).toArray from setsZ _] at h; exact h
              have gx := gb_setCells (ocL (fewO z)) 0 (gb_refl S1 (some b10))
              replace yb9 := yb9.kept gx (fun e => by injection e with e; omega)
              have hg2 := gb_mine hg1 gx l10
              generalize S1.setCells b10 0 (ocL (fewO z)) = S2 at *
              refine hK.out _ _ hg2 (fun hS => ?_)
              clear hK K hS gx
              try simp only [Act.put, List.setIfInBounds_toArray, List.set_cons_zero, List.set_cons_succ]
              refine wpAnyH_done (by kernel_rfl) ?_ _
              refine NoPanic.normal ?_
              go_wp2
              go_meet
              exact ⟨b9, b10, rfl, rfl, hne, l9, l10, yb9, yb10, hg2⟩
            · go_simp
              have gx := gb_alloc (gb_refl W2 none) (.cells #[.int .i64 0, .slice none 0 0, .int .u64 0, .int .i64 0, .int .u64 0, .int .u64 0, .slice none 0 0, .bool false, .bool false, .slice none 0 0, .string ⟨#[]⟩, .int .i64 0, .slice none 0 0, .int .u64 0, .string ⟨#[]⟩, .slice none 0 0, .slice none 0 0, .int .i64 0, .int .i64 0, .int .i64 0, .int .i64 0, .int .i64 0, .int .i64 0] 53)
              have B10 : Box (W2.alloc (.cells #[.int .i64 0, .slice none 0 0, .int .u64 0, .int .i64 0, .int .u64 0, .int .u64 0, .slice none 0 0, .bool false, .bool false, .slice none 0 0, .string ⟨#[]⟩, .int .i64 0, .slice none 0 0, .int .u64 0, .string ⟨#[]⟩, .slice none 0 0, .slice none 0 0, .int .i64 0, .int .i64 0, .int .i64 0, .int .i64 0, .int .i64 0, .int .i64 0] 53)) 53 W2.heap.size #[.int .i64 0, .slice none 0 0, .int .u64 0, .int .i64 0, .int .u64 0, .int .u64 0, .slice none 0 0, .bool false, .bool false, .slice none 0 0, .string ⟨#[]⟩, .int .i64 0, .slice none 0 0, .int .u64 0, .string ⟨#[]⟩, .slice none 0 0, .slice none 0 0, .int .i64 0, .int .i64 0, .int .i64 0, .int .i64 0, .int .i64 0, .int .i64 0] := Box.new W2 53 _
              have l10 : wr.heap.size ≤ W2.heap.size := hg.size
              generalize W2.heap.size = b10 at B10 l10 ⊢
              replace hg := gb_trans hg gx
              generalize W2.alloc (.cells #[.int .i64 0, .slice none 0 0, .int .u64 0, .int .i64 0, .int .u64 0, .int .u64 0, .slice none 0 0, .bool false, .bool false, .slice none 0 0, .string ⟨#[]⟩, .int .i64 0, .slice none 0 0, .int .u64 0, .string ⟨#[]⟩, .slice none 0 0, .slice none 0 0, .int .i64 0, .int .i64 0, .int .i64 0, .int .i64 0, .int .i64 0, .int .i64 0] 53) = W3 at *
              clear gx
              refine hK.out _ _ hg (fun hS => ?_)
              clear hK K hS
              try simp only [Act.put, List.setIfInBounds_toArray, List.set_cons_zero, List.set_cons_succ]
              refine wpAnyH_ready (rs := [13]) (by kernel_rfl) (by simp) ?_
              refine (AllReadyH.cons rfl (fun K hK => ?_) AllReadyH.nil)
              go_simp
              have gx := gb_alloc (gb_refl W3 none) (.cells #[.int .i64 0, .slice none 0 0, .int .u64 0, .int .i64 0, .int .u64 0, .int .u64 0, .slice none 0 0, .bool false, .bool false, .slice none 0 0, .string ⟨#[]⟩, .int .i64 0, .slice none 0 0, .int .u64 0, .string ⟨#[]⟩, .slice none 0 0, .slice none 0 0, .int .i64 0, .int .i64 0, .int .i64 0, .int .i64 0, .int .i64 0, .int .i64 0] 53)
              have hlt9 := B10.lt
              replace B10 := B10.kept gx (by simp)
              have B9 : Box (W3.alloc (.cells #[.int .i64 0, .slice none 0 0, .int .u64 0, .int .i64 0, .int .u64 0, .int .u64 0, .slice none 0 0, .bool false, .bool false, .slice none 0 0, .string ⟨#[]⟩, .int .i64 0, .slice none 0 0, .int .u64 0, .string ⟨#[]⟩, .slice none 0 0, .slice none 0 0, .int .i64 0, .int .i64 0, .int .i64 0, .int .i64 0, .int .i64 0, .int .i64 0] 53)) 53 W3.heap.size #[.int .i64 0, .slice none 0 0, .int .u64 0, .int .i64 0, .int .u64 0, .int .u64 0, .slice none 0 0, .bool false, .bool false, .slice none 0 0, .string ⟨#[]⟩, .int .i64 0, .slice none 0 0, .int .u64 0, .string ⟨#[]⟩, .slice none 0 0, .slice none 0 0, .int .i64 0, .int .i64 0, .int .i64 0, .int .i64 0, .int .i64 0, .int .i64 0] := Box.new W3 53 _
              have l9 : wr.heap.size ≤ W3.heap.size := hg.size
              generalize W3.heap.size = b9 at B9 l9 hlt9 ⊢
              replace hg := gb_trans hg gx
              generalize W3.alloc (.cells #[.int .i64 0, .slice none 0 0, .int .u64 0, .int .i64 0, .int .u64 0, .int .u64 0, .slice none 0 0, .bool false, .bool false, .slice none 0 0, .string ⟨#[]⟩, .int .i64 0, .slice none 0 0, .int .u64 0, .string ⟨#[]⟩, .slice none 0 0, .slice none 0 0, .int .i64 0, .int .i64 0, .int .i64 0, .int .i64 0, .int .i64 0, .int .i64 0] 53) = W4 at *
              have hne : b9 ≠ b10 := by omega
              clear gx
              refine hK.out _ _ hg (fun hS => ?_)
              clear hK K hS
              try simp only [Act.put, List.setIfInBounds_toArray, List.set_cons_zero, List.set_cons_succ]
              refine wpAnyH_ready (rs := [15]) (by kernel_rfl) (by simp) ?_
              refine (AllReadyH.cons rfl (fun K hK => ?_) AllReadyH.nil)
              rw [if_pos (by rfl)]
              refine wp_store_mid 53 _ _ rfl b9 0 (ocL (fewO x)).toArray rfl rfl (B9.there 0 23 (by simp)) (by exact size53) (ocL_one fx) ?_
              simp only [List.toList_toArray]
              have yb9 : Box (W4.setCells b9 0 (ocL (fewO x))) 53 b9 (ocL (fewO x)).toArray := by have h := Box.sets (ocL (fewO x)) 0 B9; rw [show sets #[.int .i64 0, .slice none 0 0, .int .u64 0, .int .i64 0, .int .u64 0, .int .u64 0, .slice none 0 0, .bool false, .bool false, .slice none 0 0, .string ⟨#[]⟩, .int .i64 0, .slice none 0 0, .int .u64 0, .string ⟨#[]⟩, .slice none 0 0, .slice none 0 0, .int .i64 0, .int .i64 0, .int .i64 0, .int .i64 0, .int .i64 0, .int .i64 0] 0 (ocL (fewO x)) = (ocL (fewO x)).toArray from setsZ _] at h; exact h
              have gx := gb_setCells (ocL (fewO x)) 0 (gb_refl W4 (some b9))
              replace B10 := B10.kept gx (fun e => by injection e with e; omega)
              have hg1 := gb_mine hg gx l9
              generalize W4.setCells b9 0 (ocL (fewO x)) = S1 at *
              refine hK.out _ _ hg1 (fun hS => ?_)
              clear hK K hS gx
              try simp only [Act.put, List.setIfInBounds_toArray, List.set_cons_zero, List.set_cons_succ]
              refine wpAnyH_ready (rs := [16]) (by kernel_rfl) (by simp) ?_
              refine (AllReadyH.cons rfl (fun K hK => ?_) AllReadyH.nil)
              rw [if_pos (by rfl)]
              refine wp_store_mid 53 _ _ rfl b10 0 (ocL (fewO z)).toArray rfl rfl (B10.there 0 23 (by simp)) (by exact size53) (ocL_one fz) ?_
              simp only [List.toList_toArray]
              have yb10 : Box (S1.setCells b10 0 (ocL (fewO z))) 53 b10 (ocL (fewO z)).toArray := by have h := Box.sets (ocL (fewO z)) 0 B10; rw [show sets #[.int .i64 0, .slice none 0 0, .int .u64 0, .int .i64 0, .int .u64 0, .int .u64 0, .slice none 0 0, .bool false, .bool false, .slice none 0 0, .string ⟨#[]⟩, .int .i64 0, .slice none 0 0, .int .u64 0, .string ⟨#[]⟩, .slice none 0 0, .slice none 0 0, .int .i64 0, .int .i64 0, .int .i64 0, .int .i64 0, .int .i64 0, .int .i64 0] 0 (ocL (fewO z)) = (ocL (fewO z)).toArray from setsZ _] at h; exact h
              have gx := gb_setCells (ocL (fewO z)) 0 (gb_refl S1 (some b10))
              replace yb9 := yb9.kept gx (fun e => by injection e with e; omega)
              have hg2 := gb_mine hg1 gx l10
              generalize S1.setCells b10 0 (ocL (fewO z)) = S2 at *
              refine hK.out _ _ hg2 (fun hS => ?_)
              clear hK K hS gx
              try simp only [Act.put, List.setIfInBounds_toArray, List.set_cons_zero, List.set_cons_succ]
              refine wpAnyH_done (by kernel_rfl) ?_ _
              refine NoPanic.normal ?_
              go_wp2
              go_meet
              exact ⟨b9, b10, rfl, rfl, hne, l9, l10, yb9, yb10, hg2⟩
          · go_simp
            have gx := gb_alloc (gb_refl W1 none) (.cells #[.int .i64 0, .slice none 0 0, .int .u64 0, .int .i64 0, .int .u64 0, .int .u64 0, .slice none 0 0, .bool false, .bool false, .slice none 0 0, .string ⟨#[]⟩, .int .i64 0, .slice none 0 0, .int .u64 0, .string ⟨#[]⟩, .slice none 0 0, .slice none 0 0, .int .i64 0, .int .i64 0, .int .i64 0, .int .i64 0, .int .i64 0, .int .i64 0] 53)
            have B9 : Box (W1.alloc (.cells #[.int .i64 0, .slice none 0 0, .int .u64 0, .int .i64 0, .int .u64 0, .int .u64 0, .slice none 0 0, .bool false, .bool false, .slice none 0 0, .string ⟨#[]⟩, .int .i64 0, .slice none 0 0, .int .u64 0, .string ⟨#[]⟩, .slice none 0 0, .slice none 0 0, .int .i64 0, .int .i64 0, .int .i64 0, .int .i64 0, .int .i64 0, .int .i64 0] 53)) 53 W1.heap.size #[.int .i64 0, .slice none 0 0, .int .u64 0, .int .i64 0, .int .u64 0, .int .u64 0, .slice none 0 0, .bool false, .bool false, .slice none 0 0, .string ⟨#[]⟩, .int .i64 0, .slice none 0 0, .int .u64 0, .string ⟨#[]⟩, .slice none 0 0, .slice none 0 0, .int .i64 0, .int .i64 0, .int .i64 0, .int .i64 0, .int .i64 0, .int .i64 0] := Box.new W1 53 _
            have l9 : wr.heap.size ≤ W1.heap.size := hg.size
            generalize W1.heap.size = b9 at B9 l9 ⊢
            replace hg := gb_trans hg gx
            generalize W1.alloc (.cells #[.int .i64 0, .slice none 0 0, .int .u64 0, .int .i64 0, .int .u64 0, .int .u64 0, .slice none 0 0, .bool false, .bool false, .slice none 0 0, .string ⟨#[]⟩, .int .i64 0, .slice none 0 0, .int .u64 0, .string ⟨#[]⟩, .slice none 0 0, .slice none 0 0, .int .i64 0, .int .i64 0, .int .i64 0, .int .i64 0, .int .i64 0, .int .i64 0] 53) = W2 at *
            clear gx
            refine hK.out _ _ hg (fun hS => ?_)
            clear hK K hS
            try simp only [Act.put, List.setIfInBounds_toArray, List.set_cons_zero, List.set_cons_succ]
            refine wpAnyH_ready (rs := [12, 14]) (by kernel_rfl) (by simp) ?_
            refine (AllReadyH.cons rfl (fun K hK => ?_) (AllReadyH.cons rfl (fun K hK => ?_) AllReadyH.nil))
            · go_simp
              go_at_call 22
              (with_reducible refine (h22z W2 hg).mono ?_)
              rintro e W3 ⟨rfl, gx⟩
              replace B9 := B9.kept gx (by simp)
              replace hg := gb_trans hg gx
              clear gx
              refine hK.out _ _ hg (fun hS => ?_)
              clear hK K hS
              try simp only [Act.put, List.setIfInBounds_toArray, List.set_cons_zero, List.set_cons_succ]
              refine wpAnyH_ready (rs := [14]) (by kernel_rfl) (by simp) ?_
              refine (AllReadyH.cons rfl (fun K hK => ?_) AllReadyH.nil)
              go_simp
              have gx := gb_alloc (gb_refl W3 none) (.cells #[.int .i64 0, .slice none 0 0, .int .u64 0, .int .i64 0, .int .u64 0, .int .u64 0, .slice none 0 0, .bool false, .bool false, .slice none 0 0, .string ⟨#[]⟩, .int .i64 0, .slice none 0 0, .int .u64 0, .string ⟨#[]⟩, .slice none 0 0, .slice none 0 0, .int .i64 0, .int .i64 0, .int .i64 0, .int .i64 0, .int .i64 0, .int .i64 0] 53)
              have hlt9 := B9.lt
              replace B9 := B9.kept gx (by simp)
              have B10 : Box (W3.alloc (.cells #[.int .i64 0, .slice none 0 0, .int .u64 0, .int .i64 0, .int .u64 0, .int .u64 0, .slice none 0 0, .bool false, .bool false, .slice none 0 0, .string ⟨#[]⟩, .int .i64 0, .slice none 0 0, .int .u64 0, .string ⟨#[]⟩, .slice none 0 0, .slice none 0 0, .int .i64 0, .int .i64 0, .int .i64 0, .int .i64 0, .int .i64 0, .int .i64 0] 53)) 53 W3.heap.size #[.int .i64 0, .slice none 0 0, .int .u64 0, .int .i64 0, .int .u64 0, .int .u64 0, .slice none 0 0, .bool false, .bool false, .slice none 0 0, .string ⟨#[]⟩, .int .i64 0, .slice none 0 0, .int .u64 0, .string ⟨#[]⟩, .slice none 0 0, .slice none 0 0, .int .i64 0, .int .i64 0, .int .i64 0, .int .i64 0, .int .i64 0, .int .i64 0] := Box.new W3 53 _
              have l10 : wr.heap.size ≤ W3.heap.size := hg.size
              generalize W3.heap.size = b10 at B10 l10 hlt9 ⊢
              replace hg := gb_trans hg gx
              generalize W3.alloc (.cells #[.int .i64 0, .slice none 0 0, .int .u64 0, .int .i64 0, .int .u64 0, .int .u64 0, .slice none 0 0, .bool false, .bool false, .slice none 0 0, .string ⟨#[]⟩, .int .i64 0, .slice none 0 0, .int .u64 0, .string ⟨#[]⟩, .slice none 0 0, .slice none 0 0, .int .i64 0, .int .i64 0, .int .i64 0, .int .i64 0, .int .i64 0, .int .i64 0] 53) = W4 at *
              have hne : b9 ≠ b10 := by omega
              clear gx
              refine hK.out _ _ hg (fun hS => ?_)
              clear hK K hS
              try simp only [Act.put, List.setIfInBounds_toArray, List.set_cons_zero, List.set_cons_succ]
              refine wpAnyH_ready (rs := [15]) (by kernel_rfl) (by simp) ?_
              refine (AllReadyH.cons rfl (fun K hK => ?_) AllReadyH.nil)
              rw [if_pos (by rfl)]
              refine wp_store_mid 53 _ _ rfl b9 0 (ocL (fewO x)).toArray rfl rfl (B9.there 0 23 (by simp)) (by exact size53) (ocL_one fx) ?_
              simp only [List.toList_toArray]
              have yb9 : Box (W4.setCells b9 0 (ocL (fewO x))) 53 b9 (ocL (fewO x)).toArray := by have h := Box.sets (ocL (fewO x)) 0 B9; rw [show sets #[.int .i64 0, .slice none 0 0, .int .u64 0, .int .i64 0, .int .u64 0, .int .u64 0, .slice none 0 0, .bool false, .bool false, .slice none 0 0, .string ⟨#[]⟩, .int .i64 0, .slice none 0 0, .int .u64 0, .string ⟨#[]⟩, .slice none 0 0, .slice none 0 0, .int .i64 0, .int .i64 0, .int .i64 0, .int .i64 0, .int .i64 0, .int .i64 0] 0 (ocL (fewO x)) = (ocL (fewO x)).toArray from setsZ _] at h; exact h
              have gx := gb_setCells (ocL (fewO x)) 0 (gb_refl W4 (some b9))
              replace B10 := B10.kept gx (fun e => by injection e with e; omega)
              have hg1 := gb_mine hg gx l9
              generalize W4.setCells b9 0 (ocL (fewO x)) = S1 at *
              refine hK.out _ _ hg1 (fun hS => ?_)
              clear hK K hS gx
              try simp only [Act.put, List.setIfInBounds_toArray, List.set_cons_zero, List.set_cons_succ]
              refine wpAnyH_ready (rs := [16]) (by kernel_rfl) (by simp) ?_
              refine (AllReadyH.cons rfl (fun K hK => ?_) AllReadyH.nil)
              rw [if_pos (by rfl)]
              refine wp_store_mid 53 _ _ rfl b10 0 (ocL (fewO z)).toArray rfl rfl (B10.there 0 23 (by simp)) (by exact size53) (ocL_one fz) ?_
              simp only [List.toList_toArray]
              have yb10 : Box (S1.setCells b10 0 (ocL (fewO z))) 53 b10 (ocL (fewO z)).toArray := by have h := Box.sets (ocL (fewO z)) 0 B10; rw [show sets #[.int .i64 0, .slice none 0 0, .int .u64 0, .int .i64 0, .int .u64 0, .int .u64 0, .slice none 0 0, .bool false, .bool false, .slice none 0 0, .string ⟨#[]⟩, .int .i64 0, .slice none 0 0, .int .u64 0, .string ⟨#[]⟩, .slice none 0 0, .slice none 0 0, .int .i64 0, .int .i64 0, .int .i64 0, .int .i64 0, .int .i64 0, .int .i64 0] 0 (ocL (fewO z)) = (ocL (fewO z)).toArray from setsZ _] at h; exact h
              have gx := gb_setCells (ocL (fewO z)) 0 (gb_refl S1 (some b10))
              replace yb9 := yb9.kept gx (fun e => by injection e with e; omega)
              have hg2 := gb_mine hg1 gx l10
              generalize S1.setCells b10 0 (ocL (fewO z)) = S2 at *
              refine hK.out _ _ hg2 (fun hS => ?_)
              clear hK K hS gx
              try simp only [Act.put, List.setIfInBounds_toArray, List.set_cons_zero, List.set_cons_succ]
              refine wpAnyH_done (by kernel_rfl) ?_ _
              refine NoPanic.normal ?_
              go_wp2
              go_meet
              exact ⟨b9, b10, rfl, rfl, hne, l9, l10, yb9, yb10, hg2⟩
            · go_simp
              have gx := gb_alloc (gb_refl W2 none) (.cells #[.int .i64 0, .slice none 0 0, .int .u64 0, .int .i64 0, .int .u64 0, .int .u64 0, .slice none 0 0, .bool false, .bool false, .slice none 0 0, .string ⟨#[]⟩, .int .i64 0, .slice none 0 0, .int .u64 0, .string ⟨#[]⟩, .slice none 0 0, .slice none 0 0, .int .i64 0, .int .i64 0, .int .i64 0, .int .i64 0, .int .i64 0, .int .i64 0] 53)
              have hlt9 := B9.lt
              replace B9 := B9.kept gx (by simp)
              have B10 : Box (W2.alloc (.cells #[.int .i64 0, .slice none 0 0, .int .u64 0, .int .i64 0, .int .u64 0, .int .u64 0, .slice none 0 0, .bool false, .bool false, .slice none 0 0, .string ⟨#[]⟩, .int .i64 0, .slice none 0 0, .int .u64 0, .string ⟨#[]⟩, .slice none 0 0, .slice none 0 0, .int .i64 0, .int .i64 0, .int .i64 0, .int .i64 0, .int .i64 0, .int .i64 0] 53)) 53 W2.heap.size #[.int .i64 0, .slice none 0 0, .int .u64 0, .int .i64 0, .int .u64 0, .int .u64 0, .slice none 0 0, .bool false, .bool false, .slice none 0 0, .string ⟨#[]⟩, .int .i64 0, .slice none 0 0, .int .u64 0, .string ⟨#[]⟩, .slice none 0 0, .slice none 0 0, .int .i64 0, .int .i64 0, .int .i64 0, .int .i64 0, .int .i64 0, .int .i64 0] := Box.new W2 53 _
              have l10 : wr.heap.size ≤ W2.heap.size := hg.size
              generalize W2.heap.size = b10 at B10 l10 hlt9 ⊢
              replace hg := gb_trans hg gx
              generalize W2.alloc (.cells #[.int .i64 0, .slice none 0 0, .int .u64 0, .int .i64 0, .int .u64 0, .int .u64 0, .slice none 0 0, .bool false, .bool false, .slice none 0 0, .string ⟨#[]⟩, .int .i64 0, .slice none 0 0, .int .u64 0, .string ⟨#[]⟩, .slice none 0 0, .slice none 0 0, .int .i64 0, .int .i64 0, .int .i64 0, .int .i64 0, .int .i64 0, .int .i64 0] 53) = W3 at *
              have hne : b9 ≠ b10 := by omega
              clear gx
              refine hK.out _ _ hg (fun hS => ?_)
              clear hK K hS
              try simp only [Act.put, List.setIfInBounds_toArray, List.set_cons_zero, List.set_cons_succ]
              refine wpAnyH_ready (rs := [12]) (by kernel_rfl) (by simp) ?_
              refine (AllReadyH.cons rfl (fun K hK => ?_) AllReadyH.nil)
              go_simp
              go_at_call 22
              (with_reducible refine (h22z W3 hg).mono ?_)
              rintro e W4 ⟨rfl, gx⟩
              replace B9 := B9.kept gx (by simp)
              replace B10 := B10.kept gx (by simp)
              replace hg := gb_trans hg gx
              clear gx
              refine hK.out _ _ hg (fun hS => ?_)
              clear hK K hS
              try simp only [Act.put, List.setIfInBounds_toArray, List.set_cons_zero, List.set_cons_succ]
              refine wpAnyH_ready (rs := [15]) (by kernel_rfl) (by simp) ?_
              refine (AllReadyH.cons rfl (fun K hK => ?_) AllReadyH.nil)
              rw [if_pos (by rfl)]
              refine wp_store_mid 53 _ _ rfl b9 0 (ocL (fewO x)).toArray rfl rfl (B9.there 0 23 (by simp)) (by exact size53) (ocL_one fx) ?_
              simp only [List.toList_toArray]
              have yb9 : Box (W4.setCells b9 0 (ocL (fewO x))) 53 b9 (ocL (fewO x)).toArray := by have h := Box.sets (ocL (fewO x)) 0 B9; rw [show sets #[.int .i64 0, .slice none 0 0, .int .u64 0, .int .i64 0, .int .u64 0, .int .u64 0, .slice none 0 0, .bool false, .bool false, .slice none 0 0, .string ⟨#[]⟩, .int .i64 0, .slice none 0 0, .int .u64 0, .string ⟨#[]⟩, .slice none 0 0, .slice none 0 0, .int .i64 0, .int .i64 0, .int .i64 0, .int .i64 0, .int .i64 0, .int .i64 0] 0 (ocL (fewO x)) = (ocL (fewO x)).toArray from setsZ _] at h; exact h
              have gx := gb_setCells (ocL (fewO x)) 0 (gb_refl W4 (some b9))
              replace B10 := B10.kept gx (fun e => by injection e with e; omega)
              have hg1 := gb_mine hg gx l9
              generalize W4.setCells b9 0 (ocL (fewO x)) = S1 at *
              refine hK.out _ _ hg1 (fun hS => ?_)
              clear hK K hS gx
              try simp only [Act.put, List.setIfInBounds_toArray, List.set_cons_zero, List.set_cons_succ]
              refine wpAnyH_ready (rs := [16]) (by kernel_rfl) (by simp) ?_
              refine (AllReadyH.cons rfl (fun K hK => ?_) AllReadyH.nil)
              rw [if_pos (by rfl)]
              refine wp_store_mid 53 _ _ rfl b10 0 (ocL (fewO z)).toArray rfl rfl (B10.there 0 23 (by simp)) (by exact size53) (ocL_one fz) ?_
              simp only [List.toList_toArray]
              have yb10 : Box (S1.setCells b10 0 (ocL (fewO z))) 53 b10 (ocL (fewO z)).toArray := by have h := Box.sets (ocL (fewO z)) 0 B10; rw [show sets #[.int .i64 0, .slice none 0 0, .int .u64 0, .int .i64 0, .int .u64 0, .int .u64 0, .slice none 0 0, .bool false, .bool false, .slice none 0 0, .string ⟨#[]⟩, .int .i64 0, .slice none 0 0, .int .u64 0, .string ⟨#[]⟩, .slice none 0 0, .slice none 0 0, .int .i64 0, .int .i64 0, .int .i64 0, .int .i64 0, .int .i64 0, .int .i64 0] 0 (ocL (fewO z)) = (ocL (fewO z)).toArray from setsZ _] at h; exact h
              have gx := gb_setCells (ocL (fewO z)) 0 (gb_refl S1 (some b10))
              replace yb9 := yb9.kept gx (fun e => by injection e with e; omega)
              have hg2 := gb_mine hg1 gx l10
              generalize S1.setCells b10 0 (ocL (fewO z)) = S2 at *
              refine hK.out _ _ hg2 (fun hS => ?_)
              clear hK K hS gx
              try simp only [Act.put, List.setIfInBounds_toArray, List.set_cons_zero, List.set_cons_succ]
              refine wpAnyH_done (by kernel_rfl) ?_ _
              refine NoPanic.normal ?_
              go_wp2
              go_meet
              exact ⟨b9, b10, rfl, rfl, hne, l9, l10, yb9, yb10, hg2⟩
          · go_simp
            have gx := gb_alloc (gb_refl W1 none) (.cells #[.int .i64 0, .slice none 0 0, .int .u64 0, .int .i64 0, .int .u64 0, .int .u64 0, .slice none 0 0, .bool false, .bool false, .slice none 0 0, .string ⟨#[]⟩, .int .i64 0, .slice none 0 0, .int .u64 0, .string ⟨#[]⟩, .slice none 0 0, .slice none 0 0, .int .i64 0, .int .i64 0, .int .i64 0, .int .i64 0, .int .i64 0, .int .i64 0] 53)
            have B10 : Box (W1.alloc (.cells #[.int .i64 0, .slice none 0 0, .int .u64 0, .int .i64 0, .int .u64 0, .int .u64 0, .slice none 0 0, .bool false, .bool false, .slice none 0 0, .string ⟨#[]⟩, .int .i64 0, .slice none 0 0, .int .u64 0, .string ⟨#[]⟩, .slice none 0 0, .slice none 0 0, .int .i64 0, .int .i64 0, .int .i64 0, .int .i64 0, .int .i64 0, .int .i64 0] 53)) 53 W1.heap.size #[.int .i64 0, .slice none 0 0, .int .u64 0, .int .i64 0, .int .u64 0, .int .u64 0, .slice none 0 0, .bool false, .bool false, .slice none 0 0, .string ⟨#[]⟩, .int .i64 0, .slice none 0 0, .int .u64 0, .string ⟨#[]⟩, .slice none 0 0, .slice none 0 0, .int .i64 0, .int .i64 0, .int .i64 0, .int .i64 0, .int .i64 0, .int .i64 0] := Box.new W1 53 _
            have l10 : wr.heap.size ≤ W1.heap.size := hg.size
            generalize W1.heap.size = b10 at B10 l10 ⊢
            replace hg := gb_trans hg gx
            generalize W1.alloc (.cells #[.int .i64 0, .slice none 0 0, .int .u64 0, .int .i64 0, .int .u64 0, .int .u64 0, .slice none 0 0, .bool false, .bool false, .slice none 0 0, .string ⟨#[]⟩, .int .i64 0, .slice none 0 0, .int .u64 0, .string ⟨#[]⟩, .slice none 0 0, .slice none 0 0, .int .i64 0, .int .i64 0, .int .i64 0, .int .i64 0, .int .i64 0, .int .i64 0] 53) = W2 at *
            clear gx
            refine hK.out _ _ hg (fun hS => ?_)
            clear hK K hS
            try simp only [Act.put, List.setIfInBounds_toArray, List.set_cons_zero, List.set_cons_succ]
            refine wpAnyH_ready (rs := [12, 13]) (by kernel_rfl) (by simp) ?_
            refine (AllReadyH.cons rfl (fun K hK => ?_) (AllReadyH.cons rfl (fun K hK => ?_) AllReadyH.nil))
            · go_simp
              go_at_call 22
              (with_reducible refine (h22z W2 hg).mono ?_)
              rintro e W3 ⟨rfl, gx⟩
              replace B10 := B10.kept gx (by simp)
              replace hg := gb_trans hg gx
              clear gx
              refine hK.out _ _ hg (fun hS => ?_)
              clear hK K hS
              try simp only [Act.put, List.setIfInBounds_toArray, List.set_cons_zero, List.set_cons_succ]
              refine wpAnyH_ready (rs := [13]) (by kernel_rfl) (by simp) ?_
              refine (AllReadyH.cons rfl (fun K hK => ?_) AllReadyH.nil)
              go_simp
              have gx := gb_alloc (gb_refl W3 none) (.cells #[.int .i64 0, .slice none 0 0, .int .u64 0, .int .i64 0, .int .u64 0, .int .u64 0, .slice none 0 0, .bool false, .bool false, .slice none 0 0, .string ⟨#[]⟩, .int .i64 0, .slice none 0 0, .int .u64 0, .string ⟨#[]⟩, .slice none 0 0, .slice none 0 0, .int .i64 0, .int .i64 0, .int .i64 0, .int .i64 0, .int .i64 0, .int .i64 0] 53)
              have hlt9 := B10.lt
              replace B10 := B10.kept gx (by simp)
              have B9 : Box (W3.alloc (.cells #[.int .i64 0, .slice none 0 0, .int .u64 0, .int .i64 0, .int .u64 0, .int .u64 0, .slice none 0 0, .bool false, .bool false, .slice none 0 0, .string ⟨#[]⟩, .int .i64 0, .slice none 0 0, .int .u64 0, .string ⟨#[]⟩, .slice none 0 0, .slice none 0 0, .int .i64 0, .int .i64 0, .int .i64 0, .int .i64 0, .int .i64 0, .int .i64 0] 53)) 53 W3.heap.size #[.int .i64 0, .slice none 0 0, .int .u64 0, .int .i64 0, .int .u64 0, .int .u64 0, .slice none 0 0, .bool false, .bool false, .slice none 0 0, .string ⟨#[]⟩, .int .i64 0, .slice none 0 0, .int .u64 0, .string ⟨#[]⟩, .slice none 0 0, .slice none 0 0, .int .i64 0, .int .i64 0, .int .i64 0, .int .i64 0, .int .i64 0, .int .i64 0] := Box.new W3 53 _
              have l9 : wr.heap.size ≤ W3.heap.size := hg.size
              generalize W3.heap.size = b9 at B9 l9 hlt9 ⊢
              replace hg := gb_trans hg gx
              generalize W3.alloc (.cells #[.int .i64 0, .slice none 0 0, .int .u64 0, .int .i64 0, .int .u64 0, .int .u64 0, .slice none 0 0, .bool false, .bool false, .slice none 0 0, .string ⟨#[]⟩, .int .i64 0, .slice none 0 0, .int .u64 0, .string ⟨#[]⟩, .slice none 0 0, .slice none 0 0, .int .i64 0, .int .i64 0, .int .i64 0, .int .i64 0, .int .i64 0, .int .i64 0] 53) = W4 at *
              have hne : b9 ≠ b10 := by omega
              clear gx
              refine hK.out _ _ hg (fun hS => ?_)
              clear hK K hS
              try simp only [Act.put, List.setIfInBounds_toArray, List.set_cons_zero, List.set_cons_succ]
              refine wpAnyH_ready (rs := [15]) (by kernel_rfl) (by simp) ?_
              refine (AllReadyH.cons rfl (fun K hK => ?_) AllReadyH.nil)
              rw [if_pos (by rfl)]
              refine wp_store_mid 53 _ _ rfl b9 0 (ocL (fewO x)).toArray rfl rfl (B9.there 0 23 (by simp)) (by exact size53) (ocL_one fx) ?_
              simp only [List.toList_toArray]
              have yb9 : Box (W4.setCells b9 0 (ocL (fewO x))) 53 b9 (ocL (fewO x)).toArray := by have h := Box.sets (ocL (fewO x)) 0 B9; rw [show sets #[.int .i64 0, .slice none 0 0, .int .u64 0, .int .i64 0, .int .u64 0, .int .u64 0, .slice none 0 0, .bool false, .bool false, .slice none 0 0, .string ⟨#[]⟩, .int .i64 0, .slice none 0 0, .int .u64 0, .string ⟨#[]⟩, .slice none 0 0, .slice none 0 0, .int .i64 0, .int .i64 0, .int .i64 0, .int .i64 0, .int .i64 0, .int .i64 0] 0 (ocL (fewO x)) = (ocL (fewO x)).toArray from setsZ _] at h; exact h
              have gx := gb_setCells (ocL (fewO x)) 0 (gb_refl W4 (some b9))
              replace B10 := B10.kept gx (fun e => by injection e with e; omega)
              have hg1 := gb_mine hg gx l9
              generalize W4.setCells b9 0 (ocL (fewO x)) = S1 at *
              refine hK.out _ _ hg1 (fun hS => ?_)
              clear hK K hS gx
              try simp only [Act.put, List.setIfInBounds_toArray, List.set_cons_zero, List.set_cons_succ]
              refine wpAnyH_ready (rs := [16]) (by kernel_rfl) (by simp) ?_
              refine (AllReadyH.cons rfl (fun K hK => ?_) AllReadyH.nil)
              rw [if_pos (by rfl)]
              refine wp_store_mid 53 _ _ rfl b10 0 (ocL (fewO z)).toArray rfl rfl (B10.there 0 23 (by simp)) (by exact size53) (ocL_one fz) ?_
              simp only [List.toList_toArray]
              have yb10 : Box (S1.setCells b10 0 (ocL (fewO z))) 53 b10 (ocL (fewO z)).toArray := by have h := Box.sets (ocL (fewO z)) 0 B10; rw [show sets #[.int .i64 0, .slice none 0 0, .int .u64 0, .int .i64 0, .int .u64 0, .int .u64 0, .slice none 0 0, .bool false, .bool false, .slice none 0 0, .string ⟨#[]⟩, .int .i64 0, .slice none 0 0, .int .u64 0, .string ⟨#[]⟩, .slice none 0 0, .slice none 0 0, .int .i64 0, .int .i64 0, .int .i64 0, .int .i64 0, .int .i64 0, .int .i64 0] 0 (ocL (fewO z)) = (ocL (fewO z)).toArray from setsZ _] at h; exact h
              have gx := gb_setCells (ocL (fewO z)) 0 (gb_refl S1 (some b10))
              replace yb9 := yb9.kept gx (fun e => by injection e with e; omega)
              have hg2 := gb_mine hg1 gx l10
              generalize S1.setCells b10 0 (ocL (fewO z)) = S2 at *
              refine hK.out _ _ hg2 (fun hS => ?_)
              clear hK K hS gx
              try simp only [Act.put, List.setIfInBounds_toArray, List.set_cons_zero, List.set_cons_succ]
              refine wpAnyH_done (by kernel_rfl) ?_ _
              refine NoPanic.normal ?_
              go_wp2
              go_meet
              exact ⟨b9, b10, rfl, rfl, hne, l9, l10, yb9, yb10, hg2⟩
            · go_simp
              have gx := gb_alloc (gb_refl W2 none) (.cells #[.int .i64 0, .slice none 0 0, .int .u64 0, .int .i64 0, .int .u64 0, .int .u64 0, .slice none 0 0, .bool false, .bool false, .slice none 0 0, .string ⟨#[]⟩, .int .i64 0, .slice none 0 0, .int .u64 0, .string ⟨#[]⟩, .slice none 0 0, .slice none 0 0, .int .i64 0, .int .i64 0, .int .i64 0, .int .i64 0, .int .i64 0, .int .i64 0] 53)
              have hlt9 := B10.lt
              replace B10 := B10.kept gx (by simp)
              have B9 : Box (W2.alloc (.cells #[.int .i64 0, .slice none 0 0, .int .u64 0, .int .i64 0, .int .u64 0, .int .u64 0, .slice none 0 0, .bool false, .bool false, .slice none 0 0, .string ⟨#[]⟩, .int .i64 0, .slice none 0 0, .int .u64 0, .string ⟨#[]⟩, .slice none 0 0, .slice none 0 0, .int .i64 0, .int .i64 0, .int .i64 0, .int .i64 0, .int .i64 0, .int .i64 0] 53)) 53 W2.heap.size #[.int .i64 0, .slice none 0 0, .int .u64 0, .int .i64 0, .int .u64 0, .int .u64 0, .slice none 0 0, .bool false, .bool false, .slice none 0 0, .string ⟨#[]⟩, .int .i64 0, .slice none 0 0, .int .u64 0, .string ⟨#[]⟩, .slice none 0 0, .slice none 0 0, .int .i64 0, .int .i64 0, .int .i64 0, .int .i64 0, .int .i64 0, .int .i64 0] := Box.new W2 53 _
              have l9 : wr.heap.size ≤ W2.heap.size := hg.size
              generalize W2.heap.size = b9 at B9 l9 hlt9 ⊢
              replace hg := gb_trans hg gx
              generalize W2.alloc (.cells #[.int .i64 0, .slice none 0 0, .int .u64 0, .int .i64 0, .int .u64 0, .int .u64 0, .slice none 0 0, .bool false, .bool false, .slice none 0 0, .string ⟨#[]⟩, .int .i64 0, .slice none 0 0, .int .u64 0, .string ⟨#[]⟩, .slice none 0 0, .slice none 0 0, .int .i64 0, .int .i64 0, .int .i64 0, .int .i64 0, .int .i64 0, .int .i64 0] 53) = W3 at *
              have hne : b9 ≠ b10 := by omega
              clear gx
              refine hK.out _ _ hg (fun hS => ?_)
              clear hK K hS
              try simp only [Act.put, List.setIfInBounds_toArray, List.set_cons_zero, List.set_cons_succ]
              refine wpAnyH_ready (rs := [12]) (by kernel_rfl) (by simp) ?_
              refine (AllReadyH.cons rfl (fun K hK => ?_) AllReadyH.nil)
              go_simp
              go_at_call 22
              (with_reducible refine (h22z W3 hg).mono ?_)
              rintro e W4 ⟨rfl, gx⟩
              replace B9 := B9.kept gx (by simp)
              replace B10 := B10.kept gx (by simp)
              replace hg := gb_trans hg gx
              clear gx
              refine hK.out _ _ hg (fun hS => ?_)
              clear hK K hS
              try simp only [Act.put, List.setIfInBounds_toArray, List.set_cons_zero, List.set_cons_succ]
              refine wpAnyH_ready (rs := [15]) (by kernel_rfl) (by simp) ?_
              refine (AllReadyH.cons rfl (fun K hK => ?_) AllReadyH.nil)
              rw [if_pos (by rfl)]
              refine wp_store_mid 53 _ _ rfl b9 0 (ocL (fewO x)).toArray rfl rfl (B9.there 0 23 (by simp)) (by exact size53) (ocL_one fx) ?_
              simp only [List.toList_toArray]
              have yb9 : Box (W4.setCells b9 0 (ocL (fewO x))) 53 b9 (ocL (fewO x)).toArray := by have h := Box.sets (ocL (fewO x)) 0 B9; rw [show sets #[.int .i64 0, .slice none 0 0, .int .u64 0, .int .i64 0, .int .u64 0, .int .u64 0, .slice none 0 0, .bool false, .bool false, .slice none 0 0, .string ⟨#[]⟩, .int .i64 0, .slice none 0 0, .int .u64 0, .string ⟨#[]⟩, .slice none 0 0, .slice none 0 0, .int .i64 0, .int .i64 0, .int .i64 0, .int .i64 0, .int .i64 0, .int .i64 0] 0 (ocL (fewO x)) = (ocL (fewO x)).toArray from setsZ _] at h; exact h
              have gx := gb_setCells (ocL (fewO x)) 0 (gb_refl W4 (some b9))
              replace B10 := B10.kept gx (fun e => by injection e with e; omega)
              have hg1 := gb_mine hg gx l9
              generalize W4.setCells b9 0 (ocL (fewO x)) = S1 at *
              refine hK.out _ _ hg1 (fun hS => ?_)
              clear hK K hS gx
              try simp only [Act.put, List.setIfInBounds_toArray, List.set_cons_zero, List.set_cons_succ]
              refine wpAnyH_ready (rs := [16]) (by kernel_rfl) (by simp) ?_
              refine (AllReadyH.cons rfl (fun K hK => ?_) AllReadyH.nil)
              rw [if_pos (by rfl)]
              refine wp_store_mid 53 _ _ rfl b10 0 (ocL (fewO z)).toArray rfl rfl (B10.there 0 23 (by simp)) (by exact size53) (ocL_one fz) ?_
              simp only [List.toList_toArray]
              have yb10 : Box (S1.setCells b10 0 (ocL (fewO z))) 53 b10 (ocL (fewO z)).toArray := by have h := Box.sets (ocL (fewO z)) 0 B10; rw [show sets #[.int .i64 0, .slice none 0 0, .int .u64 0, .int .i64 0, .int .u64 0, .int .u64 0, .slice none 0 0, .bool false, .bool false, .slice none 0 0, .string ⟨#[]⟩, .int .i64 0, .slice none 0 0, .int .u64 0, .string ⟨#[]⟩, .slice none 0 0, .slice none 0 0, .int .i64 0, .int .i64 0, .int .i64 0, .int .i64 0, .int .i64 0, .int .i64 0] 0 (ocL (fewO z)) = (ocL (fewO z)).toArray from setsZ _] at h; exact h
              have gx := gb_setCells (ocL (fewO z)) 0 (gb_refl S1 (some b10))
              replace yb9 := yb9.kept gx (fun e => by injection e with e; omega)
              have hg2 := gb_mine hg1 gx l10
              generalize S1.setCells b10 0 (ocL (fewO z)) = S2 at *
              refine hK.out _ _ hg2 (fun hS => ?_)
              clear hK K hS gx
              try simp only [Act.put, List.setIfInBounds_toArray, List.set_cons_zero, List.set_cons_succ]
              refine wpAnyH_done (by kernel_rfl) ?_ _
              refine NoPanic.normal ?_
              go_wp2
              go_meet
              exact ⟨b9, b10, rfl, rfl, hne, l9, l10, yb9, yb10, hg2⟩
        · go_simp
          have gx := gb_alloc (gb_refl W none) (.cells #[.int .i64 0, .slice none 0 0, .int .u64 0, .int .i64 0, .int .u64 0, .int .u64 0, .slice none 0 0, .bool false, .bool false, .slice none 0 0, .string ⟨#[]⟩, .int .i64 0, .slice none 0 0, .int .u64 0, .string ⟨#[]⟩, .slice none 0 0, .slice none 0 0, .int .i64 0, .int .i64 0, .int .i64 0, .int .i64 0, .int .i64 0, .int .i64 0] 53)
          have B9 : Box (W.alloc (.cells #[.int .i64 0, .slice none 0 0, .int .u64 0, .int .i64 0, .int .u64 0, .int .u64 0, .slice none 0 0, .bool false, .bool false, .slice none 0 0, .string ⟨#[]⟩, .int .i64 0, .slice none 0 0, .int .u64 0, .string ⟨#[]⟩, .slice none 0 0, .slice none 0 0, .int .i64 0, .int .i64 0, .int .i64 0, .int .i64 0, .int .i64 0, .int .i64 0] 53)) 53 W.heap.size #[.int .i64 0, .slice none 0 0, .int .u64 0, .int .i64 0, .int .u64 0, .int .u64 0, .slice none 0 0, .bool false, .bool false, .slice none 0 0, .string ⟨#[]⟩, .int .i64 0, .slice none 0 0, .int .u64 0, .string ⟨#[]⟩, .slice none 0 0, .slice none 0 0, .int .i64 0, .int .i64 0, .int .i64 0, .int .i64 0, .int .i64 0, .int .i64 0] := Box.new W 53 _
          have l9 : wr.heap.size ≤ W.heap.size := hg.size
          generalize W.heap.size = b9 at B9 l9 ⊢
          replace hg := gb_trans hg gx
          generalize W.alloc (.cells #[.int .i64 0, .slice none 0 0, .int .u64 0, .int .i64 0, .int .u64 0, .int .u64 0, .slice none 0 0, .bool false, .bool false, .slice none 0 0, .string ⟨#[]⟩, .int .i64 0, .slice none 0 0, .int .u64 0, .string ⟨#[]⟩, .slice none 0 0, .slice none 0 0, .int .i64 0, .int .i64 0, .int .i64 0, .int .i64 0, .int .i64 0, .int .i64 0] 53) = W1 at *
          clear gx
          refine hK.out _ _ hg (fun hS => ?_)
          clear hK K hS
          try simp only [Act.put, List.setIfInBounds_toArray, List.set_cons_zero, List.set_cons_succ]
          refine wpAnyH_ready (rs := [4, 14]) (by kernel_rfl) (by simp) ?_
          refine (AllReadyH.cons rfl (fun K hK => ?_) (AllReadyH.cons rfl (fun K hK => ?_) AllReadyH.nil))
          · go_simp
            go_at_call 22
            (with_reducible refine (h22x W1 hg).mono ?_)
            rintro e W2 ⟨rfl, gx⟩
            replace B9 := B9.kept gx (by simp)
            replace hg := gb_trans hg gx
            clear gx
            refine hK.out _ _ hg (fun hS => ?_)
            clear hK K hS
            try simp only [Act.put, List.setIfInBounds_toArray, List.set_cons_zero, List.set_cons_succ]
            refine wpAnyH_ready (rs := [12, 14]) (by kernel_rfl) (by simp) ?_
            refine (AllReadyH.cons rfl (fun K hK => ?_) (AllReadyH.cons rfl (fun K hK => ?_) AllReadyH.nil))
            · go_simp
              go_at_call 22
              (with_reducible refine (h22z W2 hg).mono ?_)
              rintro e W3 ⟨rfl, gx⟩
              replace B9 := B9.kept gx (by simp)
              replace hg := gb_trans hg gx
              clear gx
              refine hK.out _ _ hg (fun hS => ?_)
              clear hK K hS
              try simp only [Act.put, List.setIfInBounds_toArray, List.set_cons_zero, List.set_cons_succ]
              refine wpAnyH_ready (rs := [14]) (by kernel_rfl) (by simp) ?_
              refine (AllReadyH.cons rfl (fun K hK => ?_) AllReadyH.nil)
              go_simp
              have gx := gb_alloc (gb_refl W3 none) (.cells #[.int .i64 0, .slice none 0 0, .int .u64 0, .int .i64 0, .int .u64 0, .int .u64 0, .slice none 0 0, .bool false, .bool false, .slice none 0 0, .string ⟨#[]⟩, .int .i64 0, .slice none 0 0, .int .u64 0, .string ⟨#[]⟩, .slice none 0 0, .slice none 0 0, .int .i64 0, .int .i64 0, .int .i64 0, .int .i64 0, .int .i64 0, .int .i64 0] 53)
              have hlt9 := B9.lt
              replace B9 := B9.kept gx (by simp)
              have B10 : Box (W3.alloc (.cells #[.int .i64 0, .slice none 0 0, .int .u64 0, .int .i64 0, .int .u64 0, .int .u64 0, .slice none 0 0, .bool false, .bool false, .slice none 0 0, .string ⟨#[]⟩, .int .i64 0, .slice none 0 0, .int .u64 0, .string ⟨#[]⟩, .slice none 0 0, .slice none 0 0, .int .i64 0, .int .i64 0, .int .i64 0, .int .i64 0, .int .i64 0, .int .i64 0] 53)) 53 W3.heap.size #[.int .i64 0, .slice none 0 0, .int .u64 0, .int .i64 0, .int .u64 0, .int .u64 0, .slice none 0 0, .bool false, .bool false, .slice none 0 0, .string ⟨#[]⟩, .int .i64 0, .slice none 0 0, .int .u64 0, .string ⟨#[]⟩, .slice none 0 0, .slice none 0 0, .int .i64 0, .int .i64 0, .int .i64 0, .int .i64 0, .int .i64 0, .int .i64 0] := Box.new W3 53 _
              have l10 : wr.heap.size ≤ W3.heap.size := hg.size
              generalize W3.heap.size = b10 at B10 l10 hlt9 ⊢
              replace hg := gb_trans hg gx
              generalize W3.alloc (.cells #[.int .i64 0, .slice none 0 0, .int .u64 0, .int .i64 0, .int .u64 0, .int .u64 0, .slice none 0 0, .bool false, .bool false, .slice none 0 0, .string ⟨#[]⟩, .int .i64 0, .slice none 0 0, .int .u64 0, .string ⟨#[]⟩, .slice none 0 0, .slice none 0 0, .int .i64 0, .int .i64 0, .int .i64 0, .int .i64 0, .int .i64 0, .int .i64 0] 53) = W4 at *
              have hne : b9 ≠ b10 := by omega
              clear gx
              refine hK.out _ _ hg (fun hS => ?_)
              clear hK K hS
              try simp only [Act.put, List.setIfInBounds_toArray, List.set_cons_zero, List.set_cons_succ]
              refine wpAnyH_ready (rs := [15]) (by kernel_rfl) (by simp) ?_
              refine (AllReadyH.cons rfl (fun K hK => ?_) AllReadyH.nil)
              rw [if_pos (by rfl)]
              refine wp_store_mid 53 _ _ rfl b9 0 (ocL (fewO x)).toArray rfl rfl (B9.there 0 23 (by simp)) (by exact size53) (ocL_one fx) ?_
              simp only [List.toList_toArray]
              have yb9 : Box (W4.setCells b9 0 (ocL (fewO x))) 53 b9 (ocL (fewO x)).toArray := by have h := Box.sets (ocL (fewO x)) 0 B9; rw [show sets #[.int .i64 0, .slice none 0 0, .int .u64 0, .int .i64 0, .int .u64 0, .int .u64 0, .slice none 0 0, .bool false, .bool false, .slice none 0 0, .string ⟨#[]⟩, .int .i64 0, .slice none 0 0, .int .u64 0, .string ⟨#[]⟩, .slice none 0 0, .slice none 0 0, .int .i64 0, .int .i64 0, .int .i64 0, .int .i64 0, .int .i64 0, .int .i64 0] 0 (ocL (fewO x)) = (ocL (fewO x)).toArray from setsZ _] at h; exact h
              have gx := gb_setCells (ocL (fewO x)) 0 (gb_refl W4 (some b9))
              replace B10 := B10.kept gx (fun e => by injection e with e; omega)
              have hg1 := gb_mine hg gx l9
              generalize W4.setCells b9 0 (ocL (fewO x)) = S1 at *
              refine hK.out _ _ hg1 (fun hS => ?_)
              clear hK K hS gx
              try simp only [Act.put, List.setIfInBounds_toArray, List.set_cons_zero, List.set_cons_succ]
              refine wpAnyH_ready (rs := [16]) (by kernel_rfl) (by simp) ?_
              refine (AllReadyH.cons rfl (fun K hK => ?_) AllReadyH.nil)
              rw [if_pos (by rfl)]
              refine wp_store_mid 53 _ _ rfl b10 0 (ocL (fewO z)).toArray rfl rfl (B10.there 0 23 (by simp)) (by exact size53) (ocL_one fz) ?_
              simp only [List.toList_toArray]
              have yb10 : Box (S1.setCells b10 0 (ocL (fewO z))) 53 b10 (ocL (fewO z)).toArray := by have h := Box.sets (ocL (fewO z)) 0 B10; rw [show sets #[.int .i64 0, .slice none 0 0, .int .u64 0, .int .i64 0, .int .u64 0, .int .u64 0, .slice none 0 0, .bool false, .bool false, .slice none 0 0, .string ⟨#[]⟩, .int .i64 0, .slice none 0 0, .int .u64 0, .string ⟨#[]⟩, .slice none 0 0, .slice none 0 0, .int .i64 0, .int .i64 0, .int .i64 0, .int .i64 0, .int .i64 0, .int .i64 0] 0 (ocL (fewO z)) = (ocL (fewO z)).toArray from setsZ _] at h; exact h
              have gx := gb_setCells (ocL (fewO z)) 0 (gb_refl S1 (some b10))
              replace yb9 := yb9.kept gx (fun e => by injection e with e; omega)
              have hg2 := gb_mine hg1 gx l10
              generalize S1.setCells b10 0 (ocL (fewO z)) = S2 at *
              refine hK.out _ _ hg2 (fun hS => ?_)
              clear hK K hS gx
              try simp only [Act.put, List.setIfInBounds_toArray, List.set_cons_zero, List.set_cons_succ]
              refine wpAnyH_done (by kernel_rfl) ?_ _
              refine NoPanic.normal ?_
              go_wp2
              go_meet
              exact ⟨b9, b10, rfl, rfl, hne, l9, l10, yb9, yb10, hg2⟩
            · go_simp
              have gx := gb_alloc (gb_refl W2 none) (.cells #[.int .i64 0, .slice none 0 0, .int .u64 0, .int .i64 0, .int .u64 0, .int .u64 0, .slice none 0 0, .bool false, .bool false, .slice none 0 0, .string ⟨#[]⟩, .int .i64 0, .slice none 0 0, .int .u64 0, .string ⟨#[]⟩, .slice none 0 0, .slice none 0 0, .int .i64 0, .int .i64 0, .int .i64 0, .int .i64 0, .int .i64 0, .int .i64 0] 53)
              have hlt9 := B9.lt
              replace B9 := B9.kept gx (by simp)
              have B10 : Box (W2.alloc (.cells #[.int .i64 0, .slice none 0 0, .int .u64 0, .int .i64 0, .int .u64 0, .int .u64 0, .slice none 0 0, .bool false, .bool false, .slice none 0 0, .string ⟨#[]⟩, .int .i64 0, .slice none 0 0, .int .u64 0, .string ⟨#[]⟩, .slice none 0 0, .slice none 0 0, .int .i64 0, .int .i64 0, .int .i64 0, .int .i64 0, .int .i64 0, .int .i64 0] 53)) 53 W2.heap.size #[.int .i64 0, .slice none 0 0, .int .u64 0, .int .i64 0, .int .u64 0, .int .u64 0, .slice none 0 0, .bool false, .bool false, .slice none 0 0, .string ⟨#[]⟩, .int .i64 0, .slice none 0 0, .int .u64 0, .string ⟨#[]⟩, .slice none 0 0, .slice none 0 0, .int .i64 0, .int .i64 0, .int .i64 0, .int .i64 0, .int .i64 0, .int .i64 0] := Box.new W2 53 _
              have l10 : wr.heap.size ≤ W2.heap.size := hg.size
              generalize W2.heap.size = b10 at B10 l10 hlt9 ⊢
              replace hg := gb_trans hg gx
              generalize W2.alloc (.cells #[.int .i64 0, .slice none 0 0, .int .u64 0, .int .i64 0, .int .u64 0, .int .u64 0, .slice none 0 0, .bool false, .bool false, .slice none 0 0, .string ⟨#[]⟩, .int .i64 0, .slice none 0 0, .int .u64 0, .string ⟨#[]⟩, .slice none 0 0, .slice none 0 0, .int .i64 0, .int .i64 0, .int .i64 0, .int .i64 0, .int .i64 0, .int .i64 0] 53) = W3 at *
              have hne : b9 ≠ b10 := by omega
              clear gx
              refine hK.out _ _ hg (fun hS => ?_)
              clear hK K hS
              try simp only [Act.put, List.setIfInBounds_toArray, List.set_cons_zero, List.set_cons_succ]
              refine wpAnyH_ready (rs := [12]) (by kernel_rfl) (by simp) ?_
              refine (AllReadyH.cons rfl (fun K hK => ?_) AllReadyH.nil)
              go_simp
              go_at_call 22
              (with_reducible refine (h22z W3 hg).mono ?_)
              rintro e W4 ⟨rfl, gx⟩
              replace B9 := B9.kept gx (by simp)
              replace B10 := B10.kept gx (by simp)
              replace hg := gb_trans hg gx
              clear gx
              refine hK.out _ _ hg (fun hS => ?_)
              clear hK K hS
              try simp only [Act.put, List.setIfInBounds_toArray, List.set_cons_zero, List.set_cons_succ]
              refine wpAnyH_ready (rs := [15]) (by kernel_rfl) (by simp) ?_
              refine (AllReadyH.cons rfl (fun K hK => ?_) AllReadyH.nil)
              rw [if_pos (by rfl)]
              refine wp_store_mid 53 _ _ rfl b9 0 (ocL (fewO x)).toArray rfl rfl (B9.there 0 23 (by simp)) (by exact size53) (ocL_one fx) ?_
              simp only [List.toList_toArray]
              have yb9 : Box (W4.setCells b9 0 (ocL (fewO x))) 53 b9 (ocL (fewO x)).toArray := by have h := Box.sets (ocL (fewO x)) 0 B9; rw [show sets #[.int .i64 0, .slice none 0 0, .int .u64 0, .int .i64 0, .int .u64 0, .int .u64 0, .slice none 0 0, .bool false, .bool false, .slice none 0 0, .string ⟨#[]⟩, .int .i64 0, .slice none 0 0, .int .u64 0, .string ⟨#[]⟩, .slice none 0 0, .slice none 0 0, .int .i64 0, .int .i64 0, .int .i64 0, .int .i64 0, .int .i64 0, .int .i64 0] 0 (ocL (fewO x)) = (ocL (fewO x)).toArray from setsZ _] at h; exact h
              have gx := gb_setCells (ocL (fewO x)) 0 (gb_refl W4 (some b9))
              replace B10 := B10.kept gx (fun e => by injection e with e; omega)
              have hg1 := gb_mine hg gx l9
              generalize W4.setCells b9 0 (ocL (fewO x)) = S1 at *
              refine hK.out _ _ hg1 (fun hS => ?_)
              clear hK K hS gx
              try simp only [Act.put, List.setIfInBounds_toArray, List.set_cons_zero, List.set_cons_succ]
              refine wpAnyH_ready (rs := [16]) (by kernel_rfl) (by simp) ?_
              refine (AllReadyH.cons rfl (fun K hK => ?_) AllReadyH.nil)
              rw [if_pos (by rfl)]
              refine wp_store_mid 53 _ _ rfl b10 0 (ocL (fewO z)).toArray rfl rfl (B10.there 0 23 (by simp)) (by exact size53) (ocL_one fz) ?_
              simp only [List.toList_toArray]
              have yb10 : Box (S1.setCells b10 0 (ocL (fewO z))) 53 b10 (ocL (fewO z)).toArray := by have h := Box.sets (ocL (fewO z)) 0 B10; rw [show sets #[.int .i64 0, .slice none 0 0, .int .u64 0, .int .i64 0, .int .u64 0, .int .u64 0, .slice none 0 0, .bool false, .bool false, .slice none 0 0, .string ⟨#[]⟩, .int .i64 0, .slice none 0 0, .int .u64 0, .string ⟨#[]⟩, .slice none 0 0, .slice none 0 0, .int .i64 0, .int .i64 0, .int .i64 0, .int .i64 0, .int .i64 0, .int .i64 0] 0 (ocL (fewO z)) = (ocL (fewO z)).toArray from setsZ _] at h; exact h
              have gx := gb_setCells (ocL (fewO z)) 0 (gb_refl S1 (some b10))
              replace yb9 := yb9.kept gx (fun e => by injection e with e; omega)
              have hg2 := gb_mine hg1 gx l10
              generalize S1.setCells b10 0 (ocL (fewO z)) = S2 at *
              refine hK.out _ _ hg2 (fun hS => ?_)
              clear hK K hS gx
              try simp only [Act.put, List.setIfInBounds_toArray, List.set_cons_zero, List.set_cons_succ]
              refine wpAnyH_done (by kernel_rfl) ?_ _
              refine NoPanic.normal ?_
              go_wp2
              go_meet
              exact ⟨b9, b10, rfl, rfl, hne, l9, l10, yb9, yb10, hg2⟩
          · go_simp
            have gx := gb_alloc (gb_refl W1 none) (.cells #[.int .i64 0, .slice none 0 0, .int .u64 0, .int .i64 0, .int .u64 0, .int .u64 0, .slice none 0 0, .bool false, .bool false, .slice none 0 0, .string ⟨#[]⟩, .int .i64 0, .slice none 0 0, .int .u64 0, .string ⟨#[]⟩, .slice none 0 0, .slice none 0 0, .int .i64 0, .int .i64 0, .int .i64 0, .int .i64 0, .int .i64 0, .int .i64 0] 53)
            have hlt9 := B9.lt
            replace B9 := B9.kept gx (by simp)
            have B10 : Box (W1.alloc (.cells #[.int .i64 0, .slice none 0 0, .int .u64 0, .int .i64 0, .int .u64 0, .int .u64 0, .slice none 0 0, .bool false, .bool false, .slice none 0 0, .string ⟨#[]⟩, .int .i64 0, .slice none 0 0, .int .u64 0, .string ⟨#[]⟩, .slice none 0 0, .slice none 0 0, .int .i64 0, .int .i64 0, .int .i64 0, .int .i64 0, .int .i64 0, .int .i64 0] 53)) 53 W1.heap.size #[.int .i64 0, .slice none 0 0, .int .u64 0, .int .i64 0, .int .u64 0, .int .u64 0, .slice none 0 0, .bool false, .bool false, .slice none 0 0, .string ⟨#[]⟩, .int .i64 0, .slice none 0 0, .int .u64 0, .string ⟨#[]⟩, .slice none 0 0, .slice none 0 0, .int .i64 0, .int .i64 0, .int .i64 0, .int .i64 0, .int .i64 0, .int .i64 0] := Box.new W1 53 _
            have l10 : wr.heap.size ≤ W1.heap.size := hg.size
            generalize W1.heap.size = b10 at B10 l10 hlt9 ⊢
            replace hg := gb_trans hg gx
            generalize W1.alloc (.cells #[.int .i64 0, .slice none 0 0, .int .u64 0, .int .i64 0, .int .u64 0, .int .u64 0, .slice none 0 0, .bool false, .bool false, .slice none 0 0, .string ⟨#[]⟩, .int .i64 0, .slice none 0 0, .int .u64 0, .string ⟨#[]⟩, .slice none 0 0, .slice none 0 0, .int .i64 0, .int .i64 0, .int .i64 0, .int .i64 0, .int .i64 0, .int .i64 0] 53) = W2 at *
            have hne : b9 ≠ b10 := by omega
            clear gx
            refine hK.out _ _ hg (fun hS => ?_)
            clear hK K hS
            try simp only [Act.put, List.setIfInBounds_toArray, List.set_cons_zero, List.set_cons_succ]
            refine wpAnyH_ready (rs := [4]) (by kernel_rfl) (by simp) ?_
            refine (AllReadyH.cons rfl (fun K hK => ?_) AllReadyH.nil)
            go_simp
            go_at_call 22
            (with_reducible refine (h22x W2 hg).mono ?_)
            rintro e W3 ⟨rfl, gx⟩
            replace B9 := B9.kept gx (by simp)
            replace B10 := B10.kept gx (by simp)
            replace hg := gb_trans hg gx
            clear gx
            refine hK.out _ _ hg (fun hS => ?_)
            clear hK K hS
            try simp only [Act.put, List.setIfInBounds_toArray, List.set_cons_zero, List.set_cons_succ]
            refine wpAnyH_ready (rs := [12]) (by kernel_rfl) (by simp) ?_
            refine (AllReadyH.cons rfl (fun K hK => ?_) AllReadyH.nil)
            go_simp
            go_at_call 22
            (with_reducible refine (h22z W3 hg).mono ?_)
            rintro e W4 ⟨rfl, gx⟩
            replace B9 := B9.kept gx (by simp)
            replace B10 := B10.kept gx (by simp)
            replace hg := gb_trans hg gx
            clear gx
            refine hK.out _ _ hg (fun hS => ?_)
            clear hK K hS
            try simp only [Act.put, List.setIfInBounds_toArray, List.set_cons_zero, List.set_cons_succ]
            refine wpAnyH_ready (rs := [15]) (by kernel_rfl) (by simp) ?_
            refine (AllReadyH.cons rfl (fun K hK => ?_) AllReadyH.nil)
            rw [if_pos (by rfl)]
            refine wp_store_mid 53 _ _ rfl b9 0 (ocL (fewO x)).toArray rfl rfl (B9.there 0 23 (by simp)) (by exact size53) (ocL_one fx) ?_
            simp only [List.toList_toArray]
            have yb9 : Box (W4.setCells b9 0 (ocL (fewO x))) 53 b9 (ocL (fewO x)).toArray := by have h := Box.sets (ocL (fewO x)) 0 B9; rw [show sets #[.int .i64 0, .slice none 0 0, .int .u64 0, .int .i64 0, .int .u64 0, .int .u64 0, .slice none 0 0, .bool false, .bool false, .slice none 0 0, .string ⟨#[]⟩, .int .i64 0, .slice none 0 0, .int .u64 0, .string ⟨#[]⟩, .slice none 0 0, .slice none 0 0, .int .i64 0, .int .i64 0, .int .i64 0, .int .i64 0, .int .i64 0, .int .i64 0] 0 (ocL (fewO x)) = (ocL (fewO x)).toArray from setsZ _] at h; exact h
            have gx := gb_setCells (ocL (fewO x)) 0 (gb_refl W4 (some b9))
            replace B10 := B10.kept gx (fun e => by injection e with e; omega)
            have hg1 := gb_mine hg gx l9
            generalize W4.setCells b9 0 (ocL (fewO x)) = S1 at *
            refine hK.out _ _ hg1 (fun hS => ?_)
            clear hK K hS gx
            try simp only [Act.put, List.setIfInBounds_toArray, List.set_cons_zero, List.set_cons_succ]
            refine wpAnyH_ready (rs := [16]) (by kernel_rfl) (by simp) ?_
            refine (AllReadyH.cons rfl (fun K hK => ?_) AllReadyH.nil)
            rw [if_pos (by rfl)]
            refine wp_store_mid 53 _ _ rfl b10 0 (ocL (fewO z)).toArray rfl rfl (B10.there 0 23 (by simp)) (by exact size53) (ocL_one fz) ?_
            simp only [List.toList_toArray]
            have yb10 : Box (S1.setCells b10 0 (ocL (fewO z))) 53 b10 (ocL (fewO z)).toArray := by have h := Box.sets (ocL (fewO z)) 0 B10; rw [show sets #[.int .i64 0, .slice none 0 0, .int .u64 0, .int .i64 0, .int .u64 0, .int .u64 0, .slice none 0 0, .bool false, .bool false, .slice none 0 0, .string ⟨#[]⟩, .int .i64 0, .slice none 0 0, .int .u64 0, .string ⟨#[]⟩, .slice none 0 0, .slice none 0 0, .int .i64 0, .int .i64 0, .int .i64 0, .int .i64 0, .int .i64 0, .int .i64 0] 0 (ocL (fewO z)) = (ocL (fewO z)).toArray from setsZ _] at h; exact h
            have gx := gb_setCells (ocL (fewO z)) 0 (gb_refl S1 (some b10))
            replace yb9 := yb9.kept gx (fun e => by injection e with e; omega)
            have hg2 := gb_mine hg1 gx l10
            generalize S1.setCells b10 0 (ocL (fewO z)) = S2 at *
            refine hK.out _ _ hg2 (fun hS => ?_)
            clear hK K hS gx
            try simp only [Act.put, List.setIfInBounds_toArray, List.set_cons_zero, List.set_cons_succ]
            refine wpAnyH_done (by kernel_rfl) ?_ _
            refine NoPanic.normal ?_
            go_wp2
            go_meet
            exact ⟨b9, b10, rfl, rfl, hne, l9, l10, yb9, yb10, hg2⟩
        · go_simp
          have gx := gb_alloc (gb_refl W none) (.cells #[.int .i64 0, .slice none 0 0, .int .u64 0, .int .i64 0, .int .u64 0, .int .u64 0, .slice none 0 0, .bool false, .bool false, .slice none 0 0, .string ⟨#[]⟩, .int .i64 0, .slice none 0 0, .int .u64 0, .string ⟨#[]⟩, .slice none 0 0, .slice none 0 0, .int .i64 0, .int .i64 0, .int .i64 0, .int .i64 0, .int .i64 0, .int .i64 0] 53)
          have B10 : Box (W.alloc (.cells #[.int .i64 0, .slice none 0 0, .int .u64 0, .int .i64 0, .int .u64 0, .int .u64 0, .slice none 0 0, .bool false, .bool false, .slice none 0 0, .string ⟨#[]⟩, .int .i64 0, .slice none 0 0, .int .u64 0, .string ⟨#[]⟩, .slice none 0 0, .slice none 0 0, .int .i64 0, .int .i64 0, .int .i64 0, .int .i64 0, .int .i64 0, .int .i64 0] 53)) 53 W.heap.size #[.int .i64 0, .slice none 0 0, .int .u64 0, .int .i64 0, .int .u64 0, .int .u64 0, .slice none 0 0, .bool false, .bool false, .slice none 0 0, .string ⟨#[]⟩, .int .i64 0, .slice none 0 0, .int .u64 0, .string ⟨#[]⟩, .slice none 0 0, .slice none 0 0, .int .i64 0, .int .i64 0, .int .i64 0, .int .i64 0, .int .i64 0, .int .i64 0] := Box.new W 53 _
          have l10 : wr.heap.size ≤ W.heap.size := hg.size
          generalize W.heap.size = b10 at B10 l10 ⊢
          replace hg := gb_trans hg gx
          generalize W.alloc (.cells #[.int .i64 0, .slice none 0 0, .int .u64 0, .int .i64 0, .int .u64 0, .int .u64 0, .slice none 0 0, .bool false, .bool false, .slice none 0 0, .string ⟨#[]⟩, .int .i64 0, .slice none 0 0, .int .u64 0, .string ⟨#[]⟩, .slice none 0 0, .slice none 0 0, .int .i64 0, .int .i64 0, .int .i64 0, .int .i64 0, .int .i64 0, .int .i64 0] 53) = W1 at *
          clear gx
          refine hK.out _ _ hg (fun hS => ?_)
          clear hK K hS
          try simp only [Act.put, List.setIfInBounds_toArray, List.set_cons_zero, List.set_cons_succ]
          refine wpAnyH_ready (rs := [4, 13]) (by kernel_rfl) (by simp) ?_
          refine (AllReadyH.cons rfl (fun K hK => ?_) (AllReadyH.cons rfl (fun K hK => ?_) AllReadyH.nil))
          · go_simp
            go_at_call 22
            (with_reducible refine (h22x W1 hg).mono ?_)
            rintro e W2 ⟨rfl, gx⟩
            replace B10 := B10.kept gx (by simp)
            replace hg := gb_trans hg gx
            clear gx
            refine hK.out _ _ hg (fun hS => ?_)
            clear hK K hS
            try simp only [Act.put, List.setIfInBounds_toArray, List.set_cons_zero, List.set_cons_succ]
            refine wpAnyH_ready (rs := [12, 13]) (by kernel_rfl) (by simp) ?_
            refine (AllReadyH.cons rfl (fun K hK => ?_) (AllReadyH.cons rfl (fun K hK => ?_) AllReadyH.nil))
            · go_simp
              go_at_call 22
              (with_reducible refine (h22z W2 hg).mono ?_)
              rintro e W3 ⟨rfl, gx⟩
              replace B10 := B10.kept gx (by simp)
              replace hg := gb_trans hg gx
              clear gx
              refine hK.out _ _ hg (fun hS => ?_)
              clear hK K hS
              try simp only [Act.put, List.setIfInBounds_toArray, List.set_cons_zero, List.set_cons_succ]
              refine wpAnyH_ready (rs := [13]) (by kernel_rfl) (by simp) ?_
              refine (AllReadyH.cons rfl (fun K hK => ?_) AllReadyH.nil)
              go_simp
              have gx := gb_alloc (gb_refl W3 none) (.cells #[.int .i64 0, .slice none 0 0, .int .u64 0, .int .i64 0, .int .u64 0, .int .u64 0, .slice none 0 0, .bool false, .bool false, .slice none 0 0, .string ⟨#[]⟩, .int .i64 0, .slice none 0 0, .int .u64 0, .string ⟨#[]⟩, .slice none 0 0, .slice none 0 0, .int .i64 0, .int .i64 0, .int .i64 0, .int .i64 0, .int .i64 0, .int .i64 0] 53)
              have hlt9 := B10.lt
              replace B10 := B10.kept gx (by simp)
              have B9 : Box (W3.alloc (.cells #[.int .i64 0, .slice none 0 0, .int .u64 0, .int .i64 0, .int .u64 0, .int .u64 0, .slice none 0 0, .bool false, .bool false, .slice none 0 0, .string ⟨#[]⟩, .int .i64 0, .slice none 0 0, .int .u64 0, .string ⟨#[]⟩, .slice none 0 0, .slice none 0 0, .int .i64 0, .int .i64 0, .int .i64 0, .int .i64 0, .int .i64 0, .int .i64 0] 53)) 53 W3.heap.size #[.int .i64 0, .slice none 0 0, .int .u64 0, .int .i64 0, .int .u64 0, .int .u64 0, .slice none 0 0, .bool false, .bool false, .slice none 0 0, .string ⟨#[]⟩, .int .i64 0, .slice none 0 0, .int .u64 0, .string ⟨#[]⟩, .slice none 0 0, .slice none 0 0, .int .i64 0, .int .i64 0, .int .i64 0, .int .i64 0, .int .i64 0, .int .i64 0] := Box.new W3 53 _
              have l9 : wr.heap.size ≤ W3.heap.size := hg.size
              generalize W3.heap.size = b9 at B9 l9 hlt9 ⊢
              replace hg := gb_trans hg gx
              generalize W3.alloc (.cells #[.int .i64 0, .slice none 0 0, .int .u64 0, .int .i64 0, .int .u64 0, .int .u64 0, .slice none 0 0, .bool false, .bool false, .slice none 0 0, .string ⟨#[]⟩, .int .i64 0, .slice none 0 0, .int .u64 0, .string ⟨#[]⟩, .slice none 0 0, .slice none 0 0, .int .i64 0, .int .i64 0, .int .i64 0, .int .i64 0, .int .i64 0, .int .i64 0] 53) = W4 at *
              have hne : b9 ≠ b10 := by omega
              clear gx
              refine hK.out _ _ hg (fun hS => ?_)
              clear hK K hS
              try simp only [Act.put, List.setIfInBounds_toArray, List.set_cons_zero, List.set_cons_succ]
              refine wpAnyH_ready (rs := [15]) (by kernel_rfl) (by simp) ?_
              refine (AllReadyH.cons rfl (fun K hK => ?_) AllReadyH.nil)
              rw [if_pos (by rfl)]
              refine wp_store_mid 53 _ _ rfl b9 0 (ocL (fewO x)).toArray rfl rfl (B9.there 0 23 (by simp)) (by exact size53) (ocL_one fx) ?_
              simp only [List.toList_toArray]
              have yb9 : Box (W4.setCells b9 0 (ocL (fewO x))) 53 b9 (ocL (fewO x)).toArray := by have h := Box.sets (ocL (fewO x)) 0 B9; rw [show sets #[.int .i64 0, .slice none 0 0, .int .u64 0, .int .i64 0, .int .u64 0, .int .u64 0, .slice none 0 0, .bool false, .bool false, .slice none 0 0, .string ⟨#[]⟩, .int .i64 0, .slice none 0 0, .int .u64 0, .string ⟨#[]⟩, .slice none 0 0, .slice none 0 0, .int .i64 0, .int .i64 0, .int .i64 0, .int .i64 0, .int .i64 0, .int .i64 0] 0 (ocL (fewO x)) = (ocL (fewO x)).toArray from setsZ _] at h; exact h
              have gx := gb_setCells (ocL (fewO x)) 0 (gb_refl W4 (some b9))
              replace B10 := B10.kept gx (fun e => by injection e with e; omega)
              have hg1 := gb_mine hg gx l9
              generalize W4.setCells b9 0 (ocL (fewO x)) = S1 at *
              refine hK.out _ _ hg1 (fun hS => ?_)
              clear hK K hS gx
              try simp only [Act.put, List.setIfInBounds_toArray, List.set_cons_zero, List.set_cons_succ]
              refine wpAnyH_ready (rs := [16]) (by kernel_rfl) (by simp) ?_
              refine (AllReadyH.cons rfl (fun K hK => ?_) AllReadyH.nil)
              rw [if_pos (by rfl)]
              refine wp_store_mid 53 _ _ rfl b10 0 (ocL (fewO z)).toArray rfl rfl (B10.there 0 23 (by simp)) (by exact size53) (ocL_one fz) ?_
              simp only [List.toList_toArray]
              have yb10 : Box (S1.setCells b10 0 (ocL (fewO z))) 53 b10 (ocL (fewO z)).toArray := by have h := Box.sets (ocL (fewO z)) 0 B10; rw [show sets #[.int .i64 0, .slice none 0 0, .int .u64 0, .int .i64 0, .int .u64 0, .int .u64 0, .slice none 0 0, .bool false, .bool false, .slice none 0 0, .string ⟨#[]⟩, .int .i64 0, .slice none 0 0, .int .u64 0, .string ⟨#[]⟩, .slice none 0 0, .slice none 0 0, .int .i64 0, .int .i64 0, .int .i64 0, .int .i64 0, .int .i64 0, .int .i64 0] 0 (ocL (fewO z)) = (ocL (fewO z)).toArray from setsZ _] at h; exact h
              have gx := gb_setCells (ocL (fewO z)) 0 (gb_refl S1 (some b10))
              replace yb9 := yb9.kept gx (fun e => by injection e with e; omega)
              have hg2 := gb_mine hg1 gx l10
              generalize S1.setCells b10 0 (ocL (fewO z)) = S2 at *
              refine hK.out _ _ hg2 (fun hS => ?_)
              clear hK K hS gx
              try simp only [Act.put, List.setIfInBounds_toArray, List.set_cons_zero, List.set_cons_succ]
              refine wpAnyH_done (by kernel_rfl) ?_ _
              refine NoPanic.normal ?_
              go_wp2
              go_meet
              exact ⟨b9, b10, rfl, rfl, hne, l9, l10, yb9, yb10, hg2⟩
            · go_simp
              have gx := gb_alloc (gb_refl W2 none) (.cells #[.int .i64 0, .slice none 0 0, .int .u64 0, .int .i64 0, .int .u64 0, .int .u64 0, .slice none 0 0, .bool false, .bool false, .slice none 0 0, .string ⟨#[]⟩, .int .i64 0, .slice none 0 0, .int .u64 0, .string ⟨#[]⟩, .slice none 0 0, .slice none 0 0, .int .i64 0, .int .i64 0, .int .i64 0, .int .i64 0, .int .i64 0, .int .i64 0] 53)
              have hlt9 := B10.lt
              replace B10 := B10.kept gx (by simp)
              have B9 : Box (W2.alloc (.cells #[.int .i64 0, .slice none 0 0, .int .u64 0, .int .i64 0, .int .u64 0, .int .u64 0, .slice none 0 0, .bool false, .bool false, .slice none 0 0, .string ⟨#[]⟩, .int .i64 0, .slice none 0 0, .int .u64 0, .string ⟨#[]⟩, .slice none 0 0, .slice none 0 0, .int .i64 0, .int .i64 0, .int .i64 0, .int .i64 0, .int .i64 0, .int .i64 0] 53)) 53 W2.heap.size #[.int .i64 0, .slice none 0 0, .int .u64 0, .int .i64 0, .int .u64 0, .int .u64 0, .slice none 0 0, .bool false, .bool false, .slice none 0 0, .string ⟨#[]⟩, .int .i64 0, .slice none 0 0, .int .u64 0, .string ⟨#[]⟩, .slice none 0 0, .slice none 0 0, .int .i64 0, .int .i64 0, .int .i64 0, .int .i64 0, .int .i64 0, .int .i64 0] := Box.new W2 53 _
              have l9 : wr.heap.size ≤ W2.heap.size := hg.size
              generalize W2.heap.size = b9 at B9 l9 hlt9 ⊢
              replace hg := gb_trans hg gx
              generalize W2.alloc (.cells #[.int .i64 0, .slice none 0 0, .int .u64 0, .int .i64 0, .int .u64 0, .int .u64 0, .slice none 0 0, .bool false, .bool false, .slice none 0 0, .string ⟨#[]⟩, .int .i64 0, .slice none 0 0, .int .u64 0, .string ⟨#[]⟩, .slice none 0 0, .slice none 0 0, .int .i64 0, .int .i64 0, .int .i64 0, .int .i64 0, .int .i64 0, .int .i64 0] 53) = W3 at *
              have hne : b9 ≠ b10 := by omega
              clear gx
              refine hK.out _ _ hg (fun hS => ?_)
              clear hK K hS
              try simp only [Act.put, List.setIfInBounds_toArray, List.set_cons_zero, List.set_cons_succ]
              refine wpAnyH_ready (rs := [12]) (by kernel_rfl) (by simp) ?_
              refine (AllReadyH.cons rfl (fun K hK => ?_) AllReadyH.nil)
              go_simp
              go_at_call 22
              (with_reducible refine (h22z W3 hg).mono ?_)
              rintro e W4 ⟨rfl, gx⟩
              replace B9 := B9.kept gx (by simp)
              replace B10 := B10.kept gx (by simp)
              replace hg := gb_trans hg gx
              clear gx
              refine hK.out _ _ hg (fun hS => ?_)
              clear hK K hS
              try simp only [Act.put, List.setIfInBounds_toArray, List.set_cons_zero, List.set_cons_succ]
              refine wpAnyH_ready (rs := [15]) (by kernel_rfl) (by simp) ?_
              refine (AllReadyH.cons rfl (fun K hK => ?_) AllReadyH.nil)
              rw [if_pos (by rfl)]
              refine wp_store_mid 53 _ _ rfl b9 0 (ocL (fewO x)).toArray rfl rfl (B9.there 0 23 (by simp)) (by exact size53) (ocL_one fx) ?_
              simp only [List.toList_toArray]
              have yb9 : Box (W4.setCells b9 0 (ocL (fewO x))) 53 b9 (ocL (fewO x)).toArray := by have h := Box.sets (ocL (fewO x)) 0 B9; rw [show sets #[.int .i64 0, .slice none 0 0, .int .u64 0, .int .i64 0, .int .u64 0, .int .u64 0, .slice none 0 0, .bool false, .bool false, .slice none 0 0, .string ⟨#[]⟩, .int .i64 0, .slice none 0 0, .int .u64 0, .string ⟨#[]⟩, .slice none 0 0, .slice none 0 0, .int .i64 0, .int .i64 0, .int .i64 0, .int .i64 0, .int .i64 0, .int .i64 0] 0 (ocL (fewO x)) = (ocL (fewO x)).toArray from setsZ _] at h; exact h
              have gx := gb_setCells (ocL (fewO x)) 0 (gb_refl W4 (some b9))
              replace B10 := B10.kept gx (fun e => by injection e with e; omega)
              have hg1 := gb_mine hg gx l9
              generalize W4.setCells b9 0 (ocL (fewO x)) = S1 at *
              refine hK.out _ _ hg1 (fun hS => ?_)
              clear hK K hS gx
              try simp only [Act.put, List.setIfInBounds_toArray, List.set_cons_zero, List.set_cons_succ]
              refine wpAnyH_ready (rs := [16]) (by kernel_rfl) (by simp) ?_
              refine (AllReadyH.cons rfl (fun K hK => ?_) AllReadyH.nil)
              rw [if_pos (by rfl)]
              refine wp_store_mid 53 _ _ rfl b10 0 (ocL (fewO z)).toArray rfl rfl (B10.there 0 23 (by simp)) (by exact size53) (ocL_one fz) ?_
              simp only [List.toList_toArray]
              have yb10 : Box (S1.setCells b10 0 (ocL (fewO z))) 53 b10 (ocL (fewO z)).toArray := by have h := Box.sets (ocL (fewO z)) 0 B10; rw [show sets #[.int .i64 0, .slice none 0 0, .int .u64 0, .int .i64 0, .int .u64 0, .int .u64 0, .slice none 0 0, .bool false, .bool false, .slice none 0 0, .string ⟨#[]⟩, .int .i64 0, .slice none 0 0, .int .u64 0, .string ⟨#[]⟩, .slice none 0 0, .slice none 0 0, .int .i64 0, .int .i64 0, .int .i64 0, .int .i64 0, .int .i64 0, .int .i64 0] 0 (ocL (fewO z)) = (ocL (fewO z)).toArray from setsZ _] at h; exact h
              have gx := gb_setCells (ocL (fewO z)) 0 (gb_refl S1 (some b10))
              replace yb9 := yb9.kept gx (fun e => by injection e with e; omega)
              have hg2 := gb_mine hg1 gx l10
              generalize S1.setCells b10 0 (ocL (fewO z)) = S2 at *
              refine hK.out _ _ hg2 (fun hS => ?_)
              clear hK K hS gx
              try simp only [Act.put, List.setIfInBounds_toArray, List.set_cons_zero, List.set_cons_succ]
              refine wpAnyH_done (by kernel_rfl) ?_ _
              refine NoPanic.normal ?_
              go_wp2
              go_meet
              exact ⟨b9, b10, rfl, rfl, hne, l9, l10, yb9, yb10, hg2⟩
          · go_simp
            have gx := gb_alloc (gb_refl W1 none) (.cells #[.int .i64 0, .slice none 0 0, .int .u64 0, .int .i64 0, .int .u64 0, .int .u64 0, .slice none 0 0, .bool false, .bool false, .slice none 0 0, .string ⟨#[]⟩, .int .i64 0, .slice none 0 0, .int .u64 0, .string ⟨#[]⟩, .slice none 0 0, .slice none 0 0, .int .i64 0, .int .i64 0, .int .i64 0, .int .i64 0, .int .i64 0, .int .i64 0] 53)
            have hlt9 := B10.lt
            replace B10 := B10.kept gx (by simp)
            have B9 : Box (W1.alloc (.cells #[.int .i64 0, .slice none 0 0, .int .u64 0, .int .i64 0, .int .u64 0, .int .u64 0, .slice none 0 0, .bool false, .bool false, .slice none 0 0, .string ⟨#[]⟩, .int .i64 0, .slice none 0 0, .int .u64 0, .string ⟨#[]⟩, .slice none 0 0, .slice none 0 0, .int .i64 0, .int .i64 0, .int .i64 0, .int .i64 0, .int .i64 0, .int .i64 0] 53)) 53 W1.heap.size #[.int .i64 0, .slice none 0 0, .int .u64 0, .int .i64 0, .int .u64 0, .int .u64 0, .slice none 0 0, .bool false, .bool false, .slice none 0 0, .string ⟨#[]⟩, .int .i64 0, .slice none 0 0, .int .u64 0, .string ⟨#[]⟩, .slice none 0 0, .slice none 0 0, .int .i64 0, .int .i64 0, .int .i64 0, .int .i64 0, .int .i64 0, .int .i64 0] := Box.new W1 53 _
            have l9 : wr.heap.size ≤ W1.heap.size := hg.size
            generalize W1.heap.size = b9 at B9 l9 hlt9 ⊢
            replace hg := gb_trans hg gx
            generalize W1.alloc (.cells #[.int .i64 0, .slice none 0 0, .int .u64 0, .int .i64 0, .int .u64 0, .int .u64 0, .slice none 0 0, .bool false, .bool false, .slice none 0 0, .string ⟨#[]⟩, .int .i64 0, .slice none 0 0, .int .u64 0, .string ⟨#[]⟩, .slice none 0 0, .slice none 0 0, .int .i64 0, .int .i64 0, .int .i64 0, .int .i64 0, .int .i64 0, .int .i64 0] 53) = W2 at *
            have hne : b9 ≠ b10 := by omega
            clear gx
            refine hK.out _ _ hg (fun hS => ?_)
            clear hK K hS
            try simp only [Act.put, List.setIfInBounds_toArray, List.set_cons_zero, List.set_cons_succ]
            refine wpAnyH_ready (rs := [4]) (by kernel_rfl) (by simp) ?_
            refine (AllReadyH.cons rfl (fun K hK => ?_) AllReadyH.nil)
            go_simp
            go_at_call 22
            (with_reducible refine (h22x W2 hg).mono ?_)
            rintro e W3 ⟨rfl, gx⟩
            replace B9 := B9.kept gx (by simp)
            replace B10 := B10.kept gx (by simp)
            replace hg := gb_trans hg gx
            clear gx
            refine hK.out _ _ hg (fun hS => ?_)
            clear hK K hS
            try simp only [Act.put, List.setIfInBounds_toArray, List.set_cons_zero, List.set_cons_succ]
            refine wpAnyH_ready (rs := [12]) (by kernel_rfl) (by simp) ?_
            refine (AllReadyH.cons rfl (fun K hK => ?_) AllReadyH.nil)
            go_simp
            go_at_call 22
            (with_reducible refine (h22z W3 hg).mono ?_)
            rintro e W4 ⟨rfl, gx⟩
            replace B9 := B9.kept gx (by simp)
            replace B10 := B10.kept gx (by simp)
            replace hg := gb_trans hg gx
            clear gx
            refine hK.out _ _ hg (fun hS => ?_)
            clear hK K hS
            try simp only [Act.put, List.setIfInBounds_toArray, List.set_cons_zero, List.set_cons_succ]
            refine wpAnyH_ready (rs := [15]) (by kernel_rfl) (by simp) ?_
            refine (AllReadyH.cons rfl (fun K hK => ?_) AllReadyH.nil)
            rw [if_pos (by rfl)]
            refine wp_store_mid 53 _ _ rfl b9 0 (ocL (fewO x)).toArray rfl rfl (B9.there 0 23 (by simp)) (by exact size53) (ocL_one fx) ?_
            simp only [List.toList_toArray]
            have yb9 : Box (W4.setCells b9 0 (ocL (fewO x))) 53 b9 (ocL (fewO x)).toArray := by have h := Box.sets (ocL (fewO x)) 0 B9; rw [show sets #[.int .i64 0, .slice none 0 0, .int .u64 0, .int .i64 0, .int .u64 0, .int .u64 0, .slice none 0 0, .bool false, .bool false, .slice none 0 0, .string ⟨#[]⟩, .int .i64 0, .slice none 0 0, .int .u64 0, .string ⟨#[]⟩, .slice none 0 0, .slice none 0 0, .int .i64 0, .int .i64 0, .int .i64 0, .int .i64 0, .int .i64 0, .int .i64 0] 0 (ocL (fewO x)) = (ocL (fewO x)).toArray from setsZ _] at h; exact h
            have gx := gb_setCells (ocL (fewO x)) 0 (gb_refl W4 (some b9))
            replace B10 := B10.kept gx (fun e => by injection e with e; omega)
            have hg1 := gb_mine hg gx l9
            generalize W4.setCells b9 0 (ocL (fewO x)) = S1 at *
            refine hK.out _ _ hg1 (fun hS => ?_)
            clear hK K hS gx
            try simp only [Act.put, List.setIfInBounds_toArray, List.set_cons_zero, List.set_cons_succ]
            refine wpAnyH_ready (rs := [16]) (by kernel_rfl) (by simp) ?_
            refine (AllReadyH.cons rfl (fun K hK => ?_) AllReadyH.nil)
            rw [if_pos (by rfl)]
            refine wp_store_mid 53 _ _ rfl b10 0 (ocL (fewO z)).toArray rfl rfl (B10.there 0 23 (by simp)) (by exact size53) (ocL_one fz) ?_
            simp only [List.toList_toArray]
            have yb10 : Box (S1.setCells b10 0 (ocL (fewO z))) 53 b10 (ocL (fewO z)).toArray := by have h := Box.sets (ocL (fewO z)) 0 B10; rw [show sets #[.int .i64 0, .slice none 0 0, .int .u64 0, .int .i64 0, .int .u64 0, .int .u64 0, .slice none 0 0, .bool false, .bool false, .slice none 0 0, .string ⟨#[]⟩, .int .i64 0, .slice none 0 0, .int .u64 0, .string ⟨#[]⟩, .slice none 0 0, .slice none 0 0, .int .i64 0, .int .i64 0, .int .i64 0, .int .i64 0, .int .i64 0, .int .i64 0] 0 (ocL (fewO z)) = (ocL (fewO z)).toArray from setsZ _] at h; exact h
            have gx := gb_setCells (ocL (fewO z)) 0 (gb_refl S1 (some b10))
            replace yb9 := yb9.kept gx (fun e => by injection e with e; omega)
            have hg2 := gb_mine hg1 gx l10
            generalize S1.setCells b10 0 (ocL (fewO z)) = S2 at *
            refine hK.out _ _ hg2 (fun hS => ?_)
            clear hK K hS gx
            try simp only [Act.put, List.setIfInBounds_toArray, List.set_cons_zero, List.set_cons_succ]
            refine wpAnyH_done (by kernel_rfl) ?_ _
            refine NoPanic.normal ?_
            go_wp2
            go_meet
            exact ⟨b9, b10, rfl, rfl, hne, l9, l10, yb9, yb10, hg2⟩
      case rest =>
        obtain ⟨b9, b10, rfl, rfl, hne, l9, l10, X9, X10, gc⟩ := hcut
        have E1 := E.grown gc
        have lA := Box.lt E.a
        have lB := Box.lt E.b
        have lC := Box.lt E.c
        have lD := Box.lt E.d
        have fO1 : fO l i = dO (fewO x) := fO_at hxi
        have fO2 : fO l (n - 1 - i) = dO (fewO z) := by rw [hjn]; exact fO_at hzi
        have pa : plus (plus N0 (su (fO l) i)) (dO (fewO x)) = plus N0 (su (fO l) (i + 1)) := by rw [← fO1]; exact plus_su _ _
        have pb : plus (plus N0 (su (fun k => fO l (n - 1 - k)) i)) (dO (fewO z)) = plus N0 (su (fun k => fO l (n - 1 - k)) (i + 1)) := by rw [← fO2]; exact plus_su (fun k => fO l (n - 1 - k)) i
        have pc : i % 2 = 0 → plus (plus N0 (su (ev (fO l)) i)) (dO (fewO x)) = plus N0 (su (ev (fO l)) (i + 1)) ∧ su (od (fO l)) (i + 1) = su (od (fO l)) i := fun h => by rw [← fO1]; exact ev_even _ h
        have pd : ¬ i % 2 = 0 → plus (plus N0 (su (od (fO l)) i)) (dO (fewO x)) = plus N0 (su (od (fO l)) (i + 1)) ∧ su (ev (fO l)) (i + 1) = su (ev (fO l)) i := fun h => by rw [← fO1]; exact ev_odd _ h
        clear fO1 fO2 h22x h22z rgx rgz okx okz nx nz hi0 hz0 hz1 hz2 d1 d2 d3 d4 e1 e2 hxi hzi
        generalize fewO x = x' at *
        generalize fewO z = z' at *
        have fNa := plus_fit N0 (su (fO l) i)
        have fNb := plus_fit N0 (su (fun k => fO l (n - 1 - k)) i)
        generalize plus N0 (su (fO l) i) = Na at *
        generalize plus N0 (su (fun k => fO l (n - 1 - k)) i) = Nb at *
        have ga := fun (X : World) (hX : Bd X A 0 Na) (hg : w.grownBy X none) => cmd_any hX fNa fx hg hwA
        have gb := fun (X : World) (hX : Bd X B 0 Nb) (hg : w.grownBy X none) => cmd_any hX fNb fz hg (by omega)
        have gcc := fun (X : World) (hX : Bd X C 0 (plus N0 (su (ev (fO l)) i))) (hg : w.grownBy X none) => cmd_any hX (plus_fit _ _) fx hg (by omega)
        have gd := fun (X : World) (hX : Bd X D 0 (plus N0 (su (od (fO l)) i))) (hg : w.grownBy X none) => cmd_any hX (plus_fit _ _) fx hg (by omega)
        obtain ⟨⟨vb, ka, kn, kc, fl1, ex, tk, de, da, dn, dc, nr, lg, ma, mn, mc, what⟩, ⟨ak, en, nu, tx, st⟩, y, ⟨dr, re, bu, li, lo, cr⟩, fl, why⟩ := x'
        obtain ⟨⟨⟨x1, n1, k1, a1⟩, ⟨n2, a2⟩, ⟨x3, n3, k3, a3⟩, _⟩, _, ⟨ya, yc, a4, _⟩, _⟩ := fx
        simp only at a1 a2 a3 a4
        obtain ⟨yn, hyn⟩ : ∃ yn, yn = why.length := ⟨_, rfl⟩
        rw [← hyn] at a4
        clear hyn
        subst a1 a2 a3 a4
        obtain ⟨⟨vbz, kaz, knz, kcz, fl1z, exz, tkz, dez, daz, dnz, dcz, nrz, lgz, maz, mnz, mcz, whatz⟩, ⟨akz, enz, nuz, txz, stz⟩, yz, ⟨drz, rez, buz, liz, loz, crz⟩, flz, whyz⟩ := z'
        obtain ⟨⟨⟨x1z, n1z, k1z, a1⟩, ⟨n2z, a2⟩, ⟨x3z, n3z, k3z, a3⟩, _⟩, _, ⟨yaz, ycz, a4, _⟩, _⟩ := fz
        simp only at a1 a2 a3 a4
        obtain ⟨ynz, hynz⟩ : ∃ yn, yn = whyz.length := ⟨_, rfl⟩
        rw [← hynz] at a4
        clear hynz
        subst a1 a2 a3 a4
        have s0 : wc.cell? ⟨b9, 0, none⟩ = some (.int .i64 vb) := X9.cell 0
        have s1 : wc.cell? ⟨b9, 1, none⟩ = some (.slice ka kn kc) := X9.cell 1
        have s2 : wc.cell? ⟨b9, 2, none⟩ = some (.int .u64 fl1) := X9.cell 2
        have s3 : wc.cell? ⟨b9, 3, none⟩ = some (.int .i64 ex) := X9.cell 3
        have s4 : wc.cell? ⟨b9, 4, none⟩ = some (.int .u64 tk) := X9.cell 4
        have s5 : wc.cell? ⟨b9, 5, none⟩ = some (.int .u64 de) := X9.cell 5
        have s6 : wc.cell? ⟨b9, 6, none⟩ = some (.slice da dn dc) := X9.cell 6
        have s7 : wc.cell? ⟨b9, 7, none⟩ = some (.bool nr) := X9.cell 7
        have s8 : wc.cell? ⟨b9, 8, none⟩ = some (.bool lg) := X9.cell 8
        have s9 : wc.cell? ⟨b9, 9, none⟩ = some (.slice ma mn mc) := X9.cell 9
        have s10 : wc.cell? ⟨b9, 10, none⟩ = some (.string what) := X9.cell 10
        have s11 : wc.cell? ⟨b9, 11, none⟩ = some (.int .i64 ak) := X9.cell 11
        have s12 : wc.cell? ⟨b9, 12, none⟩ = some (.slice x1 n1 k1) := X9.cell 12
        have s13 : wc.cell? ⟨b9, 13, none⟩ = some (.int .u64 n2) := X9.cell 13
        have s14 : wc.cell? ⟨b9, 14, none⟩ = some (sv tx) := X9.cell 14
        have s15 : wc.cell? ⟨b9, 15, none⟩ = some (.slice x3 n3 k3) := X9.cell 15
        have s16 : wc.cell? ⟨b9, 16, none⟩ = some (.slice ya yn yc) := X9.cell 16
        have s17 : wc.cell? ⟨b9, 17, none⟩ = some (.int .i64 dr) := X9.cell 17
        have s18 : wc.cell? ⟨b9, 18, none⟩ = some (.int .i64 re) := X9.cell 18
        have s19 : wc.cell? ⟨b9, 19, none⟩ = some (.int .i64 bu) := X9.cell 19
        have s20 : wc.cell? ⟨b9, 20, none⟩ = some (.int .i64 li) := X9.cell 20
        have s21 : wc.cell? ⟨b9, 21, none⟩ = some (.int .i64 lo) := X9.cell 21
        have s22 : wc.cell? ⟨b9, 22, none⟩ = some (.int .i64 cr) := X9.cell 22
        go_wp2_with fail
        refine (ga _ E1.a E1.gb).mono ?_
        rintro e w6 ⟨rfl, ha6, k6⟩
        clear s0 s1 s2 s3 s4 s5 s6 s7 s8 s9 s10 s11 s12 s13 s14 s15 s16 s17 s18 s19 s20 s21 s22
        have G6 : w.grownBy w6 none := ((Kp.of (F := (· = A)) E1.gb).then k6).grown (fun i h => by omega)
        have E2 : Od w w6 A B C D _ _ _ _ := ⟨ha6, Bd.kept E1.b k6 (by omega), Bd.kept E1.c k6 (by omega), Bd.kept E1.d k6 (by omega), G6⟩
        have X9a := k6.box X9 (by omega)
        have X10a := k6.box X10 (by omega)
        clear k6 ha6 X9 X10 E1 ga
        have s0 : w6.cell? ⟨b10, 0, none⟩ = some (.int .i64 vbz) := X10a.cell 0
        have s1 : w6.cell? ⟨b10, 1, none⟩ = some (.slice kaz knz kcz) := X10a.cell 1
        have s2 : w6.cell? ⟨b10, 2, none⟩ = some (.int .u64 fl1z) := X10a.cell 2
        have s3 : w6.cell? ⟨b10, 3, none⟩ = some (.int .i64 exz) := X10a.cell 3
        have s4 : w6.cell? ⟨b10, 4, none⟩ = some (.int .u64 tkz) := X10a.cell 4
        have s5 : w6.cell? ⟨b10, 5, none⟩ = some (.int .u64 dez) := X10a.cell 5
        have s6 : w6.cell? ⟨b10, 6, none⟩ = some (.slice daz dnz dcz) := X10a.cell 6
        have s7 : w6.cell? ⟨b10, 7, none⟩ = some (.bool nrz) := X10a.cell 7
        have s8 : w6.cell? ⟨b10, 8, none⟩ = some (.bool lgz) := X10a.cell 8
        have s9 : w6.cell? ⟨b10, 9, none⟩ = some (.slice maz mnz mcz) := X10a.cell 9
        have s10 : w6.cell? ⟨b10, 10, none⟩ = some (.string whatz) := X10a.cell 10
        have s11 : w6.cell? ⟨b10, 11, none⟩ = some (.int .i64 akz) := X10a.cell 11
        have s12 : w6.cell? ⟨b10, 12, none⟩ = some (.slice x1z n1z k1z) := X10a.cell 12
        have s13 : w6.cell? ⟨b10, 13, none⟩ = some (.int .u64 n2z) := X10a.cell 13
        have s14 : w6.cell? ⟨b10, 14, none⟩ = some (sv txz) := X10a.cell 14
        have s15 : w6.cell? ⟨b10, 15, none⟩ = some (.slice x3z n3z k3z) := X10a.cell 15
        have s16 : w6.cell? ⟨b10, 16, none⟩ = some (.slice yaz ynz ycz) := X10a.cell 16
        have s17 : w6.cell? ⟨b10, 17, none⟩ = some (.int .i64 drz) := X10a.cell 17
        have s18 : w6.cell? ⟨b10, 18, none⟩ = some (.int .i64 rez) := X10a.cell 18
        have s19 : w6.cell? ⟨b10, 19, none⟩ = some (.int .i64 buz) := X10a.cell 19
        have s20 : w6.cell? ⟨b10, 20, none⟩ = some (.int .i64 liz) := X10a.cell 20
        have s21 : w6.cell? ⟨b10, 21, none⟩ = some (.int .i64 loz) := X10a.cell 21
        have s22 : w6.cell? ⟨b10, 22, none⟩ = some (.int .i64 crz) := X10a.cell 22
        go_wp2_with fail
        refine (gb _ E2.b E2.gb).mono ?_
        rintro e w7 ⟨rfl, hb7, k7⟩
        clear s0 s1 s2 s3 s4 s5 s6 s7 s8 s9 s10 s11 s12 s13 s14 s15 s16 s17 s18 s19 s20 s21 s22
        have G7 : w.grownBy w7 none := ((Kp.of (F := (· = B)) E2.gb).then k7).grown (fun i h => by omega)
        have E3 : Od w w7 A B C D _ _ _ _ := ⟨Bd.kept E2.a k7 (by omega), hb7, Bd.kept E2.c k7 (by omega), Bd.kept E2.d k7 (by omega), G7⟩
        have X9b := k7.box X9a (by omega)
        clear k7 hb7 X9a X10a E2 gb
        rw [pa, pb] at E3
        clear pa pb
        have s0 : w7.cell? ⟨b9, 0, none⟩ = some (.int .i64 vb) := X9b.cell 0
        have s1 : w7.cell? ⟨b9, 1, none⟩ = some (.slice ka kn kc) := X9b.cell 1
        have s2 : w7.cell? ⟨b9, 2, none⟩ = some (.int .u64 fl1) := X9b.cell 2
        have s3 : w7.cell? ⟨b9, 3, none⟩ = some (.int .i64 ex) := X9b.cell 3
        have s4 : w7.cell? ⟨b9, 4, none⟩ = some (.int .u64 tk) := X9b.cell 4
        have s5 : w7.cell? ⟨b9, 5, none⟩ = some (.int .u64 de) := X9b.cell 5
        have s6 : w7.cell? ⟨b9, 6, none⟩ = some (.slice da dn dc) := X9b.cell 6
        have s7 : w7.cell? ⟨b9, 7, none⟩ = some (.bool nr) := X9b.cell 7
        have s8 : w7.cell? ⟨b9, 8, none⟩ = some (.bool lg) := X9b.cell 8
        have s9 : w7.cell? ⟨b9, 9, none⟩ = some (.slice ma mn mc) := X9b.cell 9
        have s10 : w7.cell? ⟨b9, 10, none⟩ = some (.string what) := X9b.cell 10
        have s11 : w7.cell? ⟨b9, 11, none⟩ = some (.int .i64 ak) := X9b.cell 11
        have s12 : w7.cell? ⟨b9, 12, none⟩ = some (.slice x1 n1 k1) := X9b.cell 12
        have s13 : w7.cell? ⟨b9, 13, none⟩ = some (.int .u64 n2) := X9b.cell 13
        have s14 : w7.cell? ⟨b9, 14, none⟩ = some (sv tx) := X9b.cell 14
        have s15 : w7.cell? ⟨b9, 15, none⟩ = some (.slice x3 n3 k3) := X9b.cell 15
        have s16 : w7.cell? ⟨b9, 16, none⟩ = some (.slice ya yn yc) := X9b.cell 16
        have s17 : w7.cell? ⟨b9, 17, none⟩ = some (.int .i64 dr) := X9b.cell 17
        have s18 : w7.cell? ⟨b9, 18, none⟩ = some (.int .i64 re) := X9b.cell 18
        have s19 : w7.cell? ⟨b9, 19, none⟩ = some (.int .i64 bu) := X9b.cell 19
        have s20 : w7.cell? ⟨b9, 20, none⟩ = some (.int .i64 li) := X9b.cell 20
        have s21 : w7.cell? ⟨b9, 21, none⟩ = some (.int .i64 lo) := X9b.cell 21
        have s22 : w7.cell? ⟨b9, 22, none⟩ = some (.int .i64 cr) := X9b.cell 22
        have t0 : (i : Int).tmod 2 = ((i % 2 : Nat) : Int) := by rw [Int.tmod_eq_emod_of_nonneg (by omega)]; omega
        rcases (by omega : i % 2 = 0 ∨ ¬ i % 2 = 0) with hp | hp
        · have t1 : (i : Int).tmod 2 = 0 := by omega
          obtain ⟨pc1, pc2⟩ := pc hp
          clear t0 pc pd
          go_wp2_with fail
          refine (gcc _ E3.c E3.gb).mono ?_
          rintro e w8 ⟨rfl, hc8, k8⟩
          have G8 : w.grownBy w8 none := ((Kp.of (F := (· = C)) E3.gb).then k8).grown (fun i h => by omega)
          rw [pc1] at hc8
          have E4 : Od w w8 A B C D _ _ _ _ := ⟨Bd.kept E3.a k8 (by omega), Bd.kept E3.b k8 (by omega), hc8, Bd.kept E3.d k8 (by omega), G8⟩
          rw [← pc2] at E4
          clear gcc gd
          go_wp2
          refine ⟨⟨i + 1, by omega, by simp, E4⟩, ?_⟩
          simp only [intOf]; omega
        · have t1 : (i : Int).tmod 2 = 1 := by omega
          obtain ⟨pc1, pc2⟩ := pd hp
          clear t0 pc pd
          go_wp2_with fail
          refine (gd _ E3.d E3.gb).mono ?_
          rintro e w8 ⟨rfl, hd8, k8⟩
          have G8 : w.grownBy w8 none := ((Kp.of (F := (· = D)) E3.gb).then k8).grown (fun i h => by omega)
          rw [pc1] at hd8
          have E4 : Od w w8 A B C D _ _ _ _ := ⟨Bd.kept E3.a k8 (by omega), Bd.kept E3.b k8 (by omega), Bd.kept E3.c k8 (by omega), hd8, G8⟩
          rw [← pc2] at E4
          clear gcc gd
          go_wp2
          refine ⟨⟨i + 1, by omega, by simp, E4⟩, ?_⟩
          simp only [intOf]; omega
    · subst hend
      have d0 : ¬ ((i : Int) < i) := by omega
      have Ec := E.c
      generalize hS : plus N0 (su (fO l) i) = Sm at *
      have eB : plus N0 (su (fun k => fO l (i - 1 - k)) i) = Sm := by rw [su_rev, hS]
      have eC : plus (plus N0 (su (ev (fO l)) i)) (plus N0 (su (od (fO l)) i)) = Sm := by rw [plus_eo, hS]
      rw [eB] at E
      have fE := plus_fit N0 (su (ev (fO l)) i)
      have fO' := plus_fit N0 (su (od (fO l)) i)
      clear eB hS Ec hx
      generalize plus N0 (su (ev (fO l)) i) = Ne at *
      generalize plus N0 (su (od (fO l)) i) = No at *
      go_wp2
      go_loopw [11] (fun v wr => ∃ m : Nat, 1 ≤ m ∧ m ≤ 31 ∧ v = .int .i64 m ∧ Od w wr A B C D Sm Sm (mix m Ne No) No) (fun v _ => 31 - (intOf v).toNat)
      case atStart => exact ⟨1, by omega, by omega, rfl, E.a, E.b, E.c.same (fun j h1 h2 => by rw [mix, if_neg (by omega)]), E.d, E.gb⟩
      case round =>
        clear E
        obtain ⟨m, hm1, hm2, rfl, E⟩ := hrel
        have lA := Box.lt E.a
        have lB := Box.lt E.b
        have lC := Box.lt E.c
        have lD := Box.lt E.d
        rcases (by omega : m ≤ 30 ∨ m = 31) with hlt | hend
        · have hq : nm (m : Int) = true := by simp [nm]; omega
          have d1 : (m : Int) ≤ 30 := by omega
          go_wp2_with fail
          refine (read_17 D No (m : Int) _ E.d).mono ?_
          rintro e w6 ⟨rfl, hd6, k6⟩
          rw [show rd No (m : Int) = No m by simp [rd, hq]]
          go_wp2_with fail
          refine (add_23 C (mix m Ne No) (m : Int) (No m) w6 (Bd.kept E.c k6 (by omega)) (mix_fit m fE) (fO' m)).mono ?_
          rintro e w7 ⟨rfl, hc7, k7⟩
          rw [if_pos hq, show (m : Int).toNat = m by omega, mix_step fE m] at hc7
          have G6 : w.grownBy w6 none := ((Kp.of (F := (· = D)) E.gb).then k6).grown (fun i h => by omega)
          have G7 : w.grownBy w7 none := ((Kp.of (F := (· = C)) G6).then k7).grown (fun i h => by omega)
          go_wp2
          refine ⟨⟨m + 1, by omega, by omega, by simp, Bd.kept (Bd.kept E.a k6 (by omega)) k7 (by omega), Bd.kept (Bd.kept E.b k6 (by omega)) k7 (by omega), hc7, Bd.kept hd6 k7 (by omega), G7⟩, ?_⟩
          simp only [intOf]; omega
        · subst hend
          have cS : Bd wr C 0 Sm := E.c.same (fun j h1 h2 => by rw [mix, if_pos (by omega), eC])
          have W0 := hW.kept (Kp.of (F := fun _ => False) E.gb) (fun h => h)
          go_wp2_with fail
          refine (stats_15 A Sm _ E.a W0 (by omega)).mono ?_
          rintro e w6 ⟨v6, rfl, st6, ha6, k6⟩
          have W6 := W0.kept k6 (by omega)
          have hs6 := k6.size
          go_wp2_with fail
          refine (stats_15 B Sm _ (Bd.kept E.b k6 (by omega)) W6 (by omega)).mono ?_
          rintro e w7 ⟨v7, rfl, st7, hb7, k7⟩
          have W7 := W6.kept k7 (by omega)
          have hs7 := k7.size
          go_wp2_with fail
          refine (lines_14 (st6.keptK k7 (by omega)) st7).mono ?_
          rintro e w8 ⟨rfl, g8⟩
          have W8 := W7.kept (Kp.of (F := fun _ => False) g8) (fun h => h)
          have hs8 := g8.size
          have ha8 : Bd w8 A 0 Sm := Box.kept (Bd.kept ha6 k7 (by omega)) g8 (by simp)
          have hc8 : Bd w8 C 0 Sm := Box.kept (Bd.kept (Bd.kept cS k6 (by omega)) k7 (by omega)) g8 (by simp)
          go_wp2_with fail
          refine (stats_15 A Sm _ ha8 W8 (by omega)).mono ?_
          rintro e w9 ⟨v9, rfl, st9, ha9, k9⟩
          have W9 := W8.kept k9 (by omega)
          have hs9 := k9.size
          go_wp2_with fail
          refine (stats_15 C Sm _ (Bd.kept hc8 k9 (by omega)) W9 (by omega)).mono ?_
          rintro e wa ⟨va, rfl, sta, hca, ka⟩
          go_wp2_with fail
          refine (lines_14 (st9.keptK ka (by omega)) sta).mono ?_
          rintro e wb ⟨rfl, gb⟩
          have G6 : w.grownBy w6 none := ((Kp.of (F := (· = A)) E.gb).then k6).grown (fun i h => by omega)
          have G7 : w.grownBy w7 none := ((Kp.of (F := (· = B)) G6).then k7).grown (fun i h => by omega)
          have G9 : w.grownBy w9 none := ((Kp.of (F := (· = A)) (gb_trans G7 g8)).then k9).grown (fun i h => by omega)
          have Ga : w.grownBy wa none := ((Kp.of (F := (· = C)) G9).then ka).grown (fun i h => by omega)
          go_wp2
          go_ret
          exact ⟨rfl, gb_trans Ga gb⟩
end Go.Proofs.YtonbkpfnpnlkpaaDoor

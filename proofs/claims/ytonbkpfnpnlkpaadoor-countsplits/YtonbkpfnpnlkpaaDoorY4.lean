/-
  CountSplits.
-/
import Derived.Test.YtonbkpfnpnlkpaaDoorY3
import Derived.Test.YtonbkpfnpnlkpaaDoorM
import Derived.Deep.MidRow
import Derived.Deep.Cut
import Derived.Great.Walk
namespace Go.Proofs.YtonbkpfnpnlkpaaDoor
open Go.ChangeShapes Go.WideShapes Go.ChangeAt Go.RowKit
set_option linter.unusedVariables false
set_option linter.unusedSimpArgs false
attribute [local go_sem] Oper.semAt_some

theorem load53r {w : World} {ops : Array Oper} {rest : List Oper} {op : Oper} {a : Act} {Q : Exit → Act → World → Prop} (hgd : op.guard = none) (x : Operand) (ho : op.op = .load 53 x) (b o : Nat) (hx : a.eval x = .pointer (some ⟨b, o, none⟩)) (cs : List Value) (hs : cs.length = 23) (hc : w.rangeAt b o cs)
    (h : wpList Tryd.prog ops Q rest (a.put op.dst (.agg cs.toArray)) w) : wpList Tryd.prog ops Q (op :: rest) a w :=
  wpList_load_mid hgd 53 x ho b o hx cs _ hc Tryd.underlying53 rfl (by rw [hs]; exact size53) h
/-- Where the walk stands. -/
structure St (w W : World) (b i : Nat) (D : Cn) (ks ss : Nat) : Prop where
  bd : Bd W b 0 (plus N0 D)
  sp : Sp D ks ss (10001 * i)
  hk : ks ≤ 10001 * i
  hs : ss ≤ i
  gb : w.grownBy W none
set_option maxRecDepth 100000 in
set_option maxHeartbeats 8000000 in
theorem splits_5 (v : Value) (l : List Oc) (w : World) (hW : Wo w) (hv : Ocs w v l) :
    Calls Tryd.prog 5 #[v] w fun e w' => e = .returned (.bool true) ∧ w.grownBy w' none := by
  obtain ⟨ao, c, rfl, hlc, hc, hx⟩ := hv
  unfold maxLen at hc
  have hlen : l.length ≤ 9223372036854775807 := by omega
  have h10 := wakes_10 w hW
  go_enter Tryd.func5, Tryd.ntmps5
  go_wp2_with (go_at_call 10; (with_reducible refine h10.mono ?_); rintro e w1 ⟨rfl, hg1⟩)
  refine (new_11 w1).mono ?_
  rintro e w2 ⟨rfl, hb2, hg2, hs2⟩
  obtain ⟨b, hb⟩ : ∃ b, b = w1.heap.size := ⟨_, rfl⟩
  rw [← hb] at hb2 ⊢
  have hn1 := hg1.size
  have hwb : w.heap.size ≤ b := by omega
  have S0 : St w w2 b 0 (fun _ => 0) 0 0 := ⟨by rw [plus_zero N0_fit]; exact hb2, Sp.zero.more (by omega), by omega, by omega, gb_trans hg1 hg2⟩
  clear hb2 hb hg2 hs2 h10
  go_wp2
  go_loopw [4, 5, 6] (fun v4 v5 v6 wr => ∃ (i : Nat) (D : Cn) (ks ss : Nat), i ≤ l.length ∧ i ≤ 2000 ∧ v4 = .int .u64 (ks : Nat) ∧ v5 = .int .u64 (ss : Nat) ∧ v6 = .int .i64 i ∧ St w wr b i D ks ss) (fun _ _ v _ => l.length - (intOf v).toNat)
  case atStart => exact ⟨0, _, 0, 0, by omega, by omega, rfl, rfl, rfl, S0⟩
  case round =>
    clear S0
    obtain ⟨i, D, ks, ss, hi, hi2, rfl, rfl, rfl, E⟩ := hrel
    have lb := Box.lt E.bd
    have q1 := E.hk
    have q2 := E.hs
    have wk : IntKind.u64.wrap ((ks : Int) + 1) = (ks : Int) + 1 := by rw [IntKind.wrap_u64]; omega
    have ws : IntKind.u64.wrap ((ss : Int) + 1) = (ss : Int) + 1 := by rw [IntKind.wrap_u64]; omega
    rcases (by omega : (i < l.length ∧ i < 2000) ∨ ¬ (i < l.length ∧ i < 2000)) with ⟨hlt, hlt2⟩ | hend
    · obtain ⟨x, hxi⟩ : ∃ x, l[i]? = some x := ⟨_, List.getElem?_eq_getElem hlt⟩
      obtain ⟨ok, g, o, rfl, hcells⟩ := hx i x hxi
      have rg : wr.rangeAt g (o + i * 23) (ocL x) := fun j u hu => gb_cellN E.gb (hcells j u hu)
      have d1 : (i : Int) < l.length := by omega
      have d2 : (i : Int) < 2000 := by omega
      have okr := ok.kept E.gb
      have fx := ok.few
      have fl0 : (fewO x).why.length ≤ 10000 := by simp only [fewO, List.length_take]; omega
      clear hx hcells
      obtain ⟨i0, hi0, hz0, hz1, hz2⟩ := info_parts Tryd.info53
      go_upto_region 11 with (first
        | (refine atL 53 g (o + i * 23) rfl rfl ?_; go_must (refine load53r rfl _ rfl g (o + i * 23) rfl (ocL x) rfl rg ?_))
        | (go_at_call 22; (with_reducible refine (fewer_22 x wr okr).mono ?_); rintro e w6 ⟨rfl, g6⟩)
        | (refine atS 53 w6.heap.size 0 rfl rfl ?_; go_must (refine storeT 53 23 size53 rfl _ _ rfl 53 w6.heap.size 0 _ (Box.new w6 53 #[.int .i64 0, .slice none 0 0, .int .u64 0, .int .i64 0, .int .u64 0, .int .u64 0, .slice none 0 0, .bool false, .bool false, .slice none 0 0, .string ⟨#[]⟩, .int .i64 0, .slice none 0 0, .int .u64 0, .string ⟨#[]⟩, .slice none 0 0, .slice none 0 0, .int .i64 0, .int .i64 0, .int .i64 0, .int .i64 0, .int .i64 0, .int .i64 0]) (by simp) rfl _ rfl rfl (ocL_one fx) ?_); intro W7 B7 g7))
      rw [show sets #[.int .i64 0, .slice none 0 0, .int .u64 0, .int .i64 0, .int .u64 0, .int .u64 0, .slice none 0 0, .bool false, .bool false, .slice none 0 0, .string ⟨#[]⟩, .int .i64 0, .slice none 0 0, .int .u64 0, .string ⟨#[]⟩, .slice none 0 0, .slice none 0 0, .int .i64 0, .int .i64 0, .int .i64 0, .int .i64 0, .int .i64 0, .int .i64 0] 0 (ocL (fewO x)).toArray.toList = (ocL (fewO x)).toArray from setsZ _] at B7
      have galloc := World.grownBy_alloc w6 (.cells #[.int .i64 0, .slice none 0 0, .int .u64 0, .int .i64 0, .int .u64 0, .int .u64 0, .slice none 0 0, .bool false, .bool false, .slice none 0 0, .string ⟨#[]⟩, .int .i64 0, .slice none 0 0, .int .u64 0, .string ⟨#[]⟩, .slice none 0 0, .slice none 0 0, .int .i64 0, .int .i64 0, .int .i64 0, .int .i64 0, .int .i64 0, .int .i64 0] 53) none
      have h6 := g6.size
      have l7 : b < w6.heap.size := by omega
      have G7 : w.grownBy W7 none := gb_mine (gb_trans (gb_trans E.gb g6) galloc) g7 (by have := E.gb.size; omega)
      have hb7 : Bd W7 b 0 (plus N0 D) := Box.kept (Box.kept (Box.kept E.bd g6 (by simp)) galloc (by simp)) g7 (fun e => by injection e with e; omega)
      have dx := Sp.all (fewO x)
      have spD := E.sp
      clear galloc g7 g6 h6 okr rg ok hxi hi0 hz0 hz1 hz2 E
      generalize w6.heap.size = b7 at *
      generalize fewO x = x' at *
      have hca := cmd_any hb7 (plus_fit _ _) fx G7 hwb
      obtain ⟨⟨vb, ka, kn, kc, fl1, ex, tk, de, da, dn, dc, nr, lg, ma, mn, mc, what⟩, ⟨ak, en, nu, tx, st⟩, y, ⟨dr, re, bu, li, lo, cr⟩, fl, why⟩ := x'
      obtain ⟨⟨⟨x1, n1, k1, a1⟩, ⟨n2, a2⟩, ⟨x3, n3, k3, a3⟩, _⟩, _, hwy, _⟩ := fx
      obtain ⟨ya, yc, a4⟩ : ∃ ya yc, y = .slice ya why.length yc := by obtain ⟨p, q, e, _⟩ := hwy; exact ⟨p, q, e⟩
      simp only at a1 a2 a3 a4 dx fl0 hwy
      subst a1 a2 a3 a4
      have hel : ∀ (k : Nat) (u : Int), why[k]? = some u → ∃ ga oa, ya = some ⟨ga, oa, none⟩ ∧ w.cell? ⟨ga, oa + k, none⟩ = some (.int .i64 u) := by
        obtain ⟨p, q, e, _, _, h⟩ := hwy
        injection e with e1 e2 e3
        subst e1
        exact h
      have hyc : why.length ≤ yc := by
        obtain ⟨p, q, e, h, _, _⟩ := hwy
        injection e with e1 e2 e3
        omega
      clear hwy
      obtain ⟨yn, hyn⟩ : ∃ yn, yn = why.length := ⟨_, rfl⟩
      rw [← hyn] at B7 hca
      have hl1 : yn ≤ why.length := by omega
      have hl2 : why.length ≤ yn := by omega
      clear hyn
      have s0 : W7.cell? ⟨b7, 0, none⟩ = some (.int .i64 vb) := B7.cell 0
      have s1 : W7.cell? ⟨b7, 1, none⟩ = some (.slice ka kn kc) := B7.cell 1
      have s2 : W7.cell? ⟨b7, 2, none⟩ = some (.int .u64 fl1) := B7.cell 2
      have s3 : W7.cell? ⟨b7, 3, none⟩ = some (.int .i64 ex) := B7.cell 3
      have s4 : W7.cell? ⟨b7, 4, none⟩ = some (.int .u64 tk) := B7.cell 4
      have s5 : W7.cell? ⟨b7, 5, none⟩ = some (.int .u64 de) := B7.cell 5
      have s6 : W7.cell? ⟨b7, 6, none⟩ = some (.slice da dn dc) := B7.cell 6
      have s7 : W7.cell? ⟨b7, 7, none⟩ = some (.bool nr) := B7.cell 7
      have s8 : W7.cell? ⟨b7, 8, none⟩ = some (.bool lg) := B7.cell 8
      have s9 : W7.cell? ⟨b7, 9, none⟩ = some (.slice ma mn mc) := B7.cell 9
      have s10 : W7.cell? ⟨b7, 10, none⟩ = some (.string what) := B7.cell 10
      have s11 : W7.cell? ⟨b7, 11, none⟩ = some (.int .i64 ak) := B7.cell 11
      have s12 : W7.cell? ⟨b7, 12, none⟩ = some (.slice x1 n1 k1) := B7.cell 12
      have s13 : W7.cell? ⟨b7, 13, none⟩ = some (.int .u64 n2) := B7.cell 13
      have s14 : W7.cell? ⟨b7, 14, none⟩ = some (sv tx) := B7.cell 14
      have s15 : W7.cell? ⟨b7, 15, none⟩ = some (.slice x3 n3 k3) := B7.cell 15
      have s16 : W7.cell? ⟨b7, 16, none⟩ = some (.slice ya yn yc) := B7.cell 16
      have s17 : W7.cell? ⟨b7, 17, none⟩ = some (.int .i64 dr) := B7.cell 17
      have s18 : W7.cell? ⟨b7, 18, none⟩ = some (.int .i64 re) := B7.cell 18
      have s19 : W7.cell? ⟨b7, 19, none⟩ = some (.int .i64 bu) := B7.cell 19
      have s20 : W7.cell? ⟨b7, 20, none⟩ = some (.int .i64 li) := B7.cell 20
      have s21 : W7.cell? ⟨b7, 21, none⟩ = some (.int .i64 lo) := B7.cell 21
      have s22 : W7.cell? ⟨b7, 22, none⟩ = some (.int .i64 cr) := B7.cell 22
      go_wp2_with fail
      refine hca.mono ?_
      rintro e w8 ⟨rfl, hb8, k8⟩
      have nb : ¬ b7 = b := by omega
      have c0 := k8.cell s0 nb
      have c16 := k8.cell s16 nb
      clear s0 s1 s2 s3 s4 s5 s6 s7 s8 s9 s10 s11 s12 s13 s14 s15 s16 s17 s18 s19 s20 s21 s22
      have G8 : w.grownBy w8 none := ((Kp.of (F := (· = b)) G7).then k8).grown (fun i h => by omega)
      rw [plus_plus] at hb8
      have sp8 := (spD.add dx).more (show 10001 * i + (why.length + 1) ≤ 10001 * (i + 1) by omega)
      have F0 : St w w8 b (i + 1) _ (ks + kx vb why) (ss + sx vb) := ⟨hb8, sp8, by have := kx_le vb why; omega, by have := sx_le vb; omega, G8⟩
      clear hb8 sp8 spD dx k8 hca B7 hb7 G7
      generalize Cn.add D _ = D' at F0
      rcases (by omega : vb < 1 ∨ (1 ≤ vb ∧ vb ≤ 4) ∨ (5 ≤ vb ∧ vb ≤ 10) ∨ vb = 20 ∨ vb = 21 ∨ (11 ≤ vb ∧ vb ≠ 20 ∧ vb ≠ 21)) with hv | ⟨v1, v2⟩ | ⟨v1, v2⟩ | rfl | rfl | ⟨v1, v2, v3⟩
      · have z1 : ¬ 1 ≤ vb := by omega
        have z2 : ¬ vb = 20 := by omega
        have z3 : ¬ 5 ≤ vb := by omega
        have z4 : ¬ vb = 21 := by omega
        have F : St w w8 b (i + 1) D' ks ss := by
          have e1 : kx vb why = 0 := by unfold kx; rw [if_neg (by omega), if_neg (by omega)]
          have e2 : sx vb = 0 := by unfold sx; rw [if_neg (by omega)]
          rw [e1, e2] at F0; exact F0
        clear F0 hel
        go_wp2
        exact ⟨⟨i + 1, D', ks, ss, by omega, by omega, rfl, rfl, by simp, F⟩, by simp only [intOf]; omega⟩
      · have z1 : ¬ vb = 20 := by omega
        have z2 : ¬ 5 ≤ vb := by omega
        have z3 : ¬ vb = 21 := by omega
        have F : St w w8 b (i + 1) D' (ks + cnt why) ss := by
          have e1 : kx vb why = cnt why := by unfold kx; rw [if_pos (by omega)]
          have e2 : sx vb = 0 := by unfold sx; rw [if_neg (by omega)]
          rw [e1, e2] at F0; exact F0
        clear F0
        go_wp2
        go_loopw [4, 8] (fun v4 v8 wq => ∃ k : Nat, k ≤ yn ∧ v4 = .int .u64 ((ks + cnt (why.take k) : Nat)) ∧ v8 = .int .i64 k ∧ w8 = wq) (fun _ v _ => yn - (intOf v).toNat)
        case atStart => exact ⟨0, by omega, by simp [cnt], rfl, rfl⟩
        case round =>
          obtain ⟨k, hk, rfl, rfl, rfl⟩ := hrel
          have q3 := cnt_le (why.take k)
          have q4 : (why.take k).length ≤ k := by simp; omega
          rcases (by omega : k < yn ∨ yn ≤ k) with hky | hky
          · obtain ⟨u, hu⟩ : ∃ u, why[k]? = some u := ⟨_, List.getElem?_eq_getElem (by omega)⟩
            obtain ⟨ga, oa, rfl, cy⟩ := hel k u hu
            replace cy := gb_cellN F.gb cy
            have cs := cnt_step hu
            generalize cnt (why.take k) = ck at *
            have wc : IntKind.u64.wrap (((ks + ck : Nat) : Int) + 1) = ((ks + ck : Nat) : Int) + 1 := by rw [IntKind.wrap_u64]; omega
            have dk : (k : Int) < yn := by omega
            generalize hkc : ks + ck = kc at *
            rcases (by omega : u < 0 ∨ (0 ≤ u ∧ u ≤ 3) ∨ 3 < u) with hu1 | ⟨u1, u2⟩ | hu1
            · have u1 : ¬ 0 ≤ u := by omega
              have e : isK u = 0 := by unfold isK; rw [if_neg (by omega)]
              go_wp2
              exact ⟨⟨k + 1, by omega, by rw [cs, e, Nat.add_zero, hkc], by simp, trivial⟩, by simp only [intOf]; omega⟩
            · have e : isK u = 1 := by unfold isK; rw [if_pos (by omega)]
              go_wp2
              exact ⟨⟨k + 1, by omega, by rw [cs, e, ← Nat.add_assoc, hkc]; simp, by simp, trivial⟩, by simp only [intOf]; omega⟩
            · have u1 : 0 ≤ u := by omega
              have u2 : ¬ u ≤ 3 := by omega
              have e : isK u = 0 := by unfold isK; rw [if_neg (by omega)]
              go_wp2
              exact ⟨⟨k + 1, by omega, by rw [cs, e, Nat.add_zero, hkc], by simp, trivial⟩, by simp only [intOf]; omega⟩
          · have dk : ¬ ((k : Int) < yn) := by omega
            rw [List.take_of_length_le (by omega)]
            clear hel
            go_wp2
            exact ⟨⟨i + 1, D', ks + cnt why, ss, by omega, by omega, by simp, rfl, by simp, F⟩, by simp only [intOf]; omega⟩
      · have z1 : 1 ≤ vb := by omega
        have z2 : ¬ vb = 20 := by omega
        have z3 : ¬ vb ≤ 4 := by omega
        have F : St w w8 b (i + 1) D' ks (ss + 1) := by
          have e1 : kx vb why = 0 := by unfold kx; rw [if_neg (by omega), if_neg (by omega)]
          have e2 : sx vb = 1 := by unfold sx; rw [if_pos (by omega)]
          rw [e1, e2] at F0; exact F0
        clear F0 hel
        go_wp2
        exact ⟨⟨i + 1, D', ks, ss + 1, by omega, by omega, rfl, by simp, by simp, F⟩, by simp only [intOf]; omega⟩
      · have e2 : sx 20 = 0 := by unfold sx; rw [if_neg (by omega)]
        have e1 : kx 20 why = isK (why.headD (-1)) := by unfold kx; rw [if_neg (by omega), if_pos rfl]
        rw [e1, e2] at F0
        rcases (by omega : yn = 0 ∨ 0 < yn) with hy0 | hy0
        · subst hy0
          have hnil : why = [] := List.length_eq_zero_iff.1 (by omega)
          have F : St w w8 b (i + 1) D' ks ss := by rw [hnil] at F0; exact F0
          clear F0 hel hnil
          go_wp2
          exact ⟨⟨i + 1, D', ks, ss, by omega, by omega, rfl, rfl, by simp, F⟩, by simp only [intOf]; omega⟩
        · obtain ⟨u, hu⟩ : ∃ u, why[0]? = some u := ⟨_, List.getElem?_eq_getElem (by omega)⟩
          obtain ⟨ga, oa, rfl, cy⟩ := hel 0 u hu
          have hhd : why.headD (-1) = u := by
            cases why with
            | nil => simp at hu
            | cons a t => simpa using hu
          rw [hhd] at F0
          replace cy := gb_cellN G8 cy
          simp only [Nat.add_zero] at cy
          have dy : (0 : Int) < yn := by omega
          clear hel hhd hu e1 e2
          rcases (by omega : u < 0 ∨ (0 ≤ u ∧ u ≤ 3) ∨ 3 < u) with hu1 | ⟨u1, u2⟩ | hu1
          · have u1 : ¬ 0 ≤ u := by omega
            have F : St w w8 b (i + 1) D' ks ss := by rw [show isK u = 0 by unfold isK; rw [if_neg (by omega)]] at F0; exact F0
            clear F0
            go_wp2
            exact ⟨⟨i + 1, D', ks, ss, by omega, by omega, rfl, rfl, by simp, F⟩, by simp only [intOf]; omega⟩
          · have F : St w w8 b (i + 1) D' (ks + 1) ss := by rw [show isK u = 1 by unfold isK; rw [if_pos (by omega)]] at F0; exact F0
            clear F0
            go_wp2
            exact ⟨⟨i + 1, D', ks + 1, ss, by omega, by omega, by simp, rfl, by simp, F⟩, by simp only [intOf]; omega⟩
          · have u1 : 0 ≤ u := by omega
            have u2 : ¬ u ≤ 3 := by omega
            have F : St w w8 b (i + 1) D' ks ss := by rw [show isK u = 0 by unfold isK; rw [if_neg (by omega)]] at F0; exact F0
            clear F0
            go_wp2
            exact ⟨⟨i + 1, D', ks, ss, by omega, by omega, rfl, rfl, by simp, F⟩, by simp only [intOf]; omega⟩
      · have F : St w w8 b (i + 1) D' ks (ss + 1) := by
          have e1 : kx 21 why = 0 := by unfold kx; rw [if_neg (by omega), if_neg (by omega)]
          have e2 : sx 21 = 1 := by unfold sx; rw [if_pos (by omega)]
          rw [e1, e2] at F0; exact F0
        clear F0 hel
        go_wp2
        exact ⟨⟨i + 1, D', ks, ss + 1, by omega, by omega, rfl, by simp, by simp, F⟩, by simp only [intOf]; omega⟩
      · have z1 : 1 ≤ vb := by omega
        have z2 : ¬ vb ≤ 4 := by omega
        have z3 : 5 ≤ vb := by omega
        have z4 : ¬ vb ≤ 10 := by omega
        have z5 : ¬ vb = 20 := by omega
        have z6 : ¬ vb = 21 := by omega
        have F : St w w8 b (i + 1) D' ks ss := by
          have e1 : kx vb why = 0 := by unfold kx; rw [if_neg (by omega), if_neg (by omega)]
          have e2 : sx vb = 0 := by unfold sx; rw [if_neg (by omega)]
          rw [e1, e2] at F0; exact F0
        clear F0 hel v1 v2 v3
        go_wp2
        all_goals first | exact ⟨⟨i + 1, D', ks, ss, by omega, by omega, rfl, rfl, by simp, F⟩, by simp only [intOf]; omega⟩ | (exfalso; rename_i h; rcases h with h | h <;> first | omega | exact z6 (eq_of_beq h))
    · have hstop : ¬ ((i : Int) < l.length) ∨ ((i : Int) < l.length ∧ ¬ ((i : Int) < 2000)) := by omega
      have sp := E.sp.plus (by omega) (by omega) (by omega)
      have Eb := E.bd
      have Eg := E.gb
      have hk9 : ks ≤ 20002000 := by omega
      have hs9 : ss ≤ 2000 := by omega
      have ht9 : 10001 * i ≤ 20002000 := by omega
      clear hx hend E
      generalize plus N0 D = N at *
      have R : ∀ (j : Nat) (X : World), 1 ≤ j → j ≤ 30 → Bd X b 0 N → Calls Tryd.prog 17 #[.pointer (some ⟨b, 0, none⟩), .int .i64 (j : Int)] X fun e w' => e = .returned (.int .u64 (N j : Nat)) ∧ Bd w' b 0 N ∧ Kp (· = b) X w' := fun j X h1 h2 hX => by
        have h := read_17 b N (j : Int) X hX
        rw [show rd N (j : Int) = N j by simp [rd, nm]; omega] at h
        exact h
      rcases hstop with h1 | ⟨h1, h2⟩
      · go_wp2
        go_loopw [9] (fun v wq => ∃ m : Nat, 25 ≤ m ∧ m ≤ 31 ∧ v = .int .i64 m ∧ Bd wq b 0 N ∧ w.grownBy wq none) (fun v _ => 31 - (intOf v).toNat)
        case atStart => exact ⟨25, by omega, by omega, rfl, Eb, Eg⟩
        case round =>
          clear Eb Eg
          obtain ⟨m, hm1, hm2, rfl, Eb, Eg⟩ := hrel
          rcases (by omega : m = 29 ∨ (m ≤ 30 ∧ ¬ m = 29) ∨ m = 31) with rfl | ⟨hm, hm'⟩ | rfl
          · go_wp2
            exact ⟨⟨30, by omega, by omega, by simp, Eb, Eg⟩, by simp [intOf]⟩
          · have hz : N m = 0 := by
              rcases (by omega : m = 25 ∨ m = 26 ∨ m = 27 ∨ m = 28 ∨ m = 30) with rfl | rfl | rfl | rfl | rfl
              · exact sp.b1
              · exact sp.b2
              · exact sp.b3
              · exact sp.b4
              · exact sp.b5
            have d1 : (m : Int) ≤ 30 := by omega
            have d2 : ¬ (m : Int) = 29 := by omega
            have h17 := R m _ (by omega) (by omega) Eb
            rw [hz] at h17
            go_wp2_with (go_at_call 17; (with_reducible refine h17.mono ?_); rintro e w6 ⟨rfl, hb6, k6⟩)
            exact ⟨⟨m + 1, by omega, by omega, by simp, hb6, ((Kp.of (F := (· = b)) Eg).then k6).grown (fun i h => by omega)⟩, by simp only [intOf]; omega⟩
          · obtain ⟨a1, a2, a3, a4, a5, a6, a7, a8, _, _, _, _, _⟩ := sp
            have R1 : ∀ X, Bd X b 0 N → Calls Tryd.prog 17 #[.pointer (some ⟨b, 0, none⟩), .int .i64 1] X fun e w' => e = .returned (.int .u64 (N 1 : Nat)) ∧ Bd w' b 0 N ∧ Kp (· = b) X w' := fun X hX => R 1 X (by omega) (by omega) hX
            have R2 : ∀ X, Bd X b 0 N → Calls Tryd.prog 17 #[.pointer (some ⟨b, 0, none⟩), .int .i64 2] X fun e w' => e = .returned (.int .u64 (N 2 : Nat)) ∧ Bd w' b 0 N ∧ Kp (· = b) X w' := fun X hX => R 2 X (by omega) (by omega) hX
            have R3 : ∀ X, Bd X b 0 N → Calls Tryd.prog 17 #[.pointer (some ⟨b, 0, none⟩), .int .i64 3] X fun e w' => e = .returned (.int .u64 (N 3 : Nat)) ∧ Bd w' b 0 N ∧ Kp (· = b) X w' := fun X hX => R 3 X (by omega) (by omega) hX
            have R6 : ∀ X, Bd X b 0 N → Calls Tryd.prog 17 #[.pointer (some ⟨b, 0, none⟩), .int .i64 6] X fun e w' => e = .returned (.int .u64 (N 6 : Nat)) ∧ Bd w' b 0 N ∧ Kp (· = b) X w' := fun X hX => R 6 X (by omega) (by omega) hX
            have R7 : ∀ X, Bd X b 0 N → Calls Tryd.prog 17 #[.pointer (some ⟨b, 0, none⟩), .int .i64 7] X fun e w' => e = .returned (.int .u64 (N 7 : Nat)) ∧ Bd w' b 0 N ∧ Kp (· = b) X w' := fun X hX => R 7 X (by omega) (by omega) hX
            have R8 : ∀ X, Bd X b 0 N → Calls Tryd.prog 17 #[.pointer (some ⟨b, 0, none⟩), .int .i64 8] X fun e w' => e = .returned (.int .u64 (N 8 : Nat)) ∧ Bd w' b 0 N ∧ Kp (· = b) X w' := fun X hX => R 8 X (by omega) (by omega) hX
            have R9 : ∀ X, Bd X b 0 N → Calls Tryd.prog 17 #[.pointer (some ⟨b, 0, none⟩), .int .i64 9] X fun e w' => e = .returned (.int .u64 (N 9 : Nat)) ∧ Bd w' b 0 N ∧ Kp (· = b) X w' := fun X hX => R 9 X (by omega) (by omega) hX
            have R16 : ∀ X, Bd X b 0 N → Calls Tryd.prog 17 #[.pointer (some ⟨b, 0, none⟩), .int .i64 16] X fun e w' => e = .returned (.int .u64 (N 16 : Nat)) ∧ Bd w' b 0 N ∧ Kp (· = b) X w' := fun X hX => R 16 X (by omega) (by omega) hX
            have R17 : ∀ X, Bd X b 0 N → Calls Tryd.prog 17 #[.pointer (some ⟨b, 0, none⟩), .int .i64 17] X fun e w' => e = .returned (.int .u64 (N 17 : Nat)) ∧ Bd w' b 0 N ∧ Kp (· = b) X w' := fun X hX => R 17 X (by omega) (by omega) hX
            have R18 : ∀ X, Bd X b 0 N → Calls Tryd.prog 17 #[.pointer (some ⟨b, 0, none⟩), .int .i64 18] X fun e w' => e = .returned (.int .u64 (N 18 : Nat)) ∧ Bd w' b 0 N ∧ Kp (· = b) X w' := fun X hX => R 18 X (by omega) (by omega) hX
            have R19 : ∀ X, Bd X b 0 N → Calls Tryd.prog 17 #[.pointer (some ⟨b, 0, none⟩), .int .i64 19] X fun e w' => e = .returned (.int .u64 (N 19 : Nat)) ∧ Bd w' b 0 N ∧ Kp (· = b) X w' := fun X hX => R 19 X (by omega) (by omega) hX
            have R20 : ∀ X, Bd X b 0 N → Calls Tryd.prog 17 #[.pointer (some ⟨b, 0, none⟩), .int .i64 20] X fun e w' => e = .returned (.int .u64 (N 20 : Nat)) ∧ Bd w' b 0 N ∧ Kp (· = b) X w' := fun X hX => R 20 X (by omega) (by omega) hX
            have R24 : ∀ X, Bd X b 0 N → Calls Tryd.prog 17 #[.pointer (some ⟨b, 0, none⟩), .int .i64 24] X fun e w' => e = .returned (.int .u64 (N 24 : Nat)) ∧ Bd w' b 0 N ∧ Kp (· = b) X w' := fun X hX => R 24 X (by omega) (by omega) hX
            clear R
            rw [a1] at R1
            rw [a5] at R2
            obtain ⟨n3, hn3⟩ : ∃ n, n = N 3 := ⟨_, rfl⟩
            simp only [← hn3] at R3 a2 a3 a4 a6 a7 a8
            clear hn3
            obtain ⟨n6, hn6⟩ : ∃ n, n = N 6 := ⟨_, rfl⟩
            simp only [← hn6] at R6 a2 a3 a4 a6 a7 a8
            clear hn6
            obtain ⟨n7, hn7⟩ : ∃ n, n = N 7 := ⟨_, rfl⟩
            simp only [← hn7] at R7 a2 a3 a4 a6 a7 a8
            clear hn7
            obtain ⟨n8, hn8⟩ : ∃ n, n = N 8 := ⟨_, rfl⟩
            simp only [← hn8] at R8 a2 a3 a4 a6 a7 a8
            clear hn8
            obtain ⟨n9, hn9⟩ : ∃ n, n = N 9 := ⟨_, rfl⟩
            simp only [← hn9] at R9 a2 a3 a4 a6 a7 a8
            clear hn9
            obtain ⟨n16, hn16⟩ : ∃ n, n = N 16 := ⟨_, rfl⟩
            simp only [← hn16] at R16 a2 a3 a4 a6 a7 a8
            clear hn16
            obtain ⟨n17, hn17⟩ : ∃ n, n = N 17 := ⟨_, rfl⟩
            simp only [← hn17] at R17 a2 a3 a4 a6 a7 a8
            clear hn17
            obtain ⟨n18, hn18⟩ : ∃ n, n = N 18 := ⟨_, rfl⟩
            simp only [← hn18] at R18 a2 a3 a4 a6 a7 a8
            clear hn18
            obtain ⟨n19, hn19⟩ : ∃ n, n = N 19 := ⟨_, rfl⟩
            simp only [← hn19] at R19 a2 a3 a4 a6 a7 a8
            clear hn19
            obtain ⟨n20, hn20⟩ : ∃ n, n = N 20 := ⟨_, rfl⟩
            simp only [← hn20] at R20 a2 a3 a4 a6 a7 a8
            clear hn20
            obtain ⟨n24, hn24⟩ : ∃ n, n = N 24 := ⟨_, rfl⟩
            simp only [← hn24] at R24 a2 a3 a4 a6 a7 a8
            clear hn24
            have u1 : IntKind.u64.wrap ((n6 : Int) + n7) = (ks : Int) := by rw [IntKind.wrap_u64]; omega
            have u2 : IntKind.u64.wrap ((n8 : Int) + n9) = (n8 : Int) + n9 := by rw [IntKind.wrap_u64]; omega
            have u3 : (n8 : Int) + n9 ≤ n7 := by omega
            have u4 : IntKind.u64.wrap ((n19 : Int) + n20) = (n19 : Int) + n20 := by rw [IntKind.wrap_u64]; omega
            have u5 : (n19 : Int) + n20 ≤ n3 := by omega
            have u6 : (n24 : Int) ≤ ss := by omega
            have u7 : IntKind.u64.wrap ((n16 : Int) + n17) = (n16 : Int) + n17 := by rw [IntKind.wrap_u64]; omega
            have u8 : IntKind.u64.wrap ((n16 : Int) + n17 + n18) = (n16 : Int) + n17 + n18 := by rw [IntKind.wrap_u64]; omega
            have u9 : (n16 : Int) + n17 + n18 ≤ ss := by omega
            clear a1 a2 a3 a4 a5 a6 a7 a8
            go_wp2_with fail
            refine (R1 _ Eb).mono ?_
            rintro e y0 ⟨rfl, B0, K0⟩
            have G0 : w.grownBy y0 none := ((Kp.of (F := (· = b)) Eg).then K0).grown (fun i h => by omega)
            clear K0
            go_wp2_with fail
            refine (R6 _ B0).mono ?_
            rintro e y1 ⟨rfl, B1, K1⟩
            have G1 : w.grownBy y1 none := ((Kp.of (F := (· = b)) G0).then K1).grown (fun i h => by omega)
            clear K1
            go_wp2_with fail
            refine (R7 _ B1).mono ?_
            rintro e y2 ⟨rfl, B2, K2⟩
            have G2 : w.grownBy y2 none := ((Kp.of (F := (· = b)) G1).then K2).grown (fun i h => by omega)
            clear K2
            go_wp2_with fail
            refine (R8 _ B2).mono ?_
            rintro e y3 ⟨rfl, B3, K3⟩
            have G3 : w.grownBy y3 none := ((Kp.of (F := (· = b)) G2).then K3).grown (fun i h => by omega)
            clear K3
            go_wp2_with fail
            refine (R9 _ B3).mono ?_
            rintro e y4 ⟨rfl, B4, K4⟩
            have G4 : w.grownBy y4 none := ((Kp.of (F := (· = b)) G3).then K4).grown (fun i h => by omega)
            clear K4
            go_wp2_with fail
            refine (R7 _ B4).mono ?_
            rintro e y5 ⟨rfl, B5, K5⟩
            have G5 : w.grownBy y5 none := ((Kp.of (F := (· = b)) G4).then K5).grown (fun i h => by omega)
            clear K5
            go_wp2_with fail
            refine (R19 _ B5).mono ?_
            rintro e y6 ⟨rfl, B6, K6⟩
            have G6 : w.grownBy y6 none := ((Kp.of (F := (· = b)) G5).then K6).grown (fun i h => by omega)
            clear K6
            go_wp2_with fail
            refine (R20 _ B6).mono ?_
            rintro e y7 ⟨rfl, B7, K7⟩
            have G7 : w.grownBy y7 none := ((Kp.of (F := (· = b)) G6).then K7).grown (fun i h => by omega)
            clear K7
            go_wp2_with fail
            refine (R3 _ B7).mono ?_
            rintro e y8 ⟨rfl, B8, K8⟩
            have G8 : w.grownBy y8 none := ((Kp.of (F := (· = b)) G7).then K8).grown (fun i h => by omega)
            clear K8
            go_wp2_with fail
            refine (R2 _ B8).mono ?_
            rintro e y9 ⟨rfl, B9, K9⟩
            have G9 : w.grownBy y9 none := ((Kp.of (F := (· = b)) G8).then K9).grown (fun i h => by omega)
            clear K9
            go_wp2_with fail
            refine (R24 _ B9).mono ?_
            rintro e y10 ⟨rfl, B10, K10⟩
            have G10 : w.grownBy y10 none := ((Kp.of (F := (· = b)) G9).then K10).grown (fun i h => by omega)
            clear K10
            go_wp2_with fail
            refine (R16 _ B10).mono ?_
            rintro e y11 ⟨rfl, B11, K11⟩
            have G11 : w.grownBy y11 none := ((Kp.of (F := (· = b)) G10).then K11).grown (fun i h => by omega)
            clear K11
            go_wp2_with fail
            refine (R17 _ B11).mono ?_
            rintro e y12 ⟨rfl, B12, K12⟩
            have G12 : w.grownBy y12 none := ((Kp.of (F := (· = b)) G11).then K12).grown (fun i h => by omega)
            clear K12
            go_wp2_with fail
            refine (R18 _ B12).mono ?_
            rintro e y13 ⟨rfl, B13, K13⟩
            have G13 : w.grownBy y13 none := ((Kp.of (F := (· = b)) G12).then K13).grown (fun i h => by omega)
            clear K13
            go_wp2
            go_ret
            exact ⟨rfl, G13⟩
      · go_wp2
        go_loopw [9] (fun v wq => ∃ m : Nat, 25 ≤ m ∧ m ≤ 31 ∧ v = .int .i64 m ∧ Bd wq b 0 N ∧ w.grownBy wq none) (fun v _ => 31 - (intOf v).toNat)
        case atStart => exact ⟨25, by omega, by omega, rfl, Eb, Eg⟩
        case round =>
          clear Eb Eg
          obtain ⟨m, hm1, hm2, rfl, Eb, Eg⟩ := hrel
          rcases (by omega : m = 29 ∨ (m ≤ 30 ∧ ¬ m = 29) ∨ m = 31) with rfl | ⟨hm, hm'⟩ | rfl
          · go_wp2
            exact ⟨⟨30, by omega, by omega, by simp, Eb, Eg⟩, by simp [intOf]⟩
          · have hz : N m = 0 := by
              rcases (by omega : m = 25 ∨ m = 26 ∨ m = 27 ∨ m = 28 ∨ m = 30) with rfl | rfl | rfl | rfl | rfl
              · exact sp.b1
              · exact sp.b2
              · exact sp.b3
              · exact sp.b4
              · exact sp.b5
            have d1 : (m : Int) ≤ 30 := by omega
            have d2 : ¬ (m : Int) = 29 := by omega
            have h17 := R m _ (by omega) (by omega) Eb
            rw [hz] at h17
            go_wp2_with (go_at_call 17; (with_reducible refine h17.mono ?_); rintro e w6 ⟨rfl, hb6, k6⟩)
            exact ⟨⟨m + 1, by omega, by omega, by simp, hb6, ((Kp.of (F := (· = b)) Eg).then k6).grown (fun i h => by omega)⟩, by simp only [intOf]; omega⟩
          · obtain ⟨a1, a2, a3, a4, a5, a6, a7, a8, _, _, _, _, _⟩ := sp
            have R1 : ∀ X, Bd X b 0 N → Calls Tryd.prog 17 #[.pointer (some ⟨b, 0, none⟩), .int .i64 1] X fun e w' => e = .returned (.int .u64 (N 1 : Nat)) ∧ Bd w' b 0 N ∧ Kp (· = b) X w' := fun X hX => R 1 X (by omega) (by omega) hX
            have R2 : ∀ X, Bd X b 0 N → Calls Tryd.prog 17 #[.pointer (some ⟨b, 0, none⟩), .int .i64 2] X fun e w' => e = .returned (.int .u64 (N 2 : Nat)) ∧ Bd w' b 0 N ∧ Kp (· = b) X w' := fun X hX => R 2 X (by omega) (by omega) hX
            have R3 : ∀ X, Bd X b 0 N → Calls Tryd.prog 17 #[.pointer (some ⟨b, 0, none⟩), .int .i64 3] X fun e w' => e = .returned (.int .u64 (N 3 : Nat)) ∧ Bd w' b 0 N ∧ Kp (· = b) X w' := fun X hX => R 3 X (by omega) (by omega) hX
            have R6 : ∀ X, Bd X b 0 N → Calls Tryd.prog 17 #[.pointer (some ⟨b, 0, none⟩), .int .i64 6] X fun e w' => e = .returned (.int .u64 (N 6 : Nat)) ∧ Bd w' b 0 N ∧ Kp (· = b) X w' := fun X hX => R 6 X (by omega) (by omega) hX
            have R7 : ∀ X, Bd X b 0 N → Calls Tryd.prog 17 #[.pointer (some ⟨b, 0, none⟩), .int .i64 7] X fun e w' => e = .returned (.int .u64 (N 7 : Nat)) ∧ Bd w' b 0 N ∧ Kp (· = b) X w' := fun X hX => R 7 X (by omega) (by omega) hX
            have R8 : ∀ X, Bd X b 0 N → Calls Tryd.prog 17 #[.pointer (some ⟨b, 0, none⟩), .int .i64 8] X fun e w' => e = .returned (.int .u64 (N 8 : Nat)) ∧ Bd w' b 0 N ∧ Kp (· = b) X w' := fun X hX => R 8 X (by omega) (by omega) hX
            have R9 : ∀ X, Bd X b 0 N → Calls Tryd.prog 17 #[.pointer (some ⟨b, 0, none⟩), .int .i64 9] X fun e w' => e = .returned (.int .u64 (N 9 : Nat)) ∧ Bd w' b 0 N ∧ Kp (· = b) X w' := fun X hX => R 9 X (by omega) (by omega) hX
            have R16 : ∀ X, Bd X b 0 N → Calls Tryd.prog 17 #[.pointer (some ⟨b, 0, none⟩), .int .i64 16] X fun e w' => e = .returned (.int .u64 (N 16 : Nat)) ∧ Bd w' b 0 N ∧ Kp (· = b) X w' := fun X hX => R 16 X (by omega) (by omega) hX
            have R17 : ∀ X, Bd X b 0 N → Calls Tryd.prog 17 #[.pointer (some ⟨b, 0, none⟩), .int .i64 17] X fun e w' => e = .returned (.int .u64 (N 17 : Nat)) ∧ Bd w' b 0 N ∧ Kp (· = b) X w' := fun X hX => R 17 X (by omega) (by omega) hX
            have R18 : ∀ X, Bd X b 0 N → Calls Tryd.prog 17 #[.pointer (some ⟨b, 0, none⟩), .int .i64 18] X fun e w' => e = .returned (.int .u64 (N 18 : Nat)) ∧ Bd w' b 0 N ∧ Kp (· = b) X w' := fun X hX => R 18 X (by omega) (by omega) hX
            have R19 : ∀ X, Bd X b 0 N → Calls Tryd.prog 17 #[.pointer (some ⟨b, 0, none⟩), .int .i64 19] X fun e w' => e = .returned (.int .u64 (N 19 : Nat)) ∧ Bd w' b 0 N ∧ Kp (· = b) X w' := fun X hX => R 19 X (by omega) (by omega) hX
            have R20 : ∀ X, Bd X b 0 N → Calls Tryd.prog 17 #[.pointer (some ⟨b, 0, none⟩), .int .i64 20] X fun e w' => e = .returned (.int .u64 (N 20 : Nat)) ∧ Bd w' b 0 N ∧ Kp (· = b) X w' := fun X hX => R 20 X (by omega) (by omega) hX
            have R24 : ∀ X, Bd X b 0 N → Calls Tryd.prog 17 #[.pointer (some ⟨b, 0, none⟩), .int .i64 24] X fun e w' => e = .returned (.int .u64 (N 24 : Nat)) ∧ Bd w' b 0 N ∧ Kp (· = b) X w' := fun X hX => R 24 X (by omega) (by omega) hX
            clear R
            rw [a1] at R1
            rw [a5] at R2
            obtain ⟨n3, hn3⟩ : ∃ n, n = N 3 := ⟨_, rfl⟩
            simp only [← hn3] at R3 a2 a3 a4 a6 a7 a8
            clear hn3
            obtain ⟨n6, hn6⟩ : ∃ n, n = N 6 := ⟨_, rfl⟩
            simp only [← hn6] at R6 a2 a3 a4 a6 a7 a8
            clear hn6
            obtain ⟨n7, hn7⟩ : ∃ n, n = N 7 := ⟨_, rfl⟩
            simp only [← hn7] at R7 a2 a3 a4 a6 a7 a8
            clear hn7
            obtain ⟨n8, hn8⟩ : ∃ n, n = N 8 := ⟨_, rfl⟩
            simp only [← hn8] at R8 a2 a3 a4 a6 a7 a8
            clear hn8
            obtain ⟨n9, hn9⟩ : ∃ n, n = N 9 := ⟨_, rfl⟩
            simp only [← hn9] at R9 a2 a3 a4 a6 a7 a8
            clear hn9
            obtain ⟨n16, hn16⟩ : ∃ n, n = N 16 := ⟨_, rfl⟩
            simp only [← hn16] at R16 a2 a3 a4 a6 a7 a8
            clear hn16
            obtain ⟨n17, hn17⟩ : ∃ n, n = N 17 := ⟨_, rfl⟩
            simp only [← hn17] at R17 a2 a3 a4 a6 a7 a8
            clear hn17
            obtain ⟨n18, hn18⟩ : ∃ n, n = N 18 := ⟨_, rfl⟩
            simp only [← hn18] at R18 a2 a3 a4 a6 a7 a8
            clear hn18
            obtain ⟨n19, hn19⟩ : ∃ n, n = N 19 := ⟨_, rfl⟩
            simp only [← hn19] at R19 a2 a3 a4 a6 a7 a8
            clear hn19
            obtain ⟨n20, hn20⟩ : ∃ n, n = N 20 := ⟨_, rfl⟩
            simp only [← hn20] at R20 a2 a3 a4 a6 a7 a8
            clear hn20
            obtain ⟨n24, hn24⟩ : ∃ n, n = N 24 := ⟨_, rfl⟩
            simp only [← hn24] at R24 a2 a3 a4 a6 a7 a8
            clear hn24
            have u1 : IntKind.u64.wrap ((n6 : Int) + n7) = (ks : Int) := by rw [IntKind.wrap_u64]; omega
            have u2 : IntKind.u64.wrap ((n8 : Int) + n9) = (n8 : Int) + n9 := by rw [IntKind.wrap_u64]; omega
            have u3 : (n8 : Int) + n9 ≤ n7 := by omega
            have u4 : IntKind.u64.wrap ((n19 : Int) + n20) = (n19 : Int) + n20 := by rw [IntKind.wrap_u64]; omega
            have u5 : (n19 : Int) + n20 ≤ n3 := by omega
            have u6 : (n24 : Int) ≤ ss := by omega
            have u7 : IntKind.u64.wrap ((n16 : Int) + n17) = (n16 : Int) + n17 := by rw [IntKind.wrap_u64]; omega
            have u8 : IntKind.u64.wrap ((n16 : Int) + n17 + n18) = (n16 : Int) + n17 + n18 := by rw [IntKind.wrap_u64]; omega
            have u9 : (n16 : Int) + n17 + n18 ≤ ss := by omega
            clear a1 a2 a3 a4 a5 a6 a7 a8
            go_wp2_with fail
            refine (R1 _ Eb).mono ?_
            rintro e y0 ⟨rfl, B0, K0⟩
            have G0 : w.grownBy y0 none := ((Kp.of (F := (· = b)) Eg).then K0).grown (fun i h => by omega)
            clear K0
            go_wp2_with fail
            refine (R6 _ B0).mono ?_
            rintro e y1 ⟨rfl, B1, K1⟩
            have G1 : w.grownBy y1 none := ((Kp.of (F := (· = b)) G0).then K1).grown (fun i h => by omega)
            clear K1
            go_wp2_with fail
            refine (R7 _ B1).mono ?_
            rintro e y2 ⟨rfl, B2, K2⟩
            have G2 : w.grownBy y2 none := ((Kp.of (F := (· = b)) G1).then K2).grown (fun i h => by omega)
            clear K2
            go_wp2_with fail
            refine (R8 _ B2).mono ?_
            rintro e y3 ⟨rfl, B3, K3⟩
            have G3 : w.grownBy y3 none := ((Kp.of (F := (· = b)) G2).then K3).grown (fun i h => by omega)
            clear K3
            go_wp2_with fail
            refine (R9 _ B3).mono ?_
            rintro e y4 ⟨rfl, B4, K4⟩
            have G4 : w.grownBy y4 none := ((Kp.of (F := (· = b)) G3).then K4).grown (fun i h => by omega)
            clear K4
            go_wp2_with fail
            refine (R7 _ B4).mono ?_
            rintro e y5 ⟨rfl, B5, K5⟩
            have G5 : w.grownBy y5 none := ((Kp.of (F := (· = b)) G4).then K5).grown (fun i h => by omega)
            clear K5
            go_wp2_with fail
            refine (R19 _ B5).mono ?_
            rintro e y6 ⟨rfl, B6, K6⟩
            have G6 : w.grownBy y6 none := ((Kp.of (F := (· = b)) G5).then K6).grown (fun i h => by omega)
            clear K6
            go_wp2_with fail
            refine (R20 _ B6).mono ?_
            rintro e y7 ⟨rfl, B7, K7⟩
            have G7 : w.grownBy y7 none := ((Kp.of (F := (· = b)) G6).then K7).grown (fun i h => by omega)
            clear K7
            go_wp2_with fail
            refine (R3 _ B7).mono ?_
            rintro e y8 ⟨rfl, B8, K8⟩
            have G8 : w.grownBy y8 none := ((Kp.of (F := (· = b)) G7).then K8).grown (fun i h => by omega)
            clear K8
            go_wp2_with fail
            refine (R2 _ B8).mono ?_
            rintro e y9 ⟨rfl, B9, K9⟩
            have G9 : w.grownBy y9 none := ((Kp.of (F := (· = b)) G8).then K9).grown (fun i h => by omega)
            clear K9
            go_wp2_with fail
            refine (R24 _ B9).mono ?_
            rintro e y10 ⟨rfl, B10, K10⟩
            have G10 : w.grownBy y10 none := ((Kp.of (F := (· = b)) G9).then K10).grown (fun i h => by omega)
            clear K10
            go_wp2_with fail
            refine (R16 _ B10).mono ?_
            rintro e y11 ⟨rfl, B11, K11⟩
            have G11 : w.grownBy y11 none := ((Kp.of (F := (· = b)) G10).then K11).grown (fun i h => by omega)
            clear K11
            go_wp2_with fail
            refine (R17 _ B11).mono ?_
            rintro e y12 ⟨rfl, B12, K12⟩
            have G12 : w.grownBy y12 none := ((Kp.of (F := (· = b)) G11).then K12).grown (fun i h => by omega)
            clear K12
            go_wp2_with fail
            refine (R18 _ B12).mono ?_
            rintro e y13 ⟨rfl, B13, K13⟩
            have G13 : w.grownBy y13 none := ((Kp.of (F := (· = b)) G12).then K13).grown (fun i h => by omega)
            clear K13
            go_wp2
            go_ret
            exact ⟨rfl, G13⟩
end Go.Proofs.YtonbkpfnpnlkpaaDoor

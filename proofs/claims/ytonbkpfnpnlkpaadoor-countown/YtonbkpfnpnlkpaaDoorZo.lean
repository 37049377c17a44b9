/-
  CountOwn: the walk.
-/
import Derived.Test.YtonbkpfnpnlkpaaDoorZn
import Derived.Test.YtonbkpfnpnlkpaaDoorM
import Derived.Deep.CutRange
import Derived.Great.Walk
namespace Go.Proofs.YtonbkpfnpnlkpaaDoor
open Go.ChangeShapes Go.WideShapes Go.ChangeAt Go.RowKit
set_option linter.unusedVariables false
set_option linter.unusedSimpArgs false
attribute [local go_sem] Oper.semAt_some

theorem load53q {w : World} {ops : Array Oper} {rest : List Oper} {op : Oper} {a : Act} {Q : Exit → Act → World → Prop} (hgd : op.guard = none) (x : Operand) (ho : op.op = .load 53 x) (b o : Nat) (hx : a.eval x = .pointer (some ⟨b, o, none⟩)) (cs : List Value) (hs : cs.length = 23) (hc : w.rangeAt b o cs)
    (h : wpList Tryd.prog ops Q rest (a.put op.dst (.agg cs.toArray)) w) : wpList Tryd.prog ops Q (op :: rest) a w :=
  wpList_load_mid hgd 53 x ho b o hx cs _ hc Tryd.underlying53 rfl (by rw [hs]; exact size53) h
theorem Tryd.info75 : (Tryd.prog.info? 75).map (fun i => (i.zero, i.size, i.bytes)) = some (some (.agg #[.int .u8 0, .string ⟨#[]⟩, .bool false]), 3, 32) := by kernel_rfl
theorem own_empty (W : World) (t : TypeId) (s : Nat) : (W.alloc (.cells #[] t)).ownsRow W.heap.size t s (.slice (some ⟨W.heap.size, 0, none⟩) 0 0) 0 [] :=
  ⟨by simp, .inr ⟨W.heap.size, 0, #[], rfl, Nat.le_refl _, heap_alloc_new W _, Nat.le_refl _, by unfold maxLen; omega, by simp, by simp⟩⟩
theorem news_new (W : World) (cs : Array Value) (t : TypeId) : ∀ (j : Nat) (u : Value), cs.toList[j]? = some u → ∃ g o, (some ⟨W.heap.size, 0, none⟩ : Option Addr) = some ⟨g, o, none⟩ ∧ (W.alloc (.cells cs t)).cell? ⟨g, o + j, none⟩ = some u := fun j u hu =>
  ⟨_, _, rfl, by have := World.news_of_block (cs := cs) (t := t) (fr := (0, 0)) (heap_alloc_new W _) j u hu; rwa [Addr.add_mid] at this⟩
theorem gb_own {W a b : World} {e : TypeId} {s n : Nat} {v : Value} {xs : List Value} (h : W.grownBy a none) (hr : a.ownsRow W.heap.size e s v n xs) (k : a.grownBy b v.ownBlock) : W.grownBy b none :=
  gb_of_kp h ((Kp.refl (fun j => v.ownBlock = some j) a).step k (fun j hj => .inl hj)) (fun j hj => (own_lo hr hj).1)
theorem nw_begin {w w2 : World} {b r : Nat} (hb : Bd w2 b 0 N0) (hr : Rb w2 r N0) (g : w.grownBy w2 none) (wb : w.heap.size ≤ b) (wr : w.heap.size ≤ r) (br : b ≠ r) :
    Nw w (w2.alloc (.cells #[.slice none 0 0, .slice none 0 0, .slice none 0 0, .slice none 0 0, .slice none 0 0, .slice none 0 0, .slice none 0 0, .slice none 0 0, .slice none 0 0, .slice none 0 0, .slice none 0 0, .slice none 0 0, .slice none 0 0, .slice none 0 0, .slice none 0 0, .slice none 0 0, .slice none 0 0, .slice none 0 0, .slice none 0 0, .slice none 0 0, .slice none 0 0, .slice none 0 0, .slice none 0 0, .slice none 0 0, .slice none 0 0, .slice none 0 0, .int .i64 0] 72)) b r w2.heap.size N0 N0 (· = w2.heap.size) (fun _ => False) (.slice none 0 0) 0 0 := by
  have hg := World.grownBy_alloc w2 (.cells #[.slice none 0 0, .slice none 0 0, .slice none 0 0, .slice none 0 0, .slice none 0 0, .slice none 0 0, .slice none 0 0, .slice none 0 0, .slice none 0 0, .slice none 0 0, .slice none 0 0, .slice none 0 0, .slice none 0 0, .slice none 0 0, .slice none 0 0, .slice none 0 0, .slice none 0 0, .slice none 0 0, .slice none 0 0, .slice none 0 0, .slice none 0 0, .slice none 0 0, .slice none 0 0, .slice none 0 0, .slice none 0 0, .slice none 0 0, .int .i64 0] 72) none
  have hs := g.size
  have h1 := Box.lt hb
  have h2 := Box.lt hr
  refine ⟨Box.kept hb hg (by simp), Box.kept hr hg (by simp), ⟨nilS, nilS, 0, 0, fun _ => nilS, fun _ => nilS, fun _ => [], ?_, Nat.le_refl _⟩, ⟨fun _ => nilS, fun _ _ => mk2 0, ?_⟩, ?_, ?_, wb, wr, br, gb_trans g hg⟩
  · refine ⟨Box.new w2 72 (bkA nilS nilS nilS nilS 0), ⟨rfl, .inl ⟨rfl, rfl⟩⟩, ⟨rfl, .inl ⟨rfl, rfl⟩⟩, ?_, fun i hi => by omega, fun i hi => by omega, fun i j q hi => by omega, fun i j q hi => by omega, fun i hi => by omega, rfl, ?_, ?_, fun i q hi => by omega, fun i q hi => by omega, ?_, by omega⟩
    · intro q hq; simp [nilS, Value.ownBlock] at hq
    · intro q hq; simp [nilS, Value.ownBlock] at hq
    · intro q hq; simp [nilS, Value.ownBlock] at hq
    · rintro k rfl; simp
  · exact ⟨⟨rfl, .inl ⟨rfl, rfl⟩⟩, fun i hi => by omega, fun _ _ => rfl, fun i j q hi => by omega, fun i q hi => by omega, fun q hq => by simp [Value.ownBlock] at hq, fun k e => e.elim, by omega⟩
  · rintro k rfl; exact ⟨by omega, by omega, by omega, fun e => e⟩
  · exact fun k e => e.elim

set_option maxRecDepth 100000 in
set_option maxHeartbeats 32000000 in
theorem own_9 (v : Value) (l : List Oc) (w : World) (hW : Wo w) (hv : Ocs w v l) :
    Calls Tryd.prog 9 #[v] w fun e w' => e = .returned (.bool true) ∧ w.grownBy w' none := by
  obtain ⟨ao, c, rfl, hlc, hc, hx⟩ := hv
  unfold maxLen at hc
  have hlen : l.length ≤ 9223372036854775807 := by omega
  have h10 := wakes_10 w hW
  have h00 := hW.lt
  go_enter Tryd.func9, Tryd.ntmps9
  go_wp2_with (go_at_call 10; (with_reducible refine h10.mono ?_); rintro e w0 ⟨rfl, hg0⟩)
  refine (new_11 w0).mono ?_
  rintro e w1 ⟨rfl, hb1, g1, s1⟩
  go_wp2_with fail
  refine (rnew_12 w1).mono ?_
  rintro e w2 ⟨rfl, hr2, g2, s2⟩
  have hg0s := hg0.size
  have S0 := nw_begin (w := w) (Box.kept hb1 g2 (by simp)) hr2 (gb_trans (gb_trans hg0 g1) g2) (by omega) (by omega) (by omega)
  obtain ⟨b, hb⟩ : ∃ b, b = w0.heap.size := ⟨_, rfl⟩
  obtain ⟨r, hr⟩ : ∃ r, r = w1.heap.size := ⟨_, rfl⟩
  rw [← hb, ← hr] at S0
  rw [← hb, ← hr]
  clear h10 hb1 hr2 hg0 g1 g2 s1 s2 hb hr
  go_upto_region 8 with fail
  obtain ⟨bb, hbb⟩ : ∃ bb, bb = w2.heap.size := ⟨_, rfl⟩
  rw [← hbb] at S0 ⊢
  clear hbb
  generalize w2.alloc (.cells #[.slice none 0 0, .slice none 0 0, .slice none 0 0, .slice none 0 0, .slice none 0 0, .slice none 0 0, .slice none 0 0, .slice none 0 0, .slice none 0 0, .slice none 0 0, .slice none 0 0, .slice none 0 0, .slice none 0 0, .slice none 0 0, .slice none 0 0, .slice none 0 0, .slice none 0 0, .slice none 0 0, .slice none 0 0, .slice none 0 0, .slice none 0 0, .slice none 0 0, .slice none 0 0, .slice none 0 0, .slice none 0 0, .slice none 0 0, .int .i64 0] 72) = w3 at *
  go_wp2
  go_loopw [6, 7] (fun tv v wr => ∃ (i : Nat) (N : Cn) (FB FT : Nat → Prop), i ≤ l.length ∧ i ≤ 100 ∧ v = .int .i64 i ∧ Fit N ∧ Nw w wr b r bb N N FB FT tv i i) (fun _ v _ => l.length - (intOf v).toNat)
  case atStart => exact ⟨0, N0, _, _, by omega, by omega, rfl, N0_fit, S0⟩
  case round =>
    clear S0
    obtain ⟨i, N, FB, FT, hi, hi2, rfl, hfit, E⟩ := hrel
    rcases (by omega : (i < l.length ∧ i < 100) ∨ ¬ (i < l.length ∧ i < 100)) with ⟨hlt, hlt2⟩ | hend
    · obtain ⟨x, hxi⟩ : ∃ x, l[i]? = some x := ⟨_, List.getElem?_eq_getElem hlt⟩
      obtain ⟨ok, g, o, rfl, hcells⟩ := hx i x hxi
      have rg : wr.rangeAt g (o + i * 23) (ocL x) := fun j u hu => gb_cellN E.gb (hcells j u hu)
      have d1 : (i : Int) < l.length := by omega
      have d2 : (i : Int) < 100 := by omega
      clear hx hcells hxi
      obtain ⟨i0, hi0, hz0, hz1, hz2⟩ := info_parts Tryd.info53
      go_upto_region 13 with (first
        | (refine atL 53 g (o + i * 23) rfl rfl ?_; go_must (refine load53q rfl _ rfl g (o + i * 23) rfl (ocL x) rfl rg ?_))
        | (refine atS 53 wr.heap.size 0 rfl rfl ?_; go_must (refine storeT 53 23 size53 rfl _ _ rfl 53 wr.heap.size 0 _ (Box.new wr 53 #[.int .i64 0, .slice none 0 0, .int .u64 0, .int .i64 0, .int .u64 0, .int .u64 0, .slice none 0 0, .bool false, .bool false, .slice none 0 0, .string ⟨#[]⟩, .int .i64 0, .slice none 0 0, .int .u64 0, .string ⟨#[]⟩, .slice none 0 0, .slice none 0 0, .int .i64 0, .int .i64 0, .int .i64 0, .int .i64 0, .int .i64 0, .int .i64 0]) (by simp) rfl _ rfl rfl (ocL_one ok) ?_); intro W1 B1 g1))
      rw [show sets #[.int .i64 0, .slice none 0 0, .int .u64 0, .int .i64 0, .int .u64 0, .int .u64 0, .slice none 0 0, .bool false, .bool false, .slice none 0 0, .string ⟨#[]⟩, .int .i64 0, .slice none 0 0, .int .u64 0, .string ⟨#[]⟩, .slice none 0 0, .slice none 0 0, .int .i64 0, .int .i64 0, .int .i64 0, .int .i64 0, .int .i64 0, .int .i64 0] 0 (ocL x).toArray.toList = (ocL x).toArray from setsZ _] at B1
      have galloc := World.grownBy_alloc wr (.cells #[.int .i64 0, .slice none 0 0, .int .u64 0, .int .i64 0, .int .u64 0, .int .u64 0, .slice none 0 0, .bool false, .bool false, .slice none 0 0, .string ⟨#[]⟩, .int .i64 0, .slice none 0 0, .int .u64 0, .string ⟨#[]⟩, .slice none 0 0, .slice none 0 0, .int .i64 0, .int .i64 0, .int .i64 0, .int .i64 0, .int .i64 0, .int .i64 0] 53) none
      have G1 : wr.grownBy W1 none := gb_mine galloc g1 (Nat.le_refl _)
      have E1 := E.kept0 G1
      have hsx : wr.heap.size < W1.heap.size := Box.lt B1
      obtain ⟨bx, hbx⟩ : ∃ bx, bx = wr.heap.size := ⟨_, rfl⟩
      have hbx1 : wr.heap.size ≤ bx := by omega
      rw [← hbx] at B1 hsx ⊢
      clear hbx galloc g1 rg hi0 hz0 hz1 hz2 G1
      obtain ⟨⟨vb, ka, kn, kc, fl1, ex, tk, de, da, dn, dc, nr, lg, ma, mn, mc, what⟩, ⟨ak, en, nu, tx, st⟩, y, ⟨dr, re, bu, li, lo, cr⟩, fl, why⟩ := x
      obtain ⟨ha, hfl, hwy, hm⟩ := ok
      have ha0 := ha
      obtain ⟨⟨x1, n1, k1, a1⟩, ⟨n2, a2⟩, ⟨x3, n3, k3, a3⟩, hl⟩ := ha0
      obtain ⟨ya, yc, a4⟩ : ∃ ya yc, y = .slice ya why.length yc := by obtain ⟨p, q, e, _⟩ := hwy; exact ⟨p, q, e⟩
      simp only at a1 a2 a3 a4
      subst a1 a2 a3 a4
      simp only [Cm.mt] at hfl hwy
      have h20 := few_20 _ why W1 (hwy.kept (Kp.of (F := fun _ => False) E1.gb) (fun _ _ _ _ _ h => h))
      have hwf := few_ints hwy
      obtain ⟨fn, hfn⟩ : ∃ fn, fn = min why.length 10000 := ⟨_, rfl⟩
      have efw : fw (.slice ya why.length yc) = .slice ya fn yc := by rw [hfn]; rfl
      rw [efw] at h20 hwf
      have hfn1 : fn ≤ 10000 := by omega
      have hyl : (why.take 10000).length = fn := by rw [List.length_take, hfn, Nat.min_comm]
      generalize why.take 10000 = ys at *
      have hyl1 : ys.length ≤ fn := by omega
      have hyl2 : fn ≤ ys.length := by omega
      clear efw hfn hyl hwy
      obtain ⟨yn, hyn⟩ : ∃ yn, yn = why.length := ⟨_, rfl⟩
      simp only [ocL, ← hyn] at B1
      rw [← hyn] at h20
      clear hyn
      have hFm : mn = fl.length ∧ (1000 < mn → ∃ g o, ma = some ⟨g, o, none⟩) ∧ mn ≤ mc := by
        obtain ⟨p, q, e, hq, _, _, hh⟩ := hfl
        injection e with e1 e2 e3
        subst e1 e2 e3
        refine ⟨rfl, fun h => ?_, hq⟩
        obtain ⟨g, o, e, _⟩ := hh 0 _ (List.getElem?_eq_getElem (by omega))
        exact ⟨g, o, e⟩
      obtain ⟨hmn, hms, hmc⟩ := hFm
      have hfT : Flgs w (.slice ma (min mn 1000) mc) (fl.take 1000) := by
        obtain ⟨p, q, e, hq, hq2, hq3, hh⟩ := hfl
        injection e with e1 e2 e3
        subst e1 e2 e3
        refine ⟨_, _, by rw [List.length_take, Nat.min_comm], by rw [List.length_take]; omega, hq2, fun f hf => hq3 f (List.mem_of_mem_take hf), fun k f hk => hh k f ?_⟩
        rw [List.getElem?_take] at hk
        split at hk
        · exact hk
        · cases hk
      obtain ⟨fm, hfm⟩ : ∃ fm, fm = min mn 1000 := ⟨_, rfl⟩
      rw [← hfm] at hfT
      have hfm1 : fm ≤ 1000 := by omega
      have hfl2 : (fl.take 1000).length = fm := by rw [List.length_take, hfm, hmn, Nat.min_comm]
      generalize fl.take 1000 = fs at *
      have hfs1 : fs.length ≤ fm := by omega
      have hfs2 : fm ≤ fs.length := by omega
      have hfc : fm ≤ mc := by omega
      clear hfl2 hmn hfl
      have hIk := fun (X : World) (hX : w.grownBy X none) => hwf.kept (Kp.of (F := fun _ => False) hX) (fun _ _ _ _ _ h => h)
      have hFk := fun (X : World) (hX : w.grownBy X none) => hfT.kept (Kp.of (F := fun _ => False) hX) (fun _ _ _ _ _ h => h)
      have hwb := E.wb
      have hwr := E.wr
      have hbr := E.br
      have hoI : Off (.slice ya fn yc) (· = r) := hwf.off (fun k hk => by omega)
      have hoF : Off (.slice ma fm mc) (· = r) := hfT.off (fun k hk => by omega)
      have c16 : W1.cell? ⟨bx, 16, none⟩ = some (.slice ya yn yc) := B1.cell 16
      have c9 : W1.cell? ⟨bx, 9, none⟩ = some (.slice ma mn mc) := B1.cell 9
      have z9 := B1.fz 9
      go_upto_if 45 with (first | (go_at_call 20; (with_reducible refine h20.mono ?_); rintro e w8 ⟨rfl, hw8⟩; (have hw9 := hw8.symm); subst hw9) | fail)
      go_cut [10] from 43 to 47 (fun v wc => v = .slice ma fm mc ∧ wc = W1)
      case first =>
        by_cases hbig : 1000 < mn
        · obtain ⟨gm, om, rfl⟩ := hms hbig
          obtain rfl : fm = 1000 := by omega
          have e1 : (1000 : Int) < mn := by omega
          have e2 : (1000 : Int) ≤ mc := by omega
          clear hfm
          go_wp2
          go_meet
          exact ⟨rfl, rfl⟩
        · obtain rfl : fm = mn := by omega
          have e1 : ¬ (1000 : Int) < fm := by omega
          clear hfm
          go_wp2
          go_meet
          exact ⟨rfl, rfl⟩
      case rest =>
        obtain ⟨rfl, hwc⟩ := hcut
        subst hwc
        clear hms hfm hmc h20 c16
        have B2 := B1.set 9 (.slice ma fm mc)
        simp only [List.setIfInBounds_toArray, List.set_cons_zero, List.set_cons_succ] at B2
        have g2 : wc.grownBy (wc.setCell ⟨bx, 9, none⟩ (.slice ma fm mc)) (some bx) := gb_setCell (gb_refl _ _) _
        have E2 := E1.mine E hbx1 (row := some bx) (fun k e => by have := Option.some.inj e; omega) g2
        go_upto_region 18 with fail
        have hs2 : wc.heap.size ≤ (wc.setCell ⟨bx, 9, none⟩ (.slice ma fm mc)).heap.size := g2.size
        clear g2 B1 E1 c9 z9
        generalize wc.setCell ⟨bx, 9, none⟩ (.slice ma fm mc) = W2 at *
        have t0 : W2.cell? ⟨bx, 0, none⟩ = some (.int .i64 vb) := B2.cell 0
        have t1 : W2.cell? ⟨bx, 1, none⟩ = some (.slice ka kn kc) := B2.cell 1
        have t2 : W2.cell? ⟨bx, 2, none⟩ = some (.int .u64 fl1) := B2.cell 2
        have t3 : W2.cell? ⟨bx, 3, none⟩ = some (.int .i64 ex) := B2.cell 3
        have t4 : W2.cell? ⟨bx, 4, none⟩ = some (.int .u64 tk) := B2.cell 4
        have t5 : W2.cell? ⟨bx, 5, none⟩ = some (.int .u64 de) := B2.cell 5
        have t6 : W2.cell? ⟨bx, 6, none⟩ = some (.slice da dn dc) := B2.cell 6
        have t7 : W2.cell? ⟨bx, 7, none⟩ = some (.bool nr) := B2.cell 7
        have t8 : W2.cell? ⟨bx, 8, none⟩ = some (.bool lg) := B2.cell 8
        have t9 : W2.cell? ⟨bx, 9, none⟩ = some (.slice ma fm mc) := B2.cell 9
        have t10 : W2.cell? ⟨bx, 10, none⟩ = some (.string what) := B2.cell 10
        have t11 : W2.cell? ⟨bx, 11, none⟩ = some (.int .i64 ak) := B2.cell 11
        have t12 : W2.cell? ⟨bx, 12, none⟩ = some (.slice x1 n1 k1) := B2.cell 12
        have t13 : W2.cell? ⟨bx, 13, none⟩ = some (.int .u64 n2) := B2.cell 13
        have t14 : W2.cell? ⟨bx, 14, none⟩ = some (sv tx) := B2.cell 14
        have t15 : W2.cell? ⟨bx, 15, none⟩ = some (.slice x3 n3 k3) := B2.cell 15
        have t16 : W2.cell? ⟨bx, 16, none⟩ = some (.slice ya yn yc) := B2.cell 16
        have t17 : W2.cell? ⟨bx, 17, none⟩ = some (.int .i64 dr) := B2.cell 17
        have t18 : W2.cell? ⟨bx, 18, none⟩ = some (.int .i64 re) := B2.cell 18
        have t19 : W2.cell? ⟨bx, 19, none⟩ = some (.int .i64 bu) := B2.cell 19
        have t20 : W2.cell? ⟨bx, 20, none⟩ = some (.int .i64 li) := B2.cell 20
        have t21 : W2.cell? ⟨bx, 21, none⟩ = some (.int .i64 lo) := B2.cell 21
        have t22 : W2.cell? ⟨bx, 22, none⟩ = some (.int .i64 cr) := B2.cell 22
        have h21 := rcommand_21 r N ⟨vb, ka, kn, kc, fl1, ex, tk, de, da, dn, dc, nr, lg, ma, fm, mc, what⟩ ⟨ak, .slice x1 n1 k1, .int .u64 n2, tx, .slice x3 n3 k3⟩ (.slice ya fn yc) fs ys ⟨dr, re, bu, li, lo, cr⟩ W2 E2.rb hfit ha (hFk W2 E2.gb) hoF (hIk W2 E2.gb) hoI hm (by omega)
        go_wp2_with fail
        refine h21.mono ?_
        rintro e W3 ⟨rfl, hr3, hk3⟩
        have E3 := E2.setR hk3 hr3
        have B3 := hk3.box B2 (fun e => by have := Box.lt E.rb; omega)
        have hs3 := hk3.size
        clear h21 hr3 hk3 B2 E2 t0 t1 t2 t3 t4 t5 t6 t7 t8 t9 t10 t11 t12 t13 t14 t15 t16 t17 t18 t19 t20 t21 t22
        have hIa := (hIk _ (gb_trans E3.gb (World.grownBy_alloc W3 (.cells #[] 3) none))).news.2
        go_wp2_with (at_builtin; go_must (refine more_any 40 3 1 8 _ Tryd.underlying40 Tryd.info3 rfl (by omega) rfl _ _ rfl W3.heap.size (.slice (some ⟨W3.heap.size, 0, none⟩) 0 0) 0 [] (by rfl) (own_empty W3 3 1) ya fn yc (hvals ys) (by rfl) (by rw [hvals_len]; omega) hIa (hvals_one _) (by unfold maxLen; omega) (by omega) (by simp) ?_))
        intro va wa hra hga
        have hga2 : W3.grownBy wa none := gb_mine (World.grownBy_alloc W3 (.cells #[] 3) none) hga (Nat.le_refl _)
        clear hga hIa
        have hsa := hga2.size
        go_wp2_with (at_builtin; go_must (refine more_any 40 3 1 8 _ Tryd.underlying40 Tryd.info3 rfl (by omega) rfl _ _ rfl W3.heap.size va fn (hvals ys) (by rfl) (World.ownsRow.alloc hra _) (some ⟨wa.heap.size, 0, none⟩) 3 3 (hvals [7, 8, 9]) (by rfl) rfl (news_new wa #[.int .i64 7, .int .i64 8, .int .i64 9] 3) (hvals_one _) (by unfold maxLen; omega) (by omega) (by simp; omega) ?_))
        intro v11 W4 hr4 hg4
        rw [hvals_app] at hr4
        have G4 : W3.grownBy W4 none := gb_own (gb_trans hga2 (World.grownBy_alloc wa _ none)) (World.ownsRow.alloc hra _) hg4
        clear hg4 hra hga2
        have E4 := E3.kept0 G4
        have hs4 := G4.size
        have B4 := B3.kept G4 (by simp)
        clear B3 G4
        obtain ⟨q1, p1, hd1, _, hq1, _, hpos1⟩ := row_shape hr4
        subst hd1
        obtain ⟨g1, rfl⟩ := hpos1 (by omega)
        have hg1lt : g1 < W4.heap.size := (own_lo hr4 rfl).2
        clear hpos1
        have hFa := (hFk _ (gb_trans E4.gb (World.grownBy_alloc W4 (.cells #[] 75) none))).news.2
        go_wp2_with (at_builtin; go_must (refine more_any 33 75 3 32 _ Tryd.underlying33 Tryd.info75 rfl (by omega) rfl _ _ rfl W4.heap.size (.slice (some ⟨W4.heap.size, 0, none⟩) 0 0) 0 [] (by rfl) (own_empty W4 75 3) ma fm mc (flcs fs) (by rfl) (by rw [flcs_len]; omega) hFa (flcs_one _) (by unfold maxLen; omega) (by omega) (by simp) ?_))
        intro va wa hra hga
        have hga2 : W4.grownBy wa none := gb_mine (World.grownBy_alloc W4 (.cells #[] 75) none) hga (Nat.le_refl _)
        clear hga hFa
        have hsa2 := hga2.size
        go_wp2_with (at_builtin; go_must (refine more_any 33 75 3 32 _ Tryd.underlying33 Tryd.info75 rfl (by omega) rfl _ _ rfl W4.heap.size va fm (flcs fs) (by rfl) (World.ownsRow.alloc hra _) (some ⟨wa.heap.size, 0, none⟩) 2 2 (flcs [f33, f63]) (by rfl) rfl (news_new wa #[.int .u8 33, .string ⟨#[]⟩, .bool false, .int .u8 63, .string ⟨#[]⟩, .bool false] 75) (flcs_one _) (by unfold maxLen; omega) (by omega) (by simp; omega) ?_))
        intro v12 W5 hr5 hg5
        rw [flcs_app] at hr5
        have G5 : W4.grownBy W5 none := gb_own (gb_trans hga2 (World.grownBy_alloc wa _ none)) (World.ownsRow.alloc hra _) hg5
        clear hg5 hra hga2
        have E5 := E4.kept0 G5
        have hs5 := G5.size
        have B5 := B4.kept G5 (by simp)
        have hr4b := row_kept hr4 G5 (by simp)
        clear B4 G5 hr4
        obtain ⟨q2, p2, hd2, _, hq2, _, hpos2⟩ := row_shape hr5
        subst hd2
        obtain ⟨g2, rfl⟩ := hpos2 (by omega)
        clear hpos2
        have c9 : W5.cell? ⟨bx, 9, none⟩ = some (.slice ma fm mc) := B5.cell 9
        have z9 := B5.fz 9
        have e1 : (fm : Int) ≤ p2 := by omega
        have e2 : (fn : Int) ≤ p1 := by omega
        have B6 := B5.set 9 (.slice (some ⟨g2, 0, none⟩) fm p2)
        simp only [List.setIfInBounds_toArray, List.set_cons_zero, List.set_cons_succ] at B6
        have g6 : W5.grownBy (W5.setCell ⟨bx, 9, none⟩ (.slice (some ⟨g2, 0, none⟩) fm p2)) (some bx) := gb_setCell (gb_refl _ _) _
        have E6 := E5.mine E hbx1 (row := some bx) (fun k e => by have := Option.some.inj e; omega) g6
        have hr6 := row_kept hr4b g6 (fun k e1 e2 => by have h1 := (own_lo hr4b e1).1; have h2 := Option.some.inj e2; omega)
        have hf6 := row_kept hr5 g6 (fun k e1 e2 => by have h1 := (own_lo hr5 e1).1; have h2 := Option.some.inj e2; omega)
        have hs6 := g6.size
        go_upto_region 22 with fail
        clear g6 B5 E5 c9 z9 hr4b hr5
        generalize W5.setCell ⟨bx, 9, none⟩ (.slice (some ⟨g2, 0, none⟩) fm p2) = W6 at *
        have t0 : W6.cell? ⟨bx, 0, none⟩ = some (.int .i64 vb) := B6.cell 0
        have t1 : W6.cell? ⟨bx, 1, none⟩ = some (.slice ka kn kc) := B6.cell 1
        have t2 : W6.cell? ⟨bx, 2, none⟩ = some (.int .u64 fl1) := B6.cell 2
        have t3 : W6.cell? ⟨bx, 3, none⟩ = some (.int .i64 ex) := B6.cell 3
        have t4 : W6.cell? ⟨bx, 4, none⟩ = some (.int .u64 tk) := B6.cell 4
        have t5 : W6.cell? ⟨bx, 5, none⟩ = some (.int .u64 de) := B6.cell 5
        have t6 : W6.cell? ⟨bx, 6, none⟩ = some (.slice da dn dc) := B6.cell 6
        have t7 : W6.cell? ⟨bx, 7, none⟩ = some (.bool nr) := B6.cell 7
        have t8 : W6.cell? ⟨bx, 8, none⟩ = some (.bool lg) := B6.cell 8
        have t9 : W6.cell? ⟨bx, 9, none⟩ = some (.slice (some ⟨g2, 0, none⟩) fm p2) := B6.cell 9
        have t10 : W6.cell? ⟨bx, 10, none⟩ = some (.string what) := B6.cell 10
        have t11 : W6.cell? ⟨bx, 11, none⟩ = some (.int .i64 ak) := B6.cell 11
        have t12 : W6.cell? ⟨bx, 12, none⟩ = some (.slice x1 n1 k1) := B6.cell 12
        have t13 : W6.cell? ⟨bx, 13, none⟩ = some (.int .u64 n2) := B6.cell 13
        have t14 : W6.cell? ⟨bx, 14, none⟩ = some (sv tx) := B6.cell 14
        have t15 : W6.cell? ⟨bx, 15, none⟩ = some (.slice x3 n3 k3) := B6.cell 15
        have t16 : W6.cell? ⟨bx, 16, none⟩ = some (.slice ya yn yc) := B6.cell 16
        have t17 : W6.cell? ⟨bx, 17, none⟩ = some (.int .i64 dr) := B6.cell 17
        have t18 : W6.cell? ⟨bx, 18, none⟩ = some (.int .i64 re) := B6.cell 18
        have t19 : W6.cell? ⟨bx, 19, none⟩ = some (.int .i64 bu) := B6.cell 19
        have t20 : W6.cell? ⟨bx, 20, none⟩ = some (.int .i64 li) := B6.cell 20
        have t21 : W6.cell? ⟨bx, 21, none⟩ = some (.int .i64 lo) := B6.cell 21
        have t22 : W6.cell? ⟨bx, 22, none⟩ = some (.int .i64 cr) := B6.cell 22
        have hfa : ∀ f ∈ fs ++ [f33, f63], f.arg.length ≤ 4611686018427387904 := fun f hf => by
          rw [List.mem_append] at hf
          rcases hf with hf | hf
          · obtain ⟨_, _, _, _, _, h, _⟩ := hfT; exact h f hf
          · simp [f33, f63] at hf; rcases hf with rfl | rfl <;> simp
        have hF6 : Flgs W6 (.slice (some ⟨g2, 0, none⟩) fm p2) fs := by
          have := Flgs.own hf6 fm (by simp; omega) hfa
          rwa [List.take_append_of_le_length (by omega), List.take_of_length_le (by omega)] at this
        have hI6 : Ints W6 (.slice (some ⟨g1, 0, none⟩) fn p1) ys := by
          have := Ints.own hr6 fn (by simp; omega)
          rwa [List.take_append_of_le_length (by omega), List.take_of_length_le (by omega)] at this
        have hlb := Box.lt E.bd
        have hg1b : W3.heap.size ≤ g1 := (own_lo hr6 rfl).1
        have hg2b : W4.heap.size ≤ g2 := (own_lo hf6 rfl).1
        have hE3s := E3.gb.size
        have hlb3 := Box.lt E3.bd
        have ho1 : Off (.slice (some ⟨g2, 0, none⟩) fm p2) (· = b) := fun a n c e _ hf => by
          injection e with e
          injection e with e
          subst e
          simp at hf
          omega
        have ho2 : Off (.slice (some ⟨g1, 0, none⟩) fn p1) (· = b) := fun a n c e _ hf => by
          injection e with e
          injection e with e
          subst e
          simp at hf
          omega
        have h19 := fun (X : World) (hX : W6.grownBy X none) => command_19 b N ⟨vb, ka, kn, kc, fl1, ex, tk, de, da, dn, dc, nr, lg, (some ⟨g2, 0, none⟩), fm, p2, what⟩ ⟨ak, .slice x1 n1 k1, .int .u64 n2, tx, .slice x3 n3 k3⟩ (.slice (some ⟨g1, 0, none⟩) fn p1) fs ys ⟨dr, re, bu, li, lo, cr⟩ X (Box.kept E6.bd hX (by simp)) hfit ha (hF6.kept (Kp.of (F := fun _ => False) hX) (fun _ _ _ _ _ h => h)) ho1 (hI6.kept (Kp.of (F := fun _ => False) hX) (fun _ _ _ _ _ h => h)) ho2 hm
        have nbx : ¬ bx = b := by omega
        clear hF6 hI6 ho1 ho2 hfa
        go_region_held3 (fun X => X.cell? ⟨bx, 0, none⟩ = some (.int .i64 vb) ∧ X.cell? ⟨bx, 1, none⟩ = some (.slice ka kn kc) ∧ X.cell? ⟨bx, 2, none⟩ = some (.int .u64 fl1) ∧ X.cell? ⟨bx, 3, none⟩ = some (.int .i64 ex) ∧ X.cell? ⟨bx, 4, none⟩ = some (.int .u64 tk) ∧ X.cell? ⟨bx, 5, none⟩ = some (.int .u64 de) ∧ X.cell? ⟨bx, 6, none⟩ = some (.slice da dn dc) ∧ X.cell? ⟨bx, 7, none⟩ = some (.bool nr) ∧ X.cell? ⟨bx, 8, none⟩ = some (.bool lg) ∧ X.cell? ⟨bx, 9, none⟩ = some (.slice (some ⟨g2, 0, none⟩) fm p2) ∧ X.cell? ⟨bx, 10, none⟩ = some (.string what) ∧ X.cell? ⟨bx, 11, none⟩ = some (.int .i64 ak) ∧ X.cell? ⟨bx, 12, none⟩ = some (.slice x1 n1 k1) ∧ X.cell? ⟨bx, 13, none⟩ = some (.int .u64 n2) ∧ X.cell? ⟨bx, 14, none⟩ = some (sv tx) ∧ X.cell? ⟨bx, 15, none⟩ = some (.slice x3 n3 k3) ∧ X.cell? ⟨bx, 16, none⟩ = some (.slice ya yn yc) ∧ X.cell? ⟨bx, 17, none⟩ = some (.int .i64 dr) ∧ X.cell? ⟨bx, 18, none⟩ = some (.int .i64 re) ∧ X.cell? ⟨bx, 19, none⟩ = some (.int .i64 bu) ∧ X.cell? ⟨bx, 20, none⟩ = some (.int .i64 li) ∧ X.cell? ⟨bx, 21, none⟩ = some (.int .i64 lo) ∧ X.cell? ⟨bx, 22, none⟩ = some (.int .i64 cr)) ((first | exact ⟨hk7.cell t0 nbx, hk7.cell t1 nbx, hk7.cell t2 nbx, hk7.cell t3 nbx, hk7.cell t4 nbx, hk7.cell t5 nbx, hk7.cell t6 nbx, hk7.cell t7 nbx, hk7.cell t8 nbx, hk7.cell t9 nbx, hk7.cell t10 nbx, hk7.cell t11 nbx, hk7.cell t12 nbx, hk7.cell t13 nbx, hk7.cell t14 nbx, hk7.cell t15 nbx, hk7.cell t16 nbx, hk7.cell t17 nbx, hk7.cell t18 nbx, hk7.cell t19 nbx, hk7.cell t20 nbx, hk7.cell t21 nbx, hk7.cell t22 nbx⟩ | go_keep)) ((go_at_call 19; (first | (with_reducible refine (h19 _ (gb_drew (gb_refl _ _))).mono ?_) | (with_reducible refine (h19 _ (gb_drewN (gb_refl _ _) _)).mono ?_) | (with_reducible refine (h19 _ (gb_refl _ _)).mono ?_) | (with_reducible refine (h19 _ (gb_drewN (gb_drew (gb_refl _ _)) _)).mono ?_)); rintro e7 W7 ⟨rfl, hb7, hk7⟩))
        have K7 : Kp (· = b) W6 W7 := (Kp.drew _ _).then hk7
        have E7 := E6.setB K7 hb7
        rw [cmdD_eq] at E7
        have ec : rcmdD ⟨vb, ka, kn, kc, fl1, ex, tk, de, da, dn, dc, nr, lg, (some ⟨g2, 0, none⟩), fm, p2, what⟩ ⟨ak, .slice x1 n1 k1, .int .u64 n2, tx, .slice x3 n3 k3⟩ fs ys ⟨dr, re, bu, li, lo, cr⟩ = rcmdD ⟨vb, ka, kn, kc, fl1, ex, tk, de, da, dn, dc, nr, lg, ma, fm, mc, what⟩ ⟨ak, .slice x1 n1 k1, .int .u64 n2, tx, .slice x3 n3 k3⟩ fs ys ⟨dr, re, bu, li, lo, cr⟩ := rfl
        rw [ec] at E7
        have E7b := E7
        have hfit7 : Fit (plus N (rcmdD ⟨vb, ka, kn, kc, fl1, ex, tk, de, da, dn, dc, nr, lg, ma, fm, mc, what⟩ ⟨ak, .slice x1 n1 k1, .int .u64 n2, tx, .slice x3 n3 k3⟩ fs ys ⟨dr, re, bu, li, lo, cr⟩)) := plus_fit _ _
        generalize plus N (rcmdD ⟨vb, ka, kn, kc, fl1, ex, tk, de, da, dn, dc, nr, lg, ma, fm, mc, what⟩ ⟨ak, .slice x1 n1 k1, .int .u64 n2, tx, .slice x3 n3 k3⟩ fs ys ⟨dr, re, bu, li, lo, cr⟩) = NN at *
        have hr7 := row_same hr6 (fun k hk => K7.block k (own_lo hr6 hk).2 (fun e => by simp [Value.ownBlock] at hk; omega))
        have hf7 := row_same hf6 (fun k hk => K7.block k (own_lo hf6 hk).2 (fun e => by simp [Value.ownBlock] at hk; omega))
        have hs7 := K7.size
        clear E7 E6 K7 hk7 hb7 h19 hr6 hf6 B6 t0 t1 t2 t3 t4 t5 t6 t7 t8 t9 t10 t11 t12 t13 t14 t15 t16 t17 t18 t19 t20 t21 t22
        have hIa := (hIk _ (gb_trans E7b.gb (World.grownBy_alloc W7 (.cells #[] 3) none))).news.2
        go_wp2_with (at_builtin; go_must (refine more_any 40 3 1 8 _ Tryd.underlying40 Tryd.info3 rfl (by omega) rfl _ _ rfl W7.heap.size (.slice (some ⟨W7.heap.size, 0, none⟩) 0 0) 0 [] (by rfl) (own_empty W7 3 1) ya fn yc (hvals ys) (by rfl) (by rw [hvals_len]; omega) hIa (hvals_one _) (by unfold maxLen; omega) (by omega) (by simp) ?_))
        intro va wa hra hga
        have hga2 : W7.grownBy wa none := gb_mine (World.grownBy_alloc W7 (.cells #[] 3) none) hga (Nat.le_refl _)
        clear hga hIa
        have hsa3 := hga2.size
        go_wp2_with (at_builtin; go_must (refine more_any 40 3 1 8 _ Tryd.underlying40 Tryd.info3 rfl (by omega) rfl _ _ rfl W7.heap.size va fn (hvals ys) (by rfl) (World.ownsRow.alloc hra _) (some ⟨wa.heap.size, 0, none⟩) 3 3 (hvals [7, 8, 9]) (by rfl) rfl (news_new wa #[.int .i64 7, .int .i64 8, .int .i64 9] 3) (hvals_one _) (by unfold maxLen; omega) (by omega) (by simp; omega) ?_))
        intro v8 W8 hr8 hg8
        rw [hvals_app] at hr8
        have G8 : W7.grownBy W8 none := gb_own (gb_trans hga2 (World.grownBy_alloc wa _ none)) (World.ownsRow.alloc hra _) hg8
        clear hg8 hra hga2
        have E8 := E7b.kept0 G8
        have hs8 := G8.size
        have hr8b := row_kept hr7 G8 (by simp)
        have hf8 := row_kept hf7 G8 (by simp)
        clear E7b hr7 hf7
        obtain ⟨q3, p3, hd3, _, hq3, _, hpos3⟩ := row_shape hr8
        subst hd3
        have hyy : (ys ++ [7, 8, 9]).length = fn + 3 := by simp; omega
        have h28 : Calls Tryd.prog 28 #[.slice (some ⟨g1, 0, none⟩) (fn + 3) p1, .slice q3 (fn + 3) p3] W8 fun y w' => y = .returned (.bool true) ∧ ∃ q, w' = W8.drewN q := by
          have a1 := hr8b
          have a2 := hr8
          rw [← hyy] at a1 a2 ⊢
          obtain ⟨u1, k1, hu1, H1⟩ := HsH.of_row0 a1
          obtain ⟨u2, k2, hu2, H2⟩ := HsH.of_row0 a2
          injection hu1 with e1 e2 e3
          injection hu2 with f1 f2 f3
          subst e1 e3 f1 f3
          exact ints_28q H1 H2 _ _ (by omega)
        have hfa : ∀ f ∈ fs ++ [f33, f63], f.arg.length ≤ 4611686018427387904 := fun f hf => by
          rw [List.mem_append] at hf
          rcases hf with hf | hf
          · obtain ⟨_, _, _, _, _, h, _⟩ := hfT; exact h f hf
          · simp [f33, f63] at hf; rcases hf with rfl | rfl <;> simp
        have h29 : ∀ q, Calls Tryd.prog 29 #[.slice (some ⟨g2, 0, none⟩) (fm + 2) p2, .slice ma fm mc] (W8.drewN q) fun y w' => y = .returned (.bool true) ∧ (W8.drewN q).grownBy w' none := fun q => by
          have a1 := Flgs.own hf8 (fm + 2) (by simp; omega) hfa
          rw [List.take_of_length_le (by simp; omega)] at a1
          exact same_29 (a1.kept (Kp.of (F := fun _ => False) (gb_drewN (gb_refl _ _) q)) (fun _ _ _ _ _ h => h)) (hFk _ (gb_drewN E8.gb q)) (by omega)
        clear hfa hyy hr8 hpos3 G8 hq3
        go_wp2_with fail
        refine h28.mono ?_
        rintro e w9 ⟨rfl, q, rfl⟩
        go_wp2_with fail
        refine (h29 q).mono ?_
        rintro e W9 ⟨rfl, hg9⟩
        have G9 : W8.grownBy W9 none := gb_trans (gb_drewN (gb_refl _ _) q) hg9
        have E9 := E8.kept0 G9
        have hr9 := row_kept hr8b G9 (by simp)
        have hf9 := row_kept hf8 G9 (by simp)
        have hs9 := G9.size
        clear h28 h29 hg9 G9 E8 hr8b hf8
        have hyy : (ys ++ [7, 8, 9]).length = fn + 3 := by simp; omega
        generalize ys ++ [7, 8, 9] = zs at hyy hr9
        have H9 : Hid _ := E9
        have HR : Hid (W9.ownsRow W3.heap.size 3 1 (.slice (some ⟨g1, 0, none⟩) (fn + 3) p1) (fn + 3) (hvals zs)) := hr9
        have HL : Hid (zs.length = fn + 3) := hyy
        generalize flcs (fs ++ [f33, f63]) = cs at *
        have HF : Hid (W9.ownsRow W4.heap.size 75 3 (.slice (some ⟨g2, 0, none⟩) (fm + 2) p2) (fm + 2) cs) := hf9
        clear E9 hr9 hf9 hyy
        go_wp2
        go_loopw [13] (fun v wq => ∃ (k : Nat) (zs : List Int), k ≤ fn + 3 ∧ v = .int .i64 k ∧ zs.length = fn + 3 ∧ wq.ownsRow W3.heap.size 3 1 (.slice (some ⟨g1, 0, none⟩) (fn + 3) p1) (fn + 3) (hvals zs) ∧ W9.grownBy wq (some g1)) (fun v _ => fn + 3 - (intOf v).toNat)
        case atStart => exact ⟨0, zs, by omega, rfl, HL.out, HR.out, gb_refl _ _⟩
        case round =>
          clear HR HL
          obtain ⟨k, zs, hk, rfl, hzl, hrow, hgk⟩ := hrel
          by_cases hkl : k < fn + 3
          · obtain ⟨cur, hcur⟩ := row_block hrow g1 rfl
            obtain ⟨old, hold⟩ : ∃ old, zs[k]? = some old := ⟨_, List.getElem?_eq_getElem (by omega)⟩
            have e3 : wr.cell? ⟨g1, k, none⟩ = some (.int .i64 old) := row_cell hrow k _ (by unfold hvals; rw [List.getElem?_map, hold]; rfl)
            have e4 : wr.frozen? ⟨g1, k, none⟩ = false := Box.fz (show Box wr 3 g1 cur from hcur) k
            have hkb : (k : Int) < (fn : Int) + 3 := by omega
            have hrow2 : (wr.setCell ⟨g1, k, none⟩ (.int .i64 3)).ownsRow W3.heap.size 3 1 (.slice (some ⟨g1, 0, none⟩) (fn + 3) p1) (fn + 3) (hvals (zs.set k 3)) := by
              have := row_set hrow k (.int .i64 3)
              rwa [show (hvals zs).set k (.int .i64 3) = hvals (zs.set k 3) by unfold hvals; rw [List.map_set]] at this
            have HP : Hid _ := And.intro hrow2 (gb_setCell (i := k) hgk (.int .i64 3))
            have HZ : Hid ((zs.set k 3).length = fn + 3) := by rw [List.length_set]; exact hzl
            clear hrow hrow2 hgk hold hcur hzl H9 HF
            go_wp2
            exact ⟨⟨k + 1, _, by omega, by go_num, HZ.out, HP.out.1, HP.out.2⟩, by simp [intOf]; omega⟩
          · obtain rfl : k = fn + 3 := by omega
            have E10 := H9.out.mine E (B := W3.heap.size) (by omega) (row := some g1) (fun k e => by have := Option.some.inj e; omega) hgk
            have hf10 := row_kept HF.out hgk (fun k e1 e2 => by have h1 := (own_lo HF.out e1).1; have h2 := Option.some.inj e2; omega)
            have hs10 := hgk.size
            have H10 : Hid _ := E10
            have HR : Hid _ := hrow
            have HF2 : Hid _ := hf10
            have HL : Hid (zs.length = fn + 3) := hzl
            clear E10 hrow hf10 hzl H9 HF hgk
            go_wp2
            go_loopw [14] (fun v wq => ∃ (k : Nat) (cs : List Value), k ≤ fm + 2 ∧ v = .int .i64 k ∧ wq.ownsRow W4.heap.size 75 3 (.slice (some ⟨g2, 0, none⟩) (fm + 2) p2) (fm + 2) cs ∧ World.grownBy wr wq (some g2)) (fun v _ => fm + 2 - (intOf v).toNat)
            case atStart => exact ⟨0, cs, by omega, rfl, HF2.out, gb_refl _ _⟩
            case round =>
              clear HF2
              obtain ⟨k, cs, hk, rfl, hrow, hgk⟩ := hrel
              by_cases hkl : k < fm + 2
              · obtain ⟨cur, hcur⟩ := row_block hrow g2 rfl
                have hcl : cs.length = (fm + 2) * 3 := hrow.1
                obtain ⟨o0, ho0⟩ : ∃ old, cs[k * 3]? = some old := ⟨_, List.getElem?_eq_getElem (by omega)⟩
                obtain ⟨o1, ho1⟩ : ∃ old, cs[k * 3 + 1]? = some old := ⟨_, List.getElem?_eq_getElem (by omega)⟩
                obtain ⟨o2, ho2⟩ : ∃ old, cs[k * 3 + 2]? = some old := ⟨_, List.getElem?_eq_getElem (by omega)⟩
                have e3 : wr.cell? ⟨g2, k * 3, none⟩ = some o0 := row_cell hrow _ _ ho0
                have e4 : wr.cell? ⟨g2, k * 3 + 1, none⟩ = some o1 := row_cell hrow _ _ ho1
                have e5 : wr.cell? ⟨g2, k * 3 + 2, none⟩ = some o2 := row_cell hrow _ _ ho2
                have e6 : wr.frozen? ⟨g2, k * 3, none⟩ = false := Box.fz (show Box wr 75 g2 cur from hcur) _
                have e7 : wr.frozen? ⟨g2, k * 3 + 1, none⟩ = false := Box.fz (show Box wr 75 g2 cur from hcur) _
                have e8 : wr.frozen? ⟨g2, k * 3 + 2, none⟩ = false := Box.fz (show Box wr 75 g2 cur from hcur) _
                have hkb : (k : Int) < (fm : Int) + 2 := by omega
                have hrow2 := row_set (row_set (row_set hrow (k * 3) (.int .u8 67)) (k * 3 + 1) (.string ⟨#[111, 118, 101, 114]⟩)) (k * 3 + 2) (.bool true)
                have HP : Hid _ := And.intro hrow2 (gb_setCell (i := k * 3 + 2) (gb_setCell (i := k * 3 + 1) (gb_setCell (i := k * 3) hgk (.int .u8 67)) (.string ⟨#[111, 118, 101, 114]⟩)) (.bool true))
                clear hrow hrow2 hgk hcur hcl ho0 ho1 ho2 H10 HR HL
                go_wp2
                exact ⟨⟨k + 1, _, by omega, by go_num, HP.out.1, HP.out.2⟩, by simp [intOf]; omega⟩
              · obtain rfl : k = fm + 2 := by omega
                have E11 := H10.out.mine E (B := W3.heap.size) (by omega) (row := some g2) (fun k e => by have := Option.some.inj e; omega) hgk
                have hr11 := row_kept HR.out hgk (fun k e1 e2 => by simp [Value.ownBlock] at e1; have h2 := Option.some.inj e2; omega)
                have h30 := E11.ints (by omega) E3 (vao := some ⟨g1, 0, none⟩) (vcp := p1) (xs := zs) (by rw [HL.out]; exact hr11) (by rw [HL.out]; omega)
                rw [HL.out] at h30
                clear H10 HR HL hr11 hgk hrow E11
                go_wp2_with fail
                refine h30.mono ?_
                rintro e W12 ⟨rfl, FB', E12⟩
                have W12o := hW.kept (Kp.of (F := fun _ => False) E12.gb) (fun h => h)
                clear h30
                go_wp2_with fail
                refine (stats_15 b NN W12 E12.bd W12o (by omega)).mono ?_
                rintro e W13 ⟨v13, rfl, st13, hb13, hk13⟩
                have E13 := E12.setB hk13 hb13
                have st := st13
                obtain ⟨g13, cap13, rfl, _⟩ := st13
                obtain ⟨V2, f2, ht13⟩ := E13.tl
                have htr := ht13.hr
                clear W12o hb13 hk13
                go_wp2_with (at_builtin; go_must (refine push37 rfl _ _ rfl 0 _ i _ (by rfl) htr (.slice (some ⟨g13, 0, none⟩) 30 cap13) rfl (by rfl) (by omega) (Nat.zero_le _) ?_))
                intro g14 cap14 W14 hrow14 hg14 hat14
                obtain ⟨FT', E14⟩ := E13.told hlt2 E12 st ht13 hrow14 hg14 (fun q hq => by simp [Value.ownBlock] at hq; subst hq; exact hat14)
                clear hrow14 hg14 hat14 htr ht13 st E13 E12
                go_wp2
                exact ⟨⟨i + 1, NN, FB', FT', by omega, by omega, by go_num, hfit7, E14⟩, by simp [intOf]; omega⟩
    · have hstop : ¬ ((i : Int) < l.length) ∨ ((i : Int) < l.length ∧ ¬ ((i : Int) < 100)) := by omega
      clear hx hend
      rcases hstop with h1 | ⟨h1, h2⟩
      · obtain ⟨hv, wv, nn, K, V, X, D, hbk, hKi⟩ := E.bk
        obtain ⟨V2, f, ht⟩ := E.tl
        have h31 := spoilt_31 ht
        go_wp2_with fail
        refine h31.mono ?_
        rintro e w20 ⟨rfl, hk20⟩
        have hbk20 := hbk.kept hk20 (fun k hk2 e2 => (E.fb k hk2).2.2.2 e2)
        have h32 := close_32 hbk20 (by omega)
        have bd20 := Bd.kept E.bd hk20 (fun e => (E.ft b e).2.1 rfl)
        have rb20 := Rb.kept E.rb hk20 (fun e => (E.ft r e).2.2 rfl)
        have gb20 : w.grownBy w20 none := ((Kp.of (F := FT) E.gb).trans hk20 (fun _ h => h) (fun _ h => .inl h)).grown (fun k e => (E.ft k e).1)
        clear hbk20 hbk ht h31 hk20
        go_wp2_with fail
        refine h32.mono ?_
        rintro e w21 ⟨rfl, hk21⟩
        have bd21 := Bd.kept bd20 hk21 (fun e => (E.fb b e).2.1 rfl)
        have rb21 := Rb.kept rb20 hk21 (fun e => (E.fb r e).2.2.1 rfl)
        have gb21 : w.grownBy w21 none := ((Kp.of (F := FB) gb20).trans hk21 (fun _ h => h) (fun _ h => .inl h)).grown (fun k e => (E.fb k e).1)
        have W21 := hW.kept (Kp.of (F := fun _ => False) gb21) (fun h => h)
        have hwb := E.wb
        have hbr := E.br
        clear h32 hk21 bd20 rb20 gb20
        go_wp2_with fail
        refine (stats_15 b N w21 bd21 W21 (by omega)).mono ?_
        rintro e w22 ⟨v22, rfl, st22, bd22, hk22⟩
        have rb22 := Rb.kept rb21 hk22 (fun e => hbr e.symm)
        have gb22 : w.grownBy w22 none := ((Kp.of (F := (· = b)) gb21).then hk22).grown (fun k e => by omega)
        clear bd21 rb21 gb21 hk22 W21
        go_wp2_with fail
        refine (rstats_16 r N w22 rb22).mono ?_
        rintro e w23 ⟨v23, rfl, st23, hg23⟩
        go_wp2_with fail
        refine (lines_14 (st22.kept hg23) st23).mono ?_
        rintro e w24 ⟨rfl, hg24⟩
        have G24 := gb_trans (gb_trans gb22 hg23) hg24
        go_wp2
        go_ret
        exact ⟨rfl, G24⟩
      · obtain ⟨hv, wv, nn, K, V, X, D, hbk, hKi⟩ := E.bk
        obtain ⟨V2, f, ht⟩ := E.tl
        have h31 := spoilt_31 ht
        go_wp2_with fail
        refine h31.mono ?_
        rintro e w20 ⟨rfl, hk20⟩
        have hbk20 := hbk.kept hk20 (fun k hk2 e2 => (E.fb k hk2).2.2.2 e2)
        have h32 := close_32 hbk20 (by omega)
        have bd20 := Bd.kept E.bd hk20 (fun e => (E.ft b e).2.1 rfl)
        have rb20 := Rb.kept E.rb hk20 (fun e => (E.ft r e).2.2 rfl)
        have gb20 : w.grownBy w20 none := ((Kp.of (F := FT) E.gb).trans hk20 (fun _ h => h) (fun _ h => .inl h)).grown (fun k e => (E.ft k e).1)
        clear hbk20 hbk ht h31 hk20
        go_wp2_with fail
        refine h32.mono ?_
        rintro e w21 ⟨rfl, hk21⟩
        have bd21 := Bd.kept bd20 hk21 (fun e => (E.fb b e).2.1 rfl)
        have rb21 := Rb.kept rb20 hk21 (fun e => (E.fb r e).2.2.1 rfl)
        have gb21 : w.grownBy w21 none := ((Kp.of (F := FB) gb20).trans hk21 (fun _ h => h) (fun _ h => .inl h)).grown (fun k e => (E.fb k e).1)
        have W21 := hW.kept (Kp.of (F := fun _ => False) gb21) (fun h => h)
        have hwb := E.wb
        have hbr := E.br
        clear h32 hk21 bd20 rb20 gb20
        go_wp2_with fail
        refine (stats_15 b N w21 bd21 W21 (by omega)).mono ?_
        rintro e w22 ⟨v22, rfl, st22, bd22, hk22⟩
        have rb22 := Rb.kept rb21 hk22 (fun e => hbr e.symm)
        have gb22 : w.grownBy w22 none := ((Kp.of (F := (· = b)) gb21).then hk22).grown (fun k e => by omega)
        clear bd21 rb21 gb21 hk22 W21
        go_wp2_with fail
        refine (rstats_16 r N w22 rb22).mono ?_
        rintro e w23 ⟨v23, rfl, st23, hg23⟩
        go_wp2_with fail
        refine (lines_14 (st22.kept hg23) st23).mono ?_
        rintro e w24 ⟨rfl, hg24⟩
        have G24 := gb_trans (gb_trans gb22 hg23) hg24
        go_wp2
        go_ret
        exact ⟨rfl, G24⟩
end Go.Proofs.YtonbkpfnpnlkpaaDoor

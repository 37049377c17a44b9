import Derived.Deep.CutRange
import Derived.Deep.RegionLaw
import Derived.Test.YtobegepebochkaaGreatDoorVPby
import Derived.WalkKit
import Derived.ProofKit
import Derived.OpenShut
import Derived.Below
import Derived.Deep.Slices
import Derived.SizedLaws
import Derived.Deep.MidRow
import Derived.Deep.LoopGhost
import Derived.Test.YtobegepebochkaaGreatDoorRows
import Derived.Test.YtobegepebochkaaGreatDoorVPae
import Derived.Stop.LaidErr
import Derived.MakeChecks
import Derived.Test.YtobegepebochkaaGreatDoorVD
set_option linter.unusedVariables false
set_option linter.unusedSimpArgs false
namespace Go.Proofs.YtobegepebochkaaGreatDoor
open Go.RowKit Go.Maps
attribute [local go_sem] Oper.semAt_some
structure B12 (w w8 : World) (K : Nat) (x : CI) (lb ib : Nat) (kl dl ml wv a b : Value) : Prop where
  e1 : ∀ W, w8.grownBy W none → Calls Tryz.prog 35 #[a, wv] W fun e w' => e = .returned (.bool true) ∧ w' = W
  e2 : ∀ W, w8.grownBy W none → Calls Tryz.prog 35 #[b, wv] W fun e w' => e = .returned (.bool true) ∧ w' = W
  s : ∀ W, w8.grownBy W none → Calls Tryz.prog 16 #[.agg (cmB x.c kl dl ml x.lg), .agg (cmB x.c x.kv x.dv x.mv x.lg)] W fun e w' => e = .returned (.bool true) ∧ W.grownBy w' none
  bk : ∀ W, w8.grownBy W none → Calls Tryz.prog 36 #[.pointer (some ⟨lb, 0, none⟩)] W fun e w' => e = .returned (.bool true) ∧ (Calls Tryz.prog 35 #[a, wv] w' fun e w'' => e = .returned (.bool true) ∧ w'' = w') ∧ Af w w' K (bsX x) a b
theorem B12.of {w wr w1 w2 w3 w6 w7 w8 : World} {K lb ib gk ck gd cd : Nat} {x : CI} {x2 x3 ml wv a b : Value} (hW : Wb w wr K) (hx : CbOk w x) (hd : x.d.length ≤ 65536) (g1 : wr.grownBy w1 none) (hw : OwC w1 wr.heap.size wv (bsX x)) (g2 : w1.grownBy w2 none) (hlb : w1.heap.size ≤ lb) (g3 : w2.grownBy w3 (some lb)) (hl : LntG x2 x3 w3 lb w2.heap.size gd cd (x.d ++ mk40)) (ht : LtR x2 x3 w3 w2.heap.size gk ck (x.c.keys ++ tx40)) (g6 : w3.grownBy w6 none) (hm : Fg w6 ml x.c.mt) (g7 : w6.grownBy w7 none) (ha : OwC w7 w6.heap.size a (bsX x)) (g8 : w7.grownBy w8 none) (hb : OwC w8 w7.heap.size b (bsX x)) :
    B12 w w8 K x lb ib (.slice (some ⟨gk, 0, none⟩) x.c.keys.length ck) (.slice (some ⟨gd, 0, none⟩) x.d.length cd) ml wv a b := by
  have G38 : w3.grownBy w8 none := gb_trans g6 (gb_trans g7 g8)
  have h1s := g1.size
  have h2s := g2.size
  have h3s := g3.size
  have h6s := g6.size
  have h7s := g7.size
  have h8s := g8.size
  have hws := hW.gb.size
  obtain ⟨d1, d2, d3⟩ := hl.low
  obtain ⟨t1, t2⟩ := ht.low
  have hw8 : OwC w8 wr.heap.size wv (bsX x) := ((hw.kept0 g2).kept g3 (fun k hk e => by
    have := hw.lt k hk
    have := Option.some.inj e
    omega)).kept0 G38
  have hwl : ∀ k, wv.ownBlock = some k → k < w1.heap.size := hw.lt
  have ha8 := ha.kept0 g8
  have al := ha8.low
  have bl := hb.low
  have G8 : w.grownBy w8 none := gb_trans (gb_mine (gb_trans hW.gb (gb_trans g1 g2)) g3 (by omega)) G38
  have nF : ∀ {v : Value} {l : Bs} {W : World}, v.ownBlock = none → True := fun _ => trivial
  refine ⟨fun W g => eq_35 (X := fun _ => False) (Y := fun _ => False) ((ha8.kept0 g).ck (fun _ _ h => h)) ((hw8.kept0 g).ck (fun _ _ h => h)), fun W g => eq_35 (X := fun _ => False) (Y := fun _ => False) ((hb.kept0 g).ck (fun _ _ h => h)) ((hw8.kept0 g).ck (fun _ _ h => h)), fun W g => ?_, fun W g => ?_⟩
  · have hG := gb_trans G38 g
    have hGw := gb_trans G8 g
    have hxk := hx.ok.kept hGw
    have hdb : By W x.dv x.d := by
      rcases hxk.d with (⟨h1, h2⟩ | ⟨g, o, c, h1, -, -, h4, -, h6⟩) | ⟨h1, a, c, h2⟩
      · exact .inl ⟨h1, _, _, h2⟩
      · exact .inr ⟨g, o, c, h1, by omega, h4, h6⟩
      · exact .inl ⟨h1, _, _, h2⟩
    have k1 := hx.ok.kn
    have k2 := hx.ok.mn
    exact same_16g x.c x.d x.lg _ _ _ _ _ _ (ht.kept0 hG).ws hxk.k (by omega) (hm.kept (gb_trans (gb_trans g7 g8) g)) hxk.m (by omega) ((hl.kept0 hG).by_ (by omega)) hdb
  · have hG := gb_trans G38 g
    have hks := hx.kn
    refine (back_36g (hl.kept0 hG) (ht.kept0 hG) (by simp; omega) (by simp; omega)).mono ?_
    rintro e w' ⟨rfl, -, hk⟩
    have aw := (ha8.kept0 g).kp hk (fun k h1 h2 => by have := al k h1; omega)
    have bw := (hb.kept0 g).kp hk (fun k h1 h2 => by have := bl k h1; omega)
    have ww := (hw8.kept0 g).kp hk (fun k h1 h2 => by have := hwl k h1; omega)
    obtain ⟨FB, hB, hlow, hgb⟩ := hW
    have GW : wr.grownBy W none := gb_trans (gb_trans (gb_mine (gb_trans g1 g2) g3 (by omega)) G38) g
    refine ⟨rfl, eq_35 (X := fun _ => False) (Y := fun _ => False) (aw.ck (fun _ _ h => h)) (ww.ck (fun _ _ h => h)), FB, (hB.kept0 GW).kept hk (fun k h1 h2 => by have := hB.lt k h1; omega), hlow, gb_of_kp (gb_trans G8 g) hk (fun k h => by omega), aw.wide (by omega), bw.wide (by omega), fun k h1 h2 => by have := hB.lt k h2; have := al k h1; omega, fun k h1 => ⟨fun h2 => by have := hB.lt k h2; have := bl k h1; omega, fun h2 => by have := ha.lt k h2; have := bl k h1; omega⟩⟩
theorem bytes_doc' {w : World} {x : CI} (h : CiOk w x) {en : Int} {L : Bs} (hen : (if mayX x then (0 : Int) else 7) = en) (hL : bsX x = L) : Calls Tryz.prog 31 #[.agg (ciL x).toArray] w fun e w' => w.grownBy w' none ∧ ∃ va vn vc, e = .returned (.tuple #[.slice va vn vc, .int .i64 en]) ∧ OwC w' w.heap.size (.slice va vn vc) L := by
  refine (bytes_doc h).mono ?_
  rintro e w' ⟨g, va, vn, vc, rfl, ho⟩
  exact ⟨g, va, vn, vc, by rw [hen], by rw [← hL]; exact ho⟩
theorem wbytes_doc' {w : World} (hE : Er w) (hp : Pw w) {x : CI} (h : CiOk w x) (hkn : x.c.keys.length ≤ 10000000) (hmn : x.c.mt.length ≤ 10000000) (hfl : ∀ f ∈ x.c.mt, f.arg.length ≤ 1099511627776) (hLn : ∀ i, i < 24 → (lnB i x.c x.d.length).length ≤ 1000000000) {en : Int} {L : Bs} (hen : (if mayX x then (0 : Int) else 7) = en) (hL : bsX x = L) :
    Calls Tryz.prog 33 #[.agg (ciL x).toArray] w fun e w' => w.grownBy w' none ∧ ∃ va vn vc, e = .returned (.tuple #[.slice va vn vc, .int .i64 en]) ∧ OwC w' w.heap.size (.slice va vn vc) L := by
  refine (wbytes_doc hE hp h hkn hmn hfl hLn).mono ?_
  rintro e w' ⟨g, va, vn, vc, rfl, ho⟩
  exact ⟨g, va, vn, vc, by rw [hen], by rw [← hL]; exact ho⟩
set_option maxRecDepth 100000 in
set_option maxHeartbeats 16000000 in
theorem wbytes_5 {w : World} (hE : Er w) (hp : Pw w) {ca : Option Addr} {cc : Nat} {cs : List CI} (hc : Cms w (.slice ca cs.length cc) cs) (hk : ∀ x ∈ cs, CbOk w x) :
    Calls Tryz.prog 5 #[.slice ca cs.length cc] w fun e w' => e = .returned (.bool true) ∧ w.grownBy w' none := by
  have hb0 : Box (w.alloc (.cells (bkA nilS nilS nilS nilS nilS nilS nilS nilS nilS nilS nilS 0) 31)) 31 w.heap.size (bkA nilS nilS nilS nilS nilS nilS nilS nilS nilS nilS nilS 0) := Box.new _ _ _
  have hW : Wb w (w.alloc (.cells (bkA nilS nilS nilS nilS nilS nilS nilS nilS nilS nilS nilS 0) 31)) 0 := ⟨_, BokC.new hb0, fun k hk => by omega, gb_alloc (gb_refl w none) _⟩
  have HW : Hid _ := hW
  have hlen := hc.len
  clear hb0 hW
  obtain ⟨N, hN⟩ : ∃ N, cs.length = N := ⟨_, rfl⟩
  rw [hN] at hlen ⊢
  have HC := Lib.hid hc
  have HK := Lib.hid hk
  have HN := Lib.hid hN
  clear hc hk hN
  go_enter Tryz.func5, Tryz.ntmps5
  go_wp2_with fail
  go_loopw [4] (fun v wr => ∃ i : Nat, i ≤ N ∧ i ≤ 100 ∧ v = .int .i64 (i : Int) ∧ ∃ K, K ≤ 2 * i ∧ Wb w wr K) (fun v _ => N - (intOf v).toNat)
  case atStart => exact ⟨0, by omega, by omega, rfl, 0, by omega, HW.out⟩
  case round =>
    clear HW
    obtain ⟨i, hi1, hi2, rfl, K, hKi, hW⟩ := hrel
    by_cases hlt : i < N ∧ i < 100
    · obtain ⟨x, hx⟩ : ∃ x, cs[i]? = some x := ⟨_, List.getElem?_eq_getElem (by rw [HN.out]; exact hlt.1)⟩
      have hxk := HK.out x (List.mem_of_getElem? hx)
      obtain ⟨g, o, c, e, hcell⟩ := HC.out.cell i x hx
      injection e with e1 _ e3
      subst e1
      subst e3
      have hcr := fun j u hu => gb_cellN hW.gb (hcell j u hu)
      have p6 : wr.cell? ⟨g, o + i * 11 + 6, none⟩ = some x.dv := hcr 6 _ rfl
      obtain ⟨da, dc, hdv⟩ := hxk.ok.dsl
      rw [hdv] at p6
      have d1 : decide ((i : Int) < (N : Int)) = true := by simp; omega
      have d2 : decide ((i : Int) < 100) = true := by simp; omega
      have hib : (i : Int) < (N : Int) := by omega
      have hw1 : IntKind.i64.wrap ((i : Int) + 1) = (i : Int) + 1 := by rw [IntKind.wrap_i64]; omega
      by_cases hd : x.d.length ≤ 65536
      · have d3 : decide ((65536 : Int) < (x.d.length : Int)) = false := by simp; omega
        obtain ⟨en, hen⟩ : ∃ en : Int, (if mayX x then (0 : Int) else 7) = en := ⟨_, rfl⟩
        obtain ⟨L, hL⟩ : ∃ L, bsX x = L := ⟨_, rfl⟩
        have hLl : L.length ≤ 1000000 := by have := bsX_len hd; rw [hL] at this; omega
        have h31 := bytes_doc' (hxk.ok.kept hW.gb) hen hL
        obtain ⟨ka, kn, kc, hkv⟩ := hxk.ok.k.shape
        obtain ⟨ma, mn, mc, hmv⟩ := hxk.ok.m.shape
        obtain ⟨xc, xd, xlg, xkv, xdv, xmv⟩ := x
        simp only at hdv hkv hmv hd d3
        subst hdv
        subst hkv
        subst hmv
        have HX := Lib.hid hxk
        have HCELL := Lib.hid hcell
        have HW := Lib.hid hW
        have HEN := Lib.hid hen
        have HL := Lib.hid hL
        clear hxk hcell hx hW hen hL
        go_upto_region 7 with (first
          | (refine atL 41 g (o + i * 11) rfl rfl ?_; go_must (refine loadC rfl _ rfl g (o + i * 11) rfl _ rfl hcr ?_))
          | (go_at_call 31; go_must (refine h31.mono ?_); rintro e w1 ⟨g1, va, vn, vc, rfl, hwant⟩; (have HWANT := Lib.hid hwant); clear hwant))
        clear h31 hcr p6 d3
        have G1 := gb_trans HW.out.gb g1
        have b2 := Box.new w1 68 #[.slice none 0 0, .slice none 0 0, .slice none 0 0, .slice none 0 0]
        have g2 := gb_alloc (gb_refl w1 none) (.cells #[.slice none 0 0, .slice none 0 0, .slice none 0 0, .slice none 0 0] 68)
        go_upto_region 8 with fail
        obtain ⟨lb, hlb⟩ : ∃ lb, w1.heap.size = lb := ⟨_, rfl⟩
        generalize hW2 : w1.alloc (.cells #[.slice none 0 0, .slice none 0 0, .slice none 0 0, .slice none 0 0] 68) = w2 at *
        have HLB := Lib.hid hlb
        rw [hlb] at b2 ⊢
        clear hW2 hlb
        have hcr := fun j u hu => gb_cellN (gb_trans G1 g2) (HCELL.out j u hu)
        have h32 := command_32 (lg := xlg) (ma := ma) (mn := mn) (mc := mc) g2 (by rw [HLB.out]; exact Nat.le_refl _) b2 (c := xc) (HX.out.ok.k.kept0 G1) (HX.out.bw.kept G1) (by omega) HX.out.kn
        go_upto_region 9 with (first
          | (refine atL 41 g (o + i * 11) rfl rfl ?_; go_must (refine loadC rfl _ rfl g (o + i * 11) rfl _ rfl hcr ?_))
          | (go_at_call 32; go_must (refine h32.mono ?_); rintro e w3 ⟨gk, ck, gd, cd, x2, x3, rfl, hl3, ht3, g3⟩; (have HLT := Lib.hid (And.intro hl3 ht3)); (clear hl3 ht3); (have z3 := Box.new w3 41 Z41))
          | (refine atS 41 w3.heap.size 0 rfl rfl ?_; go_must (refine storeT 41 11 size41 rfl _ _ rfl 41 w3.heap.size 0 _ z3 (by simp) rfl _ rfl rfl (by simp [Value.oneCell']) ?_); intro w4 b4 g4))
        rw [show sets Z41 0 (cmB xc (.slice (some ⟨gk, 0, none⟩) xc.keys.length ck) (.slice (some ⟨gd, 0, none⟩) xd.length cd) (.slice ma mn mc) xlg).toList = cmB xc (.slice (some ⟨gk, 0, none⟩) xc.keys.length ck) (.slice (some ⟨gd, 0, none⟩) xd.length cd) (.slice ma mn mc) xlg from sets_41 _ _ _ _ _ _ _ _ _ _ _ _ _ _ _ _ _ _ _ _ _ _] at b4
        have G34 : w3.grownBy w4 none := gb_mine (gb_alloc (gb_refl w3 none) _) g4 (Nat.le_refl _)
        clear h32 hcr z3 g4 b2
        have hlow := HLB.out
        have hs1 := G1.size
        have hs2 := g2.size
        have hs3 := g3.size
        have G3 : w.grownBy w3 none := gb_mine (gb_trans G1 g2) g3 (by omega)
        have G4 := gb_trans G3 G34
        obtain ⟨ib, hib0⟩ : ∃ ib, w3.heap.size = ib := ⟨_, rfl⟩
        rw [hib0] at b4 ⊢
        have HIB := Lib.hid hib0
        have hs4 := b4.lt
        clear hib0
        have gE := gb_alloc (gb_refl w4 none) (.cells #[] 79)
        have hF1 := (HX.out.fi.kept G4).kept gE
        have oe := own_empty w4
        have c9A : (w4.alloc (.cells #[] 79)).cell? ⟨g, o + i * 11 + 9, none⟩ = some (.slice ma mn mc) := gb_cellN (gb_trans G4 gE) (HCELL.out 9 _ rfl)
        have h0B : w4.heap.size ≤ (w4.alloc (.cells #[] 79)).heap.size := by simp
        have hmtn : (0 + xc.mt.length) * 32 ≤ 140737488355328 := by have := HX.out.mn; simp only at this; omega
        have b4' := b4.kept gE (by simp)
        go_upto_region 10 with (at_builtin; go_must (refine more79 rfl _ _ rfl w4.heap.size _ 0 [] (by rfl) oe _ xc.mt (by rfl) hF1 hmtn h0B ?_); rintro ml w5 hw5 hg5; (have b5 := b4'.kept hg5 (some_ne2 (Nat.ne_of_lt hs4))); (have m9 : w5.cell? ⟨ib, 9, none⟩ = some (.slice ma mn mc) := b5.cell 9); (have f9 := b5.fz 9); (have hg5 : w4.grownBy w5 none := gb_mine gE hg5 (Nat.le_refl _)); (rw [Nat.zero_add, List.nil_append] at hw5); (obtain ⟨mla, mlc, rfl, -⟩ := row_shape hw5))
        clear hF1 oe c9A h0B hmtn b4' b4 gE
        have b6 : Box (w5.setCell ⟨ib, 9, none⟩ (.slice mla xc.mt.length mlc)) 41 ib (cmB xc (.slice (some ⟨gk, 0, none⟩) xc.keys.length ck) (.slice (some ⟨gd, 0, none⟩) xd.length cd) (.slice mla xc.mt.length mlc) xlg) := b5.set 9 _
        have gs := gb_setCell (i := 9) (gb_refl w5 (some ib)) (.slice mla xc.mt.length mlc)
        have G36 : w3.grownBy (w5.setCell ⟨ib, 9, none⟩ (.slice mla xc.mt.length mlc)) none := gb_mine (gb_trans G34 hg5) gs (by rw [HIB.out]; exact Nat.le_refl _)
        have hmr : Fg (w5.setCell ⟨ib, 9, none⟩ (.slice mla xc.mt.length mlc)) (.slice mla xc.mt.length mlc) xc.mt := fg_row (row_kept hw5 gs (fun k hk e => by have := (row_ge hw5 hk).1; have := Option.some.inj e; omega))
        have HMR := Lib.hid hmr
        generalize hW6 : w5.setCell ⟨ib, 9, none⟩ (.slice mla xc.mt.length mlc) = w6 at *
        clear hW6 gs hw5 hg5 b5 hmr G34 G4
        have G6 := gb_trans G3 G36
        have hLT := HLT.out
        have hci : CiOk w6 ⟨xc, xd, xlg, .slice (some ⟨gk, 0, none⟩) xc.keys.length ck, .slice (some ⟨gd, 0, none⟩) xd.length cd, .slice mla xc.mt.length mlc⟩ := HX.out.ok.lent (hLT.2.kept0 G36).ws (hLT.1.kept0 G36).ck HMR.out
        have HCI := Lib.hid hci
        have hmn2 : xc.mt.length ≤ 10000000 := by have := HX.out.mn; simp only at this; omega
        have h33 := wbytes_doc' (hE.kept G6) (hp.kept G6) hci HX.out.kn hmn2 HX.out.fl HX.out.ln HEN.out HL.out
        clear hci hLT
        go_upto_region 11 with (first
          | (refine atL 41 ib 0 rfl rfl ?_; go_must (refine load41 rfl _ rfl 41 ib 0 _ b6 rfl (cmB xc (.slice (some ⟨gk, 0, none⟩) xc.keys.length ck) (.slice (some ⟨gd, 0, none⟩) xd.length cd) (.slice mla xc.mt.length mlc) xlg).toList rfl (fun j v hv => by simpa using hv) ?_))
          | (go_at_call 33; go_must (refine h33.mono ?_); rintro e w7 ⟨g7, aa, an, ac, rfl, ha⟩; (have HA := Lib.hid ha); clear ha))
        have b7 := b6.kept g7 (by simp)
        have G7 := gb_trans G6 g7
        have h33 := wbytes_doc' (hE.kept G7) (hp.kept G7) (HCI.out.kept g7) HX.out.kn hmn2 HX.out.fl HX.out.ln HEN.out HL.out
        clear b6
        go_upto_region 12 with (first
          | (refine atL 41 ib 0 rfl rfl ?_; go_must (refine load41 rfl _ rfl 41 ib 0 _ b7 rfl (cmB xc (.slice (some ⟨gk, 0, none⟩) xc.keys.length ck) (.slice (some ⟨gd, 0, none⟩) xd.length cd) (.slice mla xc.mt.length mlc) xlg).toList rfl (fun j v hv => by simpa using hv) ?_))
          | (go_at_call 33; go_must (refine h33.mono ?_); rintro e w8 ⟨g8, ba, bn, bc, rfl, hb⟩; (have HB := Lib.hid hb); clear hb))
        have b8' := b7.kept g8 (by simp)
        have h12 := B12.of (ib := ib) HW.out HX.out hd g1 (by rw [HL.out]; exact HWANT.out) g2 (by rw [HLB.out]; exact Nat.le_refl _) g3 HLT.out.1 HLT.out.2 G36 HMR.out g7 (by rw [HL.out]; exact HA.out) g8 (by rw [HL.out]; exact HB.out)
        have h12 := h12
        have hcr := fun j u hu => gb_cellN (gb_trans G7 g8) (HCELL.out j u hu)
        have H12 := Lib.hid h12
        clear h33 b7 h12 g1 g2 g3 G36 g7 g8 hs1 hs2 hs3 hs4 hlow G1 G3 G6 G7 hmn2 HMR HCI HA HB HWANT HLT HIB HLB HEN
        go_cut [107] from 66 to 107 (fun v wd => v = .bool false ∧ Af w wd K L (.slice aa an ac) (.slice ba bn bc))
        case first =>
          clear HX HCELL HW HC HK HN
          have q0 : w8.cell? ⟨ib, 0, none⟩ = some (.int .i64 xc.verb) := b8'.cell 0
          have q1 : w8.cell? ⟨ib, 1, none⟩ = some (.slice (some ⟨gk, 0, none⟩) xc.keys.length ck) := b8'.cell 1
          have q2 : w8.cell? ⟨ib, 2, none⟩ = some (.int .u64 xc.flags) := b8'.cell 2
          have q3 : w8.cell? ⟨ib, 3, none⟩ = some (.int .i64 xc.exp) := b8'.cell 3
          have q4 : w8.cell? ⟨ib, 4, none⟩ = some (.int .u64 xc.tok) := b8'.cell 4
          have q5 : w8.cell? ⟨ib, 5, none⟩ = some (.int .u64 xc.del) := b8'.cell 5
          have q6 : w8.cell? ⟨ib, 6, none⟩ = some (.slice (some ⟨gd, 0, none⟩) xd.length cd) := b8'.cell 6
          have q7 : w8.cell? ⟨ib, 7, none⟩ = some (.bool xc.nr) := b8'.cell 7
          have q8 : w8.cell? ⟨ib, 8, none⟩ = some (.bool xlg) := b8'.cell 8
          have q9 : w8.cell? ⟨ib, 9, none⟩ = some (.slice mla xc.mt.length mlc) := b8'.cell 9
          have q10 : w8.cell? ⟨ib, 10, none⟩ = some (sv xc.what) := b8'.cell 10
          have r0 : w8.cell? ⟨g, o + i * 11, none⟩ = some (.int .i64 xc.verb) := hcr 0 _ rfl
          have r1 : w8.cell? ⟨g, o + i * 11 + 1, none⟩ = some (.slice ka kn kc) := hcr 1 _ rfl
          have r2 : w8.cell? ⟨g, o + i * 11 + 2, none⟩ = some (.int .u64 xc.flags) := hcr 2 _ rfl
          have r3 : w8.cell? ⟨g, o + i * 11 + 3, none⟩ = some (.int .i64 xc.exp) := hcr 3 _ rfl
          have r4 : w8.cell? ⟨g, o + i * 11 + 4, none⟩ = some (.int .u64 xc.tok) := hcr 4 _ rfl
          have r5 : w8.cell? ⟨g, o + i * 11 + 5, none⟩ = some (.int .u64 xc.del) := hcr 5 _ rfl
          have r6 : w8.cell? ⟨g, o + i * 11 + 6, none⟩ = some (.slice da xd.length dc) := hcr 6 _ rfl
          have r7 : w8.cell? ⟨g, o + i * 11 + 7, none⟩ = some (.bool xc.nr) := hcr 7 _ rfl
          have r8 : w8.cell? ⟨g, o + i * 11 + 8, none⟩ = some (.bool xlg) := hcr 8 _ rfl
          have r9 : w8.cell? ⟨g, o + i * 11 + 9, none⟩ = some (.slice ma mn mc) := hcr 9 _ rfl
          have r10 : w8.cell? ⟨g, o + i * 11 + 10, none⟩ = some (sv xc.what) := hcr 10 _ rfl
          clear hcr b8'
          go_region_law (first
            | (go_simp; go_at_call 34; refine (num_4 en _).mono ?_; rintro y w9 ⟨rfl, rfl⟩)
            | (go_simp; go_at_call 35; refine (H12.out.e1 _ (by first | exact gb_drew (gb_refl _ _) | exact gb_refl _ _)).mono ?_; rintro y w9 ⟨rfl, rfl⟩)
            | (go_simp; go_at_call 35; refine (H12.out.e2 _ (by first | exact gb_drew (gb_refl _ _) | exact gb_refl _ _)).mono ?_; rintro y w9 ⟨rfl, rfl⟩)
            | (go_simp; go_at_call 16; refine (H12.out.s _ (by first | exact gb_drew (gb_refl _ _) | exact gb_refl _ _)).mono ?_; rintro y w10 ⟨rfl, g10⟩; have G10 : w8.grownBy w10 none := gb_trans (gb_drew (gb_refl _ _)) g10)
            | (go_simp; go_at_call 36; refine (H12.out.bk _ G10).mono ?_; rintro y w11 ⟨rfl, e11, a11⟩)
            | (go_simp; go_at_call 35; refine e11.mono ?_; rintro y w12 ⟨rfl, rfl⟩))
          all_goals
            go_wp2_with fail
            go_meet
            exact ⟨rfl, by rw [← HL.out]; exact a11⟩
        case rest =>
          obtain ⟨rfl, hAf⟩ := hcut
          clear hcr b8' H12
          have h20 := hAf.put hLl (by omega)
          clear hAf
          go_wp2_with fail
          refine h20.mono ?_
          rintro y w20 ⟨rfl, hAg⟩
          have h20b := hAg.put hLl (by omega)
          clear h20 hAg
          go_wp2_with fail
          refine h20b.mono ?_
          rintro y w21 ⟨rfl, hW'⟩
          clear h20b
          go_wp2_with fail
          exact ⟨⟨i + 1, by omega, by omega, by first | rfl | simp, K + 1 + 1, by omega, hW'⟩, by simp [intOf]; omega⟩
      · have d3 : decide ((65536 : Int) < (x.d.length : Int)) = true := by simp; omega
        have hd4 : (65536 : Int) < (x.d.length : Int) := by omega
        have HH := Lib.hid hW
        clear hxk hdv hcr hcell hx hW
        go_wp2_with fail
        exact ⟨⟨i + 1, by omega, by omega, by first | rfl | simp, K, by omega, HH.out⟩, by simp [intOf]; omega⟩
    · have h22 := hW.close (by omega)
      have h24 := fun W (h : w.grownBy W none) => wakes_5 (hE.kept h)
      clear hW HC HK HN
      rcases Nat.lt_or_ge i N with h1 | h1
      · have d1 : decide ((i : Int) < (N : Int)) = true := decide_eq_true (by omega)
        have d2 : decide ((i : Int) < 100) = false := decide_eq_false (by omega)
        go_wp2_with (first
          | (go_at_call 22; go_must ((with_reducible refine h22.mono ?_); rintro e w7 ⟨rfl, hg7⟩))
          | (go_at_call 24; go_must ((with_reducible refine (h24 _ hg7).mono ?_); rintro e w8 ⟨rfl, hg8⟩)))
        go_ret
        exact ⟨rfl, gb_trans hg7 hg8⟩
      · have d1 : decide ((i : Int) < (N : Int)) = false := decide_eq_false (by omega)
        go_wp2_with (first
          | (go_at_call 22; go_must ((with_reducible refine h22.mono ?_); rintro e w7 ⟨rfl, hg7⟩))
          | (go_at_call 24; go_must ((with_reducible refine (h24 _ hg7).mono ?_); rintro e w8 ⟨rfl, hg8⟩)))
        go_ret
        exact ⟨rfl, gb_trans hg7 hg8⟩
end Go.Proofs.YtobegepebochkaaGreatDoor
namespace Go.Proofs.YtobegepebochkaaGreatDoor
open Go.ChangeShapes Go.WideShapes Go.ChangeAt Go.RowKit
section
variable {H : Type} {enc : TypeId × Value → H} {P : Program} {w : World} {base : Nat} {spare : Nat → Bool} {held : Bool}
theorem one_of {cs : List Value} {o : Nat} {v : Value} (h : (cs.drop o).take 1 = [v]) : cs[o]? = some v := by
  have : ((cs.drop o).take 1)[0]? = some v := by rw [h]; rfl
  simpa using this
theorem field_int {fs : Array Field} {f : Field} {k : IntKind} {t : TypeId} {fuel : Nat} {cs : List Value} {x : DataW H × List MemPlace} (i : Nat) (ht : P.underlying t = some (.struct fs)) (h : DataW.trod enc P w base spare held fuel t cs = some x)
    (hf : fs[i]? = some f) (hk : P.underlying f.type = some (.int k)) (hc : P.cellsOf f.type = 1) : ∃ n, cs[f.offset]? = some (.int k n) ∧ (Lit.int k n).wf = true := by
  obtain ⟨xs, n, _, rfl, hl, hlen, hff⟩ := DataW.trod_struct ht h
  have := hff i f hf
  have hi : i < xs.length := by rw [hlen]; exact (Array.getElem?_eq_some_iff.1 hf).1
  rw [List.getElem?_eq_getElem hi] at this
  obtain ⟨m, h1, _, h3⟩ := DataW.trod_int hk this
  rw [hc] at h1
  exact ⟨m, one_of h1, h3⟩
end
theorem bounds_u8 {z : Int} (h : (Lit.int .u8 z).wf = true) : 0 ≤ z ∧ z ≤ 255 := by
  simp only [Lit.wf] at h
  revert h
  simp [IntKind.min, IntKind.max, IntKind.signed, IntKind.bits]
theorem bounds_i64 {z : Int} (h : (Lit.int .i64 z).wf = true) : -9223372036854775808 ≤ z ∧ z ≤ 9223372036854775807 := by
  simp only [Lit.wf] at h
  revert h
  simp [IntKind.min, IntKind.max, IntKind.signed, IntKind.bits]
section
variable {H : Type} {enc : TypeId × Value → H} {w : World} {base : Nat} {spare : Nat → Bool} {held : Bool}
end
end Go.Proofs.YtobegepebochkaaGreatDoor
namespace Go.Proofs.YtobegepebochkaaGreatDoor
open Go Go.RowKit Go.Shelf
theorem gES : Tryz.prog.globalNamed "strconv.ErrSyntax" = some 2 := by kernel_rfl
theorem gER : Tryz.prog.globalNamed "strconv.ErrRange" = some 3 := by kernel_rfl
theorem gEST : (Tryz.prog.globals[2]?).map (·.type) = some 201 := by kernel_rfl
theorem gERT : (Tryz.prog.globals[3]?).map (·.type) = some 201 := by kernel_rfl
theorem cellsErr : Tryz.prog.cellsOf 248 = 1 := by kernel_rfl
theorem cells9 : Tryz.prog.cellsOf 9 = 1 := by kernel_rfl
theorem rowErr (u : TypeId) (h : Tryz.prog.typeName? 3 u = Tryz.prog.typeName? 3 246) : u = 246 :=
  typeName_ptr_named (nm := "errors.errorString") (by kernel_rfl) (by kernel_rfl) (by decide) u (h.trans (by kernel_rfl))
end Go.Proofs.YtobegepebochkaaGreatDoor
namespace Go.Proofs.YtobegepebochkaaGreatDoor
open Go.ChangeShapes Go.WideShapes Go.ChangeAt Go.RowKit Go.Shelf
theorem weightsAll_mem {H : Type} {P : Program} {e : TypeId} : ∀ {l : List (DataW H)} {d : DataW H}, d ∈ l → ∀ n ∈ d.weights P e, n ∈ DataW.weightsAll P e l
  | x :: l, d, hd, n, hn => by
    simp only [DataW.weightsAll, List.mem_append]
    rcases List.mem_cons.1 hd with rfl | hd
    · exact Or.inl hn
    · exact Or.inr (weightsAll_mem hd n hn)
section
variable {H : Type} {enc : TypeId × Value → H} {P : Program} {w : World} {base : Nat} {spare : Nat → Bool} {held : Bool}
theorem field_bool {fs : Array Field} {f : Field} {t : TypeId} {fuel : Nat} {cs : List Value} {x : DataW H × List MemPlace} (i : Nat) (ht : P.underlying t = some (.struct fs)) (h : DataW.trod enc P w base spare held fuel t cs = some x)
    (hf : fs[i]? = some f) (hk : P.underlying f.type = some .bool) (hc : P.cellsOf f.type = 1) : ∃ b, cs[f.offset]? = some (.bool b) := by
  obtain ⟨xs, n, _, rfl, hl, hlen, hff⟩ := DataW.trod_struct ht h
  have := hff i f hf
  have hi : i < xs.length := by rw [hlen]; exact (Array.getElem?_eq_some_iff.1 hf).1
  rw [List.getElem?_eq_getElem hi] at this
  obtain ⟨m, h1, _⟩ := DataW.trod_bool hk this
  rw [hc] at h1
  exact ⟨m, one_of h1⟩
theorem each_mem {fs : Array Field} {f : Field} {t : TypeId} {xs : List (DataW H × List MemPlace)} {i : Nat} (ht : P.underlying t = some (.struct fs)) (hf : fs[i]? = some f) (hi : i < xs.length) {k : Nat} (hk : k ∈ (xs[i].1).weights P f.type) : k ∈ (DataW.agg (xs.map (·.1))).weights P t := by
  simp only [DataW.weights, ht]
  refine DataW.weights_mem_each (j := i) (t := f.type) (d := xs[i].1) ?_ ?_ k hk
  · simp [hf]
  · simp [hi]
theorem plain_of {a : Addr} {v : Value} (h : w.cell? (a.add 0) = some v) : ∃ b o, a = ⟨b, o, none⟩ := by
  have := World.cell?_spot h
  obtain ⟨b, o, s⟩ := a
  refine ⟨b, o, ?_⟩
  simp [Addr.add] at this
  rw [this]
end
theorem cells79 : Tryz.prog.cellsOf 79 = 3 := by kernel_rfl
theorem bytes79 : Tryz.prog.bytesOf 79 = 32 := by kernel_rfl
section
variable {H : Type} {enc : TypeId × Value → H} {w : World} {base : Nat} {spare : Nat → Bool} {held : Bool}
end
end Go.Proofs.YtobegepebochkaaGreatDoor

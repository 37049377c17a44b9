import Derived.Deep.LoopGhost
import Derived.Deep.CutRange
import Derived.Test.YtobegepebochkaaGreatDoorSPbr
import Derived.Test.YtobegepebochkaaGreatDoorSPbt
import Derived.Test.YtobegepebochkaaGreatDoorSPbw
import Derived.Test.YtobegepebochkaaGreatDoorSPbx
import Derived.WalkKit
import Derived.ProofKit
import Derived.OpenShut
import Derived.Below
import Derived.Deep.Slices
import Derived.SizedLaws
import Derived.Deep.MidRow
import Derived.Test.YtobegepebochkaaGreatDoorRows
import Derived.Test.YtobegepebochkaaGreatDoorSTv
import Derived.Lib.SlBytesConst
import Derived.Maps.RangeRun
import Derived.Shelf.Strings.OnBuilder
import Derived.Lib.ConvBytes
import Derived.Test.YtobegepebochkaaGreatDoorSPay
import Derived.Test.YtobegepebochkaaGreatDoorSPaa
import Derived.Test.YtobegepebochkaaGreatDoorSPaw
import Derived.Stop.LaidErr
import Derived.MakeChecks
import Derived.Test.YtobegepebochkaaGreatDoorSD
set_option linter.unusedVariables false
set_option linter.unusedSimpArgs false
namespace Go.Proofs.YtobegepebochkaaGreatDoor
open Go.RowKit Go.Maps
attribute [local go_sem] Oper.semAt_some
theorem OwC.oth {w w' : World} {B : Nat} {v : Value} {l : Bs} {row : Option Nat} (h : OwC w B v l) (hf : w.grownBy w' row) (hr : ∀ j, row = some j → Oth w j) : OwC w' B v l := by
  refine h.kept hf (fun k hk e => ?_)
  obtain ⟨c, t, fr, h1, -, h3, -⟩ := hr k e.symm
  rcases h with ⟨rfl, -⟩ | ⟨g, cap, cur, fz, rfl, -, hg, -⟩
  · cases hk
  · have e2 : g = k := by simpa [Value.ownBlock] using hk
    subst e2
    rw [h1] at hg
    injection hg with hg
    injection hg with _ hg
    exact h3 hg
theorem row86_5 {w w' : World} {B B' n m : Nat} {v u : Value} {xs ys : List Value} (h : w.ownsRow B 86 16 v n xs) (k : w.ownsRow B' 5 1 u m ys) (hf : w.grownBy w' u.ownBlock) : w'.ownsRow B 86 16 v n xs :=
  row_kept h hf (fun j hj e => by
    obtain ⟨c1, h1⟩ := row_block h j hj
    obtain ⟨c2, h2⟩ := row_block k j e.symm
    rw [h1] at h2
    injection h2 with h2
    injection h2 with _ h2
    exact absurd h2 (by decide))
set_option maxRecDepth 100000 in
set_option maxHeartbeats 8000000 in
theorem lback_9 {w : World} (hE : Er w) {ca ta : Option Addr} {cc tc : Nat} {cs : List CI} {cu : List Int} (hc : Cms w (.slice ca cs.length cc) cs) (hu : Ci w (.slice ta cu.length tc) cu) (hcl : cu.length ≤ 9223372036854775807) :
    Calls Tryz.prog 9 #[.slice ca cs.length cc, .slice ta cu.length tc] w fun e w' => e = .returned (.bool true) ∧ w.grownBy w' none := by
  have hlen := hc.len
  obtain ⟨N, hN⟩ : ∃ N, cs.length = N := ⟨_, rfl⟩
  have hst := LbI.start w cs
  rw [hN] at hlen ⊢
  have HC := Lib.hid hc
  have HU := Lib.hid hu
  have HN := Lib.hid hN
  clear hc hu hN
  go_enter Tryz.func9, Tryz.ntmps9
  go_wp2_with fail
  go_loopw [5, 6, 7] (fun x5 x6 x7 wr => ∃ (k : Nat) (raw : Bs) (q : List Tld), k ≤ N ∧ k ≤ 60 ∧ x7 = .int .i64 (k : Int) ∧ LbI w cs k raw q x5 x6 wr) (fun _ _ x7 _ => N - (intOf x7).toNat)
  case atStart => exact ⟨0, [], [], by omega, by omega, rfl, hst⟩
  case round =>
    clear hst
    obtain ⟨k, raw, q, hk1, hk2, rfl, hI⟩ := hrel
    obtain ⟨ra, rc, erv, -, -, -, -⟩ := row_shape hI.row
    obtain ⟨qa, qc, eqv, -, -, -, -⟩ := row_shape hI.wnt
    subst erv
    subst eqv
    go_upto_region 4 with fail
    obtain ⟨B, hB⟩ : ∃ b, (decide (k < N) && decide (k < 60)) = b := ⟨_, rfl⟩
    go_cut [21] from 14 to 21 (fun x wd => x = .bool B ∧ wd = wr)
    case first =>
      obtain ⟨b1, hb1⟩ : ∃ b, decide ((k : Int) < (N : Int)) = b := ⟨_, rfl⟩
      obtain ⟨b2, hb2⟩ : ∃ b, decide ((k : Int) < 60) = b := ⟨_, rfl⟩
      have e1 : decide (k < N) = b1 := by rw [← hb1]; exact decide_eq_decide.2 (by omega)
      have e2 : decide (k < 60) = b2 := by rw [← hb2]; exact decide_eq_decide.2 (by omega)
      rw [e1, e2] at hB
      have HB := Lib.hid hB
      clear hB
      cases b1 <;> cases b2 <;>
        (go_wp2_with fail
         go_meet
         exact ⟨by rw [← HB.out]; rfl, rfl⟩)
    case rest =>
      obtain ⟨rfl, hwc⟩ := hcut
      have hwc' := hwc.symm
      subst hwc'
      clear hwc
      cases B with
      | false =>
        go_upto_region 10 with fail
        generalize wr = w0 at *
        have w3sz : 3 < w.heap.size := by
          obtain ⟨-, c, d, e2⟩ := hE
          exact lt_of_cell e2
        have h41 := new_41 w0 500 (by omega) (by omega)
        have hw0 : w.heap.size ≤ w0.heap.size := hI.gb.size
        obtain ⟨fb, hfb⟩ : ∃ fb, w0.heap.size = fb := ⟨_, rfl⟩
        rw [hfb] at h41
        have HFB := Lib.hid hfb
        have HI := Lib.hid hI
        have HB := Lib.hid hB
        clear hfb hI hB
        go_upto_region 14 with (go_at_call 41; go_must ((with_reducible refine h41.mono ?_); rintro e w1 ⟨rfl, i1, g1⟩))
        have row1 := row_kept HI.out.row g1 (fun _ _ e => by cases e)
        have ck1 : Ck w1 (fun _ => False) (.slice ra raw.length rc) raw := ck_own row1 (fun _ _ h => h)
        have hrl := HI.out.rl
        have h49 := pieces_49 ck1 (HU.out.kept (gb_trans HI.out.gb g1)) (by omega) hcl
        have hflat : (pcs raw cu).flatten = raw := pcsF_flat _ _ _
        have hpl : (pcs raw cu).length ≤ 401 := pcsF_len _ _ _
        generalize pcs raw cu = ps at h49 hflat hpl
        clear h41 row1 ck1
        go_upto_region 16 with (go_at_call 49; go_must ((with_reducible refine h49.mono ?_); rintro e w3 ⟨pv, vs, rfl, pr, pp, g3⟩; (obtain ⟨pa, pc, rfl, -, -, -, -⟩ := row_shape pr)))
        have hw1 := g1.size
        have hw3 := g3.size
        have hfb1 : fb < w1.heap.size := by
          obtain ⟨_, _, _, _, _, hx, -, -⟩ := i1
          exact hx.box.lt
        have hfb0 : w.heap.size ≤ fb := by rw [← HFB.out]; exact hw0
        have gW3 := gb_trans g1 g3
        have hE3 : Er w3 := hE.kept (gb_trans HI.out.gb gW3)
        have hI0 : LfI w3 fb 500 ps 0 (fd0 500) (.slice none 0 0) (.slice none 0 0) [] w3 :=
          ⟨Nat.zero_le _, i1.kept0 g3, fun j hj => by simp [Value.ownBlock] at hj, fd0_ok (by omega), rfl, Ss.nil _ _ _, Kp.refl _ _, hE3⟩
        have hfl : ps.flatten.length ≤ 14600 := by rw [hflat]; exact hrl
        have hfin : ∀ F kv rv q2 (W : World), LfI w3 fb 500 ps ps.length F kv rv q2 W → LbE w raw q fb (.slice qa q.length qc) rv q2 kv W :=
          fun F kv rv q2 W h => LbE.of HI.out gW3 (by rw [HFB.out]; exact Nat.le_refl _) hflat h
        have HFIN := Lib.hid hfin
        have HFLAT := Lib.hid hflat
        clear h49 i1 g1 gW3 hE3 hfin hflat HI HFB HU HC HN HB hE
        obtain ⟨Bp, hBp⟩ : ∃ Bp, w1.heap.size = Bp := ⟨_, rfl⟩
        rw [hBp] at pr pp hfb1 hw3
        clear hBp hw1 g3
        go_loopg [11, 13] ps.length (fun gk x11 x13 wv => ∃ k2 F kv q2, gk + k2 = ps.length ∧ x13 = .int .i64 ((k2 : Nat) : Int) ∧ LfI w3 fb 500 ps k2 F kv x11 q2 wv)
        case atStart => exact ⟨0, fd0 500, _, _, rfl, rfl, hI0⟩
        case round =>
          clear hI0
          obtain ⟨k2, F, kv, q2, hgk, rfl, hJ⟩ := hrel
          obtain ⟨ra2, rc2, erv, -, -, -, -⟩ := row_shape hJ.ss.row
          subst erv
          by_cases hk2e : k2 = ps.length
          · have hd : decide (k2 < ps.length) = false := decide_eq_false (by omega)
            have hL : LbE w raw q fb (.slice qa q.length qc) (.slice ra2 q2.length rc2) q2 kv wr := by
              subst hk2e
              exact HFIN.out _ _ _ _ _ hJ
            have h28 := samesteps_28g hL.got hL.wnt hL.s
            have HL := Lib.hid hL
            clear hJ HFIN hk2e hgk hL
            go_upto_region 19 with fail
            have hwk := fun (W : World) (hW : wr.grownBy W none) => wakes_48 (HL.out.er.kept hW)
            have hfx : ∀ W : World, wr.grownBy W none → FX 0 W fb (fl 500 raw.length) := fun W hW => ⟨kv, HL.out.isf.kept0 hW, fun _ _ => Nat.zero_le _⟩
            have hkd := fun (W : World) (hW : wr.grownBy W none) => (hfx W hW).held
            have htn := fun (W : World) (hW : wr.grownBy W none) => (hfx W hW).taken
            have hed := fun (W : World) (hW : wr.grownBy W none) => (hfx W hW).ended
            simp only [show (fl 500 raw.length).kept.length = 0 from rfl, show (fl 500 raw.length).taken = raw.length from rfl, show (fl 500 raw.length).ended = false from rfl] at hkd htn hed
            clear hfx
            go_wp2_with (first
              | (go_at_call 28; go_must ((with_reducible refine h28.mono ?_); rintro e w8 ⟨rfl, g8⟩))
              | (go_at_call 50; go_must ((with_reducible refine (hkd _ g8).mono ?_); rintro e w9 ⟨rfl, rfl⟩))
              | (go_at_call 51; go_must ((with_reducible refine (hed _ g8).mono ?_); rintro e w9 ⟨rfl, rfl⟩))
              | (go_at_call 52; go_must ((with_reducible refine (htn _ g8).mono ?_); rintro e w9 ⟨rfl, rfl⟩))
              | (go_at_call 48; go_must ((with_reducible refine (hwk _ g8).mono ?_); rintro e w9 ⟨rfl, g9⟩)))
            go_ret
            exact ⟨rfl, gb_trans HL.out.gb (gb_trans g8 g9)⟩
          · have hkl : k2 < ps.length := by have := hJ.hk; omega
            obtain ⟨p, hp⟩ : ∃ p, ps[k2]? = some p := ⟨_, List.getElem?_eq_getElem hkl⟩
            obtain ⟨x, hx⟩ : ∃ x, vs[k2]? = some x := ⟨_, List.getElem?_eq_getElem (by rw [pp.1]; exact hkl)⟩
            have prow := pp.2 k2 p x hp hx
            obtain ⟨xa, xc, rfl, -, -, -, -⟩ := row_shape prow
            obtain ⟨pa2, pc2, epv, -, -, -, hpg⟩ := row_shape pr
            obtain ⟨pg, hpg⟩ := hpg (by omega)
            injection epv with epv _ epc
            rw [hpg] at epv
            subst epv
            clear hpg epc
            have hpgl := World.ownsRow.lt pr pg rfl
            have hbk : ∀ j, Bp ≤ j → j < w3.heap.size → ¬ (j = fb ∨ w3.heap.size ≤ j) := by
              rintro j h1 h2 (e | e) <;> omega
            have hpx : ∀ j, (Value.slice xa p.length xc).ownBlock = some j → ¬ (j = fb ∨ w3.heap.size ≤ j) := fun j hj => hbk j (World.ownsRow.lt prow j hj).1 (row_lt prow j hj)
            have cellr : ∀ {wr' : World}, Kp (fun j => j = fb ∨ w3.heap.size ≤ j) w3 wr' → wr'.cell? ⟨pg, k2, none⟩ = some (.slice xa p.length xc) := by
              intro wr' hkp
              have := hkp.block pg hpgl.2 (hbk pg hpgl.1 hpgl.2)
              simpa [World.cell?, this] using row_cell pr k2 _ hx
            have d0 := cellr hJ.kp
            have hXw : ∀ j, XF fb kv j → j = fb ∨ w3.heap.size ≤ j := by
              rintro j (e | e)
              · exact .inl e
              · exact .inr (hJ.kvB j e)
            have hck : Ck wr (XF fb kv) (.slice xa p.length xc) p := ck_own (row_kp prow hJ.kp hpx) (fun j hj hxj => hpx j hj (by rcases hXw j hxj with e | e <;> omega))
            have htk := hJ.tk
            have hfl2 := flat_le ps (k2 + 1)
            have hTl : ((ps.take (k2 + 1)).flatten).length = F.taken + p.length := by rw [flat_take hp, List.length_append, htk]
            have hX2 : ∀ n, n ≤ 3 → ¬ XF fb kv n := by
              intro n hn hx2
              rcases hXw n hx2 with e | e <;> omega
            have hfeed := feed_45 hJ.isf hJ.ok hck (by omega) (by omega) hJ.er ⟨hX2 2 (by omega), hX2 3 (by omega)⟩ (read_136 fb)
            obtain ⟨_, _, _, _, _, hx0, -, -⟩ := id hJ.isf
            have hrx := row_xf hJ.ss.row (by decide) hx0
            have hqb := hJ.ql
            have hq2 := run_len p F
            have hpl3 : p.length ≤ 14600 := by omega
            have hnx := fun {w4 w5 kv' rv2 v' q3} => LfI.next (w4 := w4) (w5 := w5) (kv' := kv') (rv2 := rv2) (v' := v') (q2 := q3) hJ ⟨by omega, by omega⟩ hp
            have hd : decide (k2 < ps.length) = true := decide_eq_true hkl
            have u5 : IntKind.i64.wrap ((k2 : Int) + 1) = (k2 : Int) + 1 := by rw [IntKind.wrap_i64]; omega
            have hgk1 : gk - 1 < gk := by omega
            have hgk2 : gk - 1 + (k2 + 1) = ps.length := by omega
            have ss0 := hJ.ss.row
            have hw3r : w3.heap.size ≤ wr.heap.size := hJ.kp.size
            obtain ⟨F', hF'⟩ : ∃ F', F.run p = F' := ⟨_, rfl⟩
            rw [hF'] at hq2
            simp only [hF'] at hnx
            have A3 := Lib.hid hF'
            clear hck hJ HFIN hk2e hgk prow pp pr hpx hp hx hF' hTl htk hfl2 hx0 hX2 hbk cellr
            unfold FdP at hfeed
            rw [A3.out] at hfeed
            go_wp2_with (first | (go_at_call 45; go_must ((with_reducible refine hfeed.mono ?_); rintro e w4 ⟨rv2, kv', q3, rfl, i4, s4, e4, k4, o4, -⟩; (obtain ⟨la, lc, rfl, -, -, -, -⟩ := row_shape s4.row); (have row4 := row_kp ss0 k4 hrx); (have one4 := one_all s4.all); (have hq3 : q3.length ≤ p.length := by (have := congrArg List.length e4; simp at this; omega)); (have hw34 : w3.heap.size ≤ w4.heap.size := Nat.le_trans hw3r k4.size))) | (at_builtin; go_must (refine more86 rfl _ _ rfl w3.heap.size _ q2.length _ (by rfl) row4 _ _ q3.length _ (by rfl) s4.row one4 (by omega) hw34 ?_); intro v' w5 r5 g5; (obtain ⟨va, vc, rfl, -, -, -, -⟩ := row_shape r5)))
            have hNx := hnx i4 s4 e4 k4 o4 r5 g5
            go_roundg (gk - 1)
            case measure => exact hgk1
            case rel => exact ⟨k2 + 1, F'.1, kv', _, hgk2, by simp, hNx⟩
      | true =>
        have hkN : k < N := by simp at hB; omega
        have hk60 : k < 60 := by simp at hB; omega
        clear hB
        obtain ⟨x, hx⟩ : ∃ x, cs[k]? = some x := ⟨_, List.getElem?_eq_getElem (by rw [HN.out]; exact hkN)⟩
        have hok := HC.out.ok x (List.mem_of_getElem? hx)
        obtain ⟨g, o, c, e, hcell⟩ := HC.out.cell k x hx
        injection e with e1 _ e3
        subst e1
        subst e3
        have hcr := fun j u hu => gb_cellN hI.gb (hcell j u hu)
        have h31 := bytes_any (hok.kept hI.gb)
        have HOK := Lib.hid hok
        have HI := Lib.hid hI
        have HX := Lib.hid hx
        have HCELL := Lib.hid hcell
        clear hok hI hx hcell
        obtain ⟨da, dc, hdv⟩ := HOK.out.dsl
        obtain ⟨xc, xd, xlg, xkv, xdv, xmv⟩ := x
        simp only at hdv
        subst hdv
        go_upto_region 7 with (first
          | (refine atL 41 g (o + k * 11) rfl rfl ?_; go_must (refine loadC rfl _ rfl g (o + k * 11) rfl _ rfl hcr ?_))
          | (go_at_call 31; go_must (refine h31.mono ?_); rintro e w2 ⟨g2, va, vn, vc, en, rfl, hres⟩; have HRES := Lib.hid hres; clear hres))
        have p0 := gb_cellN g2 (hcr 0 _ rfl)
        have p6 := gb_cellN g2 (hcr 6 _ rfl)
        rw [Nat.add_zero] at p0
        obtain ⟨T, hT⟩ : ∃ T, (((decide (en ≠ 0) || decide (500 < xd.length)) || decide (12000 < raw.length)) || decide (xc.verb = 18)) = T := ⟨_, rfl⟩
        refine lb_r7 hkN hlen p0 p6 hT ?_
        intro u32 u33 u34 u35 u36 u37 u38 u39 u40 u41 u42 u43 u44 u45 u46 u47 u48 u49 u50 u51 u52 u53 u54 u55 h55
        subst h55
        have HT := Lib.hid hT
        clear hT p0 p6
        have hw1 : IntKind.i64.wrap ((k : Int) + 1) = (k : Int) + 1 := by rw [IntKind.wrap_i64]; omega
        cases T with
        | true =>
          go_wp2_with fail
          exact ⟨⟨k + 1, raw, q, by omega, by omega, by first | rfl | simp, HI.out.skip ⟨by rw [HN.out]; exact hkN, hk60⟩ g2⟩, by simp [intOf]; omega⟩
        | false =>
          have hT := HT.out
          simp only [Bool.or_eq_false_iff, decide_eq_false_iff_not, Classical.not_not] at hT
          obtain ⟨⟨⟨he, hd5⟩, hr12⟩, h17⟩ := hT
          subst he
          obtain ⟨i, hm, hvn, ho⟩ : ∃ i, CiMay ⟨xc, xd, xlg, xkv, .slice da xd.length dc, xmv⟩ i ∧ vn = (bsB i xc xd).length ∧ OwC w2 wr.heap.size (.slice va vn vc) (bsB i xc xd) := by
            rcases HRES.out with h | ⟨-, h⟩
            · cases h
            · exact h
          have hlg : xlg = false := hm.lg
          subst hlg
          have hbl := bsB_len hm (by show xd.length ≤ 500; omega)
          have row2 := row_kept HI.out.wnt g2 (fun _ _ e => by cases e)
          have rw2 := row_kept HI.out.row g2 (fun _ _ e => by cases e)
          have hcr2 := fun j u hu => gb_cellN g2 (hcr j u hu)
          obtain ⟨ka, kn, kc, hkv⟩ := HOK.out.k.shape
          obtain ⟨ma, mn, mc, hmv⟩ := HOK.out.m.shape
          simp only at hkv hmv
          subst hkv
          subst hmv
          have hwr : w.heap.size ≤ w2.heap.size := Nat.le_trans HI.out.gb.size g2.size
          have hw2 : IntKind.i64.wrap ((raw.length : Int) + (vn : Int)) = ((raw.length + vn : Nat) : Int) := by
            have h5 : (bsB i xc xd).length ≤ 2554 := hbl
            rw [IntKind.wrap_i64]; omega
          have hql := HI.out.ql
          have HVN := Lib.hid hvn
          have HO := Lib.hid ho
          clear hvn ho hcr h31 HT HRES
          go_upto_region 9 with (first
            | (refine atL 41 g (o + k * 11) rfl rfl ?_; go_must (refine loadC rfl _ rfl g (o + k * 11) rfl _ rfl hcr2 ?_))
            | (at_builtin; go_must (refine push86 rfl _ _ rfl w.heap.size _ q.length _ (by rfl) row2 (tldL (wTld ⟨xc, xd, false, .slice ka kn kc, .slice da xd.length dc, .slice ma mn mc⟩ raw.length (raw.length + vn))) rfl (by simp [Value.oneCell']) (by rfl) (by omega) hwr ?_); intro g6 c6 w3 r6 g3 o3))
          have hoth := oth_row row2
          have rw3 := row_oth rw2 (.inl rfl) g3 hoth
          have ho3 := HO.out.oth g3 hoth
          have ck3 := ho3.ck (X := fun _ => False) (fun _ _ h => h)
          have hb5 : (bsB i xc xd).length ≤ 2554 := hbl
          have hw3 : w.heap.size ≤ w3.heap.size := Nat.le_trans hwr g3.size
          have G3 : w.grownBy w3 none := gb_far (gb_trans HI.out.gb g2) g3 (B := w.heap.size) (fun j hj => (World.ownsRow.lt row2 j hj).1) (Nat.le_refl _)
          clear row2 rw2 hcr2 hoth ho3 hbl
          go_wp2_with (at_builtin; go_must (refine moreC rfl _ _ rfl w.heap.size _ raw.length _ (by rfl) rw3 (fun _ => False) _ (bsB i xc xd) (by rfl) ck3 (by omega) hw3 ?_); intro v5 w4 r5 g4)
          have G4 : w.grownBy w4 none := gb_far G3 g4 (B := w.heap.size) (fun j hj => (World.ownsRow.lt rw3 j hj).1) (Nat.le_refl _)
          have r6' := row86_5 r6 rw3 g4
          rw [HVN.out] at r6'
          have hnx := HI.out.take ⟨by rw [HN.out]; exact hkN, hk60⟩ HOK.out hm h17 (by show xd.length ≤ 500; omega) (by omega) r5 r6' G4
          exact ⟨⟨k + 1, _, _, by omega, by omega, by first | rfl | simp, hnx⟩, by simp [intOf]; omega⟩
end Go.Proofs.YtobegepebochkaaGreatDoor
namespace Go.Proofs.YtobegepebochkaaGreatDoor
open Go.ChangeShapes Go.WideShapes Go.ChangeAt Go.RowKit
section
variable {H : Type} {enc : TypeId × Value → H} {P : Program} {w : World} {base : Nat} {spare : Nat → Bool} {held : Bool}
theorem one_of {cs : List Value} {o : Nat} {v : Value} (h : (cs.drop o).take 1 = [v]) : cs[o]? = some v := by
  have : ((cs.drop o).take 1)[0]? = some v := by rw [h]; rfl
  simpa using this
theorem field_int {fs : Array Field} {f : Field} {k : IntKind} {t : TypeId} {fuel : Nat} {cs : List Value} {x : DataW H × List MemPlace} (i : Nat) (ht : P.underlying t = some (.struct fs)) (h : DataW.trod enc P w base spare held fuel t cs = some x)
    (hf : fs[i]? = some f) (hk : P.underlying f.type = some (.int k)) (hc : P.cellsOf f.type = 1) : ∃ n, cs[f.offset]? = some (.int k n) ∧ (Lit.int k n).wf = true := by
  obtain ⟨xs, n, _, rfl, hl, hlen, hff⟩ := DataW.trod_struct ht h
  have := hff i f hf
  have hi : i < xs.length := by rw [hlen]; exact (Array.getElem?_eq_some_iff.1 hf).1
  rw [List.getElem?_eq_getElem hi] at this
  obtain ⟨m, h1, _, h3⟩ := DataW.trod_int hk this
  rw [hc] at h1
  exact ⟨m, one_of h1, h3⟩
end
theorem bounds_u8 {z : Int} (h : (Lit.int .u8 z).wf = true) : 0 ≤ z ∧ z ≤ 255 := by
  simp only [Lit.wf] at h
  revert h
  simp [IntKind.min, IntKind.max, IntKind.signed, IntKind.bits]
theorem bounds_i64 {z : Int} (h : (Lit.int .i64 z).wf = true) : -9223372036854775808 ≤ z ∧ z ≤ 9223372036854775807 := by
  simp only [Lit.wf] at h
  revert h
  simp [IntKind.min, IntKind.max, IntKind.signed, IntKind.bits]
section
variable {H : Type} {enc : TypeId × Value → H} {w : World} {base : Nat} {spare : Nat → Bool} {held : Bool}
end
end Go.Proofs.YtobegepebochkaaGreatDoor
namespace Go.Proofs.YtobegepebochkaaGreatDoor
open Go.RowKit Go.Shelf
abbrev c1 : Cmd := ⟨5, [[97]], 5, 0, 0, 0, false, [], []⟩
abbrev c3 : Cmd := ⟨1, [[97], [98]], 0, 0, 0, 0, false, [], []⟩
end Go.Proofs.YtobegepebochkaaGreatDoor
namespace Go.Proofs.YtobegepebochkaaGreatDoor
open Go Go.RowKit Go.Shelf
theorem gES : Tryz.prog.globalNamed "strconv.ErrSyntax" = some 2 := by kernel_rfl
theorem gER : Tryz.prog.globalNamed "strconv.ErrRange" = some 3 := by kernel_rfl
theorem gEST : (Tryz.prog.globals[2]?).map (·.type) = some 201 := by kernel_rfl
theorem gERT : (Tryz.prog.globals[3]?).map (·.type) = some 201 := by kernel_rfl
theorem cellsErr : Tryz.prog.cellsOf 248 = 1 := by kernel_rfl
theorem cells9 : Tryz.prog.cellsOf 9 = 1 := by kernel_rfl
theorem rowErr (u : TypeId) (h : Tryz.prog.typeName? 3 u = Tryz.prog.typeName? 3 246) : u = 246 :=
  typeName_ptr_named (nm := "errors.errorString") (by kernel_rfl) (by kernel_rfl) (by decide) u (h.trans (by kernel_rfl))
end Go.Proofs.YtobegepebochkaaGreatDoor

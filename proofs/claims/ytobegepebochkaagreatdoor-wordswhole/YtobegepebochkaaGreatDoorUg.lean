import Derived.Test.YtobegepebochkaaGreatDoorZj
import Derived.Test.YtobegepebochkaaGreatDoorZt
import Derived.Deep.LoopGhost
import Derived.Deep.CutRange
/-
  fed.
-/
namespace Go.Proofs.YtobegepebochkaaGreatDoor
open Go.RowKit Go.Maps
set_option linter.unusedVariables false
set_option linter.unusedSimpArgs false

/-- What fed gives. -/
structure FedR (w : World) (lim : Int) (raw : Bs) (fb hb : Nat) (rv : Value) (q : List Tld) (hs : List Int) (F : Fd) (kv : Value) (w' : World) : Prop where
  run : (fd0 lim).run raw = (F, q.map Tld.s)
  isf : IsF w' fb F kv
  ss : Ss w' w.heap.size (XF fb kv) rv q
  hbx : Box w' 3 hb (hs.map (Value.int .i64)).toArray
  hl : hs.length = raw.length + 1
  hsp : ∀ i h, hs[i]? = some h → h = -1 ∨ h = (((fd0 lim).run (raw.take i)).1.kept.length : Int)
  gb : w.grownBy w' none
  er : Er w'
set_option maxRecDepth 100000 in
set_option maxHeartbeats 4000000 in
theorem fed_53 {w : World} (hE : Er w) {ra oa ca ta : Option Addr} {rc on oc cn cc tc : Nat} {lim : Int} (hm1 : lim ≤ 9223372036854775807) (hm2 : -9223372036854775808 ≤ lim) {raw : Bs} {cs : List Int} (hr : Ck w (fun _ => False) (.slice ra raw.length rc) raw) (hlen : raw.length ≤ 12000) (hc : Ci w (.slice ta cs.length tc) cs) (hcl : cs.length ≤ 9223372036854775807) :
    Calls Tryz.prog 53 #[.agg #[.slice ra raw.length rc, .int .i64 lim, .slice oa on oc, .slice ca cn cc], .slice ta cs.length tc] w fun e w' => ∃ fb hb rv q hs F kv, e = .returned (.tuple #[.pointer (some ⟨fb, 0, none⟩), rv, .slice (some ⟨hb, 0, none⟩) (raw.length + 1) (raw.length + 1)]) ∧ FedR w lim raw fb hb rv q hs F kv w' := by
  have w3sz : 3 < w.heap.size := by
    obtain ⟨-, c, d, e2⟩ := hE
    exact lt_of_cell e2
  obtain ⟨wc, hwc⟩ : ∃ wc, w.alloc (.cells #[.slice ra raw.length rc, .int .i64 lim, .slice oa on oc, .slice ca cn cc] 102) = wc := ⟨_, rfl⟩
  have b0 : Box wc 102 w.heap.size #[.slice ra raw.length rc, .int .i64 lim, .slice oa on oc, .slice ca cn cc] := by rw [← hwc]; exact Box.new w 102 _
  have g0 : w.grownBy wc none := by rw [← hwc]; exact gb_alloc (gb_refl w none) _
  have hszc : wc.heap.size = w.heap.size + 1 := by rw [← hwc]; simp
  have h41 := new_41 wc lim hm1 hm2
  have x0 : wc.cell? ⟨w.heap.size, 0, none⟩ = some (.slice ra raw.length rc) := b0.cell 0
  have x1 : wc.cell? ⟨w.heap.size, 1, none⟩ = some (.int .i64 lim) := b0.cell 1
  have A : Aside (w.alloc (.cells #[.slice ra raw.length rc, .int .i64 lim, .slice oa on oc, .slice ca cn cc] 102) = wc ∧ wc.heap.size = w.heap.size + 1) := ⟨hwc, hszc⟩
  clear hszc b0
  go_enter Tryz.func53, Tryz.ntmps53
  go_upto_region 1 with (fail)
  clear hwc
  obtain ⟨fb, hfb⟩ : ∃ fb, wc.heap.size = fb := ⟨_, rfl⟩
  have hfb0 : fb = w.heap.size + 1 := by rw [← hfb]; exact A.out.2
  rw [hfb] at h41
  clear A hfb
  have hN : IntKind.i64.wrap ((raw.length : Int) + 1) = ((raw.length + 1 : Nat) : Int) := by rw [IntKind.wrap_i64]; omega
  obtain ⟨N, hNN⟩ : ∃ N, raw.length + 1 = N := ⟨_, rfl⟩
  rw [hNN] at hN
  have hmk := run_make_ints N (by omega)
  have hNle : N ≤ 12001 := by omega
  have A2 : Aside (raw.length + 1 = N ∧ fb = w.heap.size + 1) := ⟨hNN, hfb0⟩
  clear hNN hfb0
  go_upto_region 5 with (go_at_call 41; go_must ((with_reducible refine h41.mono ?_); rintro e w1 ⟨rfl, i1, g1⟩; (have y0 := gb_cellN g1 x0)))
  have hfb0 : w.heap.size < fb := by have := A2.out.2; omega
  have b2 := Box.new w1 3 ((fil N 0).map (Value.int .i64)).toArray
  have g2 := gb_alloc (gb_refl w1 none) (.cells ((fil N 0).map (Value.int .i64)).toArray 3)
  have i2 := i1.kept0 g2
  have hfb1 : fb < w1.heap.size := by
    obtain ⟨_, _, _, _, _, hx, -, -⟩ := i1
    exact hx.box.lt
  obtain ⟨hb, hhb⟩ : ∃ hb, w1.heap.size = hb := ⟨_, rfl⟩
  rw [hhb] at b2 ⊢
  have s2 : (w1.alloc (.cells ((fil N 0).map (Value.int .i64)).toArray 3)).heap.size = hb + 1 := by simp [hhb]
  generalize w1.alloc (.cells ((fil N 0).map (Value.int .i64)).toArray 3) = w2 at b2 g2 i2 s2 ⊢
  have y2 := gb_cellN g2 y0
  have gA : w.grownBy w2 none := gb_trans g0 (gb_trans g1 g2)
  clear h41 hmk i1 x0 x1 y0
  go_wp2
  go_loopw [9] (fun x wr => ∃ k : Nat, k ≤ N ∧ x = .int .i64 (k : Int) ∧ Box wr 3 hb ((fil N k).map (Value.int .i64)).toArray ∧ w2.grownBy wr (some hb)) (fun x _ => N - (intOf x).toNat)
  case atStart => exact ⟨0, Nat.zero_le _, rfl, b2, gb_refl _ _⟩
  case round =>
    obtain ⟨k, hk, rfl, bk, gk⟩ := hrel
    rcases (by omega : k < N ∨ k = N) with hlt | hke
    · have z9 := bk.fz k
      obtain ⟨u, hu⟩ : ∃ u, wr.cell? ⟨hb, k, none⟩ = some u := by
        rw [bk.cell k]
        exact ⟨_, Array.getElem?_eq_getElem (by simp [fil_len N k (by omega)]; exact hlt)⟩
      have d1 : decide ((k : Int) < (N : Int)) = true := decide_eq_true (by omega)
      have d2 : IntKind.i64.wrap ((k : Int) + 1) = (k : Int) + 1 := by rw [IntKind.wrap_i64]; omega
      have hst : Box (wr.setCell ⟨hb, k, none⟩ (.int .i64 (-1))) 3 hb ((fil N (k + 1)).map (Value.int .i64)).toArray := by
        have := bk.set k (.int .i64 (-1))
        rw [← fil_set N k hlt, List.map_set]
        simpa using this
      have gst := gb_setCell (i := k) gk (.int .i64 (-1))
      clear bk gk b2
      go_wp2
      refine ⟨⟨k + 1, by omega, by simp, hst, gst⟩, by simp [intOf]; omega⟩
    · have d1 : decide ((k : Int) < (N : Int)) = false := decide_eq_false (by omega)
      have d1b : decide (k < N) = false := decide_eq_false (by omega)
      rw [hke, fil_all] at bk
      obtain ⟨hNN, -⟩ := A2.out
      have iw : IsF wr fb (fd0 lim) (.slice none 0 0) := i2.oth gk (fun j e => by injection e with e; subst e; exact oth_box b2)
      have gW : w.grownBy wr none := gb_mine gA gk (by have := g0.size; have := g1.size; omega)
      have hEr := hE.kept gW
      have y3 : wr.cell? ⟨w.heap.size, 0, none⟩ = some (.slice ra raw.length rc) := gb_cell gk y2 (by simp; omega)
      have hr1 : Ck wr (fun _ => False) (.slice ra raw.length rc) raw := hr.kp (Kp.of (F := fun _ => False) gW) (fun _ _ h => h.elim) (fun _ _ h => h.elim)
      have h49 := pieces_49 hr1 (hc.kept gW) (by omega) hcl
      have hflat : (pcs raw cs).flatten = raw := pcsF_flat _ _ _
      have hpl : (pcs raw cs).length ≤ 401 := pcsF_len _ _ _
      generalize pcs raw cs = ps at h49 hflat hpl
      clear hr hc hr1 b2 i2 gA y2 hE
      go_upto_region 12 with (go_at_call 49; go_must ((with_reducible refine h49.mono ?_); rintro e w3 ⟨pv, vs, rfl, pr, pp, g3⟩; (obtain ⟨pa, pc, rfl, -, -, -, -⟩ := row_shape pr)))
      have hbw : hb < wr.heap.size := bk.lt
      have hw3 := g3.size
      have hfbb : fb < hb := by omega
      have hI0 : FeI w3 fb hb lim ps 0 (fd0 lim) (.slice none 0 0) (.slice none 0 0) [] (List.replicate N (-1)) w3 := by
        refine ⟨Nat.zero_le _, iw.kept0 g3, fun j hj => by simp [Value.ownBlock] at hj, fd0_ok hm1, rfl, Ss.nil _ _ _, bk.kept g3 (by simp), by rw [hflat]; simp; omega, fun i h hi => ?_, Kp.refl _ _, hEr.kept g3⟩
        rw [List.getElem?_replicate] at hi
        split at hi
        · injection hi with hi; exact .inl hi.symm
        · cases hi
      have hfl : ps.flatten.length ≤ 12000 := by rw [hflat]; exact hlen
      have gW3 := gb_trans gW g3
      have hfin : ∀ F kv rv q hs (W : World), FeI w3 fb hb lim ps ps.length F kv rv q hs W → FedR w lim raw fb hb rv q hs F kv W := by
        intro F kv rv q hs W hI
        have e := hI.run
        rw [List.take_length, hflat] at e
        have hl2 := hI.hl
        have hs2 := hI.hsp
        rw [hflat] at hl2 hs2
        refine ⟨e, hI.isf, ⟨row_base hI.ss.row gW3.size, hI.ss.all⟩, hI.hbx, hl2, hs2, ?_, hI.er⟩
        exact ((Kp.of (F := fun j => w.heap.size ≤ j) gW3).trans hI.kp (fun i h => h) (fun i h => by
          left
          have := gW3.size
          rcases h with e | e | e <;> omega)).grown (fun i h => h)
      clear h49 iw hEr y3 bk gW hke d1 d1b
      obtain ⟨Bp, hBp⟩ : ∃ Bp, wr.heap.size = Bp := ⟨_, rfl⟩
      rw [hBp] at pr pp hbw hw3
      clear hBp hNN hhb s2
      go_wp2
      go_loopg [10, 11, 13] ps.length (fun gk x10 x11 x13 wr => ∃ k F kv q hs, gk + k = ps.length ∧ x13 = .int .i64 ((k : Nat) : Int) ∧ x11 = .int .i64 ((F : Fd).taken : Int) ∧ FeI w3 fb hb lim ps k F kv x10 q hs wr)
      case atStart => exact ⟨0, fd0 lim, _, _, _, rfl, rfl, rfl, hI0⟩
      case round =>
        clear hI0
        obtain ⟨k2, F, kv, q, hs, hgk, rfl, rfl, hI⟩ := hrel
        obtain ⟨ra2, rc2, erv, -, -, -, -⟩ := row_shape hI.ss.row
        subst erv
        by_cases hk2 : k2 = ps.length
        · have hd : decide (k2 < ps.length) = false := decide_eq_false (by omega)
          have hf : FedR w lim raw fb hb (.slice ra2 q.length rc2) q hs F kv wr := by
            subst hk2
            exact hfin _ _ _ _ _ _ hI
          clear hI hfin hk2 hgk
          go_wp2
          go_ret3
          have e := A2.out.1
          refine ⟨fb, hb, _, q, hs, F, kv, ?_, hf⟩
          rw [e]
          rfl
        · have hkl : k2 < ps.length := by have := hI.hk; omega
          obtain ⟨p, hp⟩ : ∃ p, ps[k2]? = some p := ⟨_, List.getElem?_eq_getElem hkl⟩
          obtain ⟨x, hx⟩ : ∃ x, vs[k2]? = some x := ⟨_, List.getElem?_eq_getElem (by rw [pp.1]; exact hkl)⟩
          have prow := pp.2 k2 p x hp hx
          obtain ⟨xa, xc, rfl, -, -, -, -⟩ := row_shape prow
          obtain ⟨pa2, pc2, epv, -, -, -, hpg⟩ := row_shape pr
          obtain ⟨pg, hpg⟩ := hpg (by omega)
          injection epv with epv _ epc
          rw [hpg] at epv
          subst epv
          clear hpg epc
          have hpgl := World.ownsRow.lt pr pg rfl
          have hbk : ∀ j, Bp ≤ j → j < w3.heap.size → ¬ (j = fb ∨ j = hb ∨ w3.heap.size ≤ j) := by
            rintro j h1 h2 (e | e | e) <;> omega
          have hpx : ∀ j, (Value.slice xa p.length xc).ownBlock = some j → ¬ (j = fb ∨ j = hb ∨ w3.heap.size ≤ j) := fun j hj => hbk j (World.ownsRow.lt prow j hj).1 (row_lt prow j hj)
          have cellr : ∀ {wr' : World}, Kp (fun j => j = fb ∨ j = hb ∨ w3.heap.size ≤ j) w3 wr' → wr'.cell? ⟨pg, k2, none⟩ = some (.slice xa p.length xc) := by
            intro wr' hkp
            have := hkp.block pg hpgl.2 (hbk pg hpgl.1 hpgl.2)
            simpa [World.cell?, this] using row_cell pr k2 _ hx
          have d0 := cellr hI.kp
          have hXw : ∀ j, XF fb kv j → j = fb ∨ w3.heap.size ≤ j := by
            rintro j (e | e)
            · exact .inl e
            · exact .inr (hI.kvB j e)
          have hck : Ck wr (XF fb kv) (.slice xa p.length xc) p := ck_own (row_kp prow hI.kp hpx) (fun j hj hxj => hpx j hj (by rcases hXw j hxj with e | e <;> omega))
          have htk := hI.tk
          have hfl2 := flat_le ps (k2 + 1)
          have hTl : ((ps.take (k2 + 1)).flatten).length = F.taken + p.length := by rw [flat_take hp, List.length_append, htk]
          have hX2 : ∀ n, n ≤ 3 → ¬ XF fb kv n := by
            intro n hn hx2
            rcases hXw n hx2 with e | e <;> omega
          have hfeed := feed_45 hI.isf hI.ok hck (by omega) (by omega) hI.er ⟨hX2 2 (by omega), hX2 3 (by omega)⟩ (read_136 fb)
          obtain ⟨_, _, _, _, _, hx0, -, -⟩ := id hI.isf
          have hrx := row_xf hI.ss.row (by decide) hx0
          have hqb := hI.ql
          have hq2 := run_len p F
          have hnx := fun {w4 w5 w6 kv' rv2 v' q2} => FeI.next (w4 := w4) (w5 := w5) (w6 := w6) (kv' := kv') (rv2 := rv2) (v' := v') (q2 := q2) hI (by omega) (by omega) ⟨by omega, by omega, by omega⟩ hp
          have eT : (F.run p).1.taken = F.taken + p.length := (run_facts p F).1
          obtain ⟨T, hT⟩ : ∃ T, F.taken + p.length = T := ⟨_, rfl⟩
          rw [hT] at hTl eT
          have u2 : IntKind.i64.wrap ((F.taken : Int) + (p.length : Int)) = (T : Int) := by rw [IntKind.wrap_i64]; omega
          have hTN : (T : Int) < (N : Int) := by have := A2.out.1; rw [hflat] at hfl2; omega
          have hTN2 : T < N := by omega
          have hpl3 : p.length ≤ 12000 := by rw [hflat] at hfl2; omega
          have hd : decide (k2 < ps.length) = true := decide_eq_true hkl
          have u5 : IntKind.i64.wrap ((k2 : Int) + 1) = (k2 : Int) + 1 := by rw [IntKind.wrap_i64]; omega
          have hgk1 : gk - 1 < gk := by omega
          have hgk2 : gk - 1 + (k2 + 1) = ps.length := by omega
          have ss0 := hI.ss.row
          have bx0 := hI.hbx
          have hl0 : hs.length = N := by rw [hI.hl, hflat]; exact A2.out.1
          have kp0 := hI.kp
          have hbX : ¬ XF fb kv hb := fun e => by rcases hXw hb e with e | e <;> omega
          have hw3r : w3.heap.size ≤ wr.heap.size := hI.kp.size
          obtain ⟨F', hF'⟩ : ∃ F', F.run p = F' := ⟨_, rfl⟩
          obtain ⟨K, hK⟩ : ∃ K, F'.1.kept.length = K := ⟨_, rfl⟩
          rw [hF'] at eT hq2
          simp only [hF', hTl, hK] at hnx
          have A3 : Aside (F.run p = F' ∧ F'.1.kept.length = K ∧ F'.1.taken = T ∧ ((ps.take (k2 + 1)).flatten).length = T) := ⟨hF', hK, eT, hTl⟩
          clear hck hI hfin hk2 hgk prow pp pr hpx hp hx hF' hK eT hTl hT htk hfl2 hx0 hX2 hflat hbk
          unfold FdP at hfeed
          rw [A3.out.1] at hfeed
          go_upto_region 16 with (first | (go_at_call 45; go_must ((with_reducible refine hfeed.mono ?_); rintro e w4 ⟨rv2, kv', q2, rfl, i4, s4, e4, k4, o4, -⟩; (obtain ⟨la, lc, rfl, -, -, -, -⟩ := row_shape s4.row); (have row4 := row_kp ss0 k4 hrx); (have one4 := one_all s4.all); (have hq3 : q2.length ≤ p.length := by (have := congrArg List.length e4; simp at this; omega)); (have hw34 : w3.heap.size ≤ w4.heap.size := Nat.le_trans hw3r k4.size))) | (at_builtin; go_must (refine more86 rfl _ _ rfl w3.heap.size _ q.length _ (by rfl) row4 _ _ q2.length _ (by rfl) s4.row one4 (by omega) hw34 ?_); intro v' w5 r5 g5; (obtain ⟨va, vc, rfl, -, -, -, -⟩ := row_shape r5)))
          have kp5 : Kp (fun j => j = fb ∨ j = hb ∨ w3.heap.size ≤ j) w3 w5 := (kp0.trans k4 (fun i h => h) (fun i h => by
            rcases hXw i h with e | e
            · exact .inl (.inl e)
            · exact .inl (.inr (.inr e)))).step g5 (fun i hi => .inl (.inr (.inr (World.ownsRow.lt row4 i hi).1)))
          have d5 := cellr kp5
          have box4 := k4.box bx0 hbX
          have box5 : Box w5 3 hb (hs.map (Value.int .i64)).toArray := box4.kept g5 (fun e => row_box row4 box4 (by decide) hb e.symm rfl)
          have i5 := i4.oth g5 (oth_row row4)
          have h50 := FX.held (B := 0) ⟨kv', i5, fun _ _ => Nat.zero_le _⟩
          rw [A3.out.2.1] at h50
          have g6 : w5.grownBy (w5.setCell ⟨hb, T, none⟩ (.int .i64 (K : Int))) (some hb) := gb_setCell (gb_refl _ _) _
          have i6 := i5.oth g6 (fun j e => by injection e with e; subst e; exact oth_box box5)
          have h52 := FX.taken (B := 0) ⟨kv', i6, fun _ _ => Nat.zero_le _⟩
          rw [A3.out.2.2.1] at h52
          have z9 := box5.fz T
          obtain ⟨u9, hu9⟩ : ∃ u, w5.cell? ⟨hb, T, none⟩ = some u := by
            rw [box5.cell T]
            exact ⟨_, Array.getElem?_eq_getElem (by simp [hl0]; exact hTN2)⟩
          have hNx := hnx i4 s4 e4 k4 o4 r5 g5 rfl
          have tN : decide ((T : Int) < (N : Int)) = true := decide_eq_true hTN
          have tK : Aside (F'.1.taken = T) := A3.out.2.2.1
          clear hnx i4 s4 e4 k4 o4 r5 g5 hfeed i5 i6 box4 box5 row4 one4 kp5 kp0 bx0 ss0 cellr d0 hXw hrx A3 g6
          go_wp2_with (first | (go_at_call 50; go_must ((with_reducible refine h50.mono ?_); rintro e w8 ⟨rfl, rfl⟩)) | (go_at_call 52; go_must ((with_reducible refine h52.mono ?_); rintro e w8 ⟨rfl, rfl⟩)))
          go_roundg (gk - 1)
          case measure => exact hgk1
          case rel => exact ⟨k2 + 1, F'.1, kv', _, _, hgk2, by simp, by rw [tK.out], hNx⟩
end Go.Proofs.YtobegepebochkaaGreatDoor

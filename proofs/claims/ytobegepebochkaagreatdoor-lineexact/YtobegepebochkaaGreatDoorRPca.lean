import Derived.Test.YtobegepebochkaaGreatDoorRFl
import Derived.Test.YtobegepebochkaaGreatDoorRTr
import Derived.Test.YtobegepebochkaaGreatDoorRPav
import Derived.WalkKit
import Derived.ProofKit
import Derived.OpenShut
import Derived.Below
import Derived.Deep.Slices
import Derived.SizedLaws
import Derived.Deep.MidRow
import Derived.Deep.LoopGhost
import Derived.Test.YtobegepebochkaaGreatDoorRows
import Derived.Test.YtobegepebochkaaGreatDoorRPap
import Derived.Great.Walk
import Derived.Deep.RegionHeld3
import Derived.Great.BuildSlice
import Derived.Test.YtobegepebochkaaGreatDoorRPbd
import Derived.Test.YtobegepebochkaaGreatDoorRPaw
import Derived.Test.YtobegepebochkaaGreatDoorRE
import Derived.Test.YtobegepebochkaaGreatDoorRPbn
import Derived.Stop.LaidErr
import Derived.MakeChecks
import Derived.Test.YtobegepebochkaaGreatDoorRD
set_option linter.unusedVariables false
set_option linter.unusedSimpArgs false
set_option maxRecDepth 100000
set_option maxHeartbeats 16000000
namespace Go.Proofs.YtobegepebochkaaGreatDoor
open Go.RowKit Go.Maps
theorem new_41P (w : World) (n : Int) (hn : n <= 9223372036854775807) (hn2 : -9223372036854775808 <= n) :
    Calls Tryz.prog 41 #[.int .i64 n] w fun e w' => e = .returned (.pointer (some ⟨w.heap.size, 0, none⟩)) /\ (IsF w' w.heap.size (fd0 n) (.slice none 0 0) /\ ∀ k, ¬ Pn w' w.heap.size k) /\ w.grownBy w' none := by
  have hmf : ∀ (fn : Fn) (first cap : Array Value) (w : World), (Instr.makeFunc fn first cap).run Tryz.prog w = .ok (.func fn first cap) w := fun _ _ _ _ => rfl
  have hm : max n 0 = (n.toNat : Int) := by omega
  obtain ⟨k, hk⟩ : ∃ k, n.toNat = k := ⟨_, rfl⟩
  rw [hk] at hm
  have hend : ∀ w', w' = w.alloc (.cells (fdA w.heap.size (fd0 n) (.slice none 0 0) 0 0 (.slice none 0 0) (.slice none 0 0) (.slice none 0 0)) 136) -> (IsF w' w.heap.size (fd0 n) (.slice none 0 0) /\ ∀ k, ¬ Pn w' w.heap.size k) /\ w.grownBy w' none := by
    rintro w' rfl
    exact ⟨⟨⟨0, 0, _, _, _, isf_nil (Box.new w 136 _) rfl rfl rfl rfl, fun e => by simp [fd0] at e, fun e => by simp [fd0] at e⟩, fun k e => by have := (pn_box (Box.new w 136 (fdA w.heap.size (fd0 n) (.slice none 0 0) 0 0 (.slice none 0 0) (.slice none 0 0) (.slice none 0 0)))).1 e; simp [Value.ownBlock] at this⟩, gb_alloc (gb_refl _ none) _⟩
  have hf : fd0 n = ⟨k, 0, false, 0, [], 0, 0, stp0, 0⟩ := by simp [fd0, hk]
  rw [hf] at hend ⊢
  go_enter Tryz.func41, Tryz.ntmps41
  go_wp2
  go_ret
  refine ⟨rfl, hend _ ?_⟩
  rfl
theorem sumL_take {cs : List Bs} {i : Nat} {l : Bs} (h : cs[i]? = some l) : sumL (cs.take (i + 1)) = sumL (cs.take i) + l.length := by
  rw [List.take_add_one, h]
  exact sumL_snoc _ _
theorem sumL_le : ∀ (cs : List Bs) (i : Nat), sumL (cs.take i) <= sumL cs
  | [], i => by simp [sumL]
  | c :: cs, 0 => by simp [sumL]
  | c :: cs, i + 1 => by
    have := sumL_le cs i
    simp [sumL] at this ⊢
    omega
section
variable {w wr : World} {fb rb bb lb L : Nat} {gv : Value} {vs : List Value} {F : Fd} {kv : Value} {raw : Bs} {rv : Value} {last : Nat} {quit : Bool} {FT : Nat -> Prop} {J : Nat}
theorem Lx.row2 (h : Lx w fb rb bb lb L gv vs wr F kv raw rv last quit FT J) {w1 : World} {g c : Nat} {l : Bs} (h1 : Lq1 w wr fb lb F kv w1 g c l) {w2 : World} {kv' got : Value} {q : List Tld} (h2 : Lq2 w wr fb rb lb L F kv raw rv last quit w1 l w2 kv' got q) : w2.ownsRow w.heap.size 38 1 gv vs.length vs := by
  obtain ⟨a1, a2, a3, a4, a5, a6, a7, a8, a9, a10⟩ := h.ap
  have r1 := row_same h.row (fun k e => h1.kp.block k (a10 k e).2.2.2.2.2 (a10 k e).2.2.1)
  refine row_same r1 (fun k e => h2.kp.block k (row_ge r1 e).2 ?_)
  rintro (e2 | e2)
  . exact (a10 k e).1 e2
  . exact (a10 k e).2.2.2.1 e2
end
theorem exact_8 {w : World} (hE : Er w) {la : Option Addr} {lc : Nat} {ls : List Bs} (hr : Rb w la ls) (hlen : ls.length <= 9223372036854775807) (lim : Int) (hm1 : lim <= 9223372036854775807) (hm2 : -9223372036854775808 <= lim) :
    Calls Tryz.prog 8 #[.int .i64 lim, .slice la ls.length lc] w fun e w' => e = .returned (.bool true) /\ w.grownBy w' none := by
  have h3 : 3 < w.heap.size := by
    obtain ⟨-, c, d, e2⟩ := hE
    exact lt_of_cell e2
  have h41 := new_41P w lim hm1 hm2
  generalize hnl : ls.length = nl at *
  have HNL : Hid (ls.length = nl) := hnl
  clear hnl
  go_enter Tryz.func8, Tryz.ntmps8
  go_wp2_with fail
  refine h41.mono ?_
  rintro e w1 ⟨rfl, ⟨i1, n1⟩, g1⟩
  clear h41
  have h42 := new_42 w1 lim hm1 hm2
  go_wp2_with fail
  refine h42.mono ?_
  rintro e w2 ⟨rfl, iw2, g2⟩
  clear h42
  obtain ⟨i2, p2⟩ := i1.kq (fd0_ok hm1).dn (Kp.of (F := fun _ => False) g2) (fun _ _ e => e) (fun _ _ e => e)
  have h43 := alike_43 i2 iw2 (by simp) (by omega) (Rl.start lim)
  go_wp2_with fail
  refine h43.mono ?_
  rintro e w3 ⟨rfl, g3⟩
  clear h43
  go_wp2_with fail
  have hb4 : Box (w3.alloc (.cells (bkA nilS nilS nilS nilS nilS nilS nilS nilS nilS nilS nilS 0) 31)) 31 w3.heap.size (bkA nilS nilS nilS nilS nilS nilS nilS nilS nilS nilS nilS 0) := Box.new _ _ _
  have hs4 : (w3.alloc (.cells (bkA nilS nilS nilS nilS nilS nilS nilS nilS nilS nilS nilS 0) 31)).heap.size = w3.heap.size + 1 := by simp
  have hl5 := Box.new (w3.alloc (.cells (bkA nilS nilS nilS nilS nilS nilS nilS nilS nilS nilS nilS 0) 31)) 68 #[.slice none 0 0, .slice none 0 0, .slice none 0 0, .slice none 0 0]
  rw [hs4] at hl5
  have g4 := gb_alloc (gb_refl w3 none) (.cells (bkA nilS nilS nilS nilS nilS nilS nilS nilS nilS nilS nilS 0) 31)
  have g5 := gb_alloc (gb_refl (w3.alloc (.cells (bkA nilS nilS nilS nilS nilS nilS nilS nilS nilS nilS nilS 0) 31)) none) (.cells #[.slice none 0 0, .slice none 0 0, .slice none 0 0, .slice none 0 0] 68)
  have hb5 := hb4.kept g5 (by simp)
  have hs5 : ((w3.alloc (.cells (bkA nilS nilS nilS nilS nilS nilS nilS nilS nilS nilS nilS 0) 31)).alloc (.cells #[.slice none 0 0, .slice none 0 0, .slice none 0 0, .slice none 0 0] 68)).heap.size = w3.heap.size + 2 := by simp
  have g35 := gb_trans g4 g5
  rw [show (#[Value.slice none 0 0, Value.slice none 0 0, Value.slice none 0 0, Value.slice none 0 0, Value.slice none 0 0, Value.slice none 0 0, Value.slice none 0 0, Value.slice none 0 0, Value.slice none 0 0, Value.slice none 0 0, Value.slice none 0 0, Value.slice none 0 0, Value.slice none 0 0, Value.slice none 0 0, Value.slice none 0 0, Value.slice none 0 0, Value.slice none 0 0, Value.slice none 0 0, Value.slice none 0 0, Value.slice none 0 0, Value.slice none 0 0, Value.slice none 0 0, Value.slice none 0 0, Value.slice none 0 0, Value.slice none 0 0, Value.slice none 0 0, Value.int IntKind.i64 0] : Array Value) = bkA nilS nilS nilS nilS nilS nilS nilS nilS nilS nilS nilS 0 from rfl]
  generalize (w3.alloc (.cells (bkA nilS nilS nilS nilS nilS nilS nilS nilS nilS nilS nilS 0) 31)).alloc (.cells #[.slice none 0 0, .slice none 0 0, .slice none 0 0, .slice none 0 0] 68) = w5 at *
  have gw5 : w.grownBy w5 none := gb_trans (gb_trans (gb_trans g1 g2) g3) g35
  have h44 := cut_44 (w := w5) (lc := lc) hr gw5 (by rw [HNL.out]; exact hlen)
  rw [HNL.out] at h44
  have s1 := g1.size
  have s2 := g2.size
  have s3 := g3.size
  have sfb : w.heap.size < w1.heap.size := by obtain ⟨c, hc⟩ := i1.blk.1; exact lt_of_block hc
  have srb : w1.heap.size < w2.heap.size := iw2.box.lt
  go_wp2_with fail
  refine h44.mono ?_
  rintro e w6 ⟨va, vc, vs, cs, rfl, hrow, hC, hvl, hsum, g6⟩
  clear h44
  have g26 := gb_trans (gb_trans g3 g35) g6
  obtain ⟨i6, p6⟩ := i2.kq (fd0_ok hm1).dn (Kp.of (F := fun _ => False) g26) (fun _ _ e => e) (fun _ _ e => e)
  have np6 : ∀ k, ¬ Pn w6 w.heap.size k := fun k e => n1 k ((p2 k).1 ((p6 k).1 e))
  have HX : Hid (Lx w w.heap.size w1.heap.size w3.heap.size (w3.heap.size + 1) lim.toNat (.slice va vs.length vc) vs w6 (fd0 lim) (.slice none 0 0) [] (.slice none 0 0) 0 false (fun k => k = w3.heap.size) 0) := by
    refine ⟨i6, fd0_ok hm1, sm_0, iw2.kept0 g26, Rl.start lim, (Bst.new (hb5.kept g6 (by simp))), hl5.kept g6 (by simp), row_base hrow (by omega), gb_trans gw5 g6, ⟨Nat.le_refl _, s1, by omega, fun k e => by simp [Value.ownBlock] at e, fun k e => by simp [Value.ownBlock] at e⟩, fun k e => absurd e (np6 k), fun k e => ?_, fun k e => by simp [Value.ownBlock] at e⟩
    subst e
    refine ⟨by omega, ?_, np6 _, by omega, by simp [Value.ownBlock], by omega, fun e2 => ?_⟩
    . rintro (e2 | e2)
      . omega
      . simp [Value.ownBlock] at e2
    . have := (row_ge hrow e2).1
      omega
  obtain ⟨n, hn⟩ : ∃ n, vs.length = n := ⟨_, rfl⟩
  have HN : Hid (vs.length = n) := hn
  rw [hn] at hvl ⊢
  have HC : Hid (Chs w vs cs) := hC
  have HS : Hid (sumL cs <= 12000) := hsum
  have hfb : w.heap.size ≠ 0 := by omega
  generalize w3.heap.size = bb at *
  generalize w1.heap.size = rb at *
  obtain ⟨fb, hfbe⟩ : ∃ fb, fb = w.heap.size := ⟨_, rfl⟩
  have HFB : Hid (fb = w.heap.size) := hfbe
  rw [<- hfbe] at HX ⊢
  clear i1 n1 iw2 i2 p2 hb4 hs4 hl5 g4 g5 hb5 hs5 g35 gw5 s1 s2 s3 sfb srb hrow hC hsum g6 g26 i6 p6 np6 g1 g2 g3 hn hr hlen hfb hfbe
  go_wp2_with fail
  go_loopw [9, 10, 11] (fun x9 _ _ wr => ∃ (i : Nat) (F : Fd) (kv : Value) (raw : Bs) (rv : Value) (last : Nat) (quit : Bool) (FT : Nat -> Prop) (J : Nat), i <= n /\ x9 = .int .i64 i /\ Lx w fb rb bb (bb + 1) lim.toNat (.slice va vs.length vc) vs wr F kv raw rv last quit FT J /\ J <= i /\ raw.length = sumL (cs.take i)) (fun x9 _ _ _ => n - (intOf x9).toNat)
  case atStart => exact ⟨0, _, _, _, _, _, _, _, 0, by omega, rfl, HX.out, Nat.le_refl _, by simp [sumL]⟩
  case round =>
    clear HX
    obtain ⟨i, F, kv, raw, rv, last, quit, FT, J, hi, rfl, h, hJ, hrl⟩ := hrel
    have HH : Hid (Lx w fb rb bb (bb + 1) lim.toNat (.slice va vs.length vc) vs wr F kv raw rv last quit FT J) := h
    by_cases hlt : i < n
    . obtain ⟨u, hu⟩ : ∃ u, vs[i]? = some u := ⟨_, List.getElem?_eq_getElem (by rw [HN.out]; exact hlt)⟩
      obtain ⟨l, hl⟩ : ∃ l, cs[i]? = some l := ⟨_, List.getElem?_eq_getElem (by rw [<- HC.out.len, HN.out]; exact hlt)⟩
      have hbw : Bw w u l := HC.out.all i u l hu hl
      have hsl : raw.length + l.length <= 12000 := by
        have h1 := sumL_take hl
        have h2 := sumL_le cs (i + 1)
        have h3 := HS.out
        omega
      have hrl2 : (raw ++ l).length = sumL (cs.take (i + 1)) := by rw [sumL_take hl, List.length_append, hrl]
      have HRL : Hid ((raw ++ l).length = sumL (cs.take (i + 1))) := hrl2
      clear hrl2
      obtain ⟨ua, un, uc, rfl, rfl⟩ := hbw.slice
      obtain ⟨ao, co, hsh, -, hco1, hco2, hpos⟩ := row_shape h.row
      injection hsh with e1 _ e3
      subst e1 e3
      obtain ⟨gb, rfl⟩ := hpos (by rw [HN.out]; omega)
      have c1 : wr.cell? ⟨gb, i, none⟩ = some (.slice ua l.length uc) := row_cell h.row i _ hu
      have h46 := loan_46 h.loan (hbw.kept h.gb) (by omega)
      have hib : (i : Int) < (n : Int) := by omega
      have HBW : Hid (Bw w (.slice ua l.length uc) l) := hbw
      have HU : Hid (vs[i]? = some (.slice ua l.length uc)) := hu
      clear h hbw hu hl hrl
      go_wp2_with fail
      refine h46.mono ?_
      rintro e w1 ⟨g, c, rfl, hL, g1⟩
      clear h46
      have A1 := HH.out.one hL g1
      have hX : ¬ XF fb kv 2 /\ ¬ XF fb kv 3 := by
        have hge := HH.out.ge
        constructor
        . rintro (e | e)
          . omega
          . have := hge.2.2.2.1 2 e; omega
        . rintro (e | e)
          . omega
          . have := hge.2.2.2.1 3 e; omega
      have htk := HH.out.rl.taken
      have h45 := feed_45P A1.isf HH.out.ok A1.ck (by omega) (by omega) (hE.kept A1.gb) hX (read_136 fb)
      have HA1 : Hid (Lq1 w wr fb (bb + 1) F kv w1 g c l) := A1
      clear A1 hL g1 hX htk
      go_wp2_with fail
      refine h45.mono ?_
      rintro e w2 hF
      clear h45
      obtain ⟨got, kv', q, rfl, A2⟩ := HH.out.two HA1.out hF
      have c2 : w2.cell? ⟨gb, i, none⟩ = some (.slice ua l.length uc) := row_cell (HH.out.row2 HA1.out A2) i _ HU.out
      have h47 := rfeed_47 A2.isw HH.out.rl (HBW.out.kept A2.gb) (by omega) (by omega)
      obtain ⟨ga, gc, hgot, hgn, -⟩ := row_shape A2.ss.row
      subst hgot
      have HA2 : Hid (Lq2 w wr fb rb (bb + 1) lim.toNat F kv raw rv last quit w1 l w2 kv' (.slice ga q.length gc) q) := A2
      clear A2 hF
      go_wp2_with fail
      refine h47.mono ?_
      rintro e w3 hR
      clear h47 c2
      obtain ⟨vv, q2, rv', last', quit', rfl, sd2, hs2, A3⟩ := HH.out.three HA1.out HA2.out hR
      have hdl : ∀ s ∈ (F.run l).2, s.data.length <= 1099511627776 := fun s hs => by
        have h1 := dn_run l HH.out.ok HH.out.ok.dn s hs
        have h2 := HH.out.rl.taken
        omega
      have h28 := samesteps_28 (A3.sd.sq (fun x hx => hdl x.s (by rw [<- HA2.out.run]; exact List.mem_map_of_mem hx))) (sd2.sq (fun x hx => hdl x.s (by rw [<- hs2]; exact List.mem_map_of_mem hx))) (by rw [HA2.out.run, hs2])
      obtain ⟨wa, wc, hvv, -⟩ := row_shape sd2.row
      subst hvv
      have HA3 : Hid (Lq3 w fb rb (bb + 1) lim.toNat w1 g c l raw (F.run l).1 kv' (.slice ga q.length gc) q w2 w3 rv rv' last' quit' wr.heap.size) := A3
      clear A3 hR sd2 hs2 hdl
      go_wp2_with fail
      refine h28.mono ?_
      rintro e w4 ⟨rfl, g4⟩
      clear h28
      have h36 := back_36 (HA3.out.lnt.kq (Kp.of (F := fun _ => False) g4) (fun e => e) (fun _ _ _ e => e)) (by simp; omega)
      have HG4 : Hid (w3.grownBy w4 none) := g4
      clear g4
      go_wp2_with fail
      refine h36.mono ?_
      rintro e w5 ⟨rfl, bx, k5⟩
      clear h36
      obtain ⟨X5, G5⟩ := HH.out.six HA1.out HA2.out HA3.out HG4.out bx k5 hsl
      have h43 := alike_43 X5.isf X5.isw (by rw [List.length_append]; omega) (by omega) X5.rl
      have HX5 : Hid (Lx w fb rb bb (bb + 1) lim.toNat (.slice (some ⟨gb, 0, none⟩) vs.length vc) vs w5 (F.run l).1 kv' (raw ++ l) rv' last' quit' FT J /\ Gt w fb rb (bb + 1) (.slice (some ⟨gb, 0, none⟩) vs.length vc) w5 kv' rv' FT (.slice ga q.length gc) q) := ⟨X5, G5⟩
      clear X5 G5 bx k5
      go_wp2_with fail
      refine h43.mono ?_
      rintro e w6 ⟨rfl, g6⟩
      clear h43
      obtain ⟨X6, p6⟩ := HX5.out.1.grow g6
      have G6 := HX5.out.2.grow g6 p6
      have h29 := X6.steps G6 (by omega)
      have HX6 : Hid (Lx w fb rb bb (bb + 1) lim.toNat (.slice (some ⟨gb, 0, none⟩) vs.length vc) vs w6 (F.run l).1 kv' (raw ++ l) rv' last' quit' FT J) := X6
      clear X6 G6 p6 g6 HX5
      rcases Nat.eq_zero_or_pos q.length with hq | hq
      . have d1 : ¬ ((0 : Int) < (q.length : Int)) := by omega
        clear h29 hq
        go_wp2_with fail
        go_roundw
        case rel => exact ⟨i + 1, _, _, _, _, _, _, _, J, by omega, by go_num, HX6.out, by omega, HRL.out⟩
        case measure => simp [intOf]; omega
      . have d1 : ((0 : Int) < (q.length : Int)) := by omega
        clear hq
        go_wp2_with fail
        refine h29.mono ?_
        rintro e w7 ⟨rfl, FT', X7⟩
        clear h29
        have HX7 : Hid (Lx w fb rb bb (bb + 1) lim.toNat (.slice (some ⟨gb, 0, none⟩) vs.length vc) vs w7 (F.run l).1 kv' (raw ++ l) rv' last' quit' FT' (J + 1)) := X7
        clear X7
        go_wp2_with fail
        go_roundw
        case rel => exact ⟨i + 1, _, _, _, _, _, _, _, J + 1, by omega, by go_num, HX7.out, by omega, HRL.out⟩
        case measure => simp [intOf]; omega
    . obtain rfl : i = n := by omega
      have h22 := close_22s h.bst (by omega)
      have hft := h.ft
      have hgb := h.gb
      have dn : ¬ ((i : Int) < (i : Int)) := by omega
      clear h HH
      go_wp2_with fail
      refine h22.mono ?_
      rintro e w1 ⟨rfl, hk⟩
      clear h22
      have g1 : w.grownBy w1 none := gb_of_kp hgb hk (fun j e => (hft j e).1)
      have h48 := wakes_48 (hE.kept g1)
      go_wp2_with fail
      refine h48.mono ?_
      rintro e w2 ⟨rfl, g2⟩
      clear h48
      go_wp2_with fail
      go_ret
      exact ⟨rfl, gb_trans g1 g2⟩
end Go.Proofs.YtobegepebochkaaGreatDoor
namespace Go.Proofs.YtobegepebochkaaGreatDoor
open Go.ChangeShapes Go.WideShapes Go.ChangeAt Go.RowKit
section
variable {H : Type} {enc : TypeId × Value -> H} {P : Program} {w : World} {base : Nat} {spare : Nat -> Bool} {held : Bool}
end
theorem bounds_u8 {z : Int} (h : (Lit.int .u8 z).wf = true) : 0 <= z /\ z <= 255 := by
  simp only [Lit.wf] at h
  revert h
  simp [IntKind.min, IntKind.max, IntKind.signed, IntKind.bits]
theorem bounds_i64 {z : Int} (h : (Lit.int .i64 z).wf = true) : -9223372036854775808 <= z /\ z <= 9223372036854775807 := by
  simp only [Lit.wf] at h
  revert h
  simp [IntKind.min, IntKind.max, IntKind.signed, IntKind.bits]
section
variable {H : Type} {enc : TypeId × Value -> H} {w : World} {base : Nat} {spare : Nat -> Bool} {held : Bool}
end
end Go.Proofs.YtobegepebochkaaGreatDoor
namespace Go.Proofs.YtobegepebochkaaGreatDoor
open Go.RowKit Go.Maps
abbrev mk : Fl := ⟨109, [109, 97, 114, 107], false⟩
end Go.Proofs.YtobegepebochkaaGreatDoor
namespace Go.Proofs.YtobegepebochkaaGreatDoor
open Go Go.RowKit Go.Shelf
theorem gES : Tryz.prog.globalNamed "strconv.ErrSyntax" = some 2 := by kernel_rfl
theorem gER : Tryz.prog.globalNamed "strconv.ErrRange" = some 3 := by kernel_rfl
theorem gEST : (Tryz.prog.globals[2]?).map (·.type) = some 201 := by kernel_rfl
theorem gERT : (Tryz.prog.globals[3]?).map (·.type) = some 201 := by kernel_rfl
theorem cellsErr : Tryz.prog.cellsOf 248 = 1 := by kernel_rfl
theorem cells9 : Tryz.prog.cellsOf 9 = 1 := by kernel_rfl
theorem rowErr (u : TypeId) (h : Tryz.prog.typeName? 3 u = Tryz.prog.typeName? 3 246) : u = 246 :=
  typeName_ptr_named (nm := "errors.errorString") (by kernel_rfl) (by kernel_rfl) (by decide) u (h.trans (by kernel_rfl))
end Go.Proofs.YtobegepebochkaaGreatDoor
namespace Go.Proofs.YtobegepebochkaaGreatDoor
open Go.ChangeShapes Go.WideShapes Go.ChangeAt Go.RowKit Go.Shelf
theorem weightsAll_mem {H : Type} {P : Program} {e : TypeId} : ∀ {l : List (DataW H)} {d : DataW H}, d ∈ l -> ∀ n ∈ d.weights P e, n ∈ DataW.weightsAll P e l
  | x :: l, d, hd, n, hn => by
    simp only [DataW.weightsAll, List.mem_append]
    rcases List.mem_cons.1 hd with rfl | hd
    . exact Or.inl hn
    . exact Or.inr (weightsAll_mem hd n hn)
section
variable {H : Type} {enc : TypeId × Value -> H} {P : Program} {w : World} {base : Nat} {spare : Nat -> Bool} {held : Bool}
theorem plain_of {a : Addr} {v : Value} (h : w.cell? (a.add 0) = some v) : ∃ b o, a = ⟨b, o, none⟩ := by
  have := World.cell?_spot h
  obtain ⟨b, o, s⟩ := a
  refine ⟨b, o, ?_⟩
  simp [Addr.add] at this
  rw [this]
end
section
variable {H : Type} {enc : TypeId × Value -> H} {w : World} {base : Nat} {spare : Nat -> Bool} {held : Bool}
end
end Go.Proofs.YtobegepebochkaaGreatDoor
namespace Go.Proofs.YtobegepebochkaaGreatDoor
open Go.ChangeShapes Go.WideShapes Go.ChangeAt Go.RowKit Go.Shelf
theorem cells38 : Tryz.prog.cellsOf 38 = 1 := by kernel_rfl
theorem bytes5 : Tryz.prog.bytesOf 5 = 1 := by kernel_rfl
section
variable {H : Type} {enc : TypeId × Value -> H} {w : World} {base : Nat} {spare : Nat -> Bool} {held : Bool}
theorem open_bw {fuel : Nat} {cs : List Value} {x : DataW H × List MemPlace} (h : DataW.trod enc Tryz.prog w base spare held fuel 38 cs = some x) (hsz : ∀ k ∈ x.1.weights Tryz.prog 38, k <= 140737488351232) :
    ∃ v l, cs = [v] /\ Bw w v l /\ l.length <= 140737488351232 := by
  rcases Deep.open_slice Tryz.underlying38 h with ⟨hcs, _⟩ | ⟨a, len, cap, m, n, D, Pl, hcs, hb, hl, hm, hmm, hx, hel⟩
  . exact ⟨_, [], hcs, .inl (.inl ⟨rfl, rfl⟩), by simp⟩
  . have hlm : len <= m := by rw [hmm]; split <;> omega
    have hlen : len <= 140737488351232 := by
      have := hsz ((len + (m - len)) * 1) (by rw [hx]; simp [DataW.weights, Tryz.underlying38, bytes5])
      omega
    rcases Nat.eq_zero_or_pos len with rfl | h0
    . exact ⟨_, [], hcs, .inr ⟨rfl, _, _, rfl⟩, by simp⟩
    . have one : ∀ i, ∃ z : UInt8, i < len -> w.cell? ((a.add (i * 1)).add 0) = some (b8 z) := by
        intro i
        by_cases hi : i < len
        . obtain ⟨cs', hc, ht⟩ := hel i (by omega)
          rw [show Tryz.prog.cellsOf 5 = 1 by kernel_rfl] at hc
          obtain ⟨z, h3, _, h5⟩ := DataW.trod_int Tryz.underlying5 ht
          have hcell := World.cells?_some hc
          have := bounds_u8 h5
          refine ⟨UInt8.ofNat z.toNat, fun _ => ?_⟩
          rw [hcell.2.2 0 (by omega), h3]
          have e : ((UInt8.ofNat z.toNat).toNat : Int) = z := by
            rw [UInt8.toNat_ofNat_of_lt' (by simp; omega)]
            omega
          rw [show b8 (UInt8.ofNat z.toNat) = .int .u8 z from by show Value.int .u8 _ = _; rw [e]]
          rfl
        . exact ⟨0, fun h => absurd h hi⟩
      obtain ⟨Z, hZ⟩ := Classical.axiomOfChoice one
      have hzl : ((List.range len).map Z).length = len := by simp
      obtain ⟨b, o, rfl⟩ : ∃ b o, a = ⟨b, o, none⟩ := by
        have g0 := hZ 0 h0
        rw [Deep.add_add, Nat.zero_mul] at g0
        exact plain_of g0
      have hc0 : ∀ i, i < len -> w.cell? ⟨b, o + i, none⟩ = some (b8 (Z i)) := fun i hi => by
        have := hZ i hi
        rw [Deep.add_add, Nat.mul_one, Nat.add_zero, Addr.add_mid] at this
        exact this
      refine ⟨_, (List.range len).map Z, hcs, .inl (.inr ⟨b, o, cap, by rw [hzl], by rw [hzl]; exact hl, by unfold maxLen at hm; omega, World.block_lt_of_cell? _ _ (hc0 0 h0), id, fun i x hi => ?_⟩), by rw [hzl]; exact hlen⟩
      have hil : i < len := by
        have := (List.getElem?_eq_some_iff.1 hi).1
        omega
      rw [hc0 i hil]
      simp [hil] at hi
      rw [hi]
theorem open_lines {r : Reach} {b0 : Nat} {v : Value} {d : DataW H} {p : List MemPlace} (hv : Value.okWide Tryz.prog w r b0 22 v) (h : DataW.Trod enc Tryz.prog w base spare held 22 v d p) (hsz : ∀ k ∈ d.weights Tryz.prog 22, k <= 140737488351232) :
    ∃ la lc ls, v = .slice la (ls : List Bs).length lc /\ Rb w la ls /\ ls.length <= 9223372036854775807 := by
  obtain ⟨a, n, c, rfl⟩ := okWide_slice Tryz.underlying22 hv
  obtain ⟨fuel, hf⟩ := h
  have hf' : DataW.trod enc Tryz.prog w base spare held fuel 22 [.slice a n c] = some (d, p) := by simpa [Value.cells] using hf
  rcases Deep.open_slice Tryz.underlying22 hf' with ⟨hcs, _⟩ | ⟨a', len, cap, m, k, D, Pl, hcs, hb, hl, hm, hmm, hx, hel⟩
  . simp only [List.cons.injEq, Value.slice.injEq, and_true] at hcs
    obtain ⟨rfl, rfl, rfl⟩ := hcs
    exact ⟨none, 0, [], rfl, fun h => by simp at h, by simp⟩
  . simp only [List.cons.injEq, Value.slice.injEq, and_true] at hcs
    obtain ⟨rfl, rfl, rfl⟩ := hcs
    have hlm : n <= m := by rw [hmm]; split <;> omega
    have one : ∀ i, ∃ y : Value × Bs, i < n -> w.cell? ((a'.add (i * 1)).add 0) = some y.1 /\ Bw w y.1 y.2 /\ y.2.length <= 140737488351232 := by
      intro i
      by_cases hi : i < n
      . obtain ⟨cs', hc, ht⟩ := hel i (by omega)
        rw [cells38] at hc
        obtain ⟨v, l, ev, hbw, hll⟩ := open_bw ht (fun q hq => hsz _ (by
          rw [show d = _ from congrArg Prod.fst hx]
          simp only [DataW.weights, Tryz.underlying22]
          exact List.mem_cons_of_mem _ (List.mem_append_left _ (weightsAll_mem (d := D i) (List.mem_map.2 ⟨i, List.mem_range.2 hi, rfl⟩) _ hq))))
        have hcell := World.cells?_some hc
        refine ⟨⟨v, l⟩, fun _ => ⟨?_, hbw, hll⟩⟩
        rw [hcell.2.2 0 (by omega), ev]
        rfl
      . exact ⟨⟨.bool false, []⟩, fun h => absurd h hi⟩
    obtain ⟨F, hF⟩ := Classical.axiomOfChoice one
    have hfl : ((List.range n).map (fun i => (F i).2)).length = n := by simp
    refine ⟨some a', c, (List.range n).map (fun i => (F i).2), by rw [hfl], fun h0 => ?_, by rw [hfl]; unfold maxLen at hm; omega⟩
    rw [hfl] at h0
    obtain ⟨b, o, rfl⟩ : ∃ b o, a' = ⟨b, o, none⟩ := by
      have g0 := (hF 0 h0).1
      rw [Deep.add_add, Nat.zero_mul] at g0
      exact plain_of g0
    refine ⟨b, o, rfl, fun i x hi => ?_⟩
    have hil : i < n := by
      have := (List.getElem?_eq_some_iff.1 hi).1
      omega
    obtain ⟨g0, g1, g2⟩ := hF i hil
    simp [hil] at hi
    rw [hi] at g1 g2
    rw [Deep.add_add, Nat.mul_one, Nat.add_zero, Addr.add_mid] at g0
    exact ⟨_, g0, g1, g2⟩
end
end Go.Proofs.YtobegepebochkaaGreatDoor
namespace Go.Proofs.YtobegepebochkaaGreatDoor
open Go Go.RowKit Go.Shelf
theorem er_lineExact {W : World} (h : laidMetH Tryz.prog Rows.lineExactRow.laid W) : Er W := by
  rw [MakeChecks.laidMetH_plain _ _ _ (by kernel_rfl)] at h
  have h4 := h.tail.tail.tail.tail
  obtain ⟨a0, s0, hv0, -, -, -⟩ := laid_sentinel h4 gER gERT Tryz.underlying201 (fun u h => rowErr u (h.trans (by kernel_rfl))) Tryz.underlying246 Tryz.underlying248 rfl rfl Tryz.underlying9 cellsErr cells9
  obtain ⟨a1, s1, hv1, -, -, -⟩ := laid_sentinel h4.tail gES gEST Tryz.underlying201 (fun u h => rowErr u (h.trans (by kernel_rfl))) Tryz.underlying246 Tryz.underlying248 rfl rfl Tryz.underlying9 cellsErr cells9
  have c0 := World.var?_cell gER hv0 0
  have c1 := World.var?_cell gES hv1 0
  exact ⟨⟨_, _, by simpa using c1⟩, _, _, by simpa using c0⟩
end Go.Proofs.YtobegepebochkaaGreatDoor

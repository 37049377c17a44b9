import Derived.Deep.CutRange
import Derived.Test.YtobegepebochkaaGreatDoorRPbn
set_option linter.unusedVariables false
set_option linter.unusedSimpArgs false
set_option maxRecDepth 100000
set_option maxHeartbeats 16000000
namespace Go.Proofs.YtobegepebochkaaGreatDoor
open Go.RowKit Go.Maps
abbrev sqCb0 (p : String) : Oper := { dst := some 80, op := Op.load 86 (Operand.tmp 13), type := 86, pos := p, after := #[], guard := none }
abbrev sqCb1 (p : String) : Oper := { dst := some 81, op := Op.fieldAddr 86 (Operand.tmp 13) 3, type := 0, pos := p, after := #[{ on := 4, ground := Ground.gcOnly Departure.lateStores }], guard := none }
abbrev sqCb2 (p : String) : Oper := { dst := some 82, op := Op.load 3 (Operand.tmp 81), type := 3, pos := p, after := #[{ on := 1, ground := Ground.data }, { on := 4, ground := Ground.gcOnly Departure.lateStores }], guard := none }
abbrev sqCb3 (p : String) : Oper := { dst := some 83, op := Op.binOp BinOp.geq 3 (Operand.tmp 82) (Operand.const (Value.int IntKind.i64 0)) 3, type := 4, pos := p, after := #[{ on := 2, ground := Ground.data }, { on := 4, ground := Ground.gcOnly Departure.lateStores }], guard := none }
abbrev sqCb4 (p : String) : Oper := { dst := some 7, op := Op.assign (Operand.tmp 83), type := 4, pos := p, after := #[{ on := 3, ground := Ground.data }, { on := 4, ground := Ground.chain }, { on := 0, ground := Ground.phase }, { on := 1, ground := Ground.phase }, { on := 2, ground := Ground.phase }, { on := 3, ground := Ground.phase }, { on := 4, ground := Ground.phase }], guard := none }
theorem res75 {w : World} {b : Nat} {c0 c1 c2 c3 c4 c5 c6 c7 c8 c9 c10 c11 c12 c13 c14 c15 v : Value} (h : Box w 86 b #[c0, c1, c2, c3, c4, c5, c6, c7, c8, c9, c10, c11, c12, c13, c14, c15]) (tmps : Array Value) (ht : tmps[6]?.getD undef = .pointer (some ⟨b, 0, none⟩)) (hv : tmps[7]?.getD undef = v) : (results Tryz.f75 tmps).run Tryz.prog w = .ok (.tuple #[.agg #[c0, c1, c2, c3, c4, c5, c6, c7, c8, c9, c10, c11, c12, c13, c14, c15], v]) w := by
  have hr : Tryz.f75.results = #[.cell 6 86, .tmp 7] := rfl
  have h0 := h.cell 0
  have h1 := h.cell 1
  have h2 := h.cell 2
  have h3 := h.cell 3
  have h4 := h.cell 4
  have h5 := h.cell 5
  have h6 := h.cell 6
  have h7 := h.cell 7
  have h8 := h.cell 8
  have h9 := h.cell 9
  have h10 := h.cell 10
  have h11 := h.cell 11
  have h12 := h.cell 12
  have h13 := h.cell 13
  have h14 := h.cell 14
  have h15 := h.cell 15
  simp at h0 h1 h2 h3 h4 h5 h6 h7 h8 h9 h10 h11 h12 h13 h14 h15
  unfold results
  simp [hr, ht, hv, go_sem, h0, h1, h2, h3, h4, h5, h6, h7, h8, h9, h10, h11, h12, h13, h14, h15]
def OnQ (limit at_ : Nat) (r : Bs) (w : World) (e : Ending) (w' : World) : Prop :=
  w.grownBy w' none /\ ((∃ z : Array Value, e = .returned (.tuple #[.agg z, .bool false]) /\ z.size = 16 /\ z.all (·.oneCell') = true /\ StepN limit at_ r) \/
    ∃ s n ka kc da dc ma mc, e = .returned (.tuple #[.agg (stpA s (.slice ka s.cmd.keys.length kc) (.slice da s.data.length dc) (.slice ma s.cmd.mt.length mc)), .bool true]) /\ StepY limit at_ r s n /\ w'.ownsRow w.heap.size 9 1 (.slice ka s.cmd.keys.length kc) s.cmd.keys.length (s.cmd.keys.map sv) /\ w'.ownsRow w.heap.size 5 1 (.slice da s.data.length dc) s.data.length (s.data.map b8) /\ w'.ownsRow w.heap.size 79 3 (.slice ma s.cmd.mt.length mc) s.cmd.mt.length (fcs s.cmd.mt))
theorem blkT_no {r : Bs} (e : Nat) (h : (10 : UInt8) ∉ r) : blkT r e = -1 := by rw [blkT, nxL_no r e h]; rfl
theorem blkT_yes {u v : Bs} (e : Nat) (h : (10 : UInt8) ∉ u) : blkT (u ++ 10 :: v) e = ((e + (u.length + 1) : Nat) : Int) := by
  rw [blkT, nxL_yes u v e h, if_neg (by omega)]
  omega
theorem blkG_yes {u : Bs} (v : Bs) (h : (10 : UInt8) ∉ u) : blkG (u ++ 10 :: v) = decide (u = [13]) := by
  match u, h with
  | [], h => simp [blkG]
  | [x], h =>
    by_cases hx : x = 13
    . subst hx; simp [blkG]
    . rw [decide_eq_false (by simpa using hx)]
      show blkG (x :: 10 :: v) = false
      unfold blkG
      split
      . rename_i e; injection e with e _; exact absurd e hx
      . rfl
  | x :: y :: u, h =>
    rw [decide_eq_false (by simp)]
    show blkG (x :: y :: (u ++ 10 :: v)) = false
    unfold blkG
    split
    . rename_i e
      injection e with _ e
      injection e with e _
      exact absurd (by simp [e]) h
    . rfl
theorem one_none {w : World} {X : Nat -> Prop} {a : Option Addr} {c : Nat} {raw : Bs} (hv : Ck w X (.slice a raw.length c) raw) (hl : raw.length <= 1099511627776) (at_ lim : Nat) (hat : at_ <= raw.length) (hr : (10 : UInt8) ∉ raw.drop at_) :
    Calls Tryz.prog 75 #[.slice a raw.length c, .int .i64 at_, .int .i64 lim] w fun e w' => OnQ lim at_ (raw.drop at_) w e w' := by
  have hN := step_none (limit := lim) (at_ := at_) hr
  have ga := gb_alloc (gb_refl w none) (.cells Z86 86)
  have bx := Box.new w 86 Z86
  have h116 := next_116 (hv.kp (Kp.of (F := fun _ => False) ga) (Y := fun _ => False) (fun _ _ h => h.elim) (fun _ _ h => h.elim)) hl at_ hat
  rw [nxL_no _ _ hr] at h116
  clear hv
  go_enter Tryz.func75, Tryz.ntmps75
  go_wp2_with (first | (go_at_call 116; go_must ((with_reducible refine h116.mono ?_); rintro e w4 ⟨rfl, hw4⟩; (have hw5 := hw4.symm); subst hw5)) | (refine atS 86 w.heap.size 0 rfl rfl ?_; go_must (refine storeT 86 16 size86 rfl _ _ rfl 86 w.heap.size 0 _ bx (by simp) rfl _ rfl rfl (by simp [Value.oneCell']) ?_); intro W4 hb4 hg4; (simp only [sets_0] at hb4)))
  exact ⟨rfl, _, res75 hb4 _ rfl rfl, gb_mine ga hg4 (Nat.le_refl _), .inl ⟨_, rfl, rfl, by simp [Value.oneCell'], hN⟩⟩
theorem one_some {w : World} {X : Nat -> Prop} {g o cp : Nat} {raw : Bs} (hv : Ck w X (.slice (some ⟨g, o, none⟩) raw.length cp) raw) (hl : raw.length <= 34359738368) (at_ lim : Nat) (hlim : lim <= 9223372036854775807) (hat : at_ <= raw.length) (p t : Bs) (hr : raw.drop at_ = p ++ 10 :: t) (hp : (10 : UInt8) ∉ p) :
    Calls Tryz.prog 75 #[.slice (some ⟨g, o, none⟩) raw.length cp, .int .i64 at_, .int .i64 lim] w fun e w' => OnQ lim at_ (raw.drop at_) w e w' := by
  have hcap : raw.length <= cp /\ cp <= 9223372036854775807 := by
    rcases hv with ⟨_, h⟩ | ⟨_, _, _, h, h1, h2, _⟩
    . cases h
    . injection h with _ _ h; subst h; exact ⟨h1, h2⟩
  have hlen : at_ + p.length + 1 + t.length = raw.length := by
    have := congrArg List.length hr
    simp only [List.length_drop, List.length_append, List.length_cons] at this
    omega
  obtain ⟨E, hE⟩ : ∃ E, at_ + p.length = E := ⟨_, rfl⟩
  have ht : raw.drop (E + 1) = t := by
    have e : E + 1 = at_ + (p.length + 1) := by omega
    rw [e, <- List.drop_drop, hr, show p ++ 10 :: t = (p ++ [10]) ++ t by simp, List.drop_left' (by simp)]
  have ga := gb_alloc (gb_refl w none) (.cells Z86 86)
  have bx := Box.new w 86 Z86
  have hv0 : Ck (w.alloc (.cells Z86 86)) (fun _ => False) (.slice (some ⟨g, o, none⟩) raw.length cp) raw := hv.kp (Kp.of (F := fun _ => False) ga) (fun _ _ h => h.elim) (fun _ _ h => h.elim)
  have h116 := next_116 hv0 (by omega) at_ hat
  rw [hr, nxL_yes p t at_ hp, hE] at h116
  -- the line
  have hcut := hv0.cutA at_ p.length (by omega)
  rw [hr, List.take_left' rfl] at hcut
  have hcut' : Ck (w.alloc (.cells Z86 86)) (fun _ => False) (.slice (some ⟨g, o + at_, none⟩) p.length (cp - at_)) p := by
    have e : (Option.map (fun x : Addr => x.add at_) (some ⟨g, o, none⟩)) = some ⟨g, o + at_, none⟩ := by simp [Addr.add]
    rw [e] at hcut
    exact hcut
  have hsub : E - at_ = p.length := by omega
  obtain ⟨N, hN⟩ : ∃ N, raw.length = N := ⟨_, rfl⟩
  have hrb : (w.alloc (.cells Z86 86)).heap.size = w.heap.size + 1 := by simp
  rw [hN] at hl hat hlen hcap h116 ⊢
  have HV : Hid (Ck (w.alloc (.cells Z86 86)) (fun _ => False) (.slice (some ⟨g, o, none⟩) N cp) raw) := by rw [<- hN]; exact hv0
  have hNc : ¬ (cp = at_) := by omega
  have hq1 : ((at_ : Int) <= (E : Int)) := by omega
  have hq2 : ((E : Int) <= (cp : Int)) := by omega
  have hq3 : ¬ ((E : Int) < 0) := by omega
  have HC : Hid (Ck (w.alloc (.cells Z86 86)) (fun _ => False) (.slice (some ⟨g, o + at_, none⟩) p.length (cp - at_)) p) := hcut'
  have HN : Hid (raw.length = N) := hN
  have HVA : Hid (∀ W : World, w.grownBy W none -> Ck W (fun _ => False) (.slice (some ⟨g, o, none⟩) N cp) raw) := fun W hW => by rw [<- hN]; exact hv.kp (Kp.of (F := fun _ => False) hW) (fun _ _ h => h.elim) (fun _ _ h => h.elim)
  have HR : Hid (raw.drop at_ = p ++ 10 :: t) := hr
  have HT : Hid (raw.drop (E + 1) = t) := ht
  clear hv hv0 hcut hcut' hN hr ht
  go_enter Tryz.func75, Tryz.ntmps75
  go_upto_region 1 with (fail)
  generalize w.alloc (.cells Z86 86) = W0 at *
  go_upto_region 5 with (first | (go_at_call 116; go_must ((with_reducible refine h116.mono ?_); rintro e w4 ⟨rfl, hw4⟩; (have hw5 := hw4.symm); subst hw5)))
  clear h116
  have hpl : p.length <= 34359738368 := by omega
  go_cut [39] from 28 to 39 (fun x39 wd => x39 = .bool (decide (p.getLast? = some 13)) /\ wd = W0)
  case first =>
    rcases List.eq_nil_or_concat p with hp0 | ⟨p', x, hp1⟩
    . have hp0' : p.length = 0 := by rw [hp0]; rfl
      have hd : decide (p.getLast? = some 13) = false := by rw [hp0]; rfl
      have HD : Hid _ := hd
      have d1 : decide ((0 : Int) < (p.length : Int)) = false := by simp; omega
      clear hd
      generalize p.length = pl at *
      go_wp2
      go_meet
      exact ⟨by rw [HD.out], rfl⟩
    . have hpl1 : p.length = p'.length + 1 := by rw [hp1]; simp
      have hpx : p[p'.length]? = some x := by rw [hp1]; simp
      have hgl : p.getLast? = some x := by rw [hp1]; simp
      obtain ⟨g', o', e', cx⟩ := Ck.at' HC.out hpx
      injection e' with e'
      injection e' with e1 e2
      subst e1 e2
      have HGL : Hid _ := hgl
      generalize p'.length = q at *
      have d1 : decide ((0 : Int) < (p.length : Int)) = true := by simp; omega
      have d0 : ((0 : Int) < (p.length : Int)) := by omega
      have hw1 : IntKind.i64.wrap ((p.length : Int) - 1) = (q : Int) := by rw [IntKind.wrap_i64]; omega
      have hw2 : (p.length : Int) - 1 = (q : Int) := by omega
      have hqb : ((q : Int) < (p.length : Int)) := by omega
      have HP : Hid (p.length = q + 1) := hpl1
      clear hpl1 hpx hgl hp1
      generalize p.length = pl at *
      by_cases hx : x = 13
      . subst hx
        have cx' : W0.cell? ⟨g, o + at_ + q, none⟩ = some (.int .u8 13) := cx
        clear cx
        go_wp2
        go_meet
        exact ⟨by rw [HGL.out]; simp, rfl⟩
      . have hne : ¬ (x.toNat : Int) = 13 := fun e => hx (UInt8.toNat_inj.1 (by show x.toNat = 13; omega))
        have hne2 : ¬ x.toNat = 13 := fun e => hne (by omega)
        have hd1 : ((x.toNat : Int) == 13) = false := by simpa using hne
        have hd0 : (x.toNat == 13) = false := by simpa using hne2
        have hd9 : decide (some x = some (13 : UInt8)) = false := decide_eq_false (by simpa using hx)
        have HD9 : Hid _ := hd9
        clear hd9
        go_wp2
        go_meet
        exact ⟨by rw [HGL.out, HD9.out], rfl⟩
  case rest =>
    obtain ⟨rfl, hwd⟩ := hcut
    have hwd2 := hwd.symm
    subst hwd2
    clear hwd
    go_upto_if 39 with (fail)
    go_cut [9] from 39 to 44 (fun x9 wd => x9 = .slice (some ⟨g, o + at_, none⟩) (trim p).length (cp - at_) /\ wd = W0)
    case first =>
      by_cases h13 : p.getLast? = some 13
      . have hd : decide (p.getLast? = some 13) = true := decide_eq_true h13
        have htl : (trim p).length = p.length - 1 := by rw [trim, if_pos h13, List.length_dropLast]
        have hp1 : 0 < p.length := by cases p with | nil => cases h13 | cons => simp
        obtain ⟨q, hq⟩ : ∃ q, p.length = q + 1 := ⟨p.length - 1, by omega⟩
        have htq : (trim p).length = q := by omega
        have HTQ : Hid _ := htq
        have hw1 : IntKind.i64.wrap ((p.length : Int) - 1) = (q : Int) := by rw [IntKind.wrap_i64]; omega
        have hw2 : (p.length : Int) - 1 = (q : Int) := by omega
        have hqb : ((q : Int) <= ((cp - at_ : Nat) : Int)) := by omega
        have hcc : ((cp - at_ : Nat) : Int) = (cp : Int) - (at_ : Int) := by omega
        clear htl htq hq
        generalize p.length = pl at *
        go_wp2
        go_meet
        exact ⟨by rw [HTQ.out], rfl⟩
      . have hd : decide (p.getLast? = some 13) = false := decide_eq_false h13
        have HTL : Hid (trim p = p) := by rw [trim, if_neg h13]; rfl
        go_wp2
        go_meet
        exact ⟨by rw [HTL.out], rfl⟩
    case rest =>
      obtain ⟨rfl, hwd⟩ := hcut
      have hwd2 := hwd.symm
      subst hwd2
      have HL : Hid (Ck W0 (fun _ => False) (.slice (some ⟨g, o + at_, none⟩) (trim p).length (cp - at_)) (trim p)) := by
        show Ck _ _ _ _
        by_cases h13 : p.getLast? = some 13
        . rw [trim, if_pos h13, List.dropLast_eq_take, List.length_take]
          have := Ck.take HC.out (p.length - 1) (by omega)
          rw [show min (p.length - 1) p.length = p.length - 1 by omega]
          exact this
        . rw [trim, if_neg h13]; exact HC.out
      have htl := (trim_len p).2
      have h13 := (rline_any _ (trim p) HL.out (by omega)).mono (fun _ _ h => LnU.of h)
      have HA : Hid (an (trim p) = an (trim p)) := rfl
      simp only [LnU] at h13
      generalize hAn : an (trim p) = A at h13
      have HAn : Hid (an (trim p) = A) := hAn
      obtain ⟨c, nn, wk, wt, wp⟩ := A
      simp only at h13
      clear hAn HA HL HC
      go_upto_region 8 with (first
        | (go_at_call 13; go_must ((with_reducible refine h13.mono ?_); rintro e w1 ⟨ka, kc, ma, mc, rfl, hk1, hm1, hg1⟩; obtain ⟨z1, z2, z3⟩ := zz_new w1))
        | (refine atS 41 w1.heap.size 0 rfl rfl ?_; go_must (refine storeT 41 11 size41 rfl _ _ rfl 41 w1.heap.size 0 _ z1 (by simp) rfl _ rfl rfl (by simp [Value.oneCell']) ?_); intro X6 b6 g6; (have k6 := Box.kept z2 g6 (by simp)))
        | (refine atS 43 (w1.heap.size + 1) 0 rfl rfl ?_; go_must (refine storeT 43 3 size43 rfl _ _ rfl 43 (w1.heap.size + 1) 0 _ k6 (by simp) rfl _ rfl rfl (by simp [Value.oneCell']) ?_); intro X7 k7 g7; (have b7 := Box.kept b6 g7 (by simp))))
      rw [show sets Z41 0 (#[.int .i64 c.verb, .slice ka c.keys.length kc, .int .u64 c.flags, .int .i64 c.exp, .int .u64 c.tok, .int .u64 c.del, .slice none 0 0, .bool c.nr, .bool false, .slice ma c.mt.length mc, sv c.what] : Array Value).toList = #[.int .i64 c.verb, .slice ka c.keys.length kc, .int .u64 c.flags, .int .i64 c.exp, .int .u64 c.tok, .int .u64 c.del, .slice none 0 0, .bool c.nr, .bool false, .slice ma c.mt.length mc, sv c.what] from sets_41 _ _ _ _ _ _ _ _ _ _ _ _ _ _ _ _ _ _ _ _ _ _] at b7
      rw [show sets Z43 0 (#[.int .i64 wk, sv wt, .int .i64 wp] : Array Value).toList = #[.int .i64 wk, sv wt, .int .i64 wp] from sets_43 _ _ _ _ _ _] at k7
      have hs1 := hg1.size
      have hgA : W0.grownBy X7 none := gb_mine (gb_mine (gb_trans hg1 z3) g6 (by omega)) g7 (by omega)
      have hk7 := row_kept (row_kept (row_kept hk1 z3 (by simp)) g6 (fun k hk e => by have := (row_ge hk1 hk).2; have := Option.some.inj e; omega)) g7 (fun k hk e => by have := (row_ge hk1 hk).2; have := Option.some.inj e; omega)
      have hm7 := row_kept (row_kept (row_kept hm1 z3 (by simp)) g6 (fun k hk e => by have := (row_ge hm1 hk).2; have := Option.some.inj e; omega)) g7 (fun k hk e => by have := (row_ge hm1 hk).2; have := Option.some.inj e; omega)
      have bx7 := bx.kept hgA (by simp)
      obtain ⟨cb, hcb⟩ : ∃ cb, cb = w1.heap.size := ⟨_, rfl⟩
      rw [<- hcb] at b7 k7 ⊢
      have hcbw : w.heap.size < cb := by omega
      have b9 := Box.new X7 86 Z86
      have gz9 := gb_alloc (gb_refl X7 none) (.cells Z86 86)
      have HV7 : Hid (Ck X7 (fun _ => False) (.slice (some ⟨g, o, none⟩) N cp) raw) := Ck.kp HV.out (Kp.of (F := fun _ => False) hgA) (fun _ _ h => h.elim) (fun _ _ h => h.elim)
      have hk7' := row_base hk7 (show w.heap.size <= W0.heap.size by omega)
      have hm7' := row_base hm7 (show w.heap.size <= W0.heap.size by omega)
      have gA := gb_trans ga hgA
      clear hk1 hm1 hg1 z1 z2 z3 g6 g7 b6 k6 hs1 hgA hk7 hm7 bx hcb h13 HV
      have hwE : IntKind.i64.wrap ((E : Int) + 1) = (E : Int) + 1 := by rw [IntKind.wrap_i64]; omega
      go_upto_region 9 with (first
        | (refine atL 41 cb 0 rfl rfl ?_; go_must (refine load41 rfl _ rfl 41 cb 0 _ b7 rfl [.int .i64 c.verb, .slice ka c.keys.length kc, .int .u64 c.flags, .int .i64 c.exp, .int .u64 c.tok, .int .u64 c.del, .slice none 0 0, .bool c.nr, .bool false, .slice ma c.mt.length mc, sv c.what] rfl (fun j v hv => by simpa using hv) ?_))
        | (refine atL 43 (cb + 1) 0 rfl rfl ?_; go_must (refine load43 rfl _ rfl 43 (cb + 1) 0 _ k7 rfl [.int .i64 wk, sv wt, .int .i64 wp] rfl (fun j v hv => by simpa using hv) ?_))
        | (refine atS 86 X7.heap.size 0 rfl rfl ?_; go_must (refine storeT 86 16 size86 rfl _ _ rfl 86 X7.heap.size 0 _ b9 (by simp) rfl _ rfl rfl (by simp [Value.oneCell']) ?_); intro X9 bs9 gs9; (simp only [sets_0] at bs9)))
      obtain ⟨sb, hsb⟩ : ∃ sb, sb = X7.heap.size := ⟨_, rfl⟩
      rw [<- hsb] at bs9 gs9 ⊢
      have hsw : w.heap.size < sb := by have := k7.lt; omega
      have hsr : sb ≠ w.heap.size := by omega
      have gX : w.grownBy X9 none := gb_mine (gb_trans gA gz9) gs9 (by omega)
      have g79 : X7.grownBy X9 none := gb_mine gz9 gs9 (by omega)
      have bR := bx7.kept g79 (by simp)
      have bW := k7.kept g79 (by simp)
      have hk9 := row_kept hk7' g79 (by simp)
      have hm9 := row_kept hm7' g79 (by simp)
      have HV9 : Hid (Ck X9 (fun _ => False) (.slice (some ⟨g, o, none⟩) N cp) raw) := Ck.kp HV7.out (Kp.of (F := fun _ => False) g79) (fun _ _ h => h.elim) (fun _ _ h => h.elim)
      have hcs := bW.lt
      clear gs9 b9 gz9 bx7 k7 b7 hk7' hm7' HV7 gA g79 hsb
      have wc0 : X9.cell? ⟨cb + 1, 0, none⟩ = some (.int .i64 wk) := bW.cell 0
      have wc2 : X9.cell? ⟨cb + 1, 2, none⟩ = some (.int .i64 wp) := bW.cell 2
      have rk : ∀ {W W' : World} {e : TypeId} {s : Nat} {v : Value} {m : Nat} {ys : List Value}, W.ownsRow w.heap.size e s v m ys -> W.grownBy W' (some w.heap.size) -> Box W 86 w.heap.size Z86 -> e ≠ 86 -> W'.ownsRow w.heap.size e s v m ys := fun hr hg hb he => row_kept hr hg (fun k hk e2 => by obtain ⟨c2, h2⟩ := row_block hr k hk; exact ne_of_type h2 hb he (Option.some.inj e2))
      have HTO : Hid ((E : Int) + 1 = ((at_ + (p.length + 1) : Nat) : Int)) := by show (E : Int) + 1 = ((at_ + (p.length + 1) : Nat) : Int); omega
      try simp only [Act.put, pY]
      cases hls : lineS (trim p) with
      | inl x =>
        obtain ⟨c0, n0⟩ := x
        have hA := HAn.out
        simp only [an, hls] at hA
        injection hA with e1 hA
        injection hA with e2 hA
        injection hA with e3 hA
        injection hA with e4 e5
        subst e1 e2 e3 e4 e5
        by_cases hn : n0 < 0
        . as_aux_lemma =>
            have hY := stepY_inl (limit := lim) (at_ := at_) (t := t) hp hls hn
            rw [<- HR.out] at hY
            go_wp2_with (first | (refine atL 86 sb 0 rfl rfl ?_; go_must (refine load86 rfl _ rfl 86 sb 0 _ bs9 rfl [.int .i64 c0.verb, .slice ka c0.keys.length kc, .int .u64 c0.flags, .int .i64 c0.exp, .int .u64 c0.tok, .int .u64 c0.del, .slice none 0 0, .bool c0.nr, .bool false, .slice ma c0.mt.length mc, sv c0.what, .int .i64 0, sv [], .int .i64 0, .int .i64 at_, .int .i64 ((E : Int) + 1)] rfl (fun j v hv => by simpa using hv) ?_)) | (refine atS 86 w.heap.size 0 rfl rfl ?_; go_must (refine storeT 86 16 size86 rfl _ _ rfl 86 w.heap.size 0 _ bR (by simp) rfl _ rfl rfl (by simp [Value.oneCell']) ?_); intro Y9 yb yg; (simp only [sets_0] at yb)))
            refine ⟨rfl, _, res75 yb _ rfl rfl, gb_mine gX yg (Nat.le_refl _), .inr ⟨_, _, ka, kc, none, 0, ma, mc, ?_, hY, rk hk9 yg bR (by decide), ⟨rfl, .inl ⟨rfl, rfl⟩⟩, rk hm9 yg bR (by decide)⟩⟩
            rw [HTO.out]
            rfl
        . as_aux_lemma =>
            obtain ⟨m, hm⟩ : ∃ m : Nat, n0 = (m : Int) := ⟨n0.toNat, by omega⟩
            subst hm
            have hm31 := (lineS_ok hls).2
            have dq : decide ((m : Int) < 0) = false := by simp
            have hln := lnF_inl (limit := lim) (at_ := at_) hls
            rw [if_neg hn] at hln
            have h117 := block_117 (raw := raw) (w := X9) (by rw [HN.out]; exact HV9.out) (by rw [HN.out]; omega) (E + 1) m (by omega)
            rw [HN.out, <- List.drop_drop, HT.out, show (((E + 1 : Nat)) : Int) = (E : Int) + 1 by omega] at h117
            have f15 := bs9.fz 15
            have c15 : X9.cell? ⟨sb, 15, none⟩ = some (.int .i64 ((E : Int) + 1)) := bs9.cell 15
            have hboth : (t.length < m -> StepN lim at_ (p ++ 10 :: t)) /\ ∀ b u, t = b ++ u -> b.length = m -> (10 : UInt8) ∉ u -> StepN lim at_ (p ++ 10 :: t) := by
              by_cases hlm : (lim : Int) < (m : Int)
              . rw [if_pos hlm] at hln
                have hsp := step_pass (limit := lim) (at_ := at_) hp (s := stpC c0 true) (n := m) (by rw [hln]; simp) t
                exact ⟨hsp.1, hsp.2.1⟩
              . rw [if_neg hlm] at hln
                have hsp := step_await (limit := lim) (at_ := at_) hp (c := c0) (n := m) (by rw [hln]; simp) t
                exact ⟨hsp.1, hsp.2.1⟩
            rcases three t m with h3 | ⟨bb, u, h3, hb3, hu3⟩ | ⟨bb, u, vv, h3, hb3, hu3⟩
            . have hN := hboth.1 h3
              rw [<- HR.out] at hN
              have hno : (10 : UInt8) ∉ t.drop m := by rw [List.drop_eq_nil_of_le (by omega)]; simp
              rw [blkT_no _ hno] at h117
              generalize blkG (t.drop m) = G at h117
              have bs10 : Box (X9.setCell ⟨sb, 15, none⟩ (.int .i64 (-1))) 86 sb #[.int .i64 c0.verb, .slice ka c0.keys.length kc, .int .u64 c0.flags, .int .i64 c0.exp, .int .u64 c0.tok, .int .u64 c0.del, .slice none 0 0, .bool c0.nr, .bool false, .slice ma c0.mt.length mc, sv c0.what, .int .i64 0, sv [], .int .i64 0, .int .i64 at_, .int .i64 (-1)] := bs9.set 15 _
              have g10 : X9.grownBy (X9.setCell ⟨sb, 15, none⟩ (.int .i64 (-1))) (some sb) := gb_setCell (gb_refl _ _) _
              have bR10 := bR.kept g10 (by simp; omega)
              have gX10 := gb_mine gX g10 (by omega)
              go_upto_region 18 with (go_at_call 117; go_must ((with_reducible refine h117.mono ?_); rintro e wz ⟨rfl, hwz⟩; (have hwz2 := hwz.symm); subst hwz2))
              clear h117 f15 c15 bs9
              generalize X9.setCell ⟨sb, 15, none⟩ (.int .i64 (-1)) = XA at *
              go_wp2_with (first | (refine atL 86 sb 0 rfl rfl ?_; go_must (refine load86 rfl _ rfl 86 sb 0 _ bs10 rfl [.int .i64 c0.verb, .slice ka c0.keys.length kc, .int .u64 c0.flags, .int .i64 c0.exp, .int .u64 c0.tok, .int .u64 c0.del, .slice none 0 0, .bool c0.nr, .bool false, .slice ma c0.mt.length mc, sv c0.what, .int .i64 0, sv [], .int .i64 0, .int .i64 at_, .int .i64 (-1)] rfl (fun j v hv => by simpa using hv) ?_)) | (refine atS 86 w.heap.size 0 rfl rfl ?_; go_must (refine storeT 86 16 size86 rfl _ _ rfl 86 w.heap.size 0 _ bR10 (by simp) rfl _ rfl rfl (by simp [Value.oneCell']) ?_); intro Y9 yb yg; (simp only [sets_0] at yb)))
              exact ⟨rfl, _, res75 yb _ rfl rfl, gb_mine gX10 yg (Nat.le_refl _), .inl ⟨_, rfl, rfl, by simp [Value.oneCell'], hN⟩⟩
            . have hN := hboth.2 bb u h3 hb3 hu3
              rw [<- HR.out] at hN
              have hno : (10 : UInt8) ∉ t.drop m := by rw [h3, List.drop_left' hb3]; exact hu3
              rw [blkT_no _ hno] at h117
              generalize blkG (t.drop m) = G at h117
              have bs10 : Box (X9.setCell ⟨sb, 15, none⟩ (.int .i64 (-1))) 86 sb #[.int .i64 c0.verb, .slice ka c0.keys.length kc, .int .u64 c0.flags, .int .i64 c0.exp, .int .u64 c0.tok, .int .u64 c0.del, .slice none 0 0, .bool c0.nr, .bool false, .slice ma c0.mt.length mc, sv c0.what, .int .i64 0, sv [], .int .i64 0, .int .i64 at_, .int .i64 (-1)] := bs9.set 15 _
              have g10 : X9.grownBy (X9.setCell ⟨sb, 15, none⟩ (.int .i64 (-1))) (some sb) := gb_setCell (gb_refl _ _) _
              have bR10 := bR.kept g10 (by simp; omega)
              have gX10 := gb_mine gX g10 (by omega)
              go_upto_region 18 with (go_at_call 117; go_must ((with_reducible refine h117.mono ?_); rintro e wz ⟨rfl, hwz⟩; (have hwz2 := hwz.symm); subst hwz2))
              clear h117 f15 c15 bs9
              generalize X9.setCell ⟨sb, 15, none⟩ (.int .i64 (-1)) = XA at *
              go_wp2_with (first | (refine atL 86 sb 0 rfl rfl ?_; go_must (refine load86 rfl _ rfl 86 sb 0 _ bs10 rfl [.int .i64 c0.verb, .slice ka c0.keys.length kc, .int .u64 c0.flags, .int .i64 c0.exp, .int .u64 c0.tok, .int .u64 c0.del, .slice none 0 0, .bool c0.nr, .bool false, .slice ma c0.mt.length mc, sv c0.what, .int .i64 0, sv [], .int .i64 0, .int .i64 at_, .int .i64 (-1)] rfl (fun j v hv => by simpa using hv) ?_)) | (refine atS 86 w.heap.size 0 rfl rfl ?_; go_must (refine storeT 86 16 size86 rfl _ _ rfl 86 w.heap.size 0 _ bR10 (by simp) rfl _ rfl rfl (by simp [Value.oneCell']) ?_); intro Y9 yb yg; (simp only [sets_0] at yb)))
              exact ⟨rfl, _, res75 yb _ rfl rfl, gb_mine gX10 yg (Nat.le_refl _), .inl ⟨_, rfl, rfl, by simp [Value.oneCell'], hN⟩⟩
            . have hdr : t.drop m = u ++ 10 :: vv := by rw [h3, List.drop_left' hb3]
              rw [hdr, blkT_yes _ hu3, blkG_yes vv hu3] at h117
              obtain ⟨TT, hTT⟩ : ∃ TT : Int, TT = ((E + 1 + m + (u.length + 1) : Nat) : Int) := ⟨_, rfl⟩
              have HTT : Hid (TT = ((at_ + (p.length + 1 + (m + (u.length + 1))) : Nat) : Int)) := by show TT = _; rw [hTT]; omega
              have hT0 : ¬ TT < (0 : Int) := by omega
              have dT : decide (TT < (0 : Int)) = false := by simp; omega
              have hbl : m + (u.length + 1) + vv.length = t.length := by rw [h3]; simp only [List.length_append, List.length_cons]; omega
              rw [<- hTT] at h117
              clear hTT
              have bs10 : Box (X9.setCell ⟨sb, 15, none⟩ (.int .i64 TT)) 86 sb #[.int .i64 c0.verb, .slice ka c0.keys.length kc, .int .u64 c0.flags, .int .i64 c0.exp, .int .u64 c0.tok, .int .u64 c0.del, .slice none 0 0, .bool c0.nr, .bool false, .slice ma c0.mt.length mc, sv c0.what, .int .i64 0, sv [], .int .i64 0, .int .i64 at_, .int .i64 TT] := bs9.set 15 _
              have g10 : X9.grownBy (X9.setCell ⟨sb, 15, none⟩ (.int .i64 TT)) (some sb) := gb_setCell (gb_refl _ _) _
              have bR10 := bR.kept g10 (by simp; omega)
              have gX10 := gb_mine gX g10 (by omega)
              have rs : ∀ {e : TypeId} {s : Nat} {v : Value} {m : Nat} {ys : List Value}, X9.ownsRow w.heap.size e s v m ys -> e ≠ 86 -> (X9.setCell ⟨sb, 15, none⟩ (.int .i64 TT)).ownsRow w.heap.size e s v m ys := fun hr he => row_kept hr g10 (fun k hk e2 => by obtain ⟨c2, h2⟩ := row_block hr k hk; exact ne_of_type h2 bs9 he (Option.some.inj e2))
              have hk10 := rs hk9 (by decide)
              have hm10 := rs hm9 (by decide)
              have HVS : Hid (Ck (X9.setCell ⟨sb, 15, none⟩ (.int .i64 TT)) (fun _ => False) (.slice (some ⟨g, o, none⟩) N cp) raw) := HVA.out _ gX10
              go_upto_region 18 with (go_at_call 117; go_must ((with_reducible refine h117.mono ?_); rintro e wz ⟨rfl, hwz⟩; (have hwz2 := hwz.symm); subst hwz2))
              clear h117 f15 c15 rs bs9 hk9 hm9
              have HV10 : Hid (Ck (X9.setCell ⟨sb, 15, none⟩ (.int .i64 TT)) (fun _ => False) (.slice (some ⟨g, o, none⟩) N cp) raw) := HVS.out
              generalize X9.setCell ⟨sb, 15, none⟩ (.int .i64 TT) = XA at *
              by_cases hlm : (lim : Int) < (m : Int)
              . rw [if_pos hlm] at hln
                have hY := (step_pass (limit := lim) (at_ := at_) hp (s := stpC c0 true) (n := m) (by rw [hln]; simp) t).2.2 bb u vv h3 hb3 hu3
                rw [<- HR.out] at hY
                have f8 := bs10.fz 8
                have c8 : XA.cell? ⟨sb, 8, none⟩ = some (.bool false) := bs10.cell 8
                have bs11 : Box (XA.setCell ⟨sb, 8, none⟩ (.bool true)) 86 sb #[.int .i64 c0.verb, .slice ka c0.keys.length kc, .int .u64 c0.flags, .int .i64 c0.exp, .int .u64 c0.tok, .int .u64 c0.del, .slice none 0 0, .bool c0.nr, .bool true, .slice ma c0.mt.length mc, sv c0.what, .int .i64 0, sv [], .int .i64 0, .int .i64 at_, .int .i64 TT] := bs10.set 8 _
                have g11 : XA.grownBy (XA.setCell ⟨sb, 8, none⟩ (.bool true)) (some sb) := gb_setCell (gb_refl _ _) _
                have bR11 := bR10.kept g11 (by simp; omega)
                have gX11 := gb_mine gX10 g11 (by omega)
                have rs : ∀ {e : TypeId} {s : Nat} {v : Value} {m : Nat} {ys : List Value}, XA.ownsRow w.heap.size e s v m ys -> e ≠ 86 -> (XA.setCell ⟨sb, 8, none⟩ (.bool true)).ownsRow w.heap.size e s v m ys := fun hr he => row_kept hr g11 (fun k hk e2 => by obtain ⟨c2, h2⟩ := row_block hr k hk; exact ne_of_type h2 bs10 he (Option.some.inj e2))
                have hk11 := rs hk10 (by decide)
                have hm11 := rs hm10 (by decide)
                have dl : decide ((lim : Int) < (m : Int)) = true := decide_eq_true hlm
                have HLN : Hid _ := hln
                clear hln
                go_upto_region 26 with (fail)
                clear f8 c8 rs bs10 hk10 hm10
                generalize XA.setCell ⟨sb, 8, none⟩ (.bool true) = XB at *
                go_wp2_with (first | (refine atL 86 sb 0 rfl rfl ?_; go_must (refine load86 rfl _ rfl 86 sb 0 _ bs11 rfl [.int .i64 c0.verb, .slice ka c0.keys.length kc, .int .u64 c0.flags, .int .i64 c0.exp, .int .u64 c0.tok, .int .u64 c0.del, .slice none 0 0, .bool c0.nr, .bool true, .slice ma c0.mt.length mc, sv c0.what, .int .i64 0, sv [], .int .i64 0, .int .i64 at_, .int .i64 TT] rfl (fun j v hv => by simpa using hv) ?_)) | (refine atS 86 w.heap.size 0 rfl rfl ?_; go_must (refine storeT 86 16 size86 rfl _ _ rfl 86 w.heap.size 0 _ bR11 (by simp) rfl _ rfl rfl (by simp [Value.oneCell']) ?_); intro Y9 yb yg; (simp only [sets_0] at yb)))
                simp only [stpC] at hY
                refine ⟨rfl, _, res75 yb _ rfl rfl, gb_mine gX11 yg (Nat.le_refl _), .inr ⟨_, _, ka, kc, none, 0, ma, mc, ?_, hY, rk hk11 yg bR11 (by decide), ⟨rfl, .inl ⟨rfl, rfl⟩⟩, rk hm11 yg bR11 (by decide)⟩⟩
                rw [HTT.out]
                rfl
              . rw [if_neg hlm] at hln
                have hsp := step_await (limit := lim) (at_ := at_) hp (c := c0) (n := m) (by rw [hln]; simp) t
                have dl : decide ((lim : Int) < (m : Int)) = false := decide_eq_false hlm
                have HLN : Hid _ := hln
                clear hln
                by_cases hu13 : u = [13]
                . subst hu13
                  have hY := hsp.2.2.1 bb vv h3 hb3
                  rw [<- HR.out] at hY
                  have dg13 : decide (([13] : Bs) = [13]) = true := by decide
                  have hcutD := Ck.cutA (l := raw) (by rw [HN.out]; exact HV10.out) (E + 1) m (by rw [HN.out]; simp only [List.length_cons, List.length_nil] at hbl; omega)
                  have hbb : (raw.drop (E + 1)).take m = bb := by rw [HT.out, h3, List.take_left' hb3]
                  rw [hbb] at hcutD
                  have hcutE : Ck XA (fun _ => False) (.slice (some ⟨g, o + (E + 1), none⟩) m (cp - (E + 1))) bb := by
                    have e : (Option.map (fun x : Addr => x.add (E + 1)) (some ⟨g, o, none⟩)) = some ⟨g, o + (E + 1), none⟩ := by simp [Addr.add]
                    rw [e] at hcutD
                    exact hcutD
                  have h54 := copy_54 hcutE (by omega)
                  have hq5 : ((E : Int) + 1 <= (E : Int) + 1 + (m : Int)) := by omega
                  have hq6 : ((E : Int) + 1 + (m : Int) <= (cp : Int)) := by simp only [List.length_cons, List.length_nil] at hbl; omega
                  have hw6 : IntKind.i64.wrap ((E : Int) + 1 + (m : Int)) = (E : Int) + 1 + (m : Int) := by rw [IntKind.wrap_i64]; omega
                  have hcq : ¬ (cp = E + 1) := by simp only [List.length_cons, List.length_nil] at hbl; omega
                  have hsm : ((E : Int) + 1 + (m : Int) - ((E : Int) + 1)).toNat = m := by omega
                  have c6 : XA.cell? ⟨sb, 6, none⟩ = some (.slice none 0 0) := bs10.cell 6
                  have HB3 : Hid _ := hb3
                  have H3 : Hid _ := h3
                  clear hcutD hcutE hbb hb3 h3
                  go_upto_region 26 with (go_at_call 54; go_must ((with_reducible refine h54.mono ?_); rintro e w4 ⟨vd, rfl, hd4, hg4⟩; obtain ⟨da, dc, rfl, -⟩ := row_shape hd4; (have b4 := bs10.kept hg4 (by simp)); (have c64 : w4.cell? ⟨sb, 6, none⟩ = some (.slice none 0 0) := b4.cell 6); (have f64 := b4.fz 6)))
                  have bs11 : Box (w4.setCell ⟨sb, 6, none⟩ (.slice da bb.length dc)) 86 sb #[.int .i64 c0.verb, .slice ka c0.keys.length kc, .int .u64 c0.flags, .int .i64 c0.exp, .int .u64 c0.tok, .int .u64 c0.del, .slice da bb.length dc, .bool c0.nr, .bool false, .slice ma c0.mt.length mc, sv c0.what, .int .i64 0, sv [], .int .i64 0, .int .i64 at_, .int .i64 TT] := b4.set 6 _
                  have g11 : w4.grownBy (w4.setCell ⟨sb, 6, none⟩ (.slice da bb.length dc)) (some sb) := gb_setCell (gb_refl _ _) _
                  have bR11 := (bR10.kept hg4 (by simp)).kept g11 (by simp; omega)
                  have gX11 := gb_mine (gb_trans gX10 hg4) g11 (by omega)
                  have rs : ∀ {e : TypeId} {s : Nat} {v : Value} {m : Nat} {ys : List Value}, w4.ownsRow w.heap.size e s v m ys -> e ≠ 86 -> (w4.setCell ⟨sb, 6, none⟩ (.slice da bb.length dc)).ownsRow w.heap.size e s v m ys := fun hr he => row_kept hr g11 (fun k hk e2 => by obtain ⟨c2, h2⟩ := row_block hr k hk; exact ne_of_type h2 b4 he (Option.some.inj e2))
                  have hk11 := rs (row_kept hk10 hg4 (by simp)) (by decide)
                  have hm11 := rs (row_kept hm10 hg4 (by simp)) (by decide)
                  have hd11 := rs (row_base hd4 gX10.size) (by decide)
                  clear c64 f64 rs b4 h54 hd4 hk10 hm10 bs10 c6
                  generalize w4.setCell ⟨sb, 6, none⟩ (.slice da bb.length dc) = XB at *
                  go_wp2_with (first | (refine atL 86 sb 0 rfl rfl ?_; go_must (refine load86 rfl _ rfl 86 sb 0 _ bs11 rfl [.int .i64 c0.verb, .slice ka c0.keys.length kc, .int .u64 c0.flags, .int .i64 c0.exp, .int .u64 c0.tok, .int .u64 c0.del, .slice da bb.length dc, .bool c0.nr, .bool false, .slice ma c0.mt.length mc, sv c0.what, .int .i64 0, sv [], .int .i64 0, .int .i64 at_, .int .i64 TT] rfl (fun j v hv => by simpa using hv) ?_)) | (refine atS 86 w.heap.size 0 rfl rfl ?_; go_must (refine storeT 86 16 size86 rfl _ _ rfl 86 w.heap.size 0 _ bR11 (by simp) rfl _ rfl rfl (by simp [Value.oneCell']) ?_); intro Y9 yb yg; (simp only [sets_0] at yb)))
                  simp only [stpC] at hY
                  refine ⟨rfl, _, res75 yb _ rfl rfl, gb_mine gX11 yg (Nat.le_refl _), .inr ⟨_, _, ka, kc, da, dc, ma, mc, ?_, hY, rk hk11 yg bR11 (by decide), rk hd11 yg bR11 (by decide), rk hm11 yg bR11 (by decide)⟩⟩
                  rw [HTT.out]
                  rfl
                . have hY := hsp.2.2.2 bb u vv h3 hb3 hu3 hu13
                  rw [<- HR.out] at hY
                  have dg13 : decide (u = [13]) = false := decide_eq_false hu13
                  go_upto_region 26 with (first | (refine atS 41 sb 0 rfl rfl ?_; go_must (refine storeT 41 11 size41 rfl _ _ rfl 86 sb 0 _ bs10 (by simp) rfl _ rfl rfl (by simp [Value.oneCell']) ?_); intro X11 b11 g11; (simp only [sets, List.setIfInBounds_toArray, List.set_cons_zero, List.set_cons_succ] at b11)) | (refine atS 43 sb 11 rfl rfl ?_; go_must (refine storeT 43 3 size43 rfl _ _ rfl 86 sb 11 _ b11 (by simp) rfl _ rfl rfl (by simp [Value.oneCell']) ?_); intro X12 b12 g12; (simp only [sets, List.setIfInBounds_toArray, List.set_cons_zero, List.set_cons_succ] at b12)))
                  have bR12 := (bR10.kept g11 (by simp; omega)).kept g12 (by simp; omega)
                  have gX12 := gb_mine (gb_mine gX10 g11 (by omega)) g12 (by omega)
                  go_wp2_with (first | (refine atL 86 sb 0 rfl rfl ?_; go_must (refine load86 rfl _ rfl 86 sb 0 _ b12 rfl [.int .i64 0, .slice none 0 0, .int .u64 0, .int .i64 0, .int .u64 0, .int .u64 0, .slice none 0 0, .bool false, .bool false, .slice none 0 0, .string ⟨#[]⟩, .int .i64 2, sv badB, .int .i64 (-1), .int .i64 at_, .int .i64 TT] rfl (fun j v hv => by simpa using hv) ?_)) | (refine atS 86 w.heap.size 0 rfl rfl ?_; go_must (refine storeT 86 16 size86 rfl _ _ rfl 86 w.heap.size 0 _ bR12 (by simp) rfl _ rfl rfl (by simp [Value.oneCell']) ?_); intro Y9 yb yg; (simp only [sets_0] at yb)))
                  simp only [stpW, cmd0] at hY
                  refine ⟨rfl, _, res75 yb _ rfl rfl, gb_mine gX12 yg (Nat.le_refl _), .inr ⟨_, _, none, 0, none, 0, none, 0, ?_, hY, ⟨rfl, .inl ⟨rfl, rfl⟩⟩, ⟨rfl, .inl ⟨rfl, rfl⟩⟩, ⟨rfl, .inl ⟨rfl, rfl⟩⟩⟩⟩
                  rw [HTT.out]
                  rfl
      | inr x =>
        obtain ⟨k0, t0, p0⟩ := x
        have hA := HAn.out
        simp only [an, hls] at hA
        injection hA with e1 hA
        injection hA with e2 hA
        injection hA with e3 hA
        injection hA with e4 e5
        subst e2 e3 e4 e5
        have HCM : Hid (cmd0 0 false = c) := e1
        clear e1
        have hk0 := (lineS_no hls).2
        have hp0 := (lineS_no hls).1
        by_cases hq : p0 < 0 \/ (lim : Int) < p0
        . as_aux_lemma =>
            have hY := stepY_inr (limit := lim) (at_ := at_) (t := t) hp hls hq
            rw [<- HR.out, HCM.out] at hY
            have hk01 : (k0 == 0) = false := by simpa using hk0
            have hq9 : (decide ((0 : Int) <= p0) && decide (p0 <= (lim : Int))) = false := by simp; omega
            have hE0 : decide ((0 : Int) <= (E : Int) + 1) = true := by simp; omega
            have hE01 : ((0 : Int) <= (E : Int) + 1) := by omega
            rcases hq with hq1 | hq1
            . have dq : decide ((0 : Int) <= p0) = false := by simp; omega
              have dq2 : ¬ (0 : Int) <= p0 := by omega
              have q0 : X9.cell? ⟨sb, 0, none⟩ = some (.int .i64 c.verb) := bs9.cell 0
              have q1 : X9.cell? ⟨sb, 1, none⟩ = some (.slice ka c.keys.length kc) := bs9.cell 1
              have q2 : X9.cell? ⟨sb, 2, none⟩ = some (.int .u64 c.flags) := bs9.cell 2
              have q3 : X9.cell? ⟨sb, 3, none⟩ = some (.int .i64 c.exp) := bs9.cell 3
              have q4 : X9.cell? ⟨sb, 4, none⟩ = some (.int .u64 c.tok) := bs9.cell 4
              have q5 : X9.cell? ⟨sb, 5, none⟩ = some (.int .u64 c.del) := bs9.cell 5
              have q6 : X9.cell? ⟨sb, 6, none⟩ = some (.slice none 0 0) := bs9.cell 6
              have q7 : X9.cell? ⟨sb, 7, none⟩ = some (.bool c.nr) := bs9.cell 7
              have q8 : X9.cell? ⟨sb, 8, none⟩ = some (.bool false) := bs9.cell 8
              have q9 : X9.cell? ⟨sb, 9, none⟩ = some (.slice ma c.mt.length mc) := bs9.cell 9
              have q10 : X9.cell? ⟨sb, 10, none⟩ = some (sv c.what) := bs9.cell 10
              have q11 : X9.cell? ⟨sb, 11, none⟩ = some (.int .i64 k0) := bs9.cell 11
              have q12 : X9.cell? ⟨sb, 12, none⟩ = some (sv t0) := bs9.cell 12
              have q13 : X9.cell? ⟨sb, 13, none⟩ = some (.int .i64 p0) := bs9.cell 13
              have q14 : X9.cell? ⟨sb, 14, none⟩ = some (.int .i64 at_) := bs9.cell 14
              have q15 : X9.cell? ⟨sb, 15, none⟩ = some (.int .i64 ((E : Int) + 1)) := bs9.cell 15
              go_upto_region 13 with (fail)
              refine wp_region_noPanic ?_
              have hgA : X9.grownBy X9.drew none := gb_drew (gb_refl X9 none)
              refine wp_region_held_drew (S := fun W : World => X9.grownBy W (some w.heap.size)) (by kernel_rfl) (gb_none _ hgA) (fun hS0 => ?_)
              clear hS0
              generalize X9.drew = W1 at hgA ⊢
              have hSA := gb_none (some w.heap.size) hgA
              refine tkZ 0 (sqCb0 _) rfl (by intro W hSw; have x0 := gb_cell hSw q0 (some_ne2 hsr); have x1 := gb_cell hSw q1 (some_ne2 hsr); have x2 := gb_cell hSw q2 (some_ne2 hsr); have x3 := gb_cell hSw q3 (some_ne2 hsr); have x4 := gb_cell hSw q4 (some_ne2 hsr); have x5 := gb_cell hSw q5 (some_ne2 hsr); have x6 := gb_cell hSw q6 (some_ne2 hsr); have x7 := gb_cell hSw q7 (some_ne2 hsr); have x8 := gb_cell hSw q8 (some_ne2 hsr); have x9 := gb_cell hSw q9 (some_ne2 hsr); have x10 := gb_cell hSw q10 (some_ne2 hsr); have x11 := gb_cell hSw q11 (some_ne2 hsr); have x12 := gb_cell hSw q12 (some_ne2 hsr); have x13 := gb_cell hSw q13 (some_ne2 hsr); have x14 := gb_cell hSw q14 (some_ne2 hsr); have x15 := gb_cell hSw q15 (some_ne2 hsr); go_simp; (try (with_reducible rfl))) ?_
              try simp only [Act.put, pY]
              refine tkZ 1 (sqCb1 _) rfl (by intro W hSw; go_simp; (try (with_reducible rfl))) ?_
              try simp only [Act.put, pY]
              refine tkZ 2 (sqCb2 _) rfl (by intro W hSw; have x15 := gb_cell hSw q15 (some_ne2 hsr); go_simp; (try (with_reducible rfl))) ?_
              try simp only [Act.put, pY]
              refine tkZ 3 (sqCb3 _) rfl (by intro W hSw; go_simp; (try (with_reducible rfl))) ?_
              try simp only [Act.put, pY]
              have bR1 := Box.kept bR hgA (by simp)
              refine wpAnyH_ready (rs := [4]) (by kernel_rfl) (by simp) ?_
              refine (AllReadyH.cons rfl (fun K hK => ?_) AllReadyH.nil)
              refine stepT 86 16 size86 rfl (.tmp 6) (.tmp 80) rfl 86 w.heap.size 0 _ bR1 (by simp) (by rfl) #[.int .i64 c.verb, .slice ka c.keys.length kc, .int .u64 c.flags, .int .i64 c.exp, .int .u64 c.tok, .int .u64 c.del, .slice none 0 0, .bool c.nr, .bool false, .slice ma c.mt.length mc, sv c.what, .int .i64 k0, sv t0, .int .i64 p0, .int .i64 at_, .int .i64 ((E : Int) + 1)] (by rfl) rfl (by simp [Value.oneCell']) ?_
              intro Y9 yb yg
              simp only [sets_0] at yb
              have hSB := gb_trans hSA yg
              refine hK.out _ _ hSB (fun hS => ?_)
              clear hK K hS
              try simp only [Act.put, pY]
              refine tkZ 5 (sqCb4 _) rfl (by intro W hSw; go_simp; (try (with_reducible rfl))) ?_
              try simp only [Act.put, pY]
              refine wpAnyH_done (by kernel_rfl) ?_ _
              refine NoPanic.normal ?_
              have ygr := gb_trans (gb_none (some w.heap.size) hgA) yg
              go_wp2_with fail
              refine ⟨rfl, _, res75 yb _ rfl rfl, gb_mine gX ygr (Nat.le_refl _), .inr ⟨_, _, ka, kc, none, 0, ma, mc, ?_, hY, rk hk9 ygr bR (by decide), ⟨rfl, .inl ⟨rfl, rfl⟩⟩, rk hm9 ygr bR (by decide)⟩⟩
              rw [HTO.out]
              rfl
            . have hq0 : (0 : Int) <= p0 := by omega
              have dq : decide ((0 : Int) <= p0) = true := by simp; omega
              have dq3 : decide (p0 <= (lim : Int)) = false := by simp; omega
              have dq4 : ¬ p0 <= (lim : Int) := by omega
              have q0 : X9.cell? ⟨sb, 0, none⟩ = some (.int .i64 c.verb) := bs9.cell 0
              have q1 : X9.cell? ⟨sb, 1, none⟩ = some (.slice ka c.keys.length kc) := bs9.cell 1
              have q2 : X9.cell? ⟨sb, 2, none⟩ = some (.int .u64 c.flags) := bs9.cell 2
              have q3 : X9.cell? ⟨sb, 3, none⟩ = some (.int .i64 c.exp) := bs9.cell 3
              have q4 : X9.cell? ⟨sb, 4, none⟩ = some (.int .u64 c.tok) := bs9.cell 4
              have q5 : X9.cell? ⟨sb, 5, none⟩ = some (.int .u64 c.del) := bs9.cell 5
              have q6 : X9.cell? ⟨sb, 6, none⟩ = some (.slice none 0 0) := bs9.cell 6
              have q7 : X9.cell? ⟨sb, 7, none⟩ = some (.bool c.nr) := bs9.cell 7
              have q8 : X9.cell? ⟨sb, 8, none⟩ = some (.bool false) := bs9.cell 8
              have q9 : X9.cell? ⟨sb, 9, none⟩ = some (.slice ma c.mt.length mc) := bs9.cell 9
              have q10 : X9.cell? ⟨sb, 10, none⟩ = some (sv c.what) := bs9.cell 10
              have q11 : X9.cell? ⟨sb, 11, none⟩ = some (.int .i64 k0) := bs9.cell 11
              have q12 : X9.cell? ⟨sb, 12, none⟩ = some (sv t0) := bs9.cell 12
              have q13 : X9.cell? ⟨sb, 13, none⟩ = some (.int .i64 p0) := bs9.cell 13
              have q14 : X9.cell? ⟨sb, 14, none⟩ = some (.int .i64 at_) := bs9.cell 14
              have q15 : X9.cell? ⟨sb, 15, none⟩ = some (.int .i64 ((E : Int) + 1)) := bs9.cell 15
              go_upto_region 13 with (fail)
              refine wp_region_noPanic ?_
              have hgA : X9.grownBy X9.drew none := gb_drew (gb_refl X9 none)
              refine wp_region_held_drew (S := fun W : World => X9.grownBy W (some w.heap.size)) (by kernel_rfl) (gb_none _ hgA) (fun hS0 => ?_)
              clear hS0
              generalize X9.drew = W1 at hgA ⊢
              have hSA := gb_none (some w.heap.size) hgA
              refine tkZ 0 (sqCb0 _) rfl (by intro W hSw; have x0 := gb_cell hSw q0 (some_ne2 hsr); have x1 := gb_cell hSw q1 (some_ne2 hsr); have x2 := gb_cell hSw q2 (some_ne2 hsr); have x3 := gb_cell hSw q3 (some_ne2 hsr); have x4 := gb_cell hSw q4 (some_ne2 hsr); have x5 := gb_cell hSw q5 (some_ne2 hsr); have x6 := gb_cell hSw q6 (some_ne2 hsr); have x7 := gb_cell hSw q7 (some_ne2 hsr); have x8 := gb_cell hSw q8 (some_ne2 hsr); have x9 := gb_cell hSw q9 (some_ne2 hsr); have x10 := gb_cell hSw q10 (some_ne2 hsr); have x11 := gb_cell hSw q11 (some_ne2 hsr); have x12 := gb_cell hSw q12 (some_ne2 hsr); have x13 := gb_cell hSw q13 (some_ne2 hsr); have x14 := gb_cell hSw q14 (some_ne2 hsr); have x15 := gb_cell hSw q15 (some_ne2 hsr); go_simp; (try (with_reducible rfl))) ?_
              try simp only [Act.put, pY]
              refine tkZ 1 (sqCb1 _) rfl (by intro W hSw; go_simp; (try (with_reducible rfl))) ?_
              try simp only [Act.put, pY]
              refine tkZ 2 (sqCb2 _) rfl (by intro W hSw; have x15 := gb_cell hSw q15 (some_ne2 hsr); go_simp; (try (with_reducible rfl))) ?_
              try simp only [Act.put, pY]
              refine tkZ 3 (sqCb3 _) rfl (by intro W hSw; go_simp; (try (with_reducible rfl))) ?_
              try simp only [Act.put, pY]
              have bR1 := Box.kept bR hgA (by simp)
              refine wpAnyH_ready (rs := [4]) (by kernel_rfl) (by simp) ?_
              refine (AllReadyH.cons rfl (fun K hK => ?_) AllReadyH.nil)
              refine stepT 86 16 size86 rfl (.tmp 6) (.tmp 80) rfl 86 w.heap.size 0 _ bR1 (by simp) (by rfl) #[.int .i64 c.verb, .slice ka c.keys.length kc, .int .u64 c.flags, .int .i64 c.exp, .int .u64 c.tok, .int .u64 c.del, .slice none 0 0, .bool c.nr, .bool false, .slice ma c.mt.length mc, sv c.what, .int .i64 k0, sv t0, .int .i64 p0, .int .i64 at_, .int .i64 ((E : Int) + 1)] (by rfl) rfl (by simp [Value.oneCell']) ?_
              intro Y9 yb yg
              simp only [sets_0] at yb
              have hSB := gb_trans hSA yg
              refine hK.out _ _ hSB (fun hS => ?_)
              clear hK K hS
              try simp only [Act.put, pY]
              refine tkZ 5 (sqCb4 _) rfl (by intro W hSw; go_simp; (try (with_reducible rfl))) ?_
              try simp only [Act.put, pY]
              refine wpAnyH_done (by kernel_rfl) ?_ _
              refine NoPanic.normal ?_
              have ygr := gb_trans (gb_none (some w.heap.size) hgA) yg
              go_wp2_with fail
              refine ⟨rfl, _, res75 yb _ rfl rfl, gb_mine gX ygr (Nat.le_refl _), .inr ⟨_, _, ka, kc, none, 0, ma, mc, ?_, hY, rk hk9 ygr bR (by decide), ⟨rfl, .inl ⟨rfl, rfl⟩⟩, rk hm9 ygr bR (by decide)⟩⟩
              rw [HTO.out]
              rfl
        . as_aux_lemma =>
            obtain ⟨m, hm⟩ : ∃ m : Nat, p0 = (m : Int) := ⟨p0.toNat, by omega⟩
            subst hm
            have hk01 : (k0 == 0) = false := by simpa using hk0
            have dq : decide ((0 : Int) <= (m : Int)) = true := by simp
            have dq3 : decide ((m : Int) <= (lim : Int)) = true := by simp; omega
            have dq4 : (m : Int) <= (lim : Int) := by omega
            have hln := lnF_inr (limit := lim) (at_ := at_) hls
            rw [if_neg hq] at hln
            have hsp := step_pass (limit := lim) (at_ := at_) hp (s := stpW k0 t0 (m : Int)) (n := m) (by rw [hln]; simp) t
            have h117 := block_117 (raw := raw) (w := X9) (by rw [HN.out]; exact HV9.out) (by rw [HN.out]; omega) (E + 1) m (by omega)
            rw [HN.out, <- List.drop_drop, HT.out, show (((E + 1 : Nat)) : Int) = (E : Int) + 1 by omega] at h117
            have f15 := bs9.fz 15
            have c15 : X9.cell? ⟨sb, 15, none⟩ = some (.int .i64 ((E : Int) + 1)) := bs9.cell 15
            rcases three t m with h3 | ⟨bb, u, h3, hb3, hu3⟩ | ⟨bb, u, vv, h3, hb3, hu3⟩
            . have hN := hsp.1 h3
              rw [<- HR.out] at hN
              have hno : (10 : UInt8) ∉ t.drop m := by rw [List.drop_eq_nil_of_le (by omega)]; simp
              rw [blkT_no _ hno] at h117
              generalize blkG (t.drop m) = G at h117
              have bs10 : Box (X9.setCell ⟨sb, 15, none⟩ (.int .i64 (-1))) 86 sb #[.int .i64 c.verb, .slice ka c.keys.length kc, .int .u64 c.flags, .int .i64 c.exp, .int .u64 c.tok, .int .u64 c.del, .slice none 0 0, .bool c.nr, .bool false, .slice ma c.mt.length mc, sv c.what, .int .i64 k0, sv t0, .int .i64 (m : Int), .int .i64 at_, .int .i64 (-1)] := bs9.set 15 _
              have g10 : X9.grownBy (X9.setCell ⟨sb, 15, none⟩ (.int .i64 (-1))) (some sb) := gb_setCell (gb_refl _ _) _
              have bR10 := bR.kept g10 (by simp; omega)
              have gX10 := gb_mine gX g10 (by omega)
              go_upto_region 13 with (go_at_call 117; go_must ((with_reducible refine h117.mono ?_); rintro e wz ⟨rfl, hwz⟩; (have hwz2 := hwz.symm); subst hwz2))
              clear h117 f15 c15 bs9
              generalize X9.setCell ⟨sb, 15, none⟩ (.int .i64 (-1)) = XA at *
              have q0 : XA.cell? ⟨sb, 0, none⟩ = some (.int .i64 c.verb) := bs10.cell 0
              have q1 : XA.cell? ⟨sb, 1, none⟩ = some (.slice ka c.keys.length kc) := bs10.cell 1
              have q2 : XA.cell? ⟨sb, 2, none⟩ = some (.int .u64 c.flags) := bs10.cell 2
              have q3 : XA.cell? ⟨sb, 3, none⟩ = some (.int .i64 c.exp) := bs10.cell 3
              have q4 : XA.cell? ⟨sb, 4, none⟩ = some (.int .u64 c.tok) := bs10.cell 4
              have q5 : XA.cell? ⟨sb, 5, none⟩ = some (.int .u64 c.del) := bs10.cell 5
              have q6 : XA.cell? ⟨sb, 6, none⟩ = some (.slice none 0 0) := bs10.cell 6
              have q7 : XA.cell? ⟨sb, 7, none⟩ = some (.bool c.nr) := bs10.cell 7
              have q8 : XA.cell? ⟨sb, 8, none⟩ = some (.bool false) := bs10.cell 8
              have q9 : XA.cell? ⟨sb, 9, none⟩ = some (.slice ma c.mt.length mc) := bs10.cell 9
              have q10 : XA.cell? ⟨sb, 10, none⟩ = some (sv c.what) := bs10.cell 10
              have q11 : XA.cell? ⟨sb, 11, none⟩ = some (.int .i64 k0) := bs10.cell 11
              have q12 : XA.cell? ⟨sb, 12, none⟩ = some (sv t0) := bs10.cell 12
              have q13 : XA.cell? ⟨sb, 13, none⟩ = some (.int .i64 (m : Int)) := bs10.cell 13
              have q14 : XA.cell? ⟨sb, 14, none⟩ = some (.int .i64 at_) := bs10.cell 14
              have q15 : XA.cell? ⟨sb, 15, none⟩ = some (.int .i64 (-1)) := bs10.cell 15
              refine wp_region_noPanic ?_
              have hgA : XA.grownBy XA.drew none := gb_drew (gb_refl XA none)
              refine wp_region_held_drew (S := fun W : World => XA.grownBy W (some w.heap.size)) (by kernel_rfl) (gb_none _ hgA) (fun hS0 => ?_)
              clear hS0
              generalize XA.drew = W1 at hgA ⊢
              have hSA := gb_none (some w.heap.size) hgA
              refine tkZ 0 (sqCb0 _) rfl (by intro W hSw; have x0 := gb_cell hSw q0 (some_ne2 hsr); have x1 := gb_cell hSw q1 (some_ne2 hsr); have x2 := gb_cell hSw q2 (some_ne2 hsr); have x3 := gb_cell hSw q3 (some_ne2 hsr); have x4 := gb_cell hSw q4 (some_ne2 hsr); have x5 := gb_cell hSw q5 (some_ne2 hsr); have x6 := gb_cell hSw q6 (some_ne2 hsr); have x7 := gb_cell hSw q7 (some_ne2 hsr); have x8 := gb_cell hSw q8 (some_ne2 hsr); have x9 := gb_cell hSw q9 (some_ne2 hsr); have x10 := gb_cell hSw q10 (some_ne2 hsr); have x11 := gb_cell hSw q11 (some_ne2 hsr); have x12 := gb_cell hSw q12 (some_ne2 hsr); have x13 := gb_cell hSw q13 (some_ne2 hsr); have x14 := gb_cell hSw q14 (some_ne2 hsr); have x15 := gb_cell hSw q15 (some_ne2 hsr); go_simp; (try (with_reducible rfl))) ?_
              try simp only [Act.put, pY]
              refine tkZ 1 (sqCb1 _) rfl (by intro W hSw; go_simp; (try (with_reducible rfl))) ?_
              try simp only [Act.put, pY]
              refine tkZ 2 (sqCb2 _) rfl (by intro W hSw; have x15 := gb_cell hSw q15 (some_ne2 hsr); go_simp; (try (with_reducible rfl))) ?_
              try simp only [Act.put, pY]
              refine tkZ 3 (sqCb3 _) rfl (by intro W hSw; go_simp; (try (with_reducible rfl))) ?_
              try simp only [Act.put, pY]
              have bR1 := Box.kept bR10 hgA (by simp)
              refine wpAnyH_ready (rs := [4]) (by kernel_rfl) (by simp) ?_
              refine (AllReadyH.cons rfl (fun K hK => ?_) AllReadyH.nil)
              refine stepT 86 16 size86 rfl (.tmp 6) (.tmp 80) rfl 86 w.heap.size 0 _ bR1 (by simp) (by rfl) #[.int .i64 c.verb, .slice ka c.keys.length kc, .int .u64 c.flags, .int .i64 c.exp, .int .u64 c.tok, .int .u64 c.del, .slice none 0 0, .bool c.nr, .bool false, .slice ma c.mt.length mc, sv c.what, .int .i64 k0, sv t0, .int .i64 (m : Int), .int .i64 at_, .int .i64 (-1)] (by rfl) rfl (by simp [Value.oneCell']) ?_
              intro Y9 yb yg
              simp only [sets_0] at yb
              have hSB := gb_trans hSA yg
              refine hK.out _ _ hSB (fun hS => ?_)
              clear hK K hS
              try simp only [Act.put, pY]
              refine tkZ 5 (sqCb4 _) rfl (by intro W hSw; go_simp; (try (with_reducible rfl))) ?_
              try simp only [Act.put, pY]
              refine wpAnyH_done (by kernel_rfl) ?_ _
              refine NoPanic.normal ?_
              have ygr := gb_trans (gb_none (some w.heap.size) hgA) yg
              go_wp2_with fail
              exact ⟨rfl, _, res75 yb _ rfl rfl, gb_mine gX10 ygr (Nat.le_refl _), .inl ⟨_, rfl, rfl, by simp [Value.oneCell'], hN⟩⟩
            . have hN := hsp.2.1 bb u h3 hb3 hu3
              rw [<- HR.out] at hN
              have hno : (10 : UInt8) ∉ t.drop m := by rw [h3, List.drop_left' hb3]; exact hu3
              rw [blkT_no _ hno] at h117
              generalize blkG (t.drop m) = G at h117
              have bs10 : Box (X9.setCell ⟨sb, 15, none⟩ (.int .i64 (-1))) 86 sb #[.int .i64 c.verb, .slice ka c.keys.length kc, .int .u64 c.flags, .int .i64 c.exp, .int .u64 c.tok, .int .u64 c.del, .slice none 0 0, .bool c.nr, .bool false, .slice ma c.mt.length mc, sv c.what, .int .i64 k0, sv t0, .int .i64 (m : Int), .int .i64 at_, .int .i64 (-1)] := bs9.set 15 _
              have g10 : X9.grownBy (X9.setCell ⟨sb, 15, none⟩ (.int .i64 (-1))) (some sb) := gb_setCell (gb_refl _ _) _
              have bR10 := bR.kept g10 (by simp; omega)
              have gX10 := gb_mine gX g10 (by omega)
              go_upto_region 13 with (go_at_call 117; go_must ((with_reducible refine h117.mono ?_); rintro e wz ⟨rfl, hwz⟩; (have hwz2 := hwz.symm); subst hwz2))
              clear h117 f15 c15 bs9
              generalize X9.setCell ⟨sb, 15, none⟩ (.int .i64 (-1)) = XA at *
              have q0 : XA.cell? ⟨sb, 0, none⟩ = some (.int .i64 c.verb) := bs10.cell 0
              have q1 : XA.cell? ⟨sb, 1, none⟩ = some (.slice ka c.keys.length kc) := bs10.cell 1
              have q2 : XA.cell? ⟨sb, 2, none⟩ = some (.int .u64 c.flags) := bs10.cell 2
              have q3 : XA.cell? ⟨sb, 3, none⟩ = some (.int .i64 c.exp) := bs10.cell 3
              have q4 : XA.cell? ⟨sb, 4, none⟩ = some (.int .u64 c.tok) := bs10.cell 4
              have q5 : XA.cell? ⟨sb, 5, none⟩ = some (.int .u64 c.del) := bs10.cell 5
              have q6 : XA.cell? ⟨sb, 6, none⟩ = some (.slice none 0 0) := bs10.cell 6
              have q7 : XA.cell? ⟨sb, 7, none⟩ = some (.bool c.nr) := bs10.cell 7
              have q8 : XA.cell? ⟨sb, 8, none⟩ = some (.bool false) := bs10.cell 8
              have q9 : XA.cell? ⟨sb, 9, none⟩ = some (.slice ma c.mt.length mc) := bs10.cell 9
              have q10 : XA.cell? ⟨sb, 10, none⟩ = some (sv c.what) := bs10.cell 10
              have q11 : XA.cell? ⟨sb, 11, none⟩ = some (.int .i64 k0) := bs10.cell 11
              have q12 : XA.cell? ⟨sb, 12, none⟩ = some (sv t0) := bs10.cell 12
              have q13 : XA.cell? ⟨sb, 13, none⟩ = some (.int .i64 (m : Int)) := bs10.cell 13
              have q14 : XA.cell? ⟨sb, 14, none⟩ = some (.int .i64 at_) := bs10.cell 14
              have q15 : XA.cell? ⟨sb, 15, none⟩ = some (.int .i64 (-1)) := bs10.cell 15
              refine wp_region_noPanic ?_
              have hgA : XA.grownBy XA.drew none := gb_drew (gb_refl XA none)
              refine wp_region_held_drew (S := fun W : World => XA.grownBy W (some w.heap.size)) (by kernel_rfl) (gb_none _ hgA) (fun hS0 => ?_)
              clear hS0
              generalize XA.drew = W1 at hgA ⊢
              have hSA := gb_none (some w.heap.size) hgA
              refine tkZ 0 (sqCb0 _) rfl (by intro W hSw; have x0 := gb_cell hSw q0 (some_ne2 hsr); have x1 := gb_cell hSw q1 (some_ne2 hsr); have x2 := gb_cell hSw q2 (some_ne2 hsr); have x3 := gb_cell hSw q3 (some_ne2 hsr); have x4 := gb_cell hSw q4 (some_ne2 hsr); have x5 := gb_cell hSw q5 (some_ne2 hsr); have x6 := gb_cell hSw q6 (some_ne2 hsr); have x7 := gb_cell hSw q7 (some_ne2 hsr); have x8 := gb_cell hSw q8 (some_ne2 hsr); have x9 := gb_cell hSw q9 (some_ne2 hsr); have x10 := gb_cell hSw q10 (some_ne2 hsr); have x11 := gb_cell hSw q11 (some_ne2 hsr); have x12 := gb_cell hSw q12 (some_ne2 hsr); have x13 := gb_cell hSw q13 (some_ne2 hsr); have x14 := gb_cell hSw q14 (some_ne2 hsr); have x15 := gb_cell hSw q15 (some_ne2 hsr); go_simp; (try (with_reducible rfl))) ?_
              try simp only [Act.put, pY]
              refine tkZ 1 (sqCb1 _) rfl (by intro W hSw; go_simp; (try (with_reducible rfl))) ?_
              try simp only [Act.put, pY]
              refine tkZ 2 (sqCb2 _) rfl (by intro W hSw; have x15 := gb_cell hSw q15 (some_ne2 hsr); go_simp; (try (with_reducible rfl))) ?_
              try simp only [Act.put, pY]
              refine tkZ 3 (sqCb3 _) rfl (by intro W hSw; go_simp; (try (with_reducible rfl))) ?_
              try simp only [Act.put, pY]
              have bR1 := Box.kept bR10 hgA (by simp)
              refine wpAnyH_ready (rs := [4]) (by kernel_rfl) (by simp) ?_
              refine (AllReadyH.cons rfl (fun K hK => ?_) AllReadyH.nil)
              refine stepT 86 16 size86 rfl (.tmp 6) (.tmp 80) rfl 86 w.heap.size 0 _ bR1 (by simp) (by rfl) #[.int .i64 c.verb, .slice ka c.keys.length kc, .int .u64 c.flags, .int .i64 c.exp, .int .u64 c.tok, .int .u64 c.del, .slice none 0 0, .bool c.nr, .bool false, .slice ma c.mt.length mc, sv c.what, .int .i64 k0, sv t0, .int .i64 (m : Int), .int .i64 at_, .int .i64 (-1)] (by rfl) rfl (by simp [Value.oneCell']) ?_
              intro Y9 yb yg
              simp only [sets_0] at yb
              have hSB := gb_trans hSA yg
              refine hK.out _ _ hSB (fun hS => ?_)
              clear hK K hS
              try simp only [Act.put, pY]
              refine tkZ 5 (sqCb4 _) rfl (by intro W hSw; go_simp; (try (with_reducible rfl))) ?_
              try simp only [Act.put, pY]
              refine wpAnyH_done (by kernel_rfl) ?_ _
              refine NoPanic.normal ?_
              have ygr := gb_trans (gb_none (some w.heap.size) hgA) yg
              go_wp2_with fail
              exact ⟨rfl, _, res75 yb _ rfl rfl, gb_mine gX10 ygr (Nat.le_refl _), .inl ⟨_, rfl, rfl, by simp [Value.oneCell'], hN⟩⟩
            . have hY := hsp.2.2 bb u vv h3 hb3 hu3
              rw [<- HR.out] at hY
              have hdr : t.drop m = u ++ 10 :: vv := by rw [h3, List.drop_left' hb3]
              rw [hdr, blkT_yes _ hu3] at h117
              generalize blkG (u ++ 10 :: vv) = G at h117
              obtain ⟨TT, hTT⟩ : ∃ TT : Int, TT = ((E + 1 + m + (u.length + 1) : Nat) : Int) := ⟨_, rfl⟩
              have HTT : Hid (TT = ((at_ + (p.length + 1 + (m + (u.length + 1))) : Nat) : Int)) := by show TT = _; rw [hTT]; omega
              have hT0 : (0 : Int) <= TT := by omega
              have dT : decide ((0 : Int) <= TT) = true := by simp; omega
              rw [<- hTT] at h117
              clear hTT
              have bs10 : Box (X9.setCell ⟨sb, 15, none⟩ (.int .i64 TT)) 86 sb #[.int .i64 c.verb, .slice ka c.keys.length kc, .int .u64 c.flags, .int .i64 c.exp, .int .u64 c.tok, .int .u64 c.del, .slice none 0 0, .bool c.nr, .bool false, .slice ma c.mt.length mc, sv c.what, .int .i64 k0, sv t0, .int .i64 (m : Int), .int .i64 at_, .int .i64 TT] := bs9.set 15 _
              have g10 : X9.grownBy (X9.setCell ⟨sb, 15, none⟩ (.int .i64 TT)) (some sb) := gb_setCell (gb_refl _ _) _
              have bR10 := bR.kept g10 (by simp; omega)
              have gX10 := gb_mine gX g10 (by omega)
              have rs : ∀ {e : TypeId} {s : Nat} {v : Value} {m : Nat} {ys : List Value}, X9.ownsRow w.heap.size e s v m ys -> e ≠ 86 -> (X9.setCell ⟨sb, 15, none⟩ (.int .i64 TT)).ownsRow w.heap.size e s v m ys := fun hr he => row_kept hr g10 (fun k hk e2 => by obtain ⟨c2, h2⟩ := row_block hr k hk; exact ne_of_type h2 bs9 he (Option.some.inj e2))
              have hk10 := rs hk9 (by decide)
              have hm10 := rs hm9 (by decide)
              go_upto_region 13 with (go_at_call 117; go_must ((with_reducible refine h117.mono ?_); rintro e wz ⟨rfl, hwz⟩; (have hwz2 := hwz.symm); subst hwz2))
              clear h117 f15 c15 rs bs9 hk9 hm9
              generalize X9.setCell ⟨sb, 15, none⟩ (.int .i64 TT) = XA at *
              have q0 : XA.cell? ⟨sb, 0, none⟩ = some (.int .i64 c.verb) := bs10.cell 0
              have q1 : XA.cell? ⟨sb, 1, none⟩ = some (.slice ka c.keys.length kc) := bs10.cell 1
              have q2 : XA.cell? ⟨sb, 2, none⟩ = some (.int .u64 c.flags) := bs10.cell 2
              have q3 : XA.cell? ⟨sb, 3, none⟩ = some (.int .i64 c.exp) := bs10.cell 3
              have q4 : XA.cell? ⟨sb, 4, none⟩ = some (.int .u64 c.tok) := bs10.cell 4
              have q5 : XA.cell? ⟨sb, 5, none⟩ = some (.int .u64 c.del) := bs10.cell 5
              have q6 : XA.cell? ⟨sb, 6, none⟩ = some (.slice none 0 0) := bs10.cell 6
              have q7 : XA.cell? ⟨sb, 7, none⟩ = some (.bool c.nr) := bs10.cell 7
              have q8 : XA.cell? ⟨sb, 8, none⟩ = some (.bool false) := bs10.cell 8
              have q9 : XA.cell? ⟨sb, 9, none⟩ = some (.slice ma c.mt.length mc) := bs10.cell 9
              have q10 : XA.cell? ⟨sb, 10, none⟩ = some (sv c.what) := bs10.cell 10
              have q11 : XA.cell? ⟨sb, 11, none⟩ = some (.int .i64 k0) := bs10.cell 11
              have q12 : XA.cell? ⟨sb, 12, none⟩ = some (sv t0) := bs10.cell 12
              have q13 : XA.cell? ⟨sb, 13, none⟩ = some (.int .i64 (m : Int)) := bs10.cell 13
              have q14 : XA.cell? ⟨sb, 14, none⟩ = some (.int .i64 at_) := bs10.cell 14
              have q15 : XA.cell? ⟨sb, 15, none⟩ = some (.int .i64 TT) := bs10.cell 15
              refine wp_region_noPanic ?_
              have hgA : XA.grownBy XA.drew none := gb_drew (gb_refl XA none)
              refine wp_region_held_drew (S := fun W : World => XA.grownBy W (some w.heap.size)) (by kernel_rfl) (gb_none _ hgA) (fun hS0 => ?_)
              clear hS0
              generalize XA.drew = W1 at hgA ⊢
              have hSA := gb_none (some w.heap.size) hgA
              refine tkZ 0 (sqCb0 _) rfl (by intro W hSw; have x0 := gb_cell hSw q0 (some_ne2 hsr); have x1 := gb_cell hSw q1 (some_ne2 hsr); have x2 := gb_cell hSw q2 (some_ne2 hsr); have x3 := gb_cell hSw q3 (some_ne2 hsr); have x4 := gb_cell hSw q4 (some_ne2 hsr); have x5 := gb_cell hSw q5 (some_ne2 hsr); have x6 := gb_cell hSw q6 (some_ne2 hsr); have x7 := gb_cell hSw q7 (some_ne2 hsr); have x8 := gb_cell hSw q8 (some_ne2 hsr); have x9 := gb_cell hSw q9 (some_ne2 hsr); have x10 := gb_cell hSw q10 (some_ne2 hsr); have x11 := gb_cell hSw q11 (some_ne2 hsr); have x12 := gb_cell hSw q12 (some_ne2 hsr); have x13 := gb_cell hSw q13 (some_ne2 hsr); have x14 := gb_cell hSw q14 (some_ne2 hsr); have x15 := gb_cell hSw q15 (some_ne2 hsr); go_simp; (try (with_reducible rfl))) ?_
              try simp only [Act.put, pY]
              refine tkZ 1 (sqCb1 _) rfl (by intro W hSw; go_simp; (try (with_reducible rfl))) ?_
              try simp only [Act.put, pY]
              refine tkZ 2 (sqCb2 _) rfl (by intro W hSw; have x15 := gb_cell hSw q15 (some_ne2 hsr); go_simp; (try (with_reducible rfl))) ?_
              try simp only [Act.put, pY]
              refine tkZ 3 (sqCb3 _) rfl (by intro W hSw; go_simp; (try (with_reducible rfl))) ?_
              try simp only [Act.put, pY]
              have bR1 := Box.kept bR10 hgA (by simp)
              refine wpAnyH_ready (rs := [4]) (by kernel_rfl) (by simp) ?_
              refine (AllReadyH.cons rfl (fun K hK => ?_) AllReadyH.nil)
              refine stepT 86 16 size86 rfl (.tmp 6) (.tmp 80) rfl 86 w.heap.size 0 _ bR1 (by simp) (by rfl) #[.int .i64 c.verb, .slice ka c.keys.length kc, .int .u64 c.flags, .int .i64 c.exp, .int .u64 c.tok, .int .u64 c.del, .slice none 0 0, .bool c.nr, .bool false, .slice ma c.mt.length mc, sv c.what, .int .i64 k0, sv t0, .int .i64 (m : Int), .int .i64 at_, .int .i64 TT] (by rfl) rfl (by simp [Value.oneCell']) ?_
              intro Y9 yb yg
              simp only [sets_0] at yb
              have hSB := gb_trans hSA yg
              refine hK.out _ _ hSB (fun hS => ?_)
              clear hK K hS
              try simp only [Act.put, pY]
              refine tkZ 5 (sqCb4 _) rfl (by intro W hSw; go_simp; (try (with_reducible rfl))) ?_
              try simp only [Act.put, pY]
              refine wpAnyH_done (by kernel_rfl) ?_ _
              refine NoPanic.normal ?_
              have ygr := gb_trans (gb_none (some w.heap.size) hgA) yg
              go_wp2_with fail
              simp only [stpW] at hY
              rw [HCM.out] at hY
              refine ⟨rfl, _, res75 yb _ rfl rfl, gb_mine gX10 ygr (Nat.le_refl _), .inr ⟨_, _, ka, kc, none, 0, ma, mc, ?_, hY, rk hk10 ygr bR10 (by decide), ⟨rfl, .inl ⟨rfl, rfl⟩⟩, rk hm10 ygr bR10 (by decide)⟩⟩
              rw [HTT.out]
              rfl
end Go.Proofs.YtobegepebochkaaGreatDoor

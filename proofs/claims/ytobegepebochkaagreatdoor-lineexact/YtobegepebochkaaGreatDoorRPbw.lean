import Derived.Deep.LoopGhost
import Derived.Test.YtobegepebochkaaGreatDoorRPbv
import Derived.Test.YtobegepebochkaaGreatDoorRPav
set_option linter.unusedVariables false
set_option linter.unusedSimpArgs false
set_option maxRecDepth 100000
set_option maxHeartbeats 16000000
namespace Go.Proofs.YtobegepebochkaaGreatDoor
open Go.RowKit Go.Maps
def KpB (L : Nat) (p t : Bs) (N K : Nat) : Prop := ((∃ x, lineS (trim p) = .inr x) /\ K = 0) \/ ∃ (c : Cmd) (n : Nat), lineS (trim p) = .inl (c, (n : Int)) /\ ((L < n /\ K = 0) \/ (n <= L /\ ((t.length <= n /\ K = N) \/ (∃ x, t[n]? = some x /\ x ≠ 13 /\ K = 0) \/ (t[n]? = some 13 /\ t.length = n + 1 /\ K = N) \/ ∃ y, t[n]? = some 13 /\ t[n + 1]? = some y /\ y ≠ 10 /\ K = 0)))
theorem kept_some {w : World} {X : Nat -> Prop} {g o cp : Nat} {rest : Bs} (hv : Ck w X (.slice (some ⟨g, o, none⟩) rest.length cp) rest) (hl : rest.length <= 34359738368) (L : Nat) (hL : L <= 9223372036854775807) (p t : Bs) (hr : rest = p ++ 10 :: t) (hp : (10 : UInt8) ∉ p) (K : Nat) (hK : KpB L p t rest.length K) :
    Calls Tryz.prog 139 #[.slice (some ⟨g, o, none⟩) rest.length cp, .int .i64 L] w fun e w' => e = .returned (.int .i64 (K : Int)) /\ w.grownBy w' none := by
  have hcap : rest.length <= cp /\ cp <= 9223372036854775807 := by
    rcases hv with ⟨_, h⟩ | ⟨_, _, _, h, h1, h2, _⟩
    . cases h
    . injection h with _ _ h; subst h; exact ⟨h1, h2⟩
  have hlen : p.length + 1 + t.length = rest.length := by rw [hr]; simp; omega
  have hgp : ∀ i x, p[i]? = some x -> rest[i]? = some x := fun i x h => by
    have hi := (List.getElem?_eq_some_iff.1 h).1
    rw [hr, List.getElem?_append_left hi]; exact h
  have hgE : rest[p.length]? = some 10 := by rw [hr]; simp
  have hgt : ∀ i x, t[i]? = some x -> rest[p.length + 1 + i]? = some x := fun i x h => by
    rw [hr, List.getElem?_append_right (by omega)]
    rw [show p.length + 1 + i - p.length = i + 1 by omega]
    simpa using h
  have hcell : ∀ i x, rest[i]? = some x -> w.cell? ⟨g, o + i, none⟩ = some (b8 x) := fun i x h => by
    obtain ⟨g', o', e', cx⟩ := Ck.at' hv h
    injection e' with e'
    injection e' with e1 e2
    subst e1 e2
    exact cx
  have hcut : Ck w (fun _ => False) (.slice (some ⟨g, o, none⟩) p.length cp) p := by
    have hv0 : Ck w (fun _ => False) (.slice (some ⟨g, o, none⟩) rest.length cp) rest := hv.kp (Kp.of (F := fun _ => False) (gb_refl w none)) (fun _ _ h => h.elim) (fun _ _ h => h.elim)
    have := hv0.take p.length (by omega)
    rwa [hr, List.take_left] at this
  obtain ⟨E, hE⟩ : ∃ E, p.length = E := ⟨_, rfl⟩
  obtain ⟨N, hN⟩ : ∃ N, rest.length = N := ⟨_, rfl⟩
  have htl := (trim_len p).2
  have HL : Hid (Ck w (fun _ => False) (.slice (some ⟨g, o, none⟩) (trim p).length cp) (trim p)) := by
    show Ck _ _ _ _
    by_cases h13 : p.getLast? = some 13
    . rw [trim, if_pos h13, List.dropLast_eq_take, List.length_take]
      have := Ck.take hcut (p.length - 1) (by omega)
      rw [show min (p.length - 1) p.length = p.length - 1 by omega]
      exact this
    . rw [trim, if_neg h13]; exact hcut
  have h13 := (rline_any _ (trim p) HL.out (by omega)).mono (fun _ _ h => LnU.of h)
  have HA : Hid (KpB L p t N K) := by rw [<- hN]; exact hK
  simp only [LnU] at h13
  generalize hAn : an (trim p) = A at h13
  have HAn : Hid (an (trim p) = A) := hAn
  obtain ⟨c, nn, wk, wt, wp⟩ := A
  simp only at h13
  have HP : Hid (∀ i, i < E -> ∃ b : UInt8, w.cell? ⟨g, o + i, none⟩ = some (b8 b) /\ b ≠ 10) := fun i hi => by
    obtain ⟨b, hb, -⟩ := drop_at (raw := p) (i := i) (by rw [hE]; exact hi)
    exact ⟨b, hcell i b (hgp i b hb), fun e => hp (by rw [<- e]; exact List.mem_of_getElem? hb)⟩
  have HE : Hid (w.cell? ⟨g, o + E, none⟩ = some (.int .u8 10)) := by rw [<- hE]; exact hcell _ _ hgE
  have HT : Hid (∀ i x, t[i]? = some x -> w.cell? ⟨g, o + (E + 1 + i), none⟩ = some (b8 x)) := fun i x h => by rw [<- hE]; exact hcell _ _ (hgt i x h)
  have HTr : Hid ((trim p).length = if p.getLast? = some 13 then E - 1 else E) := by
    show (trim p).length = _
    unfold trim
    split
    . rw [List.length_dropLast, hE]
    . exact hE
  have HLt : Hid (∀ x, p.getLast? = some x -> 0 < E /\ w.cell? ⟨g, o + (E - 1), none⟩ = some (b8 x)) := fun x h => by
    rcases List.eq_nil_or_concat p with h0 | ⟨p', y, h0⟩
    . rw [h0] at h; cases h
    . have hpl : p.length = p'.length + 1 := by rw [h0]; simp
      have e : x = y := by rw [h0] at h; simpa using h.symm
      subst e
      have e2 : E - 1 = p'.length := by omega
      exact ⟨by omega, by rw [e2]; exact hcell _ _ (hgp _ _ (by rw [h0]; simp))⟩
  have HL0 : Hid (p.getLast? = none -> E = 0) := fun h => by rw [List.getLast?_eq_none_iff] at h; rw [<- hE, h]; rfl
  rw [hE, hN] at hlen
  rw [hN] at hcap hl ⊢
  clear hv hr hp hK hgp hgE hgt hcell hcut hE hN hAn htl
  generalize hTl : t.length = T at hlen
  have HTl : Hid (t.length = T) := hTl
  clear hTl
  go_enter Tryz.func139, Tryz.ntmps139
  go_wp2
  go_loopg [5] E (fun gk x wr => ∃ i : Nat, gk + i = E /\ x = .int .i64 i /\ wr = w)
  case atStart => exact ⟨0, rfl, rfl, rfl⟩
  case round =>
    obtain ⟨i, hi, rfl, hw⟩ := hrel
    subst hw
    by_cases hlt : i < E
    . obtain ⟨b, hc, hb10⟩ := HP.out i hlt
      have d1 : ((i : Int) < (N : Int)) := by omega
      have hne := ne10 hb10
      have hne2 : ¬ b.toNat = 10 := fun e => hne (by omega)
      have hd1 : ((b.toNat : Int) == 10) = false := by simpa using hne
      have hd0 : (b.toNat == 10) = false := by simpa using hne2
      clear hb10 h13
      go_wp2
      go_roundg (gk - 1)
      case measure => omega
      case rel => exact ⟨i + 1, by omega, by go_num, rfl⟩
    . obtain rfl : i = E := by omega
      have c10 := HE.out
      have d1 : ((i : Int) < (N : Int)) := by omega
      have d2 : ¬ ((i : Int) = (N : Int)) := by omega
      have d3 : ((i : Int) == (N : Int)) = false := by simpa using d2
      have d4 : (i == N) = false := by simp; omega
      have d5 : (i : Int) <= (cp : Int) := by omega
      have hib : i <= 34359738368 := by omega
      clear hlt
      obtain ⟨w0, hw0⟩ : ∃ w0, w0 = wr := ⟨wr, rfl⟩
      subst hw0
      go_upto_region 9 with (fail)
      go_cut [61] from 50 to 61 (fun x61 wd => x61 = .bool (decide (p.getLast? = some 13)) /\ wd = w0)
      case first =>
        cases hgl : p.getLast? with
        | none =>
          have hi0 : i = 0 := HL0.out hgl
          have d9 : decide ((0 : Int) < (i : Int)) = false := by simp; omega
          have d8 : ¬ ((0 : Int) < (i : Int)) := by omega
          have HGL : Hid (p.getLast? = none) := hgl
          clear hgl HLt HL0 h13 hi0
          go_wp2
          go_meet
          exact ⟨by rw [HGL.out]; rfl, rfl⟩
        | some x =>
          obtain ⟨hpos, cx⟩ := HLt.out x hgl
          obtain ⟨q, hq⟩ : ∃ q, i - 1 = q := ⟨_, rfl⟩
          rw [hq] at cx
          have d8 : ((0 : Int) < (i : Int)) := by omega
          have hw1 : IntKind.i64.wrap ((i : Int) - 1) = (q : Int) := by rw [IntKind.wrap_i64]; omega
          have hw2 : (i : Int) - 1 = (q : Int) := by omega
          have hqb : ((q : Int) < (i : Int)) := by omega
          have HGL : Hid (p.getLast? = some x) := hgl
          clear hgl HLt HL0 h13 hq
          by_cases hx : x = 13
          . subst hx
            have cx' : w0.cell? ⟨g, o + q, none⟩ = some (.int .u8 13) := cx
            clear cx
            go_wp2
            go_meet
            exact ⟨by rw [HGL.out]; rfl, rfl⟩
          . have hne := ne13 hx
            have hne2 : ¬ x.toNat = 13 := fun e => hne (by omega)
            have hd1 : ((x.toNat : Int) == 13) = false := by simpa using hne
            have hd0 : (x.toNat == 13) = false := by simpa using hne2
            have hd9 : decide (some x = some (13 : UInt8)) = false := decide_eq_false (by simpa using hx)
            have HD9 : Hid _ := hd9
            clear hd9
            go_wp2
            go_meet
            exact ⟨by rw [HGL.out, HD9.out], rfl⟩
      case rest =>
        obtain ⟨rfl, hwd⟩ := hcut
        have hwd2 := hwd.symm
        subst hwd2
        go_upto_if 61 with (fail)
        go_cut [6] from 61 to 66 (fun x6 wd => x6 = .slice (some ⟨g, o, none⟩) (trim p).length cp /\ wd = w0)
        case first =>
          have hTr := HTr.out
          by_cases h13b : p.getLast? = some 13
          . have hd : decide (p.getLast? = some 13) = true := decide_eq_true h13b
            rw [if_pos h13b] at hTr
            obtain ⟨hpos, -⟩ := HLt.out 13 h13b
            obtain ⟨q, hq⟩ : ∃ q, i - 1 = q := ⟨_, rfl⟩
            rw [hq] at hTr
            have HTQ : Hid _ := hTr
            have hw1 : IntKind.i64.wrap ((i : Int) - 1) = (q : Int) := by rw [IntKind.wrap_i64]; omega
            have hw2 : (i : Int) - 1 = (q : Int) := by omega
            have hqb : ((q : Int) <= (cp : Int)) := by omega
            clear hTr h13 hq
            go_wp2
            go_meet
            exact ⟨by rw [HTQ.out], rfl⟩
          . have hd : decide (p.getLast? = some 13) = false := decide_eq_false h13b
            rw [if_neg h13b] at hTr
            have HTQ : Hid _ := hTr
            clear hTr h13
            go_wp2
            go_meet
            exact ⟨by rw [HTQ.out], rfl⟩
        case rest =>
          obtain ⟨rfl, hwd⟩ := hcut
          have hwd2 := hwd.symm
          subst hwd2
          go_upto_region 12 with (first
            | (go_at_call 13; go_must ((with_reducible refine h13.mono ?_); rintro e w1 ⟨ka, kc, ma, mc, rfl, hk1, hm1, hg1⟩; obtain ⟨z1, z2, z3⟩ := zz_new w1))
            | (refine atS 41 w1.heap.size 0 rfl rfl ?_; go_must (refine storeT 41 11 size41 rfl _ _ rfl 41 w1.heap.size 0 _ z1 (by simp) rfl _ rfl rfl (by simp [Value.oneCell']) ?_); intro X6 b6 g6; (have k6 := Box.kept z2 g6 (by simp)))
            | (refine atS 43 (w1.heap.size + 1) 0 rfl rfl ?_; go_must (refine storeT 43 3 size43 rfl _ _ rfl 43 (w1.heap.size + 1) 0 _ k6 (by simp) rfl _ rfl rfl (by simp [Value.oneCell']) ?_); intro X7 k7 g7))
          rw [show sets Z43 0 (#[.int .i64 wk, sv wt, .int .i64 wp] : Array Value).toList = #[.int .i64 wk, sv wt, .int .i64 wp] from sets_43 _ _ _ _ _ _] at k7
          have hs1 := hg1.size
          have hgA : w0.grownBy X7 none := gb_mine (gb_mine (gb_trans hg1 z3) g6 (by omega)) g7 (by omega)
          have q0 : X7.cell? ⟨w1.heap.size + 1, 0, none⟩ = some (.int .i64 wk) := k7.cell 0
          have HGA : Hid (w0.grownBy X7 none) := hgA
          clear hk1 hm1 hg1 z1 z2 z3 g6 g7 b6 k6 k7 hs1 hgA h13
          have hwi : IntKind.i64.wrap ((i : Int) + 1) = (i : Int) + 1 := by rw [IntKind.wrap_i64]; omega
          have hAn := HAn.out
          rcases HA.out with ⟨⟨⟨k, tt, pp⟩, hl⟩, rfl⟩ | ⟨c', n, hl, hc⟩
          . have hk0 := (lineS_no hl).2
            simp only [an, hl, Prod.mk.injEq] at hAn
            obtain ⟨-, -, rfl, -, -⟩ := hAn
            have d6 : (k == 0) = false := by simpa using hk0
            clear HA HAn hl
            go_wp2
            go_ret
            exact ⟨rfl, HGA.out⟩
          . simp only [an, hl, Prod.mk.injEq] at hAn
            obtain ⟨-, rfl, rfl, -, -⟩ := hAn
            have hnb : (n : Int) <= 2147483647 := (lineS_ok hl).2
            rcases hc with ⟨hLn, rfl⟩ | ⟨hLn, hc⟩
            . have d6 : ((L : Int) < (n : Int)) := by omega
              clear HA HAn hl
              go_wp2
              go_ret
              exact ⟨rfl, HGA.out⟩
            . have d6 : ¬ ((L : Int) < (n : Int)) := by omega
              have hwn : IntKind.i64.wrap ((n : Int) + 1) = (n : Int) + 1 := by rw [IntKind.wrap_i64]; omega
              have hsub : N - (i + 1) = T := by omega
              have e1 : ((i + 1 : Nat) : Int) = (i : Int) + 1 := by omega
              have e2 : (i : Int) + 1 <= (N : Int) := by omega
              have e3 : ((i : Int) + 1).toNat = i + 1 := by omega
              have hTT := HTl.out
              have HTt := HT.out
              rcases hc with ⟨hT, rfl⟩ | ⟨x, hx, hx13, rfl⟩ | ⟨hx, hT, rfl⟩ | ⟨y, hx, hy, hy10, rfl⟩
              . rw [hTT] at hT
                have f1 : ¬ ((n : Int) < (T : Int)) := by omega
                have f2 : ¬ ((n : Int) + 1 < (T : Int)) := by omega
                clear HA HAn hl HTt hTT
                go_wp2
                all_goals
                  go_ret
                  exact ⟨rfl, HGA.out⟩
              . have hlt := (List.getElem?_eq_some_iff.1 hx).1
                rw [hTT] at hlt
                have f1 : ((n : Int) < (T : Int)) := by omega
                have cx := gb_cellN HGA.out (HTt n x hx)
                rw [<- Nat.add_assoc] at cx
                have hcpe : ¬ (cp = i + 1) := by omega
                have hne := ne13 hx13
                have hne2 : ¬ x.toNat = 13 := fun e => hne (by omega)
                have hd1 : ((x.toNat : Int) == 13) = false := by simpa using hne
                have hd0 : (x.toNat == 13) = false := by simpa using hne2
                clear HA HAn hl HTt hTT hx hx13
                go_wp2
                go_ret
                exact ⟨rfl, HGA.out⟩
              . rw [hTT] at hT
                have f1 : ((n : Int) < (T : Int)) := by omega
                have f2 : ¬ ((n : Int) + 1 < (T : Int)) := by omega
                have cx : X7.cell? ⟨g, o + (i + 1 + n), none⟩ = some (.int .u8 13) := gb_cellN HGA.out (HTt n 13 hx)
                rw [<- Nat.add_assoc] at cx
                have hcpe : ¬ (cp = i + 1) := by omega
                clear HA HAn hl HTt hTT hx hT
                go_wp2
                go_ret
                exact ⟨rfl, HGA.out⟩
              . have hlt := (List.getElem?_eq_some_iff.1 hy).1
                rw [hTT] at hlt
                have f1 : ((n : Int) < (T : Int)) := by omega
                have f2 : ((n : Int) + 1 < (T : Int)) := by omega
                have cx : X7.cell? ⟨g, o + (i + 1 + n), none⟩ = some (.int .u8 13) := gb_cellN HGA.out (HTt n 13 hx)
                rw [<- Nat.add_assoc] at cx
                have cy := gb_cellN HGA.out (HTt (n + 1) y hy)
                rw [<- Nat.add_assoc] at cy
                have hcpe : ¬ (cp = i + 1) := by omega
                have e4 : ((n : Int) + 1).toNat = n + 1 := by omega
                have hne := ne10 hy10
                have hne2 : ¬ y.toNat = 10 := fun e => hne (by omega)
                have hd1 : ((y.toNat : Int) == 10) = false := by simpa using hne
                have hd0 : (y.toNat == 10) = false := by simpa using hne2
                clear HA HAn hl HTt hTT hx hy hy10
                go_wp2
                go_ret
                exact ⟨rfl, HGA.out⟩
end Go.Proofs.YtobegepebochkaaGreatDoor
namespace Go.Proofs.YtobegepebochkaaGreatDoor
open Go.RowKit Go.Maps
theorem kept_139 {w : World} {X : Nat -> Prop} {a : Option Addr} {c : Nat} {rest : Bs} (hv : Ck w X (.slice a rest.length c) rest) (hl : rest.length <= 34359738368) (L : Nat) (hL : L <= 9223372036854775807) {at_ : Nat} {G : Fd} (hG : (fl L at_).run rest = (G, [])) :
    Calls Tryz.prog 139 #[.slice a rest.length c, .int .i64 L] w fun e w' => e = .returned (.int .i64 (G.kept.length : Int)) /\ w.grownBy w' none := by
  rcases kept_cases hG with ⟨h1, h2⟩ | ⟨p, t, hr, hp, hc⟩
  . refine (kept_none hv (by omega) L h1 _ h2).mono ?_
    rintro e w' ⟨rfl, rfl⟩
    exact ⟨rfl, gb_refl _ _⟩
  . have hne : rest[p.length]? = some 10 := by rw [hr]; simp
    obtain ⟨g, o, rfl, _⟩ := hv.at' hne
    refine kept_some hv hl L hL p t hr hp _ ?_
    rcases hc with ⟨x, h1, h2⟩ | ⟨c', n, h1, h2⟩
    . exact .inl ⟨⟨x, h1⟩, by rw [h2]; rfl⟩
    . refine .inr ⟨c', n, h1, ?_⟩
      rcases h2 with ⟨h2, h3⟩ | ⟨h2, h3 | ⟨x, h3, h4, h5⟩ | h3 | ⟨y, h3, h4, h5, h6⟩⟩
      . exact .inl ⟨h2, by rw [h3]; rfl⟩
      . exact .inr ⟨h2, .inl h3⟩
      . exact .inr ⟨h2, .inr (.inl ⟨x, h3, h4, by rw [h5]; rfl⟩)⟩
      . exact .inr ⟨h2, .inr (.inr (.inl h3))⟩
      . exact .inr ⟨h2, .inr (.inr (.inr ⟨y, h3, h4, h5, by rw [h6]; rfl⟩))⟩
theorem rest_ck {w : World} {a : Option Addr} {c : Nat} {raw : Bs} (hr : w.ownsRow 0 5 1 (.slice a raw.length c) raw.length (raw.map b8)) (last : Nat) (hle : last <= raw.length) :
    Ck w (fun _ => False) (.slice (if c = last then a else Option.map (fun x => x.add last) a) (raw.length - last) (c - last)) (raw.drop last) := by
  have h0 : Ck w (fun _ => False) (.slice a raw.length c) raw := ck_own hr (fun _ _ h => h)
  split
  . exact h0.dropB last hle (by assumption)
  . exact h0.dropA last hle
theorem held_90 {w : World} {rb L : Nat} {raw : Bs} {rv : Value} {last : Nat} {quit : Bool} (h : IsW w rb L raw rv last quit) (hl : raw.length <= 34359738368) (hL : L <= 9223372036854775807) {F : Fd} (hR : Rl L raw last quit F) :
    Calls Tryz.prog 90 #[.pointer (some ⟨rb, 0, none⟩)] w fun e w' => e = .returned (.int .i64 (F.kept.length : Int)) /\ w.grownBy w' none := by
  have c3 : w.cell? ⟨rb, 3, none⟩ = some (.bool quit) := h.box.cell 3
  cases quit with
  | true =>
    have hk := (hR.yes rfl).2
    rw [hk]
    clear h hR hk
    go_enter Tryz.func90, Tryz.ntmps90
    go_wp2
    go_ret
    exact ⟨rfl, gb_refl _ _⟩
  | false =>
    have hle := hR.le
    obtain ⟨a, c, rfl, hnil, hcap, hmx, hsome⟩ := row_shape h.row
    unfold maxLen at hmx
    have c0 : w.cell? ⟨rb, 0, none⟩ = some (.int .i64 L) := h.box.cell 0
    have c1 : w.cell? ⟨rb, 1, none⟩ = some (.slice a raw.length c) := h.box.cell 1
    have c2 : w.cell? ⟨rb, 2, none⟩ = some (.int .i64 last) := h.box.cell 2
    have hck := rest_ck h.row last hle
    have hlen : (raw.drop last).length = raw.length - last := List.length_drop
    have h139 : ∀ W, w.grownBy W none -> Calls Tryz.prog 139 #[.slice (if c = last then a else Option.map (fun x => x.add last) a) (raw.length - last) (c - last), .int .i64 L] W fun e w' => e = .returned (.int .i64 (F.kept.length : Int)) /\ W.grownBy w' none := fun W hW => by
      have := kept_139 (w := W) (X := fun _ => False) (a := if c = last then a else Option.map (fun x => x.add last) a) (c := c - last) (rest := raw.drop last) (by rw [hlen]; exact hck.kp (Kp.of (F := fun _ => False) hW) (fun _ _ h => h.elim) (fun _ _ h => h.elim)) (by omega) L hL (hR.no rfl)
      rwa [hlen] at this
    obtain ⟨n, hn⟩ : ∃ n, raw.length = n := ⟨_, rfl⟩
    rw [hn] at c1 h139 hle hcap
    have hnn : IntKind.i64.wrap (last : Int) = (last : Int) := by rw [IntKind.wrap_i64]; omega
    have d1 : (last : Int) <= (n : Int) := by omega
    have d2 : (n : Int) <= (c : Int) := by omega
    have d3 : last <= c := by omega
    clear h hR hck hlen hn hsome
    by_cases hc : c = last
    . subst hc
      simp only [if_true] at h139
      obtain rfl : n = c := by omega
      simp only [Nat.sub_self] at h139
      go_enter Tryz.func90, Tryz.ntmps90
      go_upto_region 3 with (fail)
      go_region_held3 (fun W : World => W.cell? ⟨rb, 0, none⟩ = some (.int .i64 L) /\ W.cell? ⟨rb, 1, none⟩ = some (.slice a n n) /\ W.cell? ⟨rb, 2, none⟩ = some (.int .i64 n)) (go_keep) ((go_at_call 139; go_must ((with_reducible refine (h139 _ (gb_drew (gb_refl _ _))).mono ?_); rintro e w4 ⟨rfl, hg4⟩; (have hg5 : w.grownBy w4 none := gb_trans (gb_drew (gb_refl _ _)) hg4); (have n0 := gb_cellN hg5 c0); (have n1 := gb_cellN hg5 c1); (have n2 := gb_cellN hg5 c2))))
      go_wp2
      go_ret
      exact ⟨rfl, hg5⟩
    . simp only [if_neg hc] at h139
      have hne : a ≠ none := fun e => by have := hnil e; omega
      obtain ⟨x, rfl⟩ : ∃ x, a = some x := by cases a with | none => exact absurd rfl hne | some x => exact ⟨x, rfl⟩
      simp only [Option.map_some] at h139
      go_enter Tryz.func90, Tryz.ntmps90
      go_upto_region 3 with (fail)
      go_region_held3 (fun W : World => W.cell? ⟨rb, 0, none⟩ = some (.int .i64 L) /\ W.cell? ⟨rb, 1, none⟩ = some (.slice (some x) n c) /\ W.cell? ⟨rb, 2, none⟩ = some (.int .i64 last)) (go_keep) ((go_at_call 139; go_must ((with_reducible refine (h139 _ (gb_drew (gb_refl _ _))).mono ?_); rintro e w4 ⟨rfl, hg4⟩; (have hg5 : w.grownBy w4 none := gb_trans (gb_drew (gb_refl _ _)) hg4); (have n0 := gb_cellN hg5 c0); (have n1 := gb_cellN hg5 c1); (have n2 := gb_cellN hg5 c2))))
      go_wp2
      go_ret
      exact ⟨rfl, hg5⟩
theorem IsW.kept0 {w w' : World} {rb L : Nat} {raw : Bs} {rv : Value} {last : Nat} {quit : Bool} (h : IsW w rb L raw rv last quit) (hg : w.grownBy w' none) : IsW w' rb L raw rv last quit := ⟨h.box.kept hg (by simp), row_kept h.row hg (by simp)⟩
theorem alike_43 {w : World} {fb : Nat} {F : Fd} {kv : Value} (hF : IsF w fb F kv) {rb L : Nat} {raw : Bs} {rv : Value} {last : Nat} {quit : Bool} (h : IsW w rb L raw rv last quit) (hl : raw.length <= 34359738368) (hL : L <= 9223372036854775807) (hR : Rl L raw last quit F) :
    Calls Tryz.prog 43 #[.pointer (some ⟨fb, 0, none⟩), .pointer (some ⟨rb, 0, none⟩)] w fun e w' => e = .returned (.bool true) /\ w.grownBy w' none := by
  obtain ⟨hd, lf, ck, cd, cm, hx, -, -⟩ := hF
  obtain ⟨ao, cp, ekv, -⟩ := row_shape hx.kept
  have h50 := held_50 hx.box ekv
  have h90 := held_90 h hl hL hR
  have h51 := fun W (hg : w.grownBy W none) => ended_51 (hx.box.kept hg (by simp))
  have h91 := fun W (hg : w.grownBy W none) => ended_91 (h.kept0 hg)
  have h52 := fun W (hg : w.grownBy W none) => taken_52 (hx.box.kept hg (by simp))
  have h92 := fun W (hg : w.grownBy W none) => taken_92 (h.kept0 hg)
  rw [hR.ended] at h51
  rw [hR.taken] at h52
  obtain ⟨n, hn⟩ : ∃ n, raw.length = n := ⟨_, rfl⟩
  obtain ⟨m, hm⟩ : ∃ m, F.kept.length = m := ⟨_, rfl⟩
  rw [hn] at h52 h92
  rw [hm] at h50 h90
  clear hx h hR hn hm ekv
  go_enter Tryz.func43, Tryz.ntmps43
  go_wp2_with fail
  refine h50.mono ?_
  rintro e w1 ⟨rfl, hw⟩
  have hw2 := hw.symm
  subst hw2
  go_wp2_with fail
  refine h90.mono ?_
  rintro e w1 ⟨rfl, hg1⟩
  clear h50 h90
  have h51 := h51 _ hg1
  go_wp2_with fail
  refine h51.mono ?_
  rintro e w2 ⟨rfl, hw⟩
  have hw2 := hw.symm
  subst hw2
  have h91 := h91 _ hg1
  go_wp2_with fail
  refine h91.mono ?_
  rintro e w2 ⟨rfl, hw⟩
  have hw2 := hw.symm
  subst hw2
  clear h51 h91
  have h52 := h52 _ hg1
  go_wp2_with fail
  refine h52.mono ?_
  rintro e w2 ⟨rfl, hw⟩
  have hw2 := hw.symm
  subst hw2
  have h92 := h92 _ hg1
  go_wp2_with fail
  refine h92.mono ?_
  rintro e w2 ⟨rfl, hw⟩
  have hw2 := hw.symm
  subst hw2
  clear h52 h92
  go_wp2_with fail
  go_ret
  exact ⟨by simp, hg1⟩
end Go.Proofs.YtobegepebochkaaGreatDoor

import Derived.Deep.LoopGhost
import Derived.Test.YtobegepebochkaaGreatDoorRPbw
set_option linter.unusedVariables false
set_option linter.unusedSimpArgs false
set_option maxRecDepth 100000
set_option maxHeartbeats 16000000
namespace Go.Proofs.YtobegepebochkaaGreatDoor
open Go.RowKit Go.Maps
section
variable {w : World} {ops : Array Oper} {rest : List Oper} {o : Oper} {a : Act} {Q : Exit -> Act -> World -> Prop}
theorem moreP (hgd : o.guard = none) (s x : Operand) (ho : o.op = .call { callee := .builtin .append, args := #[s, x], argTypes := #[38, 38] })
    (v : Value) (n : Nat) (xs : List Value) (hs : a.eval s = v) (hown : w.ownsRow 0 5 1 v n xs) (xv : Value) (l : Bs) (hx : a.eval x = xv) (hc : Bw w xv l) (hn : n + l.length <= 1000000000)
    (h : ∀ v' w', w'.ownsRow 0 5 1 v' (n + l.length) (xs ++ l.map b8) -> w.grownBy w' v.ownBlock -> (∀ k, v'.ownBlock = some k -> v.ownBlock = some k \/ w.heap.size <= k) -> wpList Tryz.prog ops Q rest (a.put o.dst v') w') : wpList Tryz.prog ops Q (o :: rest) a w := by
  obtain ⟨ti, T⟩ := ty_38
  by_cases h0 : l = []
  . subst h0
    have hsl : ∃ b c, xv = .slice b 0 c := by
      obtain ⟨b, m, c, rfl, rfl⟩ := hc.slice
      exact ⟨b, c, rfl⟩
    have hrun := run_psh0 T w o.type 0 v n xs hown xv hsl
    refine wpList_plain hgd fun K hK => ?_
    unfold Oper.wp
    simp [execOp, ho, resolve, invoke, builtin, hs, hx, hrun, Result.andThen]
    exact hK _ _ (h v w (by simpa using hown) (gb_refl _ _) (fun k e => .inl e))
  . rcases hc with hc | ⟨e, _⟩
    . have hpos : 0 < l.length := List.length_pos_iff.2 h0
      obtain ⟨g, q, c, rfl, h1, h2, h3, h4⟩ := hc.by hpos
      obtain ⟨v', w', hr, a1, a2⟩ := run_psh T w o.type v n xs hown ⟨g, q, none⟩ l.length c (l.map b8) (by simp) (fun j u hu => by
        rw [List.getElem?_map, Option.map_eq_some_iff] at hu
        obtain ⟨y, hj, rfl⟩ := hu
        rw [Addr.add_mid]
        exact h4 j y hj) (fun u hu => by
        obtain ⟨y, _, rfl⟩ := List.mem_map.1 hu
        rfl) hpos hn
      refine wpList_plain hgd fun K hK => ?_
      unfold Oper.wp
      simp [execOp, ho, resolve, invoke, builtin, hs, hx, hr, Result.andThen]
      exact hK _ _ (h v' w' a1 a2.gb (fun k e => a2.at' e))
    . exact absurd e h0
end
def shT (k : Nat) (x : Tld) : Tld := ⟨x.s.sh k, x.ck, x.cd, x.cm⟩
theorem tl_len : ∀ q : List Tld, (q.flatMap tldL).length = q.length * 16
  | [] => rfl
  | x :: q => by
    have h := tl_len q
    simp only [List.flatMap_cons, List.length_append, List.length_cons, List.length_nil, h]
    omega
theorem sh_round (q : List Tld) (i k : Nat) (x : Tld) (hx : q[i]? = some x) :
    ((((q.take i).map (shT k) ++ q.drop i).flatMap tldL).set (i * 16 + 14) (.int .i64 ((x.s.frm + k : Nat) : Int))).set (i * 16 + 15) (.int .i64 ((x.s.to + k : Nat) : Int)) = ((q.take (i + 1)).map (shT k) ++ q.drop (i + 1)).flatMap tldL := by
  obtain ⟨hi, e⟩ := List.getElem?_eq_some_iff.1 hx
  have e1 : q.drop i = x :: q.drop (i + 1) := by rw [<- e]; exact List.drop_eq_getElem_cons hi
  have e2 : q.take (i + 1) = q.take i ++ [x] := by rw [List.take_add_one, hx]; rfl
  have hA : (((q.take i).map (shT k)).flatMap tldL).length = i * 16 := by rw [tl_len, List.length_map, List.length_take]; omega
  rw [e1, e2, List.flatMap_append, List.flatMap_cons, List.set_append_right _ _ (by omega), hA, show i * 16 + 14 - i * 16 = 14 by omega, List.set_append_right _ _ (by omega), hA, show i * 16 + 15 - i * 16 = 15 by omega]
  rw [List.map_append, List.flatMap_append, List.flatMap_append]
  simp [shT, Stp.sh]
theorem lst_take {q : List Tld} {i : Nat} {x : Tld} (hx : q[i]? = some x) (last : Nat) : lst last (q.take (i + 1)) = x.s.to + last /\ qtt (q.take (i + 1)) = decide (x.s.cmd.verb = 18) := by
  have e2 : q.take (i + 1) = q.take i ++ [x] := by rw [List.take_add_one, hx]; rfl
  unfold lst qtt
  rw [e2, List.getLast?_append]
  simp
def RfP (w : World) (rb L : Nat) (raw l : Bs) (rv : Value) (F : Fd) (e : Ending) (w' : World) : Prop :=
  ∃ vv q rv' last' quit', e = .returned vv /\ Sd w' w.heap.size vv q /\ Ge w.heap.size q /\ q.map Tld.s = (F.run l).2 /\ IsW w' rb L (raw ++ l) rv' last' quit' /\ Rl L (raw ++ l) last' quit' (F.run l).1 /\ Kp (fun k => k = rb \/ rv.ownBlock = some k) w w' /\ (∀ k, rv'.ownBlock = some k -> rv.ownBlock = some k \/ w.heap.size <= k)
theorem IsW.app {w w1 : World} {rb L : Nat} {raw l : Bs} {rv rv1 : Value} {last : Nat} {quit : Bool} (h : IsW w rb L raw rv last quit) (h1 : w1.ownsRow 0 5 1 rv1 (raw.length + l.length) (raw.map b8 ++ l.map b8)) (hg : w.grownBy w1 rv.ownBlock) :
    IsW (w1.setCell ⟨rb, 1, none⟩ rv1) rb L (raw ++ l) rv1 last quit /\ Kp (fun k => k = rb \/ rv.ownBlock = some k) w (w1.setCell ⟨rb, 1, none⟩ rv1) /\ Box w1 138 rb #[.int .i64 L, rv, .int .i64 last, .bool quit] := by
  have b1 := h.box.kept hg (fun e => row_box h.row h.box (by decide) rb e.symm rfl)
  refine ⟨⟨b1.set 1 _, ?_⟩, ?_, b1⟩
  . rw [List.length_append, List.map_append]
    exact row_kept h1 (gb_setCell (gb_refl _ (some rb)) _) (fun k hk e => row_box h1 b1 (by decide) k hk e)
  . exact ((Kp.refl _ w).step hg (fun i hi => .inl (.inr hi))).step (gb_setCell (gb_refl _ (some rb)) _) (fun i hi => .inl (.inl (Option.some.inj hi).symm))
theorem rfeed_47 {w : World} {rb L : Nat} {raw : Bs} {rv : Value} {last : Nat} {quit : Bool} (h : IsW w rb L raw rv last quit) {F : Fd} (hR : Rl L raw last quit F) {v : Value} {l : Bs} (hv : Bw w v l) (hl : raw.length + l.length <= 1000000) (hL : L <= 9223372036854775807) :
    Calls Tryz.prog 47 #[.pointer (some ⟨rb, 0, none⟩), v] w fun e w' => RfP w rb L raw l rv F e w' := by
  obtain ⟨a, c, hsh, hnil, hcap, hmx, hsome⟩ := row_shape h.row
  obtain ⟨va, vn, vc, rfl, rfl⟩ := hv.slice
  have c1 : w.cell? ⟨rb, 1, none⟩ = some rv := h.box.cell 1
  have happ := fun rv1 w1 (h1 : w1.ownsRow 0 5 1 rv1 (raw.length + l.length) (raw.map b8 ++ l.map b8)) (hg : w.grownBy w1 rv.ownBlock) => h.app h1 hg
  have hrow := h.row
  rw [hsh] at c1
  cases quit with
  | true =>
    have hov := hR.over l
    have hend : ∀ rv1 w1, w1.ownsRow 0 5 1 rv1 (raw.length + l.length) (raw.map b8 ++ l.map b8) -> w.grownBy w1 rv.ownBlock -> (∀ k, rv1.ownBlock = some k -> rv.ownBlock = some k \/ w.heap.size <= k) -> RfP w rb L raw l rv F (.returned (.slice none 0 0)) (w1.setCell ⟨rb, 1, none⟩ rv1) := fun rv1 w1 h1 hg hk => by
      obtain ⟨q1, q2, -⟩ := happ rv1 w1 h1 hg
      exact ⟨_, [], rv1, last, true, rfl, ⟨World.ownsRow_nil _ _ _ _, by simp, by simp, by simp⟩, by simp [Ge], hov.1.symm, q1, hov.2, q2, hk⟩
    subst hsh
    have HE : Hid _ := hend
    have HA : Hid _ := happ
    clear h hR hov hend happ
    go_enter Tryz.func47, Tryz.ntmps47
    go_wp2_with (at_builtin; go_must (refine moreP rfl _ _ rfl _ raw.length _ (by rfl) hrow _ l (by rfl) hv (by omega) ?_); intro rv1 w1 h1 gg1 at1; (obtain ⟨-, -, b1⟩ := HA.out rv1 w1 h1 gg1); (have m1 : w1.cell? ⟨rb, 1, none⟩ = some (.slice a raw.length c) := b1.cell 1); (have f1 := b1.fz 1); (have m3 : (w1.setCell ⟨rb, 1, none⟩ rv1).cell? ⟨rb, 3, none⟩ = some (.bool true) := (b1.set 1 rv1).cell 3); (have hE := HE.out rv1 w1 h1 gg1 at1); (obtain ⟨ra, rc, hrs, -⟩ := row_shape h1); subst hrs)
    go_ret
    exact hE
  | false =>
    have hle := hR.le
    have hE : ∀ {q : List Tld}, ((fl L 0).run ((raw ++ l).drop last)).2 = q.map Tld.s -> _ := fun {q} hq => hR.feed l hq
    subst hsh
    have HA : Hid _ := happ
    have HF : Hid (∀ {q : List Tld}, ((fl L 0).run ((raw ++ l).drop last)).2 = q.map Tld.s -> (F.run l).2 = q.map (fun x => x.s.sh last) /\ Rl L (raw ++ l) (lst last q) (qtt q) (F.run l).1) := fun hq => hR.feed l hq
    clear h hR happ hE
    go_enter Tryz.func47, Tryz.ntmps47
    go_upto_region 4 with (at_builtin; go_must (refine moreP rfl _ _ rfl _ raw.length _ (by rfl) hrow _ l (by rfl) hv (by omega) ?_); intro rv1 w1 h1 gg1 at1; (obtain ⟨X1, X2, b1⟩ := HA.out rv1 w1 h1 gg1); (have m1 : w1.cell? ⟨rb, 1, none⟩ = some (.slice a raw.length c) := b1.cell 1); (have f1 := b1.fz 1); (have m3 : (w1.setCell ⟨rb, 1, none⟩ rv1).cell? ⟨rb, 3, none⟩ = some (.bool false) := (b1.set 1 rv1).cell 3); (obtain ⟨ra, rc, hrs, -⟩ := row_shape h1); subst hrs)
    clear h1 gg1 m1 f1 m3 b1 c1 hrow hv HA
    rw [<- List.length_append] at X1 X2 at1 ⊢
    generalize w1.setCell ⟨rb, 1, none⟩ (.slice ra (raw ++ l).length rc) = X at *
    have hrl : (raw ++ l).length <= 1000000 := by rw [List.length_append]; exact hl
    have hle2 : last <= (raw ++ l).length := by rw [List.length_append]; omega
    generalize hral : raw ++ l = ral at *
    have HRAL : Hid (raw ++ l = ral) := hral
    clear hral
    obtain ⟨xa, xc, hxs, hxnil, hxcap, hxmx, -⟩ := row_shape X1.row
    injection hxs with e1 _ e3
    subst e1 e3
    unfold maxLen at hxmx
    have c0 : X.cell? ⟨rb, 0, none⟩ = some (.int .i64 L) := X1.box.cell 0
    have c1 : X.cell? ⟨rb, 1, none⟩ = some (.slice ra ral.length rc) := X1.box.cell 1
    have c2 : X.cell? ⟨rb, 2, none⟩ = some (.int .i64 last) := X1.box.cell 2
    have hck := rest_ck X1.row last hle2
    have hlen : (ral.drop last).length = ral.length - last := List.length_drop
    have h26 : ∀ W, X.grownBy W none -> Calls Tryz.prog 26 #[.slice (if rc = last then ra else Option.map (fun x => x.add last) ra) (ral.length - last) (rc - last), .int .i64 L] W fun e w' => ∃ vv q left, e = .returned (.tuple #[vv, .int .i64 left]) /\ DlR W L (ral.drop last) q vv left w' /\ Ge W.heap.size q := fun W hW => by
      have := rallW (w := W) (v := .slice (if rc = last then ra else Option.map (fun x => x.add last) ra) (ral.length - last) (rc - last)) (raw := ral.drop last) (.inl (hck.kp (Kp.of (F := fun _ => False) hW) (fun _ _ h => h.elim) (fun _ _ h => h.elim))) (by omega) (L : Int) (by omega) (by omega)
      rwa [Int.toNat_natCast] at this
    have hnn : IntKind.i64.wrap (last : Int) = (last : Int) := by rw [IntKind.wrap_i64]; omega
    obtain ⟨n, hn⟩ : ∃ n, ral.length = n := ⟨_, rfl⟩
    rw [hn] at c1 h26 hle2 hxcap hrl ⊢
    have d1 : (last : Int) <= (n : Int) := by omega
    have d2 : (n : Int) <= (rc : Int) := by omega
    have d3 : last <= rc := by omega
    have HX : Hid (IsW X rb L ral (.slice ra ral.length rc) last false) := X1
    have HK : Hid (Kp (fun k => k = rb \/ (Value.slice a raw.length c).ownBlock = some k) w X) := X2
    have HN : Hid (ral.length = n) := hn
    clear hck hlen hn X1 X2
    go_cut [5, 6] from 22 to 38 (fun x5 x6 wd => ∃ q left, x6 = .int .i64 left /\ DlR X L (ral.drop last) q x5 left wd /\ Ge X.heap.size q)
    case first =>
      by_cases hc : rc = last
      . subst hc
        simp only [if_true] at h26
        obtain rfl : n = rc := by omega
        simp only [Nat.sub_self] at h26
        go_region_held3 (fun W : World => W.cell? ⟨rb, 0, none⟩ = some (.int .i64 L) /\ W.cell? ⟨rb, 1, none⟩ = some (.slice ra n n) /\ W.cell? ⟨rb, 2, none⟩ = some (.int .i64 n)) (go_keep) ((go_at_call 26; go_must ((with_reducible refine (h26 _ (gb_drew (gb_refl _ _))).mono ?_); rintro e w4 ⟨vv, q, left, rfl, hD, hG⟩; (have hg5 : X.grownBy w4 none := gb_trans (gb_drew (gb_refl _ _)) hD.gb); (have n0 := gb_cellN hg5 c0); (have n1 := gb_cellN hg5 c1); (have n2 := gb_cellN hg5 c2))))
        go_wp2
        go_meet
        exact ⟨q, left, rfl, ⟨hD.ss, hD.run, hD.tile, hg5⟩, hG⟩
      . simp only [if_neg hc] at h26
        have hne : ra ≠ none := fun e => by have := hxnil e; omega
        obtain ⟨x, rfl⟩ : ∃ x, ra = some x := by cases ra with | none => exact absurd rfl hne | some x => exact ⟨x, rfl⟩
        simp only [Option.map_some] at h26
        go_region_held3 (fun W : World => W.cell? ⟨rb, 0, none⟩ = some (.int .i64 L) /\ W.cell? ⟨rb, 1, none⟩ = some (.slice (some x) n rc) /\ W.cell? ⟨rb, 2, none⟩ = some (.int .i64 last)) (go_keep) ((go_at_call 26; go_must ((with_reducible refine (h26 _ (gb_drew (gb_refl _ _))).mono ?_); rintro e w4 ⟨vv, q, left, rfl, hD, hG⟩; (have hg5 : X.grownBy w4 none := gb_trans (gb_drew (gb_refl _ _)) hD.gb); (have n0 := gb_cellN hg5 c0); (have n1 := gb_cellN hg5 c1); (have n2 := gb_cellN hg5 c2))))
        go_wp2
        go_meet
        exact ⟨q, left, rfl, ⟨hD.ss, hD.run, hD.tile, hg5⟩, hG⟩
    case rest =>
      obtain ⟨q, left, rfl, D, gq⟩ := hcut
      obtain ⟨sa, sc, hss, -, hsc, hsm, hsp⟩ := row_shape D.ss.row
      unfold maxLen at hsm
      subst hss
      have hg5 := D.gb
      have k2 := gb_cellN hg5 c2
      have hbx := HX.out.box.kept hg5 (by simp)
      have hrw := row_kept HX.out.row hg5 (by simp)
      have hql : q.length <= 1000000 := by
        obtain ⟨b, hb, ht, -⟩ := D.tile
        have := ht.le
        rw [List.length_drop, HN.out] at hb
        omega
      have hto : ∀ (i : Nat) (x : Tld), q[i]? = some x -> x.s.frm + last <= 2000000 /\ x.s.to + last <= 2000000 := fun i x hx => by
        obtain ⟨b, hb, ht, -⟩ := D.tile
        obtain ⟨m, -, h1, h2, h3⟩ := Tile.get i ht hx
        have := h3.le
        rw [List.length_drop, HN.out] at hb
        omega
      have HD : Hid (DlR X L (ral.drop last) q (.slice sa q.length sc) left wc /\ Ge X.heap.size q) := ⟨D, gq⟩
      have hT0 : wc.ownsRow X.heap.size 86 16 (.slice sa q.length sc) q.length (((q.take 0).map (shT last) ++ q.drop 0).flatMap tldL) := D.ss.row
      have HT : Hid (∀ (i : Nat) (x : Tld), q[i]? = some x -> x.s.frm + last <= 2000000 /\ x.s.to + last <= 2000000) := hto
      have HRW : Hid (wc.ownsRow 0 5 1 (.slice ra ral.length rc) ral.length (ral.map b8)) := hrw
      obtain ⟨Q, hQ⟩ : ∃ Q, q.length = Q := ⟨_, rfl⟩
      have HQ : Hid (q.length = Q) := hQ
      have HB0 : Hid (Box wc 138 rb #[.int .i64 L, .slice ra n rc, .int .i64 last, .bool false]) := by rw [HN.out] at hbx; exact hbx
      rw [hQ] at hT0 hql hsc hsp ⊢
      clear D gq hg5 h26 c0 c1 hto hrw hQ hbx
      go_wp2
      obtain ⟨wb, hwb⟩ : ∃ wb, wb = wc := ⟨wc, rfl⟩
      subst hwb
      go_loopg [8] Q (fun gk x8 wr => ∃ i : Nat, gk + i = Q /\ x8 = .int .i64 i /\ Box wr 138 rb #[.int .i64 L, .slice ra n rc, .int .i64 (lst last (q.take i)), .bool (qtt (q.take i))] /\ wr.ownsRow X.heap.size 86 16 (.slice sa Q sc) Q (((q.take i).map (shT last) ++ q.drop i).flatMap tldL) /\ Kp (fun k => k = rb \/ (Value.slice sa Q sc).ownBlock = some k) wb wr)
      case atStart => exact ⟨0, rfl, rfl, HB0.out, hT0, Kp.refl _ _⟩
      case round =>
        clear hT0 HB0
        obtain ⟨i, hi, rfl, hb, hr, hk⟩ := hrel
        by_cases hlt : i < Q
        . obtain ⟨x, hx⟩ : ∃ x, q[i]? = some x := ⟨_, List.getElem?_eq_getElem (by rw [HQ.out]; exact hlt)⟩
          obtain ⟨gs, rfl⟩ := hsp (by omega)
          obtain ⟨b1, b2⟩ := HT.out i x hx
          have hxi : ((q.take i).map (shT last) ++ q.drop i)[i]? = some x := by
            rw [List.getElem?_append_right (by simp; omega)]
            have : i - ((q.take i).map (shT last)).length = 0 := by simp [HQ.out]; omega
            rw [this, List.getElem?_drop]
            simpa using hx
          have hne : rb ≠ gs := fun e => row_box hr hb (by decide) gs rfl (by rw [e])
          have v14 : (((q.take i).map (shT last) ++ q.drop i).flatMap tldL)[i * 16 + 14]? = some (.int .i64 x.s.frm) := by rw [tl_get _ i x 14 hxi (by omega)]; rfl
          have v15 : (((q.take i).map (shT last) ++ q.drop i).flatMap tldL)[i * 16 + 15]? = some (.int .i64 x.s.to) := by rw [tl_get _ i x 15 hxi (by omega)]; rfl
          have v0 : (((q.take i).map (shT last) ++ q.drop i).flatMap tldL)[i * 16 + 0]? = some (.int .i64 x.s.cmd.verb) := by rw [tl_get _ i x 0 hxi (by omega)]; rfl
          have hrd := sh_round q i last x hx
          obtain ⟨l1, l2⟩ := lst_take hx last
          have r1 := row_set hr (i * 16 + 14) (.int .i64 ((x.s.frm + last : Nat) : Int))
          have r2 := row_set r1 (i * 16 + 15) (.int .i64 ((x.s.to + last : Nat) : Int))
          have k14 : wr.cell? ⟨gs, i * 16 + 14, none⟩ = some (.int .i64 x.s.frm) := row_cell hr _ _ v14
          have z14 := World.ownsRow.frozenAt hr (i * 16 + 14)
          have k15 : (wr.setCell ⟨gs, i * 16 + 14, none⟩ (.int .i64 ((x.s.frm + last : Nat) : Int))).cell? ⟨gs, i * 16 + 15, none⟩ = some (.int .i64 x.s.to) := row_cell r1 _ _ (by rw [List.getElem?_set_ne (by omega)]; exact v15)
          have z15 := World.ownsRow.frozenAt r1 (i * 16 + 15)
          generalize hW1 : wr.setCell ⟨gs, i * 16 + 14, none⟩ (.int .i64 ((x.s.frm + last : Nat) : Int)) = W1 at *
          have g1 : wr.grownBy W1 (some gs) := by rw [<- hW1]; exact gb_setCell (gb_refl _ _) _
          have k15b : (W1.setCell ⟨gs, i * 16 + 15, none⟩ (.int .i64 ((x.s.to + last : Nat) : Int))).cell? ⟨gs, i * 16 + 15, none⟩ = some (.int .i64 ((x.s.to + last : Nat) : Int)) := row_cell r2 _ _ (by
            rw [List.getElem?_set_self]
            rw [List.length_set]
            have := List.getElem?_eq_some_iff.1 v15
            exact this.1)
          have k0 : (W1.setCell ⟨gs, i * 16 + 15, none⟩ (.int .i64 ((x.s.to + last : Nat) : Int))).cell? ⟨gs, i * 16, none⟩ = some (.int .i64 x.s.cmd.verb) := row_cell r2 _ _ (by rw [List.getElem?_set_ne (by omega), List.getElem?_set_ne (by omega)]; exact v0)
          generalize hW2 : W1.setCell ⟨gs, i * 16 + 15, none⟩ (.int .i64 ((x.s.to + last : Nat) : Int)) = W2 at *
          have g2 : W1.grownBy W2 (some gs) := by rw [<- hW2]; exact gb_setCell (gb_refl _ _) _
          have hb2 := (hb.kept g1 (some_ne2 hne)).kept g2 (some_ne2 hne)
          have y2 : W2.cell? ⟨rb, 2, none⟩ = some (.int .i64 (lst last (q.take i))) := hb2.cell 2
          have f2 := hb2.fz 2
          have hb3 := hb2.set 2 (.int .i64 ((x.s.to + last : Nat) : Int))
          have k0b : (W2.setCell ⟨rb, 2, none⟩ (.int .i64 ((x.s.to + last : Nat) : Int))).cell? ⟨gs, i * 16, none⟩ = some (.int .i64 x.s.cmd.verb) := gb_cell (gb_setCell (gb_refl _ (some rb)) _) k0 (some_ne2 hne.symm)
          have y3 : (W2.setCell ⟨rb, 2, none⟩ (.int .i64 ((x.s.to + last : Nat) : Int))).cell? ⟨rb, 3, none⟩ = some (.bool (qtt (q.take i))) := hb3.cell 3
          have f3 := hb3.fz 3
          have hb4 := hb3.set 3 (.bool (x.s.cmd.verb == 18))
          have r4 := row_kept r2 (gb_setCell (gb_setCell (gb_refl W2 (some rb)) (.int .i64 ((x.s.to + last : Nat) : Int)) (i := 2)) (.bool (x.s.cmd.verb == 18)) (i := 3)) (fun k hk e => by simp [Value.ownBlock] at hk; subst hk; exact hne (Option.some.inj e).symm)
          have hk4 : Kp (fun k => k = rb \/ (Value.slice (some ⟨gs, 0, none⟩) Q sc).ownBlock = some k) wb ((W2.setCell ⟨rb, 2, none⟩ (.int .i64 ((x.s.to + last : Nat) : Int))).setCell ⟨rb, 3, none⟩ (.bool (x.s.cmd.verb == 18))) := ((hk.step g1 (fun j hj => .inl (.inr hj))).step g2 (fun j hj => .inl (.inr hj))).step (gb_setCell (gb_setCell (gb_refl W2 (some rb)) _) _) (fun j hj => .inl (.inl (Option.some.inj hj).symm))
          have w14 : IntKind.i64.wrap ((x.s.frm : Int) + (last : Int)) = ((x.s.frm + last : Nat) : Int) := by rw [IntKind.wrap_i64]; omega
          have w15 : IntKind.i64.wrap ((x.s.to : Int) + (last : Int)) = ((x.s.to + last : Nat) : Int) := by rw [IntKind.wrap_i64]; omega
          have s14 : (x.s.frm : Int) + (last : Int) = ((x.s.frm + last : Nat) : Int) := by omega
          have s15 : (x.s.to : Int) + (last : Int) = ((x.s.to + last : Nat) : Int) := by omega
          have hib : (i : Int) < (Q : Int) := by omega
          have HP : Hid (Box ((W2.setCell ⟨rb, 2, none⟩ (.int .i64 ((x.s.to + last : Nat) : Int))).setCell ⟨rb, 3, none⟩ (.bool (x.s.cmd.verb == 18))) 138 rb #[.int .i64 L, .slice ra n rc, .int .i64 (lst last (q.take (i + 1))), .bool (qtt (q.take (i + 1)))] /\ ((W2.setCell ⟨rb, 2, none⟩ (.int .i64 ((x.s.to + last : Nat) : Int))).setCell ⟨rb, 3, none⟩ (.bool (x.s.cmd.verb == 18))).ownsRow X.heap.size 86 16 (.slice (some ⟨gs, 0, none⟩) Q sc) Q (((q.take (i + 1)).map (shT last) ++ q.drop (i + 1)).flatMap tldL) /\ Kp (fun k => k = rb \/ (Value.slice (some ⟨gs, 0, none⟩) Q sc).ownBlock = some k) wb ((W2.setCell ⟨rb, 2, none⟩ (.int .i64 ((x.s.to + last : Nat) : Int))).setCell ⟨rb, 3, none⟩ (.bool (x.s.cmd.verb == 18)))) := by
            refine ⟨?_, by rw [<- hrd]; exact r4, hk4⟩
            rw [l1, l2]
            exact hb4
          clear hb hr hk r1 r2 r4 hk4 hb2 hb3 hb4 g1 g2 hrd l1 l2 v14 v15 v0 hxi hx
          generalize x.s.frm + last = fl' at *
          generalize x.s.to + last = tl' at *
          go_wp2_with fail
          go_roundg (gk - 1)
          case measure => omega
          case rel => exact ⟨i + 1, by omega, by go_num, HP.out⟩
        . obtain rfl : i = Q := by omega
          have hq1 : q.take i = q := List.take_of_length_le (by rw [HQ.out]; exact Nat.le_refl _)
          have hq2 : q.drop i = [] := List.drop_eq_nil_of_le (by rw [HQ.out]; exact Nat.le_refl _)
          rw [hq1] at hb hr
          rw [hq2, List.append_nil] at hr
          obtain ⟨h1, h2⟩ := HF.out HD.out.1.run
          have hXw := HD.out.1.gb
          have hsz : w.heap.size <= X.heap.size := HK.out.size
          have st : ∀ {B e z m : Nat} {u : Value} {ys : List Value}, wb.ownsRow B e z u m ys -> e ≠ 86 -> e ≠ 138 -> wr.ownsRow B e z u m ys := fun hu he1 he2 => row_same hu (fun k e => hk.block k (row_ge hu e).2 (by
            rintro (a1 | a1)
            . subst a1
              obtain ⟨c9, h9⟩ := row_block hu k e
              have hb0 := Box.kept HX.out.box hXw (by simp)
              exact ne_of_type h9 hb0 he2 rfl
            . obtain ⟨c9, h9⟩ := row_block hu k e
              obtain ⟨c8, h8⟩ := row_block HD.out.1.ss.row k (by rw [HQ.out]; exact a1)
              exact ne_of_type h9 h8 he1 rfl))
          have hpost : RfP w rb L raw l (.slice a raw.length c) F (.returned (.slice sa i sc)) wr := by
            have hn2 := HN.out
            refine ⟨_, q.map (shT last), .slice ra n rc, lst last q, qtt q, rfl, ⟨?_, ?_, ?_, ?_⟩, ?_, ?_, ?_, ?_, ?_, ?_⟩
            . rw [List.length_map, HQ.out]
              exact row_base hr hsz
            . intro x hx
              obtain ⟨y, hy, rfl⟩ := List.mem_map.1 hx
              exact st (HD.out.1.ss.k y hy) (by decide) (by decide)
            . intro x hx
              obtain ⟨y, hy, rfl⟩ := List.mem_map.1 hx
              exact st (HD.out.1.ss.d y hy) (by decide) (by decide)
            . intro x hx
              obtain ⟨y, hy, rfl⟩ := List.mem_map.1 hx
              exact st (HD.out.1.ss.m y hy) (by decide) (by decide)
            . intro x hx
              obtain ⟨y, hy, rfl⟩ := List.mem_map.1 hx
              obtain ⟨g1, g2, g3⟩ := HD.out.2 y hy
              exact ⟨fun k e => Nat.le_trans hsz (g1 k e), fun k e => Nat.le_trans hsz (g2 k e), fun k e => Nat.le_trans hsz (g3 k e)⟩
            . rw [h1, List.map_map]
              rfl
            . rw [HRAL.out]
              refine ⟨hb, ?_⟩
              have := st HRW.out (by decide) (by decide)
              rw [hn2] at this ⊢
              exact this
            . rw [HRAL.out]
              exact h2
            . refine (HK.out.trans (Kp.of (F := fun _ => False) hXw) (fun _ h => h) (fun _ h => h.elim)).trans hk (fun _ h => h) ?_
              rintro k (e | e)
              . exact .inl (.inl e)
              . exact .inr (Nat.le_trans hsz (row_ge HD.out.1.ss.row (by rw [HQ.out]; exact e)).1)
            . exact fun k e => at1 k (by cases ra with | none => exact e | some x => exact e)
          have HP : Hid _ := hpost
          clear hpost st hb hr hk h1 h2 HD HX HK HF
          go_wp2
          go_ret
          exact HP.out
end Go.Proofs.YtobegepebochkaaGreatDoor

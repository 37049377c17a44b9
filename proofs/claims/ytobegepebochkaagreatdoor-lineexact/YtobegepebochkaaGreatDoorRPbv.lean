import Derived.Test.YtobegepebochkaaGreatDoorRCh
import Derived.Test.YtobegepebochkaaGreatDoorRPbn
import Derived.Test.YtobegepebochkaaGreatDoorRPbr
set_option linter.unusedVariables false
set_option linter.unusedSimpArgs false
set_option maxRecDepth 100000
set_option maxHeartbeats 16000000
namespace Go.Proofs.YtobegepebochkaaGreatDoor
open Go.RowKit
theorem close_22s {w : World} {bb : Nat} {FT R : Nat -> Prop} {J : Nat} (h : Bst w bb FT J R) (hJ : J < 1000000) :
    Calls Tryz.prog 22 #[.pointer (some ⟨bb, 0, none⟩)] w fun y w' => y = .returned (.bool true) /\ Kp FT w w' := by
  obtain ⟨s0, FB, Fs, Ks, V, W, N, D, hB, hd, hdis, hKs, g1, g2, g3, _⟩ := h
  obtain ⟨b0, b1, t0, t1, n, Fb, Ft, Kb, Kt, Vb, Wb, Nb, Db, Vt, Wt, Nt, Dt, hb, k1, k2, l1, l2, m1, m2, hn, f1, f2, f3, f4⟩ := hB
  have h66 := stands_66 hb k1 k2 l1 l2 (by omega) (by omega)
  go_enter Tryz.func22, Tryz.ntmps22
  go_wp2_with (go_at_call 66; go_must (refine h66.mono ?_))
  rintro y w1 ⟨rfl, hg1⟩
  have hb1 := hb.kept hg1 (by simp)
  have k11 := k1.kept0 hg1
  have k21 := k2.kept0 hg1
  have d1 := hd.kept0 hg1
  have h67 := close_67 hb1 k11 rfl rfl (by omega)
  have HG : Hid (Kp FT w w1) := (Kp.refl _ _).step hg1 (by simp)
  clear h66 hb k1 k2 hg1 hd
  go_wp2_with (go_at_call 67; go_must (refine h67.mono ?_))
  rintro y w2 ⟨rfl, hk2, ov, mv, hb2⟩
  have k22 := k21.other k11 hb1 hk2 (by decide) (by decide) (by decide) (by decide) (by decide) (by decide)
  have d2 := d1.other k11 hb1 hk2 (by decide) (by decide) (by decide) (by decide) (by decide) (by decide)
  have h68 := close_68 hb2
  have h69 := close_69 hb2 k22 rfl rfl (by omega)
  have HG2 : Hid (Kp FT w w2) := HG.out.trans hk2 (fun _ h => h) (fun i hi => .inl (by rcases hi with rfl | hi; exact g1 _ f1; exact g1 _ (f2 i hi)))
  have HB2 : Hid (Box w2 31 bb (bkA b0 b1 ov mv t0 t1 nilS nilS s0 nilS nilS n)) := hb2
  have HK2 : Hid _ := And.intro k22 d2
  clear h67 hb1 k11 k21 hk2 hb2 k22 HG d1 d2
  go_wp2_with (first | (go_at_call 68; go_must (refine h68.mono ?_); rintro y w3 ⟨rfl, hw3⟩; subst hw3) | (go_at_call 69; go_must (refine h69.mono ?_)))
  rintro y w5 ⟨rfl, hk5, ov', mv', hb5⟩
  have d5 := HK2.out.2.other HK2.out.1 HB2.out hk5 (by decide) (by decide) (by decide) (by decide) (by decide) (by decide)
  have h70 := close_70 hb5
  have h71 := close_71 hb5
  have h72 := close_72 hb5
  have h73 := close_73s hb5 d5 rfl rfl (by omega)
  have HP : Hid (Kp FT w w5) := HG2.out.trans hk5 (fun _ h => h) (fun i hi => .inl (by rcases hi with rfl | hi; exact g1 _ f1; exact g1 _ (f3 i hi)))
  clear h68 h69 hk5 hb5 HG2 HB2 HK2 d5
  go_wp2_with (first | (go_at_call 70; go_must (refine h70.mono ?_); rintro y w6 ⟨rfl, hw6⟩; subst hw6) | (go_at_call 71; go_must (refine h71.mono ?_); rintro y w7 ⟨rfl, hw7⟩; subst hw7) | (go_at_call 72; go_must (refine h72.mono ?_); rintro y w8 ⟨rfl, hw8⟩; subst hw8) | (go_at_call 73; go_must (refine h73.mono ?_)))
  rintro y w9 ⟨rfl, hk9, ov9, mv9, hb9⟩
  have HQ : Hid (Kp FT w w9) := HP.out.trans hk9 (fun _ h => h) (fun i hi => .inl (by rcases hi with rfl | hi; exact g1 _ f1; exact g2 i hi))
  clear h70 h71 h72 h73 hk9 hb9 HP
  go_wp2
  go_ret
  exact ⟨rfl, HQ.out⟩
end Go.Proofs.YtobegepebochkaaGreatDoor
namespace Go.Proofs.YtobegepebochkaaGreatDoor
open Go.RowKit
def Kb3 (q : List Tld) (k : Nat) : Prop := ∃ x ∈ q, x.cm.ownBlock = some k
end Go.Proofs.YtobegepebochkaaGreatDoor
namespace Go.Proofs.YtobegepebochkaaGreatDoor
open Go.RowKit Go.Maps
def Sm (s : Stp) : Prop := s.cmd.keys.length <= 2049 /\ s.cmd.mt.length <= 2049
theorem sm_0 : Sm stp0 := by unfold Sm stp0 cmd0; simp
theorem sm_W (k : Int) (t : Bs) (p : Int) : Sm (stpW k t p) := by unfold Sm stpW cmd0; simp
def Fm (r : Fd × List Stp) : Prop := Sm r.1.s /\ ∀ s ∈ r.2, Sm s
theorem sm_rd (F : Fd) (h : Sm F.s) : Sm F.rd.1.s := by
  unfold Fd.rd
  split
  . rename_i c n e
    have := lineS_len e
    repeat' split
    all_goals first
      | exact ⟨this.1, this.2.1⟩
      | (simp only [Fd.pass, Fd.await]; exact ⟨this.1, this.2.1⟩)
  . repeat' split
    all_goals exact sm_W _ _ _
theorem fm_tell (F : Fd) (h : Sm F.s) : Fm F.tell := by
  refine ⟨sm_0, fun s hs => ?_⟩
  simp only [Fd.tell, List.mem_singleton] at hs
  subst hs
  exact h
theorem fm_skip (F : Fd) (h : Sm F.s) (b : UInt8) : Fm (F.skip b) := by
  unfold Fd.skip
  repeat' split
  . exact ⟨h, by simp⟩
  . exact fm_tell F h
  . exact ⟨h, by simp⟩
theorem fm_fb (F : Fd) (h : Sm F.s) (b : UInt8) : Fm (F.fb b) := by
  unfold Fd.fb
  repeat' split
  . unfold Fd.end1
    split
    . exact fm_tell _ (sm_rd _ h)
    . exact ⟨sm_rd _ h, by simp⟩
  . exact ⟨sm_W _ _ _, by simp⟩
  . exact ⟨h, by simp⟩
  . exact ⟨h, by simp⟩
  . exact ⟨h, by simp⟩
  . exact fm_skip _ (sm_W _ _ _) b
  . exact fm_tell _ h
  . exact fm_skip _ (sm_W _ _ _) b
  . exact fm_skip (F.tk 1) h b
  . exact ⟨h, by simp⟩
theorem fm_run : ∀ (l : Bs) (F : Fd), Sm F.s -> Fm (F.run l)
  | [], F, h => ⟨h, by simp [Fd.run]⟩
  | b :: t, F, h => by
    have h1 := fm_fb F h b
    have h2 := fm_run t _ h1.1
    refine ⟨h2.1, fun s hs => ?_⟩
    simp only [Fd.run, List.mem_append] at hs
    exact hs.elim (h1.2 s) (h2.2 s)
end Go.Proofs.YtobegepebochkaaGreatDoor
namespace Go.Proofs.YtobegepebochkaaGreatDoor
open Go.RowKit Go.Maps
theorem next_116e {w : World} {a : Option Addr} {c : Nat} : Calls Tryz.prog 116 #[.slice a 0 c, .int .i64 0] w fun e w' => e = .returned (.int .i64 (-1)) /\ w' = w := by
  go_enter Tryz.func116, Tryz.ntmps116
  go_wp2
  go_loopw [5] (fun x wr => x = .int .i64 0 /\ wr = w) (fun x _ => 0)
  case atStart => exact ⟨rfl, rfl⟩
  case round =>
    obtain ⟨rfl, hw⟩ := hrel
    subst hw
    go_wp2
    go_ret
    exact ⟨rfl, rfl⟩
theorem one_75e {w : World} {a : Option Addr} {c : Nat} (lim : Nat) :
    Calls Tryz.prog 75 #[.slice a 0 c, .int .i64 0, .int .i64 lim] w fun e w' => OnQ lim 0 [] w e w' := by
  have hN := step_none (limit := lim) (at_ := 0) (r := []) (by simp)
  have ga := gb_alloc (gb_refl w none) (.cells Z86 86)
  have bx := Box.new w 86 Z86
  have h116 := next_116e (w := w.alloc (.cells Z86 86)) (a := a) (c := c)
  go_enter Tryz.func75, Tryz.ntmps75
  go_wp2_with (first | (go_at_call 116; go_must ((with_reducible refine h116.mono ?_); rintro e w4 ⟨rfl, hw4⟩; (have hw5 := hw4.symm); subst hw5)) | (refine atS 86 w.heap.size 0 rfl rfl ?_; go_must (refine storeT 86 16 size86 rfl _ _ rfl 86 w.heap.size 0 _ bx (by simp) rfl _ rfl rfl (by simp [Value.oneCell']) ?_); intro W4 hb4 hg4; (simp only [sets_0] at hb4)))
  exact ⟨rfl, _, res75 hb4 _ rfl rfl, gb_mine ga hg4 (Nat.le_refl _), .inl ⟨_, rfl, rfl, by simp [Value.oneCell'], hN⟩⟩
theorem rall_gen {w : World} {a : Option Addr} {c : Nat} {raw : Bs} (hv : ∀ W : World, w.grownBy W none -> ∀ at_ lim : Nat, lim <= 9223372036854775807 -> at_ <= raw.length -> Calls Tryz.prog 75 #[.slice a raw.length c, .int .i64 at_, .int .i64 lim] W fun e w' => OnQ lim at_ (raw.drop at_) W e w') (hlen : raw.length <= 34359738368) (lim : Int) (hm1 : lim <= 9223372036854775807) (hm2 : -9223372036854775808 <= lim) :
    Calls Tryz.prog 26 #[.slice a raw.length c, .int .i64 lim] w fun e w' => ∃ rv q left, e = .returned (.tuple #[rv, .int .i64 left]) /\ DlR w lim.toNat raw q rv left w' /\ Ge w.heap.size q := by
  obtain ⟨L, hL⟩ : ∃ L, lim.toNat = L := ⟨_, rfl⟩
  have hLm : L <= 9223372036854775807 := by omega
  have start := fun {W : World} (hg : w.grownBy W none) => DlI.start w L raw hg
  obtain ⟨R, hRl⟩ : ∃ R, raw.length = R := ⟨_, rfl⟩
  have HV : Hid (∀ W : World, w.grownBy W none -> ∀ at_ lim : Nat, lim <= 9223372036854775807 -> at_ <= raw.length -> Calls Tryz.prog 75 #[.slice a raw.length c, .int .i64 at_, .int .i64 lim] W fun e w' => OnQ lim at_ (raw.drop at_) W e w') := hv
  rw [hRl] at hlen
  rw [hL]
  have A : Aside (raw.length = R) := hRl
  rw [hRl]
  clear hRl hv
  go_enter Tryz.func26, Tryz.ntmps26
  go_upto_if 11 with (fail)
  go_cut [1] from 10 to 11 (fun x1 wd => x1 = .int .i64 (L : Int) /\ wd = w)
  case first =>
    by_cases h0 : lim < 0
    . have d0 : decide (lim < 0) = true := decide_eq_true h0
      have hL0 : L = 0 := by omega
      go_wp2
      go_meet
      exact ⟨by rw [hL0]; rfl, rfl⟩
    . have d0 : decide (lim < 0) = false := decide_eq_false h0
      have hL0 : lim = (L : Int) := by omega
      have HL0 : Hid _ := hL0
      clear hL0
      go_wp2
      go_meet
      exact ⟨by rw [<- HL0.out], rfl⟩
  case rest =>
    obtain ⟨rfl, hwd⟩ := hcut
    have hwd2 := hwd.symm
    subst hwd2
    clear hL
    go_wp2
    have hRr := A.out
    go_loopg [6, 7] R (fun gk x6 x7 wr => ∃ (at_ : Nat) (q : List Tld), gk + at_ = R /\ x7 = .int .i64 (at_ : Int) /\ DlI w L raw at_ q x6 wr /\ Ge w.heap.size q)
    case atStart => exact ⟨0, [], rfl, rfl, start (gb_refl _ _), by simp [Ge]⟩
    case round =>
      obtain ⟨at_, q, hgk, rfl, hI, hGe⟩ := hrel
      have HGe : Hid (Ge w.heap.size q) := hGe
      clear hGe
      have hatl := hI.le
      have h75 := HV.out _ hI.gb at_ L hLm hI.le
      rw [A.out] at h75
      simp only [OnQ] at h75
      obtain ⟨ra, rc, hrv, -, -, -, -⟩ := row_shape hI.ss.row
      subst hrv
      have ssr := hI.ss.row
      have hql : q.length <= 100000000000 := by have := hI.tile.le; omega
      have hsz0 := hI.gb.size
      have hlt : ∀ k, (Value.slice ra q.length rc).ownBlock = some k -> k < wr.heap.size := fun k hk => (World.ownsRow.lt ssr k hk).2
      have hAt : at_ <= R := by omega
      have eL : IntKind.i64.wrap ((R : Int) - (at_ : Int)) = ((raw.length - at_ : Nat) : Int) := by rw [A.out, IntKind.wrap_i64]; omega
      have AL : Aside (IntKind.i64.wrap ((R : Int) - (at_ : Int)) = ((raw.length - at_ : Nat) : Int) /\ (R : Int) - (at_ : Int) = ((raw.length - at_ : Nat) : Int)) := ⟨eL, by rw [A.out]; omega⟩
      clear start eL
      go_upto_region 6 with (first
        | (go_at_call 75; go_must ((with_reducible refine h75.mono ?_); rintro e w2 ⟨hg2, hQ⟩; (rcases hQ with ⟨z, rfl, hz1, hz2, hN⟩ | ⟨s, n, ka, kc, da, dc, ma, mc, rfl, hY, hk, hd, hm⟩)))
        | (refine atS 86 w2.heap.size 0 rfl rfl ?_; go_must (first | (refine storeT 86 16 size86 rfl _ _ rfl 86 w2.heap.size 0 _ (Box.new w2 86 Z86) (by simp) rfl z rfl hz1 hz2 ?_; intro W3 b3 hg3) | (refine storeT 86 16 size86 rfl _ _ rfl 86 w2.heap.size 0 _ (Box.new w2 86 Z86) (by simp) rfl _ rfl rfl (by simp [Value.oneCell']) ?_; intro W3 b3 hg3; (simp only [sets_0] at b3)))))
      . have hg23 : w2.grownBy W3 none := gb_mine (gb_alloc (gb_refl w2 none) _) hg3 (Nat.le_refl _)
        have hfin := hI.done hN (gb_trans hg2 hg23)
        clear h75 hI hN
        go_wp2
        go_ret2
        refine ⟨_, q, _, rfl, ?_, HGe.out⟩
        first | (rw [<- AL.out.1] at hfin; exact hfin) | (rw [<- AL.out.2] at hfin; exact hfin)
      . have hg23 : w2.grownBy W3 none := gb_mine (gb_alloc (gb_refl w2 none) _) hg3 (Nat.le_refl _)
        have hg3' := gb_trans hg2 hg23
        have r3 := row_kept ssr hg3' (fun k _ e => by cases e)
        have s3 : w.heap.size <= W3.heap.size := Nat.le_trans hsz0 hg3'.size
        have s2 := hg2.size
        clear h75
        go_upto_region 9 with (first
          | (refine atL 86 w2.heap.size 0 rfl rfl ?_; go_must (refine load86 rfl _ rfl 86 w2.heap.size 0 _ b3 rfl (stpL s (.slice ka s.cmd.keys.length kc) (.slice da s.data.length dc) (.slice ma s.cmd.mt.length mc)) rfl (fun j v hv => by simpa using hv) ?_))
          | (at_builtin; go_must (refine push86 rfl _ _ rfl w.heap.size _ q.length _ (by rfl) r3 _ rfl (by simp [Value.oneCell']) (by rfl) hql s3 ?_); intro g7 cap w7 r7 g37 _))
        have b7 := b3.kept g37 (fun e => by have := hlt _ e.symm; omega)
        have c0 : w7.cell? ⟨w2.heap.size, 0, none⟩ = some (.int .i64 s.cmd.verb) := b7.cell 0
        have c15 : w7.cell? ⟨w2.heap.size, 15, none⟩ = some (.int .i64 (s.to : Int)) := b7.cell 15
        obtain ⟨p1, p2⟩ := hI.push hg2 hk hd hm hg23 r7 g37
        have HGn : Hid (Ge w.heap.size (q ++ [⟨s, .slice ka s.cmd.keys.length kc, .slice da s.data.length dc, .slice ma s.cmd.mt.length mc⟩])) := fun x hx => by
          rcases List.mem_append.1 hx with hx | hx
          . exact HGe.out x hx
          . simp only [List.mem_singleton] at hx
            subst hx
            exact ⟨fun k hb => Nat.le_trans hsz0 (row_ge hk hb).1, fun k hb => Nat.le_trans hsz0 (row_ge hd hb).1, fun k hb => Nat.le_trans hsz0 (row_ge hm hb).1⟩
        by_cases hv : s.cmd.verb = 18
        . have hfin := hI.quit hY p1 p2 hv
          have dv : (s.cmd.verb == 18) = true := by simpa using hv
          clear hI hY hk hd hm r7 g37 b3 b7 hv p1 p2
          go_wp2
          go_ret2
          exact ⟨_, _, _, rfl, hfin, HGn.out⟩
        . have hfin := hI.next hY p1 p2 hv
          have dv : (s.cmd.verb == 18) = false := by simpa using hv
          have hto := hfin.le
          have hpos : at_ < s.to := by have h1 := hY.to; have h2 := hY.pos; omega
          clear hI hY hk hd hm r7 g37 b3 b7 hv p1 p2
          go_wp2
          go_roundg (R - s.to)
          case measure => omega
          case rel => exact ⟨s.to, _, by omega, rfl, hfin, HGn.out⟩
theorem rallW {w : World} {v : Value} {raw : Bs} (hv : Bw w v raw) (hlen : raw.length <= 34359738368) (lim : Int) (hm1 : lim <= 9223372036854775807) (hm2 : -9223372036854775808 <= lim) :
    Calls Tryz.prog 26 #[v, .int .i64 lim] w fun e w' => ∃ rv q left, e = .returned (.tuple #[rv, .int .i64 left]) /\ DlR w lim.toNat raw q rv left w' /\ Ge w.heap.size q := by
  rcases hv with h | ⟨rfl, a, c, rfl⟩
  . obtain ⟨a, n, c, rfl, rfl⟩ := h.slice
    exact rall_gen (fun W hW at_ l hl hat => one_75 (h.kp (Kp.of (F := fun _ => False) hW) (Y := fun _ => False) (fun _ _ h => h.elim) (fun _ _ h => h.elim)) hlen at_ l hl hat) hlen lim hm1 hm2
  . refine rall_gen (raw := []) (fun W _ at_ l hl hat => ?_) hlen lim hm1 hm2
    obtain rfl : at_ = 0 := by simpa using hat
    exact one_75e l
end Go.Proofs.YtobegepebochkaaGreatDoor
namespace Go.Proofs.YtobegepebochkaaGreatDoor
open Go.RowKit Go.Maps
structure IsW (w : World) (rb : Nat) (L : Nat) (raw : Bs) (rv : Value) (last : Nat) (quit : Bool) : Prop where
  box : Box w 138 rb #[.int .i64 L, rv, .int .i64 last, .bool quit]
  row : w.ownsRow 0 5 1 rv raw.length (raw.map b8)
theorem new_42 (w : World) (n : Int) (hn : n <= 9223372036854775807) (hn2 : -9223372036854775808 <= n) :
    Calls Tryz.prog 42 #[.int .i64 n] w fun e w' => e = .returned (.pointer (some ⟨w.heap.size, 0, none⟩)) /\ IsW w' w.heap.size n.toNat [] (.slice none 0 0) 0 false /\ w.grownBy w' none := by
  have hend : ∀ m : Int, m = (n.toNat : Int) -> IsW (w.alloc (.cells #[.int .i64 m, .slice none 0 0, .int .i64 0, .bool false] 138)) w.heap.size n.toNat [] (.slice none 0 0) 0 false /\ w.grownBy (w.alloc (.cells #[.int .i64 m, .slice none 0 0, .int .i64 0, .bool false] 138)) none := by
    rintro m rfl
    exact ⟨⟨Box.new w 138 _, World.ownsRow_nil _ _ _ _⟩, gb_alloc (gb_refl _ none) _⟩
  by_cases h0 : n < 0
  . have d0 : decide (n < 0) = true := decide_eq_true h0
    have hE := hend 0 (by omega)
    clear hend
    go_enter Tryz.func42, Tryz.ntmps42
    go_wp2
    go_ret
    exact ⟨rfl, hE⟩
  . have d0 : decide (n < 0) = false := decide_eq_false h0
    have hE := hend n (by omega)
    clear hend
    go_enter Tryz.func42, Tryz.ntmps42
    go_wp2
    go_ret
    exact ⟨rfl, hE⟩
theorem ended_91 {w : World} {rb L : Nat} {raw : Bs} {rv : Value} {last : Nat} {quit : Bool} (h : IsW w rb L raw rv last quit) :
    Calls Tryz.prog 91 #[.pointer (some ⟨rb, 0, none⟩)] w fun e w' => e = .returned (.bool quit) /\ w' = w := by
  have c3 : w.cell? ⟨rb, 3, none⟩ = some (.bool quit) := h.box.cell 3
  clear h
  go_enter Tryz.func91, Tryz.ntmps91
  go_wp2
  go_ret
  exact ⟨rfl, rfl⟩
theorem taken_92 {w : World} {rb L : Nat} {raw : Bs} {rv : Value} {last : Nat} {quit : Bool} (h : IsW w rb L raw rv last quit) :
    Calls Tryz.prog 92 #[.pointer (some ⟨rb, 0, none⟩)] w fun e w' => e = .returned (.int .i64 raw.length) /\ w' = w := by
  obtain ⟨a, c, rfl, -⟩ := row_shape h.row
  have c1 : w.cell? ⟨rb, 1, none⟩ = some (.slice a raw.length c) := h.box.cell 1
  clear h
  go_enter Tryz.func92, Tryz.ntmps92
  go_wp2
  go_ret
  exact ⟨rfl, rfl⟩
theorem ne10 {b : UInt8} (hb : b ≠ 10) : ¬ (b.toNat : Int) = 10 := fun e => hb (UInt8.toNat_inj.1 (by show b.toNat = 10; omega))
theorem ne13 {b : UInt8} (hb : b ≠ 13) : ¬ (b.toNat : Int) = 13 := fun e => hb (UInt8.toNat_inj.1 (by show b.toNat = 13; omega))
theorem kept_none {w : World} {X : Nat -> Prop} {a : Option Addr} {c : Nat} {rest : Bs} (hv : Ck w X (.slice a rest.length c) rest) (hl : rest.length <= 1099511627776) (L : Nat) (hn : (10 : UInt8) ∉ rest) (K : Nat) (hK : K = if 2048 < (trim rest).length then 0 else rest.length) :
    Calls Tryz.prog 139 #[.slice a rest.length c, .int .i64 L] w fun e w' => e = .returned (.int .i64 (K : Int)) /\ w' = w := by
  obtain ⟨n, hnn⟩ : ∃ n, rest.length = n := ⟨_, rfl⟩
  have hcase : (2049 < n /\ K = 0) \/ (n = 2049 /\ ∃ x, rest[2048]? = some x /\ ((x ≠ 13 /\ K = 0) \/ (x = 13 /\ K = 2049))) \/ (n < 2049 /\ K = n) := by
    have ht := trim_len rest
    rcases Nat.lt_or_ge 2049 n with h1 | h1
    . exact .inl ⟨h1, by rw [hK, if_pos (by omega)]⟩
    . rcases Nat.lt_or_ge n 2049 with h2 | h2
      . exact .inr (.inr ⟨h2, by rw [hK, if_neg (by omega), hnn]⟩)
      . refine .inr (.inl ⟨by omega, ?_⟩)
        rcases List.eq_nil_or_concat rest with h0 | ⟨p, x, h0⟩
        . rw [h0] at hnn; simp at hnn; omega
        . have hp : p.length = 2048 := by have := congrArg List.length h0; simp at this; omega
          have hg : rest.getLast? = some x := by rw [h0]; simp
          refine ⟨x, by rw [h0, List.concat_eq_append, List.getElem?_append_right (by omega), hp]; simp, ?_⟩
          unfold trim at hK
          by_cases hx : x = 13
          . subst hx
            rw [if_pos hg, List.length_dropLast, if_neg (by omega)] at hK
            exact .inr ⟨rfl, by omega⟩
          . have hne : ¬ rest.getLast? = some 13 := by rw [hg]; simpa using hx
            rw [if_neg hne, if_pos (by omega)] at hK
            exact .inl ⟨hx, hK⟩
  have HV : Hid _ := hv
  have HC : Hid _ := hcase
  have HN : Hid ((10 : UInt8) ∉ rest) := hn
  have HL : Hid (rest.length = n) := hnn
  rw [hnn] at hl ⊢
  clear hv hK hcase hn hnn
  go_enter Tryz.func139, Tryz.ntmps139
  go_wp2
  go_loopw [5] (fun x wr => ∃ i : Nat, i <= n /\ x = .int .i64 i /\ wr = w) (fun x _ => n - (intOf x).toNat)
  case atStart => exact ⟨0, Nat.zero_le _, rfl, rfl⟩
  case round =>
    obtain ⟨i, hi, rfl, hw⟩ := hrel
    subst hw
    by_cases hlt : i < n
    . obtain ⟨b, hb, -⟩ := drop_at (raw := rest) (i := i) (by rw [HL.out]; exact hlt)
      obtain ⟨g, o, rfl, hc⟩ := Ck.at' HV.out hb
      have hb10 : b ≠ 10 := fun e => HN.out (by rw [<- e]; exact List.mem_of_getElem? hb)
      have d1 : ((i : Int) < (n : Int)) := by omega
      have hne := ne10 hb10
      have hne2 : ¬ b.toNat = 10 := fun e => hne (by omega)
      have hd1 : ((b.toNat : Int) == 10) = false := by simpa using hne
      have hd0 : (b.toNat == 10) = false := by simpa using hne2
      clear hb hb10
      go_wp2
      exact ⟨⟨i + 1, by omega, by go_num, trivial⟩, by simp [intOf]; omega⟩
    . obtain rfl : i = n := by omega
      rcases HC.out with ⟨h1, rfl⟩ | ⟨rfl, x, hx, hK⟩ | ⟨h1, rfl⟩
      . have d1 : ((2049 : Int) < (i : Int)) := by omega
        clear HC hlt
        go_wp2
        go_ret
        exact ⟨rfl, rfl⟩
      . obtain ⟨g, o, rfl, hc⟩ := Ck.at' HV.out hx
        rcases hK with ⟨h13, rfl⟩ | ⟨rfl, rfl⟩
        . have hne := ne13 h13
          have hne2 : ¬ x.toNat = 13 := fun e => hne (by omega)
          have hd1 : ((x.toNat : Int) == 13) = false := by simpa using hne
          have hd0 : (x.toNat == 13) = false := by simpa using hne2
          clear HC hlt hx
          go_wp2
          go_ret
          exact ⟨rfl, rfl⟩
        . have hc' : wr.cell? ⟨g, o + 2048, none⟩ = some (.int .u8 13) := hc
          clear HC hlt hx hc
          go_wp2
          go_ret
          exact ⟨rfl, rfl⟩
      . have d1 : ¬ ((2049 : Int) < (K : Int)) := by omega
        have d2 : ¬ ((K : Int) = 2049) := by omega
        have d3 : ((K : Int) == 2049) = false := by simpa using d2
        have d4 : (K == 2049) = false := by simp; omega
        clear HC hlt
        go_wp2
        go_ret
        exact ⟨rfl, rfl⟩
end Go.Proofs.YtobegepebochkaaGreatDoor

import Derived.Test.YtobegepebochkaaGreatDoorPbx
import Derived.Test.YtobegepebochkaaGreatDoorPbp
set_option linter.unusedVariables false
set_option linter.unusedSimpArgs false
namespace Go.Proofs.YtobegepebochkaaGreatDoor
open Go.RowKit Go.Maps
set_option maxRecDepth 100000 in
set_option maxHeartbeats 4000000 in
theorem next_116e {w : World} {a : Option Addr} {c : Nat} : Calls Tryz.prog 116 #[.slice a 0 c, .int .i64 0] w fun e w' => e = .returned (.int .i64 (-1)) ∧ w' = w := by
  go_enter Tryz.func116, Tryz.ntmps116
  go_wp2
  go_loopw [5] (fun x wr => x = .int .i64 0 ∧ wr = w) (fun x _ => 0)
  case atStart => exact ⟨rfl, rfl⟩
  case round =>
    obtain ⟨rfl, hw⟩ := hrel
    subst hw
    go_wp2
    go_ret
    exact ⟨rfl, rfl⟩
set_option maxRecDepth 100000 in
set_option maxHeartbeats 4000000 in
theorem one_75e {w : World} {a : Option Addr} {c : Nat} (lim : Nat) :
    Calls Tryz.prog 75 #[.slice a 0 c, .int .i64 0, .int .i64 lim] w fun e w' => OnQ lim 0 [] w e w' := by
  have hN := step_none (limit := lim) (at_ := 0) (r := []) (by simp)
  have ga := gb_alloc (gb_refl w none) (.cells Z86 86)
  have bx := Box.new w 86 Z86
  have h116 := next_116e (w := w.alloc (.cells Z86 86)) (a := a) (c := c)
  go_enter Tryz.func75, Tryz.ntmps75
  go_wp2_with (first | (go_at_call 116; go_must ((with_reducible refine h116.mono ?_); rintro e w4 ⟨rfl, hw4⟩; (have hw5 := hw4.symm); subst hw5)) | (refine atS 86 w.heap.size 0 rfl rfl ?_; go_must (refine storeT 86 16 size86 rfl _ _ rfl 86 w.heap.size 0 _ bx (by simp) rfl _ rfl rfl (by simp [Value.oneCell']) ?_); intro W4 hb4 hg4; (simp only [sets_0] at hb4)))
  exact ⟨rfl, _, res75 hb4 _ rfl rfl, gb_mine ga hg4 (Nat.le_refl _), .inl ⟨_, rfl, rfl, by simp [Value.oneCell'], hN⟩⟩
set_option maxRecDepth 100000 in
set_option maxHeartbeats 4000000 in
theorem rall_gen {w : World} {a : Option Addr} {c : Nat} {raw : Bs} (hv : ∀ W : World, w.grownBy W none → ∀ at_ lim : Nat, lim ≤ 9223372036854775807 → at_ ≤ raw.length → Calls Tryz.prog 75 #[.slice a raw.length c, .int .i64 at_, .int .i64 lim] W fun e w' => OnQ lim at_ (raw.drop at_) W e w') (hlen : raw.length ≤ 34359738368) (lim : Int) (hm1 : lim ≤ 9223372036854775807) (hm2 : -9223372036854775808 ≤ lim) :
    Calls Tryz.prog 26 #[.slice a raw.length c, .int .i64 lim] w fun e w' => ∃ rv q left, e = .returned (.tuple #[rv, .int .i64 left]) ∧ DlR w lim.toNat raw q rv left w' ∧ Ge w.heap.size q := by
  obtain ⟨L, hL⟩ : ∃ L, lim.toNat = L := ⟨_, rfl⟩
  have hLm : L ≤ 9223372036854775807 := by omega
  have start := fun {W : World} (hg : w.grownBy W none) => DlI.start w L raw hg
  obtain ⟨R, hRl⟩ : ∃ R, raw.length = R := ⟨_, rfl⟩
  have HV : Hid (∀ W : World, w.grownBy W none → ∀ at_ lim : Nat, lim ≤ 9223372036854775807 → at_ ≤ raw.length → Calls Tryz.prog 75 #[.slice a raw.length c, .int .i64 at_, .int .i64 lim] W fun e w' => OnQ lim at_ (raw.drop at_) W e w') := hv
  rw [hRl] at hlen
  rw [hL]
  have A : Aside (raw.length = R) := hRl
  rw [hRl]
  clear hRl hv
  go_enter Tryz.func26, Tryz.ntmps26
  go_upto_if 11 with (fail)
  go_cut [1] from 10 to 11 (fun x1 wd => x1 = .int .i64 (L : Int) ∧ wd = w)
  case first =>
    by_cases h0 : lim < 0
    · have d0 : decide (lim < 0) = true := decide_eq_true h0
      have hL0 : L = 0 := by omega
      go_wp2
      go_meet
      exact ⟨by rw [hL0]; rfl, rfl⟩
    · have d0 : decide (lim < 0) = false := decide_eq_false h0
      have hL0 : lim = (L : Int) := by omega
      have HL0 : Hid _ := hL0
      clear hL0
      go_wp2
      go_meet
      exact ⟨by rw [← HL0.out], rfl⟩
  case rest =>
    obtain ⟨rfl, hwd⟩ := hcut
    have hwd2 := hwd.symm
    subst hwd2
    clear hL
    go_wp2
    have hRr := A.out
    go_loopg [6, 7] R (fun gk x6 x7 wr => ∃ (at_ : Nat) (q : List Tld), gk + at_ = R ∧ x7 = .int .i64 (at_ : Int) ∧ DlI w L raw at_ q x6 wr ∧ Ge w.heap.size q)
    case atStart => exact ⟨0, [], rfl, rfl, start (gb_refl _ _), by simp [Ge]⟩
    case round =>
      obtain ⟨at_, q, hgk, rfl, hI, hGe⟩ := hrel
      have HGe : Hid (Ge w.heap.size q) := hGe
      clear hGe
      have hatl := hI.le
      have h75 := HV.out _ hI.gb at_ L hLm hI.le
      rw [A.out] at h75
      simp only [OnQ] at h75
      obtain ⟨ra, rc, hrv, -, -, -, -⟩ := row_shape hI.ss.row
      subst hrv
      have ssr := hI.ss.row
      have hql : q.length ≤ 100000000000 := by have := hI.tile.le; omega
      have hsz0 := hI.gb.size
      have hlt : ∀ k, (Value.slice ra q.length rc).ownBlock = some k → k < wr.heap.size := fun k hk => (World.ownsRow.lt ssr k hk).2
      have hAt : at_ ≤ R := by omega
      have eL : IntKind.i64.wrap ((R : Int) - (at_ : Int)) = ((raw.length - at_ : Nat) : Int) := by rw [A.out, IntKind.wrap_i64]; omega
      have AL : Aside (IntKind.i64.wrap ((R : Int) - (at_ : Int)) = ((raw.length - at_ : Nat) : Int) ∧ (R : Int) - (at_ : Int) = ((raw.length - at_ : Nat) : Int)) := ⟨eL, by rw [A.out]; omega⟩
      clear start eL
      go_upto_region 6 with (first
        | (go_at_call 75; go_must ((with_reducible refine h75.mono ?_); rintro e w2 ⟨hg2, hQ⟩; (rcases hQ with ⟨z, rfl, hz1, hz2, hN⟩ | ⟨s, n, ka, kc, da, dc, ma, mc, rfl, hY, hk, hd, hm⟩)))
        | (refine atS 86 w2.heap.size 0 rfl rfl ?_; go_must (first | (refine storeT 86 16 size86 rfl _ _ rfl 86 w2.heap.size 0 _ (Box.new w2 86 Z86) (by simp) rfl z rfl hz1 hz2 ?_; intro W3 b3 hg3) | (refine storeT 86 16 size86 rfl _ _ rfl 86 w2.heap.size 0 _ (Box.new w2 86 Z86) (by simp) rfl _ rfl rfl (by simp [Value.oneCell']) ?_; intro W3 b3 hg3; (simp only [sets_0] at b3)))))
      · have hg23 : w2.grownBy W3 none := gb_mine (gb_alloc (gb_refl w2 none) _) hg3 (Nat.le_refl _)
        have hfin := hI.done hN (gb_trans hg2 hg23)
        clear h75 hI hN
        go_wp2
        go_ret2
        refine ⟨_, q, _, rfl, ?_, HGe.out⟩
        first | (rw [← AL.out.1] at hfin; exact hfin) | (rw [← AL.out.2] at hfin; exact hfin)
      · have hg23 : w2.grownBy W3 none := gb_mine (gb_alloc (gb_refl w2 none) _) hg3 (Nat.le_refl _)
        have hg3' := gb_trans hg2 hg23
        have r3 := row_kept ssr hg3' (fun k _ e => by cases e)
        have s3 : w.heap.size ≤ W3.heap.size := Nat.le_trans hsz0 hg3'.size
        have s2 := hg2.size
        clear h75
        go_upto_region 9 with (first
          | (refine atL 86 w2.heap.size 0 rfl rfl ?_; go_must (refine load86 rfl _ rfl 86 w2.heap.size 0 _ b3 rfl (stpL s (.slice ka s.cmd.keys.length kc) (.slice da s.data.length dc) (.slice ma s.cmd.mt.length mc)) rfl (fun j v hv => by simpa using hv) ?_))
          | (at_builtin; go_must (refine push86 rfl _ _ rfl w.heap.size _ q.length _ (by rfl) r3 _ rfl (by simp [Value.oneCell']) (by rfl) hql s3 ?_); intro g7 cap w7 r7 g37 _))
        have b7 := b3.kept g37 (fun e => by have := hlt _ e.symm; omega)
        have c0 : w7.cell? ⟨w2.heap.size, 0, none⟩ = some (.int .i64 s.cmd.verb) := b7.cell 0
        have c15 : w7.cell? ⟨w2.heap.size, 15, none⟩ = some (.int .i64 (s.to : Int)) := b7.cell 15
        obtain ⟨p1, p2⟩ := hI.push hg2 hk hd hm hg23 r7 g37
        have HGn : Hid (Ge w.heap.size (q ++ [⟨s, .slice ka s.cmd.keys.length kc, .slice da s.data.length dc, .slice ma s.cmd.mt.length mc⟩])) := fun x hx => by
          rcases List.mem_append.1 hx with hx | hx
          · exact HGe.out x hx
          · simp only [List.mem_singleton] at hx
            subst hx
            exact ⟨fun k hb => Nat.le_trans hsz0 (row_ge hk hb).1, fun k hb => Nat.le_trans hsz0 (row_ge hd hb).1, fun k hb => Nat.le_trans hsz0 (row_ge hm hb).1⟩
        by_cases hv : s.cmd.verb = 18
        · have hfin := hI.quit hY p1 p2 hv
          have dv : (s.cmd.verb == 18) = true := by simpa using hv
          clear hI hY hk hd hm r7 g37 b3 b7 hv p1 p2
          go_wp2
          go_ret2
          exact ⟨_, _, _, rfl, hfin, HGn.out⟩
        · have hfin := hI.next hY p1 p2 hv
          have dv : (s.cmd.verb == 18) = false := by simpa using hv
          have hto := hfin.le
          have hpos : at_ < s.to := by have h1 := hY.to; have h2 := hY.pos; omega
          clear hI hY hk hd hm r7 g37 b3 b7 hv p1 p2
          go_wp2
          go_roundg (R - s.to)
          case measure => omega
          case rel => exact ⟨s.to, _, by omega, rfl, hfin, HGn.out⟩
theorem rallW {w : World} {v : Value} {raw : Bs} (hv : Bw w v raw) (hlen : raw.length ≤ 34359738368) (lim : Int) (hm1 : lim ≤ 9223372036854775807) (hm2 : -9223372036854775808 ≤ lim) :
    Calls Tryz.prog 26 #[v, .int .i64 lim] w fun e w' => ∃ rv q left, e = .returned (.tuple #[rv, .int .i64 left]) ∧ DlR w lim.toNat raw q rv left w' ∧ Ge w.heap.size q := by
  rcases hv with h | ⟨rfl, a, c, rfl⟩
  · obtain ⟨a, n, c, rfl, rfl⟩ := h.slice
    exact rall_gen (fun W hW at_ l hl hat => one_75 (h.kp (Kp.of (F := fun _ => False) hW) (Y := fun _ => False) (fun _ _ h => h.elim) (fun _ _ h => h.elim)) hlen at_ l hl hat) hlen lim hm1 hm2
  · refine rall_gen (raw := []) (fun W _ at_ l hl hat => ?_) hlen lim hm1 hm2
    obtain rfl : at_ = 0 := by simpa using hat
    exact one_75e l
theorem clipW {w : World} {v : Value} {raw : Bs} (hv : Bw w v raw) : Calls Tryz.prog 25 #[v] w fun e w' => ∃ u, e = .returned u ∧ Bw w u (raw.take 65536) ∧ w' = w := by
  rcases hv with h | ⟨rfl, a, c, rfl⟩
  · rcases h with ⟨rfl, rfl⟩ | ⟨g, o, c, rfl, h1, h2, h3, h4, h5⟩
    · refine (clip_25 (l := []) (by simp) (by simp)).mono ?_
      rintro e w' ⟨rfl, rfl⟩
      exact ⟨_, rfl, .inl (.inl ⟨rfl, rfl⟩), rfl⟩
    · refine (clip_25 (l := raw) (fun _ => ⟨h1, _, rfl⟩) (by omega)).mono ?_
      rintro e w' ⟨rfl, rfl⟩
      refine ⟨_, rfl, .inl (.inr ⟨g, o, c, rfl, by rw [List.length_take]; omega, h2, h3, h4, fun i x hx => ?_⟩), rfl⟩
      rw [List.getElem?_take] at hx
      split at hx
      · exact h5 i x hx
      · cases hx
  · refine (clip_25 (l := []) (by simp) (by simp)).mono ?_
    rintro e w' ⟨rfl, rfl⟩
    exact ⟨_, rfl, .inr ⟨rfl, a, c, rfl⟩, rfl⟩
end Go.Proofs.YtobegepebochkaaGreatDoor
namespace Go.Proofs.YtobegepebochkaaGreatDoor
open Go.RowKit Go.Maps
def Bl (p : Value × List Tld) (k : Nat) : Prop := p.1.ownBlock = some k ∨ Kb2 p.2 k ∨ Kb3 p.2 k
def Aprt (p r : Value × List Tld) : Prop := ∀ k, Bl p k → ¬ Bl r k
def Tk (w wr : World) (bb fb : Nat) (J : Nat) (I F : List (Value × List Tld)) : Prop :=
  ∃ Pb Pm R, Wa w wr bb fb Pb Pm R J ∧ (∀ p ∈ I, Ji w wr Pb Pm p.1 p.2) ∧ (∀ p ∈ F, Jr w wr Pb Pm R p.1 p.2) ∧ I.Pairwise Aprt ∧ F.Pairwise Aprt
section
variable {w wr : World} {bb fb : Nat} {J : Nat}
theorem Tk.steps {p : Value × List Tld} {I F : List (Value × List Tld)} (h : Tk w wr bb fb J (p :: I) F) (hp : p ∈ F) (hJ : J < 100000) :
    Calls Tryz.prog 29 #[.pointer (some ⟨bb, 0, none⟩), p.1] wr fun y wq => y = .returned (.tuple #[]) ∧ Tk w wq bb fb (J + 1) I F := by
  obtain ⟨Pb, Pm, R, h1, h2, h3, h4, h5⟩ := h
  refine (h1.steps2 hJ (h2 p List.mem_cons_self) (h3 p hp)).mono ?_
  rintro y wq ⟨rfl, Pb', g1, g2, g3⟩
  refine ⟨rfl, Pb', Pm, R, g1, fun r hr => g3 _ _ (h2 r (List.mem_cons_of_mem _ hr)) (fun k hk e => ?_), fun r hr => g2 _ _ (h3 r hr), (List.pairwise_cons.1 h4).2, h5⟩
  exact (List.pairwise_cons.1 h4).1 r hr k (e.imp id .inl) (hk.imp id .inl)
theorem Tk.flags {p : Value × List Tld} {F : List (Value × List Tld)} (h : Tk w wr bb fb J [] (p :: F)) :
    Calls Tryz.prog 30 #[.pointer (some ⟨fb, 0, none⟩), p.1] wr fun y wq => y = .returned (.tuple #[]) ∧ Tk w wq bb fb J [] F := by
  obtain ⟨Pb, Pm, R, h1, h2, h3, h4, h5⟩ := h
  refine (h1.flags2 (h3 p List.mem_cons_self)).mono ?_
  rintro y wq ⟨rfl, Pm', g1, g2⟩
  refine ⟨rfl, Pb, Pm', R, g1, fun r hr => (by cases hr), fun r hr => g2 _ _ (h3 r (List.mem_cons_of_mem _ hr)) (fun k hk e => ?_), h4, (List.pairwise_cons.1 h5).2⟩
  exact (List.pairwise_cons.1 h5).1 r hr k (.inr (.inr e)) (.inr (.inr hk))
end
structure Rg (w : World) (B C : Nat) (p : Value × List Tld) : Prop where
  sd : Sd w B p.1 p.2
  pw : Pw p.2
  rng : ∀ k, Bl p k → B ≤ k ∧ k < C
  few : p.2.length ≤ 65536 ∧ ∀ x ∈ p.2, x.s.cmd.keys.length ≤ 2049 ∧ x.s.cmd.mt.length ≤ 2049 ∧ x.s.data.length ≤ 1000000
theorem Rg.kp {w w' : World} {B C : Nat} {p : Value × List Tld} (h : Rg w B C p) {F : Nat → Prop} (hk : Kp F w w') (hF : ∀ k, F k → k < B) : Rg w' B C p := by
  have st : ∀ {b e s : Nat} {z : Value} {m : Nat} {ys : List Value}, w.ownsRow b e s z m ys → (∀ k, z.ownBlock = some k → Bl p k) → w'.ownsRow b e s z m ys := fun hr hz => row_same hr (fun k e => hk.block k (row_ge hr e).2 (fun a => by have := (h.rng k (hz k e)).1; have := hF k a; omega))
  exact ⟨⟨st h.sd.row (fun k e => .inl e), fun x hx => st (h.sd.k x hx) (fun k e => .inr (.inl ⟨x, hx, .inl e⟩)), fun x hx => st (h.sd.d x hx) (fun k e => .inr (.inl ⟨x, hx, .inr e⟩)), fun x hx => st (h.sd.m x hx) (fun k e => .inr (.inr ⟨x, hx, e⟩))⟩, h.pw, h.rng, h.few⟩
theorem Rg.kept0 {w w' : World} {B C : Nat} {p : Value × List Tld} (h : Rg w B C p) (hg : w.grownBy w' none) : Rg w' B C p := h.kp (Kp.of (F := fun _ => False) hg) (fun _ h => h.elim)
theorem Rg.kept1 {w w' : World} {B C g : Nat} {p : Value × List Tld} (h : Rg w B C p) (hg : w.grownBy w' (some g)) (hb : g < B) : Rg w' B C p := h.kp (F := fun k => k = g) ((Kp.refl _ w).step hg (fun i hi => .inl (Option.some.inj hi).symm)) (fun k e => by omega)
theorem Rg.sq {w : World} {B C : Nat} {p : Value × List Tld} (h : Rg w B C p) : Sq w p.1 p.2 := h.sd.sq (fun x hx => by have := (h.few.2 x hx).2.2; omega)
theorem AlR.rg {w : World} {lim : Int} {raw : Bs} {q : List Tld} {v : Value} {left : Int} {wr : World} (h : AlR w lim.toNat raw q v left wr) (hm : lim ≤ 9223372036854775807) (hl : raw.length ≤ 65536) (hp : Pw q) (hg : Ge w.heap.size q) : Rg wr w.heap.size wr.heap.size (v, q) := by
  refine ⟨⟨h.ss.row, fun x hx => (h.ss.all x hx).keys, fun x hx => (h.ss.all x hx).data, fun x hx => (h.ss.all x hx).mt⟩, hp, fun k hk => ?_, h.small hm hl⟩
  rcases hk with e | ⟨x, hx, e | e⟩ | ⟨x, hx, e⟩
  · exact row_ge h.ss.row e
  · exact ⟨(hg x hx).1 k e, (row_ge (h.ss.all x hx).keys e).2⟩
  · exact ⟨(hg x hx).2.1 k e, (row_ge (h.ss.all x hx).data e).2⟩
  · exact ⟨(hg x hx).2.2 k e, (row_ge (h.ss.all x hx).mt e).2⟩
theorem left_eq {w w' wr wr' : World} {L : Nat} {raw : Bs} {q r : List Tld} {v u : Value} {l1 l2 : Int} (A : AlR w L raw q v l1 wr) (D : DlR w' L raw r u l2 wr') : l1 = l2 ∧ q.map Tld.s = r.map Tld.s := by
  have e : q.map Tld.s = r.map Tld.s := by rw [← A.run, ← D.run]
  obtain ⟨b, hb, ht, h1⟩ := A.tile
  obtain ⟨c, hc, ht2, h2⟩ := D.tile
  have := Tile.uniq (ht.same e) ht2
  subst this
  refine ⟨?_, e⟩
  rcases h1 with ⟨a1, a2, _⟩ | ⟨a1, a2, _⟩ <;> rcases h2 with ⟨c1, c2⟩ | ⟨c1, c2⟩
  · rw [a2, c2]
  · rw [a1] at c1; cases c1
  · rw [a1] at c1; cases c1
  · rw [a2, c2]
theorem DlR.sq {w : World} {lim : Int} {raw : Bs} {q : List Tld} {v : Value} {left : Int} {wr w2 : World} (h : DlR w lim.toNat raw q v left wr) (hm : lim ≤ 9223372036854775807) (hl : raw.length ≤ 65536) (hf : wr.grownBy w2 none) : Sq w2 v q := by
  refine (h.ss.kept0 hf).sq (fun x hx => ?_)
  have h1 := dn_run raw (fd0_ok hm) rfl x.s (by rw [fd0_fl, h.run]; exact List.mem_map_of_mem hx)
  have h2 : (fd0 lim).taken = 0 := rfl
  omega
theorem Sd.low {w w' : World} {B : Nat} {v : Value} {q : List Tld} (h : Sd w B v q) (hge : Ge B q) {F : Nat → Prop} (hk : Kp F w w') (hF : ∀ k, F k → k < B) : Sd w' B v q := by
  have st : ∀ {b e s : Nat} {z : Value} {m : Nat} {ys : List Value}, w.ownsRow b e s z m ys → (∀ k, z.ownBlock = some k → B ≤ k) → w'.ownsRow b e s z m ys := fun hr hz => row_same hr (fun k e => hk.block k (row_ge hr e).2 (fun a => by have := hz k e; have := hF k a; omega))
  exact ⟨st h.row (fun k e => (row_ge h.row e).1), fun x hx => st (h.k x hx) (hge x hx).1, fun x hx => st (h.d x hx) (hge x hx).2.1, fun x hx => st (h.m x hx) (hge x hx).2.2⟩
theorem DlR.low {w : World} {lim : Int} {raw : Bs} {q : List Tld} {v : Value} {left : Int} {wr w2 : World} (h : DlR w lim.toNat raw q v left wr) (hge : Ge w.heap.size q) (hm : lim ≤ 9223372036854775807) (hl : raw.length ≤ 65536) {F : Nat → Prop} (hk : Kp F wr w2) (hF : ∀ k, F k → k < w.heap.size) : Sq w2 v q := by
  refine (h.ss.low hge hk hF).sq (fun x hx => ?_)
  have h1 := dn_run raw (fd0_ok hm) rfl x.s (by rw [fd0_fl, h.run]; exact List.mem_map_of_mem hx)
  have h2 : (fd0 lim).taken = 0 := rfl
  omega
theorem Wa.three {w wr : World} {bb fb J S C1 B2 C2 B3 C3 B1 : Nat} {R0 : Nat → Prop} {x y z : Value × List Tld} (h : Wa w wr bb fb (fun k => S ≤ k) (fun k => S ≤ k) R0 J) (hw : w.heap.size ≤ S) (hx : Rg wr B1 C1 x) (hy : Rg wr B2 C2 y) (hz : Rg wr B3 C3 z) (h1 : S ≤ B1) (h2 : C1 ≤ B2) (h3 : C2 ≤ B3) (h0 : B1 ≤ C1) (h4 : B2 ≤ C2) : Tk w wr bb fb J [x, y, z] [x, y, z] := by
  have hR : ∀ k, (x.1.ownBlock = some k ∨ y.1.ownBlock = some k ∨ z.1.ownBlock = some k) → (∃ c, wr.heap[k]? = some (.cells c 86 (0, 0))) ∧ S ≤ k ∧ S ≤ k := by
    rintro k (e | e | e)
    · have := (hx.rng k (.inl e)).1; exact ⟨row_block hx.sd.row k e, by omega, by omega⟩
    · have := (hy.rng k (.inl e)).1; exact ⟨row_block hy.sd.row k e, by omega, by omega⟩
    · have := (hz.rng k (.inl e)).1; exact ⟨row_block hz.sd.row k e, by omega, by omega⟩
  have hjr : ∀ {B C : Nat} {p : Value × List Tld}, Rg wr B C p → S ≤ B → (∀ k, p.1.ownBlock = some k → (x.1.ownBlock = some k ∨ y.1.ownBlock = some k ∨ z.1.ownBlock = some k)) → Jr w wr (fun k => S ≤ k) (fun k => S ≤ k) (fun k => x.1.ownBlock = some k ∨ y.1.ownBlock = some k ∨ z.1.ownBlock = some k) p.1 p.2 ∧ Ji w wr (fun k => S ≤ k) (fun k => S ≤ k) p.1 p.2 := fun hp hS hv => by
    refine ⟨⟨⟨_, hp.sd.row⟩, hp.sd.m, hp.pw, by have := hp.few.1; omega, fun t ht => by have := (hp.few.2 t ht).2.1; omega, fun k e => ⟨by have := (hp.rng k (.inl e)).1; omega, hv k e⟩, fun k e => ?_⟩, ⟨hp.sd.k, hp.sd.d, fun k e => (row_ge hp.sd.row e).2, fun t ht => by have := hp.few.2 t ht; omega, fun k e => ?_⟩⟩
    · have := (hp.rng k (.inr (.inr e))).1
      refine ⟨by omega, by omega, by omega, fun a => ?_⟩
      obtain ⟨⟨c, hc⟩, _⟩ := hR k a
      obtain ⟨t, ht, e⟩ := e
      obtain ⟨c2, hc2⟩ := row_block (hp.sd.m t ht) k e
      exact ne_of_type hc hc2 (by decide) rfl
    · have := (hp.rng k (e.imp id .inl)).1
      exact ⟨by omega, by omega, by omega⟩
  have hap : [x, y, z].Pairwise Aprt := by
    refine List.pairwise_cons.2 ⟨fun r hr => ?_, List.pairwise_cons.2 ⟨fun r hr => ?_, List.pairwise_singleton _ _⟩⟩
    · simp only [List.mem_cons, List.not_mem_nil, or_false] at hr
      rcases hr with rfl | rfl
      · exact fun k a b => by have := hx.rng k a; have := hy.rng k b; omega
      · exact fun k a b => by have := hx.rng k a; have := hz.rng k b; omega
    · simp only [List.mem_cons, List.not_mem_nil, or_false] at hr
      subst hr
      exact fun k a b => by have := hy.rng k a; have := hz.rng k b; omega
  refine ⟨_, _, _, h.rows (R' := fun k => x.1.ownBlock = some k ∨ y.1.ownBlock = some k ∨ z.1.ownBlock = some k) hR, fun p hp => ?_, fun p hp => ?_, hap, hap⟩
  all_goals
    simp only [List.mem_cons, List.not_mem_nil, or_false] at hp
    rcases hp with rfl | rfl | rfl
  · exact (hjr hx h1 (fun k e => .inl e)).2
  · exact (hjr hy (by omega) (fun k e => .inr (.inl e))).2
  · exact (hjr hz (by omega) (fun k e => .inr (.inr e))).2
  · exact (hjr hx h1 (fun k e => .inl e)).1
  · exact (hjr hy (by omega) (fun k e => .inr (.inl e))).1
  · exact (hjr hz (by omega) (fun k e => .inr (.inr e))).1
end Go.Proofs.YtobegepebochkaaGreatDoor

import Derived.Deep.LoopGhost
import Derived.Test.YtobegepebochkaaGreatDoorCb
import Derived.Test.YtobegepebochkaaGreatDoorPbl
import Derived.Test.YtobegepebochkaaGreatDoorPbm
import Derived.Test.YtobegepebochkaaGreatDoorPbh
set_option linter.unusedVariables false
set_option linter.unusedSimpArgs false
namespace Go.Proofs.YtobegepebochkaaGreatDoor
open Go.RowKit Go.Maps
structure Sd (w : World) (B : Nat) (v : Value) (q : List Tld) : Prop where
  row : w.ownsRow B 86 16 v q.length (q.flatMap tldL)
  k : ∀ x ∈ q, w.ownsRow 0 9 1 x.ck x.s.cmd.keys.length (x.s.cmd.keys.map sv)
  d : ∀ x ∈ q, w.ownsRow 0 5 1 x.cd x.s.data.length (x.s.data.map b8)
  m : ∀ x ∈ q, w.ownsRow 0 79 3 x.cm x.s.cmd.mt.length (fcs x.s.cmd.mt)
theorem Sd.kept0 {w w' : World} {B : Nat} {v : Value} {q : List Tld} (h : Sd w B v q) (hg : w.grownBy w' none) : Sd w' B v q :=
  ⟨row_kept h.row hg (by simp), fun x hx => row_kept (h.k x hx) hg (by simp), fun x hx => row_kept (h.d x hx) hg (by simp), fun x hx => row_kept (h.m x hx) hg (by simp)⟩
theorem Sd.sq {w : World} {B : Nat} {v : Value} {q : List Tld} (h : Sd w B v q) (hd : ∀ x ∈ q, x.s.data.length ≤ 1099511627776) : Sq w v q := by
  obtain ⟨a, c, e, -, h1, h2, h3⟩ := row_shape h.row
  unfold maxLen at h2
  refine ⟨⟨a, c, e, h1, by omega⟩, fun k x hx => ?_, fun x hx => ?_⟩
  · have hk := (List.getElem?_eq_some_iff.1 hx).1
    obtain ⟨g, rfl⟩ := h3 (by omega)
    subst e
    refine ⟨g, c, rfl, fun j u hu => row_cell h.row _ _ ?_⟩
    have hj := (List.getElem?_eq_some_iff.1 hu).1
    rw [tl_get q k x j hx (by simpa using hj)]
    exact hu
  · obtain ⟨_, _, _, -, k1, k2, -⟩ := row_shape (h.k x hx)
    obtain ⟨_, _, _, -, m1, m2, -⟩ := row_shape (h.m x hx)
    unfold maxLen at k2 m2
    exact ⟨ws_row (h.k x hx) rfl, by_row (h.d x hx) (hd x hx), fs_row (h.m x hx), by omega, by omega⟩
structure DlI (w : World) (L : Nat) (raw : Bs) (at_ : Nat) (q : List Tld) (v : Value) (wr : World) : Prop where
  le : at_ ≤ raw.length
  ss : Sd wr w.heap.size v q
  tile : Tile 0 q at_
  run : (fl L 0).run raw = (((fl L at_).run (raw.drop at_)).1, q.map Tld.s ++ ((fl L at_).run (raw.drop at_)).2)
  gb : w.grownBy wr none
structure DlR (w : World) (L : Nat) (raw : Bs) (q : List Tld) (v : Value) (left : Int) (wr : World) : Prop where
  ss : Sd wr w.heap.size v q
  run : ((fl L 0).run raw).2 = q.map Tld.s
  tile : ∃ b, b ≤ raw.length ∧ Tile 0 q b ∧ ((((fl L 0).run raw).1.ended = true ∧ left = 0) ∨ (((fl L 0).run raw).1.ended = false ∧ left = ((raw.length - b : Nat) : Int)))
  gb : w.grownBy wr none
theorem DlI.start (w : World) (L : Nat) (raw : Bs) {wr : World} (hg : w.grownBy wr none) : DlI w L raw 0 [] (.slice none 0 0) wr :=
  ⟨Nat.zero_le _, ⟨World.ownsRow_nil _ _ _ _, by simp, by simp, by simp⟩, rfl, by simp, hg⟩
theorem DlI.done {w : World} {L : Nat} {raw : Bs} {at_ : Nat} {q : List Tld} {v : Value} {wr w2 : World} (h : DlI w L raw at_ q v wr) (hN : StepN L at_ (raw.drop at_)) (hg : wr.grownBy w2 none) : DlR w L raw q v ((raw.length - at_ : Nat) : Int) w2 := by
  obtain ⟨G, h1, h2, h3⟩ := hN
  have hr := h.run
  rw [h1] at hr
  exact ⟨h.ss.kept0 hg, by rw [hr]; simp, ⟨at_, h.le, h.tile, .inr ⟨by rw [hr]; exact h2, rfl⟩⟩, gb_trans h.gb hg⟩
theorem DlI.push {w : World} {L : Nat} {raw : Bs} {at_ : Nat} {q : List Tld} {v : Value} {wr w2 w3 w4 : World} (h : DlI w L raw at_ q v wr) {s : Stp} {ck cd cm : Value} (hg : wr.grownBy w2 none)
    (hk : w2.ownsRow wr.heap.size 9 1 ck s.cmd.keys.length (s.cmd.keys.map sv)) (hd : w2.ownsRow wr.heap.size 5 1 cd s.data.length (s.data.map b8)) (hm : w2.ownsRow wr.heap.size 79 3 cm s.cmd.mt.length (fcs s.cmd.mt))
    (hg3 : w2.grownBy w3 none) {g cap : Nat} (hr : w4.ownsRow w.heap.size 86 16 (.slice (some ⟨g, 0, none⟩) (q.length + 1) cap) (q.length + 1) (q.flatMap tldL ++ stpL s ck cd cm)) (hg4 : w3.grownBy w4 v.ownBlock) :
    Sd w4 w.heap.size (.slice (some ⟨g, 0, none⟩) (q.length + 1) cap) (q ++ [⟨s, ck, cd, cm⟩]) ∧ w.grownBy w4 none := by
  have hg3' := gb_trans hg hg3
  have s3 := h.ss.kept0 hg3'
  have k4 : ∀ {B : Nat} {e : TypeId} {z : Nat} {u : Value} {m : Nat} {ys : List Value}, w3.ownsRow B e z u m ys → e ≠ 86 → w4.ownsRow 0 e z u m ys := fun hh he => row_base (row_kept hh hg4 (fun k hk e2 => by
    obtain ⟨c1, h1⟩ := row_block hh k hk
    obtain ⟨c2, h2⟩ := row_block s3.row k e2.symm
    exact ne_of_type h1 h2 he rfl)) (Nat.zero_le _)
  have n3 : ∀ {B t z m : Nat} {u : Value} {xs : List Value}, w2.ownsRow B t z u m xs → w3.ownsRow 0 t z u m xs := fun hh => row_base (row_kept hh hg3 (fun k _ e => by cases e)) (Nat.zero_le _)
  refine ⟨⟨?_, ?_, ?_, ?_⟩, gb_far (gb_trans h.gb hg3') hg4 (fun i hi => (World.ownsRow.lt h.ss.row i hi).1) (Nat.le_refl _)⟩
  · rw [List.length_append, List.flatMap_append]
    simpa using hr
  all_goals
    intro x hx
    rcases List.mem_append.1 hx with hx | hx
  · exact k4 (s3.k x hx) (by decide)
  · simp at hx; subst hx; exact k4 (n3 hk) (by decide)
  · exact k4 (s3.d x hx) (by decide)
  · simp at hx; subst hx; exact k4 (n3 hd) (by decide)
  · exact k4 (s3.m x hx) (by decide)
  · simp at hx; subst hx; exact k4 (n3 hm) (by decide)
theorem DlI.run_step {w : World} {L : Nat} {raw : Bs} {at_ : Nat} {q : List Tld} {v : Value} {wr : World} (h : DlI w L raw at_ q v wr) {s : Stp} {n : Nat} (hY : StepY L at_ (raw.drop at_) s n) :
    ∃ G, (s.cmd.verb ≠ 18 → G = fl L (at_ + n)) ∧ (s.cmd.verb = 18 → G.st = 5 ∧ G.ended = true ∧ G.kept = []) ∧ (fl L 0).run raw = ((G.run (raw.drop (at_ + n))).1, q.map Tld.s ++ s :: (G.run (raw.drop (at_ + n))).2) ∧ at_ + n ≤ raw.length := by
  obtain ⟨G, h1, h2, h3⟩ := hY.run
  refine ⟨G, h2, h3, ?_, ?_⟩
  · rw [h.run]
    have e : raw.drop at_ = (raw.drop at_).take n ++ raw.drop (at_ + n) := by rw [← List.drop_drop, List.take_append_drop]
    rw [e, Fd.run_app, h1]
    simp
  · have := hY.le
    rw [List.length_drop] at this
    have := h.le
    omega
theorem DlI.next {w : World} {L : Nat} {raw : Bs} {at_ : Nat} {q : List Tld} {v v' : Value} {wr w4 : World} (h : DlI w L raw at_ q v wr) {s : Stp} {n : Nat} {ck cd cm : Value} (hY : StepY L at_ (raw.drop at_) s n) (h1 : Sd w4 w.heap.size v' (q ++ [⟨s, ck, cd, cm⟩])) (h2 : w.grownBy w4 none) (hv : s.cmd.verb ≠ 18) :
    DlI w L raw s.to (q ++ [⟨s, ck, cd, cm⟩]) v' w4 := by
  obtain ⟨G, h3, -, h4, h5⟩ := h.run_step hY
  have ht := hY.to
  have hp := hY.pos
  refine ⟨by omega, h1, Tile.snoc h.tile hY.frm (by show at_ < s.to; omega), ?_, h2⟩
  rw [h4, h3 hv, ht]
  simp
theorem DlI.quit {w : World} {L : Nat} {raw : Bs} {at_ : Nat} {q : List Tld} {v v' : Value} {wr w4 : World} (h : DlI w L raw at_ q v wr) {s : Stp} {n : Nat} {ck cd cm : Value} (hY : StepY L at_ (raw.drop at_) s n) (h1 : Sd w4 w.heap.size v' (q ++ [⟨s, ck, cd, cm⟩])) (h2 : w.grownBy w4 none) (hv : s.cmd.verb = 18) :
    DlR w L raw (q ++ [⟨s, ck, cd, cm⟩]) v' 0 w4 := by
  obtain ⟨G, -, h3, h4, h5⟩ := h.run_step hY
  have ht := hY.to
  have hp := hY.pos
  obtain ⟨g1, g2, g3⟩ := h3 hv
  rw [run_over g1] at h4
  exact ⟨h1, by rw [h4]; simp, ⟨s.to, by omega, Tile.snoc h.tile hY.frm (by show at_ < s.to; omega), .inl ⟨by rw [h4]; exact g2, rfl⟩⟩, h2⟩
theorem one_75 {w : World} {X : Nat → Prop} {a : Option Addr} {c : Nat} {raw : Bs} (hv : Ck w X (.slice a raw.length c) raw) (hl : raw.length ≤ 34359738368) (at_ lim : Nat) (hlim : lim ≤ 9223372036854775807) (hat : at_ ≤ raw.length) :
    Calls Tryz.prog 75 #[.slice a raw.length c, .int .i64 at_, .int .i64 lim] w fun e w' => OnQ lim at_ (raw.drop at_) w e w' := by
  rcases indexByte_spec 10 (raw.drop at_) with ⟨_, h1⟩ | ⟨p, t, h1, h2, _⟩
  · exact one_none hv (by omega) at_ lim hat h1
  · have hne : raw[at_ + p.length]? = some 10 := by
      have : (raw.drop at_)[p.length]? = some 10 := by rw [h1]; simp
      rw [List.getElem?_drop] at this
      exact this
    obtain ⟨g, o, rfl, _⟩ := hv.at' hne
    exact one_some hv hl at_ lim hlim hat p t h1 h2
end Go.Proofs.YtobegepebochkaaGreatDoor
namespace Go.Proofs.YtobegepebochkaaGreatDoor
open Go.RowKit Go.Maps
def Dj (a b : Value) : Prop := ∀ g, a.ownBlock = some g → b.ownBlock ≠ some g
def Lo (B : Nat) (v : Value) : Prop := ∀ g, v.ownBlock = some g → B ≤ g
def Pw (q : List Tld) : Prop := q.Pairwise (fun x y => Dj x.ck y.ck ∧ Dj x.cd y.cd ∧ Dj x.cm y.cm)
def Ge (B : Nat) (q : List Tld) : Prop := ∀ x ∈ q, Lo B x.ck ∧ Lo B x.cd ∧ Lo B x.cm
theorem pw_snoc {wr w2 : World} {B : Nat} {v ck cd cm : Value} {q : List Tld} {s : Stp} {n1 n2 n3 : Nat} {y1 y2 y3 : List Value} (h : Ss wr B (fun _ => False) v q) (hp : Pw q ∧ Ge B q) (hB : B ≤ wr.heap.size) (hk : w2.ownsRow wr.heap.size 9 1 ck n1 y1) (hd : w2.ownsRow wr.heap.size 5 1 cd n2 y2) (hm : w2.ownsRow wr.heap.size 79 3 cm n3 y3) :
    Pw (q ++ [⟨s, ck, cd, cm⟩]) ∧ Ge B (q ++ [⟨s, ck, cd, cm⟩]) := by
  refine ⟨List.pairwise_append.2 ⟨hp.1, List.pairwise_singleton _ _, fun x hx y hy => ?_⟩, fun x hx => ?_⟩
  · simp only [List.mem_singleton] at hy
    subst hy
    have hr := h.all x hx
    exact ⟨fun g h1 h2 => by have := (row_ge hr.keys h1).2; have := (row_ge hk h2).1; omega, fun g h1 h2 => by have := (row_ge hr.data h1).2; have := (row_ge hd h2).1; omega, fun g h1 h2 => by have := (row_ge hr.mt h1).2; have := (row_ge hm h2).1; omega⟩
  · rcases List.mem_append.1 hx with hx | hx
    · exact hp.2 x hx
    · simp only [List.mem_singleton] at hx
      subst hx
      exact ⟨fun g h1 => by have := (row_ge hk h1).1; omega, fun g h1 => by have := (row_ge hd h1).1; omega, fun g h1 => by have := (row_ge hm h1).1; omega⟩
set_option maxRecDepth 100000 in
set_option maxHeartbeats 4000000 in
theorem all_someP {w : World} (hE : Er w) {g o c : Nat} {raw : Bs} (hR : Ra w g o c raw) (hlen : raw.length ≤ 34359738368) (lim : Int) (hm1 : lim ≤ 9223372036854775807) (hm2 : -9223372036854775808 ≤ lim) :
    Calls Tryz.prog 27 #[.slice (some ⟨g, o, none⟩) raw.length c, .int .i64 lim] w fun e w' => ∃ rv q left, e = .returned (.tuple #[rv, .int .i64 left]) ∧ AlR w lim.toNat raw q rv left w' ∧ Pw q ∧ Ge w.heap.size q := by
  have h62 := rows_9 w
  obtain ⟨L, hL⟩ : ∃ L, lim.toNat = L := ⟨_, rfl⟩
  have hLm : L ≤ 9223372036854775807 := by omega
  have hmax : max lim 0 = (L : Int) := by omega
  have start := fun {W : World} (hg : w.grownBy W none) => AlI.start w L raw hg
  obtain ⟨R, hRl⟩ : ∃ R, raw.length = R := ⟨_, rfl⟩
  rw [hRl] at hlen
  rw [hL]
  have A : Aside (raw.length = R) := hRl
  rw [hRl]
  clear hRl hL
  go_enter Tryz.func27, Tryz.ntmps27
  go_wp2_with (go_at_call 62; go_must ((with_reducible refine h62.mono ?_); rintro e w1 ⟨rfl, hG1, hg1⟩))
  have hRr := A.out
  go_loopg [7, 8] R (fun gk x7 x8 wr => ∃ (at_ : Nat) (q : List Tld), gk + at_ = R ∧ x8 = .int .i64 (at_ : Int) ∧ AlI w L raw at_ q x7 wr ∧ (Pw q ∧ Ge w.heap.size q) ∧ GM wr w.heap.size rowL)
  case atStart => exact ⟨0, [], rfl, rfl, start hg1, ⟨List.Pairwise.nil, fun x hx => by cases hx⟩, hG1⟩
  case round =>
    obtain ⟨at_, q, hgk, rfl, hI, hPG, hGr⟩ := hrel
    have HPG : Hid (Pw q ∧ Ge w.heap.size q) := hPG
    clear hPG
    have hatl := hI.le
    have h76 := step_76 hGr (hE.kept hI.gb) (hR.kept0 hI.gb) hI.le hLm
    rw [A.out] at h76
    obtain ⟨ra, rc, hrv, -, -, -, -⟩ := row_shape hI.ss.row
    subst hrv
    have ssr := hI.ss.row
    have hql : q.length ≤ 100000000000 := by have := hI.tile.le; omega
    have hsz0 := hI.gb.size
    have hlt : ∀ k, (Value.slice ra q.length rc).ownBlock = some k → k < wr.heap.size := fun k hk => (World.ownsRow.lt ssr k hk).2
    have hne : (Value.slice ra q.length rc).ownBlock ≠ some w.heap.size := by
      intro e
      obtain ⟨cur, hc⟩ := row_block ssr _ e
      have hG2 := hGr
      unfold GM at hG2
      rw [hG2] at hc
      cases hc
    have hAt : at_ ≤ R := by omega
    have eL : IntKind.i64.wrap ((R : Int) - (at_ : Int)) = ((raw.length - at_ : Nat) : Int) := by rw [A.out, IntKind.wrap_i64]; omega
    have AL : Aside (IntKind.i64.wrap ((R : Int) - (at_ : Int)) = ((raw.length - at_ : Nat) : Int) ∧ (R : Int) - (at_ : Int) = ((raw.length - at_ : Nat) : Int)) := ⟨eL, by rw [A.out]; omega⟩
    clear start h62 hE hR hG1 eL
    go_upto_region 6 with (first
      | (go_at_call 76; go_must ((with_reducible refine h76.mono ?_); rintro e w2 ⟨hg2, hQ⟩; (rcases hQ with ⟨rfl, hN⟩ | ⟨s, n, ck, cd, cm, rfl, hY, hk, hd, hm, hnd⟩; rotate_left; (obtain ⟨ka, kc, rfl, -⟩ := row_shape hk); (obtain ⟨da, dc, rfl, -⟩ := row_shape hd); (obtain ⟨ma, mc, rfl, -⟩ := row_shape hm); rotate_left)))
      | (refine atS 86 w2.heap.size 0 rfl rfl ?_; go_must (refine storeT 86 16 size86 rfl _ _ rfl 86 w2.heap.size 0 _ (Box.new w2 86 Z86) (by simp) rfl _ rfl rfl (by simp [Value.oneCell']) ?_); intro W3 b3 hg3; (simp only [sets_0] at b3)))
    · have hg23 : w2.grownBy W3 none := gb_mine (gb_alloc (gb_refl w2 none) _) hg3 (Nat.le_refl _)
      have hfin := hI.done hN (gb_trans hg2 hg23)
      clear h76 hI hN
      go_wp2
      go_ret2
      refine ⟨_, q, _, rfl, ?_, HPG.out⟩
      first | (rw [← AL.out.1] at hfin; exact hfin) | (rw [← AL.out.2] at hfin; exact hfin)
    · have hg23 : w2.grownBy W3 none := gb_mine (gb_alloc (gb_refl w2 none) _) hg3 (Nat.le_refl _)
      have hg3' := gb_trans hg2 hg23
      have r3 := row_kept ssr hg3' (fun k _ e => by cases e)
      have s3 : w.heap.size ≤ W3.heap.size := Nat.le_trans hsz0 hg3'.size
      have s2 := hg2.size
      clear h76
      go_upto_region 9 with (first
        | (refine atL 86 w2.heap.size 0 rfl rfl ?_; go_must (refine load86 rfl _ rfl 86 w2.heap.size 0 _ b3 rfl (stpL s (.slice ka s.cmd.keys.length kc) (.slice da s.data.length dc) (.slice ma s.cmd.mt.length mc)) rfl (fun j v hv => by simpa using hv) ?_))
        | (at_builtin; go_must (refine push86 rfl _ _ rfl w.heap.size _ q.length _ (by rfl) r3 _ rfl (by simp [Value.oneCell']) (by rfl) hql s3 ?_); intro g7 cap w7 r7 g37 _))
      have b7 := b3.kept g37 (fun e => by have := hlt _ e.symm; omega)
      have c0 : w7.cell? ⟨w2.heap.size, 0, none⟩ = some (.int .i64 s.cmd.verb) := b7.cell 0
      have c15 : w7.cell? ⟨w2.heap.size, 15, none⟩ = some (.int .i64 (s.to : Int)) := b7.cell 15
      have HP2 : Hid (Pw (q ++ [⟨s, .slice ka s.cmd.keys.length kc, .slice da s.data.length dc, .slice ma s.cmd.mt.length mc⟩]) ∧ Ge w.heap.size (q ++ [⟨s, .slice ka s.cmd.keys.length kc, .slice da s.data.length dc, .slice ma s.cmd.mt.length mc⟩])) := pw_snoc hI.ss HPG.out hsz0 hk hd hm
      by_cases hv : s.cmd.verb = 18
      · have hfin := hI.quit hY hg2 hk hd hm hnd hg23 r7 g37 hv
        have dv : (s.cmd.verb == 18) = true := by simpa using hv
        clear hI hY hk hd hm hnd r7 g37 b3 b7 hv
        go_wp2
        go_ret2
        exact ⟨_, _, _, rfl, hfin, HP2.out⟩
      · have hfin := hI.next hY hg2 hk hd hm hnd hg23 r7 g37 hv
        have dv : (s.cmd.verb == 18) = false := by simpa using hv
        have hG7 : GM w7 w.heap.size rowL := (hGr.kept hg3' (by simp)).kept g37 (fun e => hne e.symm)
        have hto := hfin.le
        have hpos : at_ < s.to := by have h1 := hY.to; have h2 := hY.pos; omega
        clear hI hY hk hd hm hnd r7 g37 b3 b7 hv
        go_wp2
        go_roundg (R - s.to)
        case measure => omega
        case rel => exact ⟨s.to, _, by omega, rfl, hfin, HP2.out, hG7⟩
end Go.Proofs.YtobegepebochkaaGreatDoor
namespace Go.Proofs.YtobegepebochkaaGreatDoor
open Go.RowKit
def Bof (s0 : Value) (w : World) (bb : Nat) (FB : Nat → Prop) : Prop :=
  ∃ b0 b1 t0 t1 n Fb Ft Kb Kt Vb Wb Nb Db Vt Wt Nt Dt, Box w 31 bb (bkA b0 b1 nilS nilS t0 t1 nilS nilS s0 nilS nilS n) ∧ Kd w Fb 38 5 1 b0 b1 Kb Kb Vb Wb Nb Db ∧ Kd w Ft 36 9 1 t0 t1 Kt Kt Vt Wt Nt Dt ∧
    (∀ i, i < Kb → ∃ l : Bs, Db i = l.map b8) ∧ (∀ i, i < Kt → ∃ ws : List Bs, Dt i = ws.map sv) ∧ ((Kb : Int) ≤ n ∧ Kb ≤ 200001) ∧ ((Kt : Int) ≤ n ∧ Kt ≤ 200001) ∧ (0 ≤ n ∧ n ≤ 1300000) ∧ FB bb ∧ (∀ k, Fb k → FB k) ∧ (∀ k, Ft k → FB k) ∧ ∀ k, FB k → k < w.heap.size
theorem Bof.same {s0 : Value} {w w' : World} {bb : Nat} {FB : Nat → Prop} (h : Bof s0 w bb FB) (hs : w.heap.size ≤ w'.heap.size) (hf : ∀ k, FB k → w'.heap[k]? = w.heap[k]?) : Bof s0 w' bb FB := by
  obtain ⟨b0, b1, t0, t1, n, Fb, Ft, Kb, Kt, Vb, Wb, Nb, Db, Vt, Wt, Nt, Dt, hb, k1, k2, l1, l2, m1, m2, hn, f1, f2, f3, f4⟩ := h
  exact ⟨b0, b1, t0, t1, n, Fb, Ft, Kb, Kt, Vb, Wb, Nb, Db, Vt, Wt, Nt, Dt, by unfold Box; rw [hf bb f1]; exact hb, k1.same (fun k hk => hf k (f2 k hk)), k2.same (fun k hk => hf k (f3 k hk)), l1, l2, m1, m2, hn, f1, f2, f3, fun k hk => Nat.lt_of_lt_of_le (f4 k hk) hs⟩
theorem Bof.lt {s0 : Value} {w : World} {bb : Nat} {FB : Nat → Prop} (h : Bof s0 w bb FB) : ∀ k, FB k → k < w.heap.size := by
  obtain ⟨b0, b1, t0, t1, n, Fb, Ft, Kb, Kt, Vb, Wb, Nb, Db, Vt, Wt, Nt, Dt, hb, k1, k2, l1, l2, m1, m2, hn, f1, f2, f3, f4⟩ := h
  exact f4
theorem Bof.new {w : World} {bb : Nat} (hb : Box w 31 bb (bkA nilS nilS nilS nilS nilS nilS nilS nilS nilS nilS nilS 0)) : Bof nilS w bb (fun k => k = bb) :=
  ⟨nilS, nilS, nilS, nilS, 0, fun _ => False, fun _ => False, 0, 0, _, _, _, _, _, _, _, _, hb, Kd.nil w 1 (by decide), Kd.nil w 1 (by decide), fun i hi => by omega, fun i hi => by omega, ⟨by omega, by omega⟩, ⟨by omega, by omega⟩, by omega, rfl, fun _ h => h.elim, fun _ h => h.elim, fun k hk => by subst hk; exact hb.lt⟩
def BfPost (s0 : Value) (w : World) (bb : Nat) (FB : Nat → Prop) (v : Value) (w' : World) : Prop :=
  Kp FB w w' ∧ ∃ FB', Bof s0 w' bb FB' ∧ ∀ k, FB' k → FB k ∨ v.ownBlock = some k ∨ w.heap.size ≤ k
section
variable {s0 : Value} {w : World} {bb : Nat} {FB : Nat → Prop}
theorem bof_bytes (h : Bof s0 w bb FB) {vao : Option Addr} {vcp m : Nat} {l : Bs} (hv : w.ownsRow 0 5 1 (.slice vao m vcp) m (l.map b8)) (hm : m ≤ 1000000) (hvF : ∀ g, (Value.slice vao m vcp).ownBlock = some g → ¬ FB g) :
    Calls Tryz.prog 20 #[.pointer (some ⟨bb, 0, none⟩), .slice vao m vcp] w fun y w' => y = .returned (.tuple #[]) ∧ BfPost s0 w bb FB (.slice vao m vcp) w' := by
  have h0 := h
  obtain ⟨b0, b1, t0, t1, n, Fb, Ft, Kb, Kt, Vb, Wb, Nb, Db, Vt, Wt, Nt, Dt, hb, k1, k2, l1, l2, m1, m2, hn, f1, f2, f3, f4⟩ := h
  by_cases hf : 200000 < n
  · refine (full_20 hb hf _).mono ?_
    rintro y w' ⟨rfl, hw⟩
    rw [hw]
    exact ⟨rfl, Kp.refl _ _, FB, h0, fun k hk => .inl hk⟩
  · refine (keep_20 hb k1 (by omega) (by omega) hv (fun u hu => by rw [List.mem_map] at hu; obtain ⟨x, _, rfl⟩ := hu; rfl) hm (fun g hg hk => hvF g hg (f2 g hk))).mono ?_
    rintro y w' ⟨rfl, hkp, q0, q1, F', V', W', hb', k1', hF'⟩
    refine ⟨rfl, hkp.mono (fun i hi => .inl (by rcases hi with rfl | hi; exact f1; exact f2 i hi)), fun k => FB k ∨ F' k, ⟨q0, q1, t0, t1, _, F', Ft, Kb + 1, Kt, V', W', _, _, Vt, Wt, Nt, Dt, hb', k1', k2.other k1 hb hkp (by decide) (by decide) (by decide) (by decide) (by decide) (by decide), fun i hi => ?_, l2, by omega, by omega, by omega, .inl f1, fun k hk => .inr hk, fun k hk => .inl (f3 k hk), ?_⟩, ?_⟩
    · by_cases e : i = Kb
      · subst e; rw [upd_same]; exact ⟨l, rfl⟩
      · rw [upd_other _ _ e]; exact l1 i (by omega)
    · rintro k (hk | hk)
      · exact Nat.lt_of_lt_of_le (f4 k hk) hkp.size
      · exact k1'.fl k hk
    · rintro k (hk | hk)
      · exact .inl hk
      · exact (hF' k hk).imp (f2 k) id
theorem bof_texts (h : Bof s0 w bb FB) {vao : Option Addr} {vcp m : Nat} {l : List Bs} (hv : w.ownsRow 0 9 1 (.slice vao m vcp) m (l.map sv)) (hm : m ≤ 1000000) (hvF : ∀ g, (Value.slice vao m vcp).ownBlock = some g → ¬ FB g) :
    Calls Tryz.prog 19 #[.pointer (some ⟨bb, 0, none⟩), .slice vao m vcp] w fun y w' => y = .returned (.tuple #[]) ∧ BfPost s0 w bb FB (.slice vao m vcp) w' := by
  have h0 := h
  obtain ⟨b0, b1, t0, t1, n, Fb, Ft, Kb, Kt, Vb, Wb, Nb, Db, Vt, Wt, Nt, Dt, hb, k1, k2, l1, l2, m1, m2, hn, f1, f2, f3, f4⟩ := h
  by_cases hf : 200000 < n
  · refine (full_19 hb hf _).mono ?_
    rintro y w' ⟨rfl, hw⟩
    rw [hw]
    exact ⟨rfl, Kp.refl _ _, FB, h0, fun k hk => .inl hk⟩
  · refine (keep_19 hb k2 (by omega) (by omega) hv (fun u hu => by rw [List.mem_map] at hu; obtain ⟨x, _, rfl⟩ := hu; rfl) hm (fun g hg hk => hvF g hg (f3 g hk))).mono ?_
    rintro y w' ⟨rfl, hkp, q0, q1, F', V', W', hb', k2', hF'⟩
    refine ⟨rfl, hkp.mono (fun i hi => .inl (by rcases hi with rfl | hi; exact f1; exact f3 i hi)), fun k => FB k ∨ F' k, ⟨b0, b1, q0, q1, _, Fb, F', Kb, Kt + 1, Vb, Wb, Nb, Db, V', W', _, _, hb', k1.other k2 hb hkp (by decide) (by decide) (by decide) (by decide) (by decide) (by decide), k2', l1, fun i hi => ?_, by omega, by omega, by omega, .inl f1, fun k hk => .inl (f2 k hk), fun k hk => .inr hk, ?_⟩, ?_⟩
    · by_cases e : i = Kt
      · subst e; rw [upd_same]; exact ⟨l, rfl⟩
      · rw [upd_other _ _ e]; exact l2 i (by omega)
    · rintro k (hk | hk)
      · exact Nat.lt_of_lt_of_le (f4 k hk) hkp.size
      · exact k2'.fl k hk
    · rintro k (hk | hk)
      · exact .inl hk
      · exact (hF' k hk).imp (f3 k) id
end
end Go.Proofs.YtobegepebochkaaGreatDoor

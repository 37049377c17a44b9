/-
  LineHolds.
-/
import Derived.Test.YtobegepebochkaaDoorTy
import Derived.Deep.LoopGhost
import Derived.Deep.CutRange
namespace Go.Proofs.YtobegepebochkaaDoor
open Go.RowKit Go.Maps
set_option linter.unusedVariables false
set_option linter.unusedSimpArgs false

theorem tl_get : ∀ (q : List Tld) (k : Nat) (x : Tld) (j : Nat), q[k]? = some x → j < 16 → (q.flatMap tldL)[k * 16 + j]? = (tldL x)[j]?
  | [], k, x, j, h, _ => by simp at h
  | y :: q, 0, x, j, h, hj => by
    simp at h
    subst h
    rw [List.flatMap_cons, Nat.zero_mul, Nat.zero_add, List.getElem?_append_left (by simpa using hj)]
  | y :: q, k + 1, x, j, h, hj => by
    simp at h
    have e1 : (k + 1) * 16 + j = (tldL y).length + (k * 16 + j) := by simp; omega
    rw [List.flatMap_cons, e1, List.getElem?_append_right (by omega), Nat.add_sub_cancel_left]
    exact tl_get q k x j h hj
/-- What holds ahead of each piece. -/
structure HoI (w3 : World) (fb : Nat) (lim : Int) (ps : List Bs) (k : Nat) (F : Fd) (wr : World) : Prop where
  hk : k ≤ ps.length
  fx : FX w3.heap.size wr fb F
  ok : F.Ok
  en : F.En
  lm : F.limit = lim.toNat
  tk : F.taken = ((ps.take k).flatten).length
  kp : Kp (XB w3.heap.size fb) w3 wr
  er : Er wr
theorem flat_take {ps : List Bs} {k : Nat} {p : Bs} (h : ps[k]? = some p) : ((ps.take (k + 1)).flatten).length = ((ps.take k).flatten).length + p.length := by
  rw [List.take_add_one, h]
  simp
theorem flat_le (ps : List Bs) (k : Nat) : ((ps.take k).flatten).length ≤ ps.flatten.length := by
  have : ps.flatten = (ps.take k).flatten ++ (ps.drop k).flatten := by rw [← List.flatten_append, List.take_append_drop]
  rw [this, List.length_append]
  omega
theorem HoI.next {w3 wr w' : World} {fb : Nat} {lim : Int} {ps : List Bs} {k : Nat} {F : Fd} (h : HoI w3 fb lim ps k F wr) {p : Bs} (hp : ps[k]? = some p) (fx : FX w3.heap.size w' fb (F.run p).1) (kp : Kp (XB w3.heap.size fb) wr w') (er : Er w') : HoI w3 fb lim ps (k + 1) (F.run p).1 w' := by
  have hk := (List.getElem?_eq_some_iff.1 hp).1
  refine ⟨by omega, fx, ok_run p h.ok, en_run p h.en, by rw [(run_facts p F).2.1]; exact h.lm, ?_, h.kp.trans kp (fun i hi => hi) (fun i hi => .inl hi), er⟩
  rw [(run_facts p F).1, h.tk, flat_take hp]
theorem HoI.move {w3 wr w' : World} {fb : Nat} {lim : Int} {ps : List Bs} {k : Nat} {F : Fd} (h : HoI w3 fb lim ps k F wr) (fx : FX w3.heap.size w' fb F) (kp : Kp (XB w3.heap.size fb) wr w') (er : Er w') : HoI w3 fb lim ps k F w' :=
  ⟨h.hk, fx, h.ok, h.en, h.lm, h.tk, h.kp.trans kp (fun i hi => hi) (fun i hi => .inl hi), er⟩
theorem HoI.bounds {w3 wr : World} {fb : Nat} {lim : Int} {ps : List Bs} {k : Nat} {F : Fd} (h : HoI w3 fb lim ps k F wr) (hf : ps.flatten.length ≤ 12000) : F.taken ≤ 12000 ∧ F.kept.length ≤ F.taken ∧ F.kept.length ≤ 2051 + lim.toNat := by
  have h1 := flat_le ps k
  have h2 := held_le h.ok
  have h3 := h.tk
  have h4 := h.lm
  omega
theorem HoI.quiet {w3 wr : World} {fb : Nat} {lim : Int} {ps : List Bs} {k : Nat} {F : Fd} (h : HoI w3 fb lim ps k F wr) {p : Bs} (hs : (F.run p).2 ≠ []) : F.ended = false := by
  cases he : F.ended with
  | false => rfl
  | true => exact absurd (by rw [run_over (h.en he)]) hs
set_option maxRecDepth 100000 in
set_option maxHeartbeats 4000000 in
theorem holds_4 {w : World} (hE : Er w) {ra oa ca : Option Addr} {rc on oc cc : Nat} {lim : Int} (hm1 : lim ≤ 9223372036854775807) (hm2 : -9223372036854775808 ≤ lim) {raw : Bs} {cs : List Int} (hr : Ck w (fun _ => False) (.slice ra raw.length rc) raw) (hc : Ci w (.slice ca cs.length cc) cs) (hcl : cs.length ≤ 9223372036854775807) :
    Calls Tryd.prog 4 #[.agg #[.slice ra raw.length rc, .int .i64 lim, .slice oa on oc, .slice ca cs.length cc]] w fun e w' => e = .returned (.bool true) ∧ w.grownBy w' none := by
  have b0 := Box.new w 26 #[.slice ra raw.length rc, .int .i64 lim, .slice oa on oc, .slice ca cs.length cc]
  have g0 := gb_alloc (gb_refl w none) (.cells #[.slice ra raw.length rc, .int .i64 lim, .slice oa on oc, .slice ca cs.length cc] 26)
  have hr0 : Ck (w.alloc (.cells #[.slice ra raw.length rc, .int .i64 lim, .slice oa on oc, .slice ca cs.length cc] 26)) (fun _ => False) (.slice ra raw.length rc) raw := hr.kp (Kp.of (F := fun _ => False) g0) (fun _ _ h => h.elim) (fun _ _ h => h.elim)
  go_enter Tryd.func4, Tryd.ntmps4
  go_upto_if 14 with (fail)
  go_cut [] from 11 to 18 (fun wc => ∃ ra' rn rc' raw', Box wc 26 w.heap.size #[.slice ra' rn rc', .int .i64 lim, .slice oa on oc, .slice ca cs.length cc] ∧ rn = raw'.length ∧ Ck wc (fun _ => False) (.slice ra' rn rc') raw' ∧ raw'.length ≤ 12000 ∧ w.grownBy wc none)
  case first =>
    by_cases hbig : (12000 : Int) < (raw.length : Int)
    · have hbd : decide ((12000 : Int) < (raw.length : Int)) = true := decide_eq_true hbig
      obtain ⟨g, o, c, e, h2, -, -, -⟩ := hr.by (by omega)
      injection e with e1 _ e2
      subst e1 e2
      have hrc2 : (12000 : Int) ≤ (rc : Int) := by omega
      go_wp2
      go_meet
      have g9 := gb_alloc (gb_refl w none) (.cells #[.slice (some ⟨g, o, none⟩) 12000 rc, .int .i64 lim, .slice oa on oc, .slice ca cs.length cc] 26)
      have hlt : (raw.take 12000).length = 12000 := by rw [List.length_take]; omega
      exact ⟨some ⟨g, o, none⟩, 12000, rc, raw.take 12000, Box.new w 26 _, hlt.symm, (hr.take 12000 (by omega)).kp (Kp.of (F := fun _ => False) g9) (fun _ _ h => h.elim) (fun _ _ h => h.elim), by omega, g9⟩
    · have hbd : decide ((12000 : Int) < (raw.length : Int)) = false := decide_eq_false hbig
      go_wp2
      go_meet
      exact ⟨ra, raw.length, rc, raw, b0, rfl, hr0, by omega, g0⟩
  case rest =>
    obtain ⟨ra', rn, rc', raw', b1, hrn, hr1, hlen, g1⟩ := hcut
    have hc1 := hc.kept g1
    have hE1 := hE.kept g1
    have w3sz : 2 < w.heap.size := by
      obtain ⟨-, c, d, e2⟩ := hE
      exact lt_of_cell e2
    have hlt1 := b1.lt
    have x0 : wc.cell? ⟨w.heap.size, 0, none⟩ = some (.slice ra' rn rc') := b1.cell 0
    have x1 : wc.cell? ⟨w.heap.size, 1, none⟩ = some (.int .i64 lim) := b1.cell 1
    have x3 : wc.cell? ⟨w.heap.size, 3, none⟩ = some (.slice ca cs.length cc) := b1.cell 3
    have h6 := new_41 wc lim hm1 hm2
    clear b0 g0 hr0 hr hc hE
    go_upto_region 7 with (go_at_call 6; go_must ((with_reducible refine h6.mono ?_); rintro e w2 ⟨rfl, i2, g2⟩; (have y0 := gb_cellN g2 x0); (have y1 := gb_cellN g2 x1); (have y3 := gb_cellN g2 x3)))
    have hr2 : Ck w2 (fun _ => False) (.slice ra' rn rc') raw' := hr1.kp (Kp.of (F := fun _ => False) g2) (fun _ _ h => h.elim) (fun _ _ h => h.elim)
    have hc2 := hc1.kept g2
    have hE2 := hE1.kept g2
    have h7 := pieces_49 hr2 hc2 (by omega) hcl
    have hflat : (pcs raw' cs).flatten = raw' := pcsF_flat _ _ _
    have hpl : (pcs raw' cs).length ≤ 401 := pcsF_len _ _ _
    generalize pcs raw' cs = ps at h7 hflat hpl
    have hfl : ps.flatten.length ≤ 12000 := by rw [hflat]; exact hlen
    have gw2 := gb_trans g1 g2
    obtain ⟨fb, hfb⟩ : ∃ fb, wc.heap.size = fb := ⟨_, rfl⟩
    have hfb0 : w.heap.size < fb := by omega
    have hfb2 : fb < w2.heap.size := by
      obtain ⟨_, _, _, _, _, hx, -, -⟩ := i2
      rw [← hfb]; exact hx.box.lt
    rw [hfb] at i2 ⊢
    clear hr1 hr2 hc1 hc2 hE1 h6 x0 x1 x3 g1 g2 b1 hflat hfb hlt1 hrn
    rcases (by omega : lim ≤ 0 ∨ (0 < lim ∧ lim ≤ 12000) ∨ 12000 < lim) with hL | ⟨hL, hL2⟩ | hL
    · have t1 : decide ((0 : Int) < lim) = false := decide_eq_false (by omega)
      have t2 : decide ((12000 : Int) < lim) = false := decide_eq_false (by omega)
      have hkb : ∀ F : Fd, F.taken ≤ 12000 ∧ F.kept.length ≤ F.taken ∧ F.kept.length ≤ 2051 + lim.toNat → (F.kept.length : Int) ≤ 2051 := fun F h => by omega
      go_upto_region 14 with (go_at_call 7; go_must ((with_reducible refine h7.mono ?_); rintro e w3 ⟨pv, vs, rfl, pr, pp, g3⟩; (obtain ⟨pa, pc, rfl, -, -, -, -⟩ := row_shape pr)))
      have hE3 := hE2.kept g3
      have hI0 : HoI w3 fb lim ps 0 (fd0 lim) w3 := ⟨Nat.zero_le _, ⟨_, i2.kept0 g3, fun k hk => by simp [Value.ownBlock] at hk⟩, fd0_ok hm1, (fun h => by cases h), rfl, rfl, Kp.refl _ _, hE3⟩
      have h23 := g3.size
      have hfin : ∀ (F : Nat × Fd) (wr w' : World), HoI w3 fb lim ps F.1 F.2 wr → wr.grownBy w' none → w.grownBy w' none := by
        intro F wr w' hI hg
        exact (((Kp.of (F := fun j => w.heap.size ≤ j) (gb_trans gw2 g3)).trans hI.kp (fun i h => h) (fun i h => by
          left
          rcases h with e | e
          · omega
          · have := gw2.size; omega)).trans (Kp.of (F := fun _ => False) hg) (fun i h => h) (fun i h => h.elim)).grown (fun i h => h)
      clear h7 i2 hE2 hE3 y0 y1 y3 gw2
      go_wp2
      go_loopg [5, 6, 8, 9, 10] ps.length (fun gk x5 x6 x8 x9 x10 wr => ∃ k F, gk + k = ps.length ∧ x8 = .int .i64 ((k : Nat) : Int) ∧ x5 = .int .i64 ((F : Fd).taken : Int) ∧ x6 = .bool F.ended ∧ HoI w3 fb lim ps k F wr)
      case atStart => exact ⟨0, fd0 lim, rfl, rfl, rfl, rfl, hI0⟩
      case round =>
        clear hI0
        obtain ⟨k, F, hgk, rfl, rfl, rfl, hI⟩ := hrel
        by_cases hk : k = ps.length
        · have hd : decide (k < ps.length) = false := decide_eq_false (by omega)
          have h5 := wakes_48 hI.er
          have hf := fun w' => hfin (k, F) wr w' hI
          clear hI hfin hk hgk
          go_wp2_with (go_at_call 5; go_must ((with_reducible refine h5.mono ?_); rintro e w9 ⟨rfl, g9⟩))
          go_ret
          exact ⟨rfl, hf _ g9⟩
        · have hkl : k < ps.length := by have := hI.hk; omega
          obtain ⟨p, hp⟩ : ∃ p, ps[k]? = some p := ⟨_, List.getElem?_eq_getElem hkl⟩
          obtain ⟨x, hx⟩ : ∃ x, vs[k]? = some x := ⟨_, List.getElem?_eq_getElem (by rw [pp.1]; exact hkl)⟩
          have prow := pp.2 k p x hp hx
          obtain ⟨xa, xc, rfl, -, -, -, -⟩ := row_shape prow
          obtain ⟨pa2, pc2, epv, -, -, -, hpg⟩ := row_shape pr
          obtain ⟨pg, hpg⟩ := hpg (by omega)
          injection epv with epv _ epc
          rw [hpg] at epv
          subst epv
          clear hpg epc
          have hpgl := World.ownsRow.lt pr pg rfl
          have cell3 := row_cell pr k _ hx
          have hbk : ∀ j, w2.heap.size ≤ j → j < w3.heap.size → ¬ XB w3.heap.size fb j := by
            rintro j h1 h2 (e | e) <;> omega
          have hpx : ∀ j, (Value.slice xa p.length xc).ownBlock = some j → ¬ XB w3.heap.size fb j := fun j hj => hbk j (World.ownsRow.lt prow j hj).1 (row_lt prow j hj)
          have cellr : ∀ {wr' : World}, Kp (XB w3.heap.size fb) w3 wr' → wr'.cell? ⟨pg, k, none⟩ = some (.slice xa p.length xc) := by
            intro wr' hkp
            have := hkp.block pg hpgl.2 (hbk pg hpgl.1 hpgl.2)
            simpa [World.cell?, this] using cell3
          have d0 := cellr hI.kp
          have hck : Ck wr (XB w3.heap.size fb) (.slice xa p.length xc) p := ck_own (row_kp prow hI.kp hpx) hpx
          have hbd := hI.bounds hfl
          have hpl2 : F.taken + p.length ≤ 12000 := by
            have h1 := flat_take hp
            have h2 := flat_le ps (k + 1)
            have h3 := hI.tk
            omega
          have hfeed := hI.fx.feed (by omega) (by omega) (hI.kp.size) hI.ok hck (by omega) (by omega) hI.er
          have hd : decide (k < ps.length) = true := decide_eq_true hkl
          clear hck
          go_upto_region 18 with (go_at_call 8; go_must ((with_reducible refine hfeed.mono ?_); rintro e w4 ⟨rv, q, rfl, f4, ⟨X, s4⟩, e4, k4, er4⟩; (obtain ⟨la, lc, rfl, -, -, -, hlg⟩ := row_shape s4.row)))
          have hN := hI.next hp f4 k4 er4
          have hto : ∀ s ∈ q, F.taken < s.s.to ∧ s.s.to ≤ F.taken + p.length := fun s hs => (run_facts p F).2.2 s.s (by rw [← e4]; exact List.mem_map_of_mem hs)
          have hqe : 0 < q.length → F.ended = false := fun h0 => hI.quiet (p := p) (fun e => by
            rw [e] at e4
            have h9 : q = [] := by simpa using e4
            rw [h9] at h0
            simp at h0)
          have cell4 := cellr hN.kp
          clear hfeed f4 k4 er4 d0
          have rcell : ∀ j y, q[j]? = some y → ∃ lg, la = some ⟨lg, 0, none⟩ ∧ w4.cell? ⟨lg, j * 16 + 15, none⟩ = some (.int .i64 (y.s.to : Int)) := by
            intro j y hj
            have hjl := (List.getElem?_eq_some_iff.1 hj).1
            obtain ⟨lg, rfl⟩ := hlg (by omega)
            refine ⟨lg, rfl, row_cell s4.row _ _ ?_⟩
            rw [tl_get q j y 15 hj (by omega)]
            rfl
          have hqmax : q.length ≤ 9223372036854775807 := by
            obtain ⟨_, _, e, -, h1, h2, -⟩ := row_shape s4.row
            unfold maxLen at h2
            omega
          clear s4 hlg e4 X cell3 hpx pp pr prow hbk hx
          go_wp2
          go_loopw [10] (fun x wr2 => ∃ j : Nat, j ≤ q.length ∧ x = .int .i64 (j : Int) ∧ w4.grownBy wr2 none) (fun x _ => q.length - (intOf x).toNat)
          case atStart => exact ⟨0, Nat.zero_le _, rfl, gb_refl _ _⟩
          case round =>
            obtain ⟨j, hj, rfl, hg⟩ := hrel
            rcases (by omega : j < q.length ∨ j = q.length) with hjl | hje
            · obtain ⟨y, hy⟩ : ∃ y, q[j]? = some y := ⟨_, List.getElem?_eq_getElem hjl⟩
              obtain ⟨lg, rfl, c15⟩ := rcell j y hy
              obtain ⟨to1, to2⟩ := hto y (List.mem_of_getElem? hy)
              have hen := hqe (by omega)
              replace c15 := gb_cellN hg c15
              have c4r := gb_cellN hg cell4
              have u1 : decide ((y.s.to : Int) ≤ (F.taken : Int)) = false := decide_eq_false (by omega)
              have u1b : decide (y.s.to ≤ F.taken) = false := decide_eq_false (by omega)
              have u2 : IntKind.i64.wrap ((F.taken : Int) + (p.length : Int)) = (F.taken : Int) + (p.length : Int) := by rw [IntKind.wrap_i64]; omega
              have u3 : decide ((F.taken : Int) + (p.length : Int) < (y.s.to : Int)) = false := decide_eq_false (by omega)
              have u4 : decide ((j : Int) < (q.length : Int)) = true := decide_eq_true (by omega)
              have u5 : IntKind.i64.wrap ((j : Int) + 1) = (j : Int) + 1 := by rw [IntKind.wrap_i64]; omega
              clear rcell hto hqe hN hI hy cellr cell4 hfin
              simp only [hen] at *
              clear hen
              go_wp2
              go_quiet (fail)
              go_wp2
              refine ⟨⟨j + 1, by omega, by simp, gb_drewN hg _⟩, by simp [intOf]; omega⟩
            · have f5 := hN.fx.kept0 hg
              have hNr := hN.move f5 (Kp.of hg) (hN.er.kept hg)
              have eT : (F.run p).1.taken = F.taken + p.length := (run_facts p F).1
              have c4r := gb_cellN hg cell4
              obtain ⟨F', hF'⟩ : ∃ F', (F.run p).1 = F' := ⟨_, rfl⟩
              rw [hF'] at f5 hNr eT
              have hb2 := hNr.bounds hfl
              have hk2 := hkb F' hb2
              have h9 := f5.ended
              have h10 := f5.held
              have h8 := f5.feed (by omega) (by omega) hNr.kp.size hNr.ok (v := .slice none 0 0) (l := []) (.inl ⟨rfl, rfl⟩) (by simp) (by simp; omega) hNr.er
              have hmv := fun w5 => hNr.move (w' := w5)
              obtain ⟨K, hK⟩ : ∃ K, F'.kept.length = K := ⟨_, rfl⟩
              rw [hK] at hb2 hk2 h10
              have u2 : IntKind.i64.wrap ((F.taken : Int) + (p.length : Int)) = (F.taken : Int) + (p.length : Int) := by rw [IntKind.wrap_i64]; omega
              have u4 : decide ((j : Int) < (q.length : Int)) = false := decide_eq_false (by omega)
              have u4b : decide (j < q.length) = false := decide_eq_false (by omega)
              have u5 : IntKind.i64.wrap ((k : Int) + 1) = (k : Int) + 1 := by rw [IntKind.wrap_i64]; omega
              have u6 : decide ((K : Int) < 0) = false := decide_eq_false (by omega)
              have u7 : decide ((2051 : Int) < (K : Int)) = false := decide_eq_false (by omega)
              have u8 : decide ((F.taken : Int) + (p.length : Int) < (K : Int)) = false := decide_eq_false (by omega)
              have hgk1 : gk - 1 < gk := by omega
              have A : Aside (gk + k = ps.length ∧ F'.taken = F.taken + p.length) := ⟨hgk, eT⟩
              clear rcell hto hqe hN hI cellr cell4 hfin hje hK hF' hNr f5 eT hgk hb2 hk2 hkb
              go_wp2_with (first | (go_at_call 9; go_must ((with_reducible refine h9.mono ?_); rintro e w8 ⟨rfl, rfl⟩)) | (go_at_call 10; go_must ((with_reducible refine h10.mono ?_); rintro e w8 ⟨rfl, rfl⟩)) | (go_at_call 8; go_must ((with_reducible refine h8.mono ?_); rintro e w5 ⟨rv5, q5, rfl, f6, ⟨X5, s5⟩, e5, k5, er5⟩; (obtain ⟨a5, c5, rfl⟩ := s5.none e5))))
              go_roundg (gk - 1)
              case measure => exact hgk1
              case rel =>
                obtain ⟨a1, a2⟩ := A.out
                refine ⟨k + 1, F', by omega, by simp, by rw [a2]; simp, rfl, hmv _ f6 k5 er5⟩
    · have t1 : decide ((0 : Int) < lim) = true := decide_eq_true (by omega)
      have t3 : decide (lim ≤ 12000) = true := decide_eq_true (by omega)
      have t2 : decide ((12000 : Int) < lim) = false := decide_eq_false (by omega)
      have t4 : IntKind.i64.wrap (2051 + lim) = 2051 + lim := by rw [IntKind.wrap_i64]; omega
      have hkb : ∀ F : Fd, F.taken ≤ 12000 ∧ F.kept.length ≤ F.taken ∧ F.kept.length ≤ 2051 + lim.toNat → (F.kept.length : Int) ≤ 2051 + lim := fun F h => by omega
      go_upto_region 14 with (go_at_call 7; go_must ((with_reducible refine h7.mono ?_); rintro e w3 ⟨pv, vs, rfl, pr, pp, g3⟩; (obtain ⟨pa, pc, rfl, -, -, -, -⟩ := row_shape pr)))
      have hE3 := hE2.kept g3
      have hI0 : HoI w3 fb lim ps 0 (fd0 lim) w3 := ⟨Nat.zero_le _, ⟨_, i2.kept0 g3, fun k hk => by simp [Value.ownBlock] at hk⟩, fd0_ok hm1, (fun h => by cases h), rfl, rfl, Kp.refl _ _, hE3⟩
      have h23 := g3.size
      have hfin : ∀ (F : Nat × Fd) (wr w' : World), HoI w3 fb lim ps F.1 F.2 wr → wr.grownBy w' none → w.grownBy w' none := by
        intro F wr w' hI hg
        exact (((Kp.of (F := fun j => w.heap.size ≤ j) (gb_trans gw2 g3)).trans hI.kp (fun i h => h) (fun i h => by
          left
          rcases h with e | e
          · omega
          · have := gw2.size; omega)).trans (Kp.of (F := fun _ => False) hg) (fun i h => h) (fun i h => h.elim)).grown (fun i h => h)
      clear h7 i2 hE2 hE3 y0 y1 y3 gw2
      go_wp2
      go_loopg [5, 6, 8, 9, 10] ps.length (fun gk x5 x6 x8 x9 x10 wr => ∃ k F, gk + k = ps.length ∧ x8 = .int .i64 ((k : Nat) : Int) ∧ x5 = .int .i64 ((F : Fd).taken : Int) ∧ x6 = .bool F.ended ∧ HoI w3 fb lim ps k F wr)
      case atStart => exact ⟨0, fd0 lim, rfl, rfl, rfl, rfl, hI0⟩
      case round =>
        clear hI0
        obtain ⟨k, F, hgk, rfl, rfl, rfl, hI⟩ := hrel
        by_cases hk : k = ps.length
        · have hd : decide (k < ps.length) = false := decide_eq_false (by omega)
          have h5 := wakes_48 hI.er
          have hf := fun w' => hfin (k, F) wr w' hI
          clear hI hfin hk hgk
          go_wp2_with (go_at_call 5; go_must ((with_reducible refine h5.mono ?_); rintro e w9 ⟨rfl, g9⟩))
          go_ret
          exact ⟨rfl, hf _ g9⟩
        · have hkl : k < ps.length := by have := hI.hk; omega
          obtain ⟨p, hp⟩ : ∃ p, ps[k]? = some p := ⟨_, List.getElem?_eq_getElem hkl⟩
          obtain ⟨x, hx⟩ : ∃ x, vs[k]? = some x := ⟨_, List.getElem?_eq_getElem (by rw [pp.1]; exact hkl)⟩
          have prow := pp.2 k p x hp hx
          obtain ⟨xa, xc, rfl, -, -, -, -⟩ := row_shape prow
          obtain ⟨pa2, pc2, epv, -, -, -, hpg⟩ := row_shape pr
          obtain ⟨pg, hpg⟩ := hpg (by omega)
          injection epv with epv _ epc
          rw [hpg] at epv
          subst epv
          clear hpg epc
          have hpgl := World.ownsRow.lt pr pg rfl
          have cell3 := row_cell pr k _ hx
          have hbk : ∀ j, w2.heap.size ≤ j → j < w3.heap.size → ¬ XB w3.heap.size fb j := by
            rintro j h1 h2 (e | e) <;> omega
          have hpx : ∀ j, (Value.slice xa p.length xc).ownBlock = some j → ¬ XB w3.heap.size fb j := fun j hj => hbk j (World.ownsRow.lt prow j hj).1 (row_lt prow j hj)
          have cellr : ∀ {wr' : World}, Kp (XB w3.heap.size fb) w3 wr' → wr'.cell? ⟨pg, k, none⟩ = some (.slice xa p.length xc) := by
            intro wr' hkp
            have := hkp.block pg hpgl.2 (hbk pg hpgl.1 hpgl.2)
            simpa [World.cell?, this] using cell3
          have d0 := cellr hI.kp
          have hck : Ck wr (XB w3.heap.size fb) (.slice xa p.length xc) p := ck_own (row_kp prow hI.kp hpx) hpx
          have hbd := hI.bounds hfl
          have hpl2 : F.taken + p.length ≤ 12000 := by
            have h1 := flat_take hp
            have h2 := flat_le ps (k + 1)
            have h3 := hI.tk
            omega
          have hfeed := hI.fx.feed (by omega) (by omega) (hI.kp.size) hI.ok hck (by omega) (by omega) hI.er
          have hd : decide (k < ps.length) = true := decide_eq_true hkl
          clear hck
          go_upto_region 18 with (go_at_call 8; go_must ((with_reducible refine hfeed.mono ?_); rintro e w4 ⟨rv, q, rfl, f4, ⟨X, s4⟩, e4, k4, er4⟩; (obtain ⟨la, lc, rfl, -, -, -, hlg⟩ := row_shape s4.row)))
          have hN := hI.next hp f4 k4 er4
          have hto : ∀ s ∈ q, F.taken < s.s.to ∧ s.s.to ≤ F.taken + p.length := fun s hs => (run_facts p F).2.2 s.s (by rw [← e4]; exact List.mem_map_of_mem hs)
          have hqe : 0 < q.length → F.ended = false := fun h0 => hI.quiet (p := p) (fun e => by
            rw [e] at e4
            have h9 : q = [] := by simpa using e4
            rw [h9] at h0
            simp at h0)
          have cell4 := cellr hN.kp
          clear hfeed f4 k4 er4 d0
          have rcell : ∀ j y, q[j]? = some y → ∃ lg, la = some ⟨lg, 0, none⟩ ∧ w4.cell? ⟨lg, j * 16 + 15, none⟩ = some (.int .i64 (y.s.to : Int)) := by
            intro j y hj
            have hjl := (List.getElem?_eq_some_iff.1 hj).1
            obtain ⟨lg, rfl⟩ := hlg (by omega)
            refine ⟨lg, rfl, row_cell s4.row _ _ ?_⟩
            rw [tl_get q j y 15 hj (by omega)]
            rfl
          have hqmax : q.length ≤ 9223372036854775807 := by
            obtain ⟨_, _, e, -, h1, h2, -⟩ := row_shape s4.row
            unfold maxLen at h2
            omega
          clear s4 hlg e4 X cell3 hpx pp pr prow hbk hx
          go_wp2
          go_loopw [10] (fun x wr2 => ∃ j : Nat, j ≤ q.length ∧ x = .int .i64 (j : Int) ∧ w4.grownBy wr2 none) (fun x _ => q.length - (intOf x).toNat)
          case atStart => exact ⟨0, Nat.zero_le _, rfl, gb_refl _ _⟩
          case round =>
            obtain ⟨j, hj, rfl, hg⟩ := hrel
            rcases (by omega : j < q.length ∨ j = q.length) with hjl | hje
            · obtain ⟨y, hy⟩ : ∃ y, q[j]? = some y := ⟨_, List.getElem?_eq_getElem hjl⟩
              obtain ⟨lg, rfl, c15⟩ := rcell j y hy
              obtain ⟨to1, to2⟩ := hto y (List.mem_of_getElem? hy)
              have hen := hqe (by omega)
              replace c15 := gb_cellN hg c15
              have c4r := gb_cellN hg cell4
              have u1 : decide ((y.s.to : Int) ≤ (F.taken : Int)) = false := decide_eq_false (by omega)
              have u1b : decide (y.s.to ≤ F.taken) = false := decide_eq_false (by omega)
              have u2 : IntKind.i64.wrap ((F.taken : Int) + (p.length : Int)) = (F.taken : Int) + (p.length : Int) := by rw [IntKind.wrap_i64]; omega
              have u3 : decide ((F.taken : Int) + (p.length : Int) < (y.s.to : Int)) = false := decide_eq_false (by omega)
              have u4 : decide ((j : Int) < (q.length : Int)) = true := decide_eq_true (by omega)
              have u5 : IntKind.i64.wrap ((j : Int) + 1) = (j : Int) + 1 := by rw [IntKind.wrap_i64]; omega
              clear rcell hto hqe hN hI hy cellr cell4 hfin
              simp only [hen] at *
              clear hen
              go_wp2
              go_quiet (fail)
              go_wp2
              refine ⟨⟨j + 1, by omega, by simp, gb_drewN hg _⟩, by simp [intOf]; omega⟩
            · have f5 := hN.fx.kept0 hg
              have hNr := hN.move f5 (Kp.of hg) (hN.er.kept hg)
              have eT : (F.run p).1.taken = F.taken + p.length := (run_facts p F).1
              have c4r := gb_cellN hg cell4
              obtain ⟨F', hF'⟩ : ∃ F', (F.run p).1 = F' := ⟨_, rfl⟩
              rw [hF'] at f5 hNr eT
              have hb2 := hNr.bounds hfl
              have hk2 := hkb F' hb2
              have h9 := f5.ended
              have h10 := f5.held
              have h8 := f5.feed (by omega) (by omega) hNr.kp.size hNr.ok (v := .slice none 0 0) (l := []) (.inl ⟨rfl, rfl⟩) (by simp) (by simp; omega) hNr.er
              have hmv := fun w5 => hNr.move (w' := w5)
              obtain ⟨K, hK⟩ : ∃ K, F'.kept.length = K := ⟨_, rfl⟩
              rw [hK] at hb2 hk2 h10
              have u2 : IntKind.i64.wrap ((F.taken : Int) + (p.length : Int)) = (F.taken : Int) + (p.length : Int) := by rw [IntKind.wrap_i64]; omega
              have u4 : decide ((j : Int) < (q.length : Int)) = false := decide_eq_false (by omega)
              have u4b : decide (j < q.length) = false := decide_eq_false (by omega)
              have u5 : IntKind.i64.wrap ((k : Int) + 1) = (k : Int) + 1 := by rw [IntKind.wrap_i64]; omega
              have u6 : decide ((K : Int) < 0) = false := decide_eq_false (by omega)
              have u7 : decide ((2051 + lim : Int) < (K : Int)) = false := decide_eq_false (by omega)
              have u8 : decide ((F.taken : Int) + (p.length : Int) < (K : Int)) = false := decide_eq_false (by omega)
              have hgk1 : gk - 1 < gk := by omega
              have A : Aside (gk + k = ps.length ∧ F'.taken = F.taken + p.length) := ⟨hgk, eT⟩
              clear rcell hto hqe hN hI cellr cell4 hfin hje hK hF' hNr f5 eT hgk hb2 hk2 hkb
              go_wp2_with (first | (go_at_call 9; go_must ((with_reducible refine h9.mono ?_); rintro e w8 ⟨rfl, rfl⟩)) | (go_at_call 10; go_must ((with_reducible refine h10.mono ?_); rintro e w8 ⟨rfl, rfl⟩)) | (go_at_call 8; go_must ((with_reducible refine h8.mono ?_); rintro e w5 ⟨rv5, q5, rfl, f6, ⟨X5, s5⟩, e5, k5, er5⟩; (obtain ⟨a5, c5, rfl⟩ := s5.none e5))))
              go_roundg (gk - 1)
              case measure => exact hgk1
              case rel =>
                obtain ⟨a1, a2⟩ := A.out
                refine ⟨k + 1, F', by omega, by simp, by rw [a2]; simp, rfl, hmv _ f6 k5 er5⟩
    · have t1 : decide ((0 : Int) < lim) = true := decide_eq_true (by omega)
      have t3 : decide (lim ≤ 12000) = false := decide_eq_false (by omega)
      have t2 : decide ((12000 : Int) < lim) = true := decide_eq_true (by omega)
      have hkb : ∀ F : Fd, F.taken ≤ 12000 ∧ F.kept.length ≤ F.taken ∧ F.kept.length ≤ 2051 + lim.toNat → (F.kept.length : Int) ≤ 14051 := fun F h => by omega
      go_upto_region 14 with (go_at_call 7; go_must ((with_reducible refine h7.mono ?_); rintro e w3 ⟨pv, vs, rfl, pr, pp, g3⟩; (obtain ⟨pa, pc, rfl, -, -, -, -⟩ := row_shape pr)))
      have hE3 := hE2.kept g3
      have hI0 : HoI w3 fb lim ps 0 (fd0 lim) w3 := ⟨Nat.zero_le _, ⟨_, i2.kept0 g3, fun k hk => by simp [Value.ownBlock] at hk⟩, fd0_ok hm1, (fun h => by cases h), rfl, rfl, Kp.refl _ _, hE3⟩
      have h23 := g3.size
      have hfin : ∀ (F : Nat × Fd) (wr w' : World), HoI w3 fb lim ps F.1 F.2 wr → wr.grownBy w' none → w.grownBy w' none := by
        intro F wr w' hI hg
        exact (((Kp.of (F := fun j => w.heap.size ≤ j) (gb_trans gw2 g3)).trans hI.kp (fun i h => h) (fun i h => by
          left
          rcases h with e | e
          · omega
          · have := gw2.size; omega)).trans (Kp.of (F := fun _ => False) hg) (fun i h => h) (fun i h => h.elim)).grown (fun i h => h)
      clear h7 i2 hE2 hE3 y0 y1 y3 gw2
      go_wp2
      go_loopg [5, 6, 8, 9, 10] ps.length (fun gk x5 x6 x8 x9 x10 wr => ∃ k F, gk + k = ps.length ∧ x8 = .int .i64 ((k : Nat) : Int) ∧ x5 = .int .i64 ((F : Fd).taken : Int) ∧ x6 = .bool F.ended ∧ HoI w3 fb lim ps k F wr)
      case atStart => exact ⟨0, fd0 lim, rfl, rfl, rfl, rfl, hI0⟩
      case round =>
        clear hI0
        obtain ⟨k, F, hgk, rfl, rfl, rfl, hI⟩ := hrel
        by_cases hk : k = ps.length
        · have hd : decide (k < ps.length) = false := decide_eq_false (by omega)
          have h5 := wakes_48 hI.er
          have hf := fun w' => hfin (k, F) wr w' hI
          clear hI hfin hk hgk
          go_wp2_with (go_at_call 5; go_must ((with_reducible refine h5.mono ?_); rintro e w9 ⟨rfl, g9⟩))
          go_ret
          exact ⟨rfl, hf _ g9⟩
        · have hkl : k < ps.length := by have := hI.hk; omega
          obtain ⟨p, hp⟩ : ∃ p, ps[k]? = some p := ⟨_, List.getElem?_eq_getElem hkl⟩
          obtain ⟨x, hx⟩ : ∃ x, vs[k]? = some x := ⟨_, List.getElem?_eq_getElem (by rw [pp.1]; exact hkl)⟩
          have prow := pp.2 k p x hp hx
          obtain ⟨xa, xc, rfl, -, -, -, -⟩ := row_shape prow
          obtain ⟨pa2, pc2, epv, -, -, -, hpg⟩ := row_shape pr
          obtain ⟨pg, hpg⟩ := hpg (by omega)
          injection epv with epv _ epc
          rw [hpg] at epv
          subst epv
          clear hpg epc
          have hpgl := World.ownsRow.lt pr pg rfl
          have cell3 := row_cell pr k _ hx
          have hbk : ∀ j, w2.heap.size ≤ j → j < w3.heap.size → ¬ XB w3.heap.size fb j := by
            rintro j h1 h2 (e | e) <;> omega
          have hpx : ∀ j, (Value.slice xa p.length xc).ownBlock = some j → ¬ XB w3.heap.size fb j := fun j hj => hbk j (World.ownsRow.lt prow j hj).1 (row_lt prow j hj)
          have cellr : ∀ {wr' : World}, Kp (XB w3.heap.size fb) w3 wr' → wr'.cell? ⟨pg, k, none⟩ = some (.slice xa p.length xc) := by
            intro wr' hkp
            have := hkp.block pg hpgl.2 (hbk pg hpgl.1 hpgl.2)
            simpa [World.cell?, this] using cell3
          have d0 := cellr hI.kp
          have hck : Ck wr (XB w3.heap.size fb) (.slice xa p.length xc) p := ck_own (row_kp prow hI.kp hpx) hpx
          have hbd := hI.bounds hfl
          have hpl2 : F.taken + p.length ≤ 12000 := by
            have h1 := flat_take hp
            have h2 := flat_le ps (k + 1)
            have h3 := hI.tk
            omega
          have hfeed := hI.fx.feed (by omega) (by omega) (hI.kp.size) hI.ok hck (by omega) (by omega) hI.er
          have hd : decide (k < ps.length) = true := decide_eq_true hkl
          clear hck
          go_upto_region 18 with (go_at_call 8; go_must ((with_reducible refine hfeed.mono ?_); rintro e w4 ⟨rv, q, rfl, f4, ⟨X, s4⟩, e4, k4, er4⟩; (obtain ⟨la, lc, rfl, -, -, -, hlg⟩ := row_shape s4.row)))
          have hN := hI.next hp f4 k4 er4
          have hto : ∀ s ∈ q, F.taken < s.s.to ∧ s.s.to ≤ F.taken + p.length := fun s hs => (run_facts p F).2.2 s.s (by rw [← e4]; exact List.mem_map_of_mem hs)
          have hqe : 0 < q.length → F.ended = false := fun h0 => hI.quiet (p := p) (fun e => by
            rw [e] at e4
            have h9 : q = [] := by simpa using e4
            rw [h9] at h0
            simp at h0)
          have cell4 := cellr hN.kp
          clear hfeed f4 k4 er4 d0
          have rcell : ∀ j y, q[j]? = some y → ∃ lg, la = some ⟨lg, 0, none⟩ ∧ w4.cell? ⟨lg, j * 16 + 15, none⟩ = some (.int .i64 (y.s.to : Int)) := by
            intro j y hj
            have hjl := (List.getElem?_eq_some_iff.1 hj).1
            obtain ⟨lg, rfl⟩ := hlg (by omega)
            refine ⟨lg, rfl, row_cell s4.row _ _ ?_⟩
            rw [tl_get q j y 15 hj (by omega)]
            rfl
          have hqmax : q.length ≤ 9223372036854775807 := by
            obtain ⟨_, _, e, -, h1, h2, -⟩ := row_shape s4.row
            unfold maxLen at h2
            omega
          clear s4 hlg e4 X cell3 hpx pp pr prow hbk hx
          go_wp2
          go_loopw [10] (fun x wr2 => ∃ j : Nat, j ≤ q.length ∧ x = .int .i64 (j : Int) ∧ w4.grownBy wr2 none) (fun x _ => q.length - (intOf x).toNat)
          case atStart => exact ⟨0, Nat.zero_le _, rfl, gb_refl _ _⟩
          case round =>
            obtain ⟨j, hj, rfl, hg⟩ := hrel
            rcases (by omega : j < q.length ∨ j = q.length) with hjl | hje
            · obtain ⟨y, hy⟩ : ∃ y, q[j]? = some y := ⟨_, List.getElem?_eq_getElem hjl⟩
              obtain ⟨lg, rfl, c15⟩ := rcell j y hy
              obtain ⟨to1, to2⟩ := hto y (List.mem_of_getElem? hy)
              have hen := hqe (by omega)
              replace c15 := gb_cellN hg c15
              have c4r := gb_cellN hg cell4
              have u1 : decide ((y.s.to : Int) ≤ (F.taken : Int)) = false := decide_eq_false (by omega)
              have u1b : decide (y.s.to ≤ F.taken) = false := decide_eq_false (by omega)
              have u2 : IntKind.i64.wrap ((F.taken : Int) + (p.length : Int)) = (F.taken : Int) + (p.length : Int) := by rw [IntKind.wrap_i64]; omega
              have u3 : decide ((F.taken : Int) + (p.length : Int) < (y.s.to : Int)) = false := decide_eq_false (by omega)
              have u4 : decide ((j : Int) < (q.length : Int)) = true := decide_eq_true (by omega)
              have u5 : IntKind.i64.wrap ((j : Int) + 1) = (j : Int) + 1 := by rw [IntKind.wrap_i64]; omega
              clear rcell hto hqe hN hI hy cellr cell4 hfin
              simp only [hen] at *
              clear hen
              go_wp2
              go_quiet (fail)
              go_wp2
              refine ⟨⟨j + 1, by omega, by simp, gb_drewN hg _⟩, by simp [intOf]; omega⟩
            · have f5 := hN.fx.kept0 hg
              have hNr := hN.move f5 (Kp.of hg) (hN.er.kept hg)
              have eT : (F.run p).1.taken = F.taken + p.length := (run_facts p F).1
              have c4r := gb_cellN hg cell4
              obtain ⟨F', hF'⟩ : ∃ F', (F.run p).1 = F' := ⟨_, rfl⟩
              rw [hF'] at f5 hNr eT
              have hb2 := hNr.bounds hfl
              have hk2 := hkb F' hb2
              have h9 := f5.ended
              have h10 := f5.held
              have h8 := f5.feed (by omega) (by omega) hNr.kp.size hNr.ok (v := .slice none 0 0) (l := []) (.inl ⟨rfl, rfl⟩) (by simp) (by simp; omega) hNr.er
              have hmv := fun w5 => hNr.move (w' := w5)
              obtain ⟨K, hK⟩ : ∃ K, F'.kept.length = K := ⟨_, rfl⟩
              rw [hK] at hb2 hk2 h10
              have u2 : IntKind.i64.wrap ((F.taken : Int) + (p.length : Int)) = (F.taken : Int) + (p.length : Int) := by rw [IntKind.wrap_i64]; omega
              have u4 : decide ((j : Int) < (q.length : Int)) = false := decide_eq_false (by omega)
              have u4b : decide (j < q.length) = false := decide_eq_false (by omega)
              have u5 : IntKind.i64.wrap ((k : Int) + 1) = (k : Int) + 1 := by rw [IntKind.wrap_i64]; omega
              have u6 : decide ((K : Int) < 0) = false := decide_eq_false (by omega)
              have u7 : decide ((14051 : Int) < (K : Int)) = false := decide_eq_false (by omega)
              have u8 : decide ((F.taken : Int) + (p.length : Int) < (K : Int)) = false := decide_eq_false (by omega)
              have hgk1 : gk - 1 < gk := by omega
              have A : Aside (gk + k = ps.length ∧ F'.taken = F.taken + p.length) := ⟨hgk, eT⟩
              clear rcell hto hqe hN hI cellr cell4 hfin hje hK hF' hNr f5 eT hgk hb2 hk2 hkb
              go_wp2_with (first | (go_at_call 9; go_must ((with_reducible refine h9.mono ?_); rintro e w8 ⟨rfl, rfl⟩)) | (go_at_call 10; go_must ((with_reducible refine h10.mono ?_); rintro e w8 ⟨rfl, rfl⟩)) | (go_at_call 8; go_must ((with_reducible refine h8.mono ?_); rintro e w5 ⟨rv5, q5, rfl, f6, ⟨X5, s5⟩, e5, k5, er5⟩; (obtain ⟨a5, c5, rfl⟩ := s5.none e5))))
              go_roundg (gk - 1)
              case measure => exact hgk1
              case rel =>
                obtain ⟨a1, a2⟩ := A.out
                refine ⟨k + 1, F', by omega, by simp, by rw [a2]; simp, rfl, hmv _ f6 k5 er5⟩
end Go.Proofs.YtobegepebochkaaDoor

/-
  The document's wheel: Due; handles.
-/
import Derived.Test.YtagcmfaljfaikaaRb
namespace Go.Proofs.Ytagcmfaljfaikaa
open Go.RowKit
set_option linter.unusedVariables false

theorem Told.tail {S : En → Prop} {now most : Int} {a : En} {t : List En} (h : Told S now most (a :: t)) : Told (fun y => S y ∧ y ≠ a) now (most - 1) t := by
  have hp := h.pw
  rw [List.pairwise_cons] at hp
  refine ⟨hp.2, fun d hd => ⟨⟨(h.inn d (by simp [hd])).1, fun e => by subst e; exact ah_irrefl _ (hp.1 d hd)⟩, (h.inn d (by simp [hd])).2⟩, fun d hd y hy hx hn => h.lo d (by simp [hd]) y hy.1 hx (by simp; exact ⟨hy.2, hn⟩), fun hl y hy hx => ?_, ?_⟩
  · have := h.all (by simp; omega) y hy.1 hx
    simp at this
    rcases this with e | e
    · exact absurd e hy.2
    · exact e
  · have := h.len
    simp at this
    omega
/-- Due's answer is one -/
theorem told_one : ∀ (ds es : List En) (S : En → Prop) (now most : Int), Told S now most ds → Told S now most es → ds = es
  | [], [], _, _, _, _, _ => rfl
  | [], b :: es, S, now, most, h1, h2 => by
    have hl := h2.len
    simp at hl
    have := h1.all (by simp; omega) b (h2.inn b (by simp)).1 (h2.inn b (by simp)).2
    simp at this
  | a :: ds, [], S, now, most, h1, h2 => by
    have hl := h1.len
    simp at hl
    have := h2.all (by simp; omega) a (h1.inn a (by simp)).1 (h1.inn a (by simp)).2
    simp at this
  | a :: ds, b :: es, S, now, most, h1, h2 => by
    have key : ∀ {a b : En} {ds es : List En}, Told S now most (a :: ds) → Told S now most (b :: es) → a = b ∨ ah b a := by
      intro a b ds es h1 h2
      have ha := h1.inn a (by simp)
      by_cases hm : a ∈ b :: es
      · simp at hm
        rcases hm with e | e
        · exact .inl e
        · have := h2.pw
          rw [List.pairwise_cons] at this
          exact .inr (this.1 a e)
      · exact .inr (h2.lo b (by simp) a ha.1 ha.2 hm)
    have hab : a = b := by
      rcases key h1 h2 with e | e
      · exact e
      · rcases key h2 h1 with e' | e'
        · exact e'.symm
        · exact absurd e (ah_nah e')
    subst hab
    rw [told_one ds es _ now (most - 1) h1.tail h2.tail]

theorem Rw.keepB {w w' : World} {rb : Nat} {G : Nat → Prop} {lv : Value} {l : List En} {row : Option Nat} (h : Rw w rb G lv l) (hf : w.grownBy w' row) (h1 : some rb ≠ row) (h2 : ∀ k, lv.ownBlock = some k → some k ≠ row) : Rw w' rb G lv l :=
  ⟨h.box.kept hf h1, row_kept h.row hf h2, h.gb, h.gr, fun k hk => Nat.lt_of_lt_of_le (h.fl k hk) hf.size, h.nl⟩

theorem keepH_mem {x : Int} {l : List En} {y : En} : y ∈ keepH x l ↔ y ∈ l ∧ y.h ≠ x := by unfold keepH; simp [List.mem_filter]
theorem keepH_srt {x : Int} {l : List En} (h : l.Pairwise (fun a b => a.t < b.t)) : (keepH x l).Pairwise (fun a b => a.t < b.t) := h.filter _
theorem keepH_lt {l : List En} {e : En} (h : e ∈ l) : (keepH e.h l).length < l.length := by
  unfold keepH
  rcases Nat.lt_or_ge (l.filter (fun y => decide (y.h ≠ e.h))).length l.length with h1 | h1
  · exact h1
  · have h2 := List.length_filter_le (fun y : En => decide (y.h ≠ e.h)) l
    have h3 := List.length_filter_eq_length_iff.1 (show (l.filter (fun y => decide (y.h ≠ e.h))).length = l.length by omega) e h
    simp at h3

/-- Where the document's Due stands. -/
structure RD (w wr : World) (cb : Nat) (l : List En) (now : Int) (ds lc : List En) (ov : Value) : Prop where
  rw_ : ∃ lv G, Rw wr cb G lv lc
  g : w.grownBy wr none
  lb : w.heap.size ≤ cb
  row : wr.ownsRow w.heap.size 23 1 ov ds.length (ds.map fun d => Value.int .u64 d.h)
  mem : ∀ y, y ∈ lc ↔ (y ∈ l ∧ y ∉ ds)
  srt : lc.Pairwise (fun a b => a.t < b.t)
  pw : ds.Pairwise ah
  inn : ∀ d, d ∈ ds → d ∈ l ∧ d.x ≤ now
  lo : ∀ d, d ∈ ds → ∀ y, y ∈ lc → ah d y
  len : lc.length ≤ l.length
def RDuePost (w : World) (l : List En) (now most : Int) (y : Ending) (w' : World) : Prop :=
  ∃ dv ds, y = .returned dv ∧ w.grownBy w' none ∧ Told (fun y => y ∈ l) now most ds ∧ w'.ownsRow w.heap.size 23 1 dv ds.length (ds.map fun d => Value.int .u64 d.h)
/-- one more was told, and taken -/
theorem RD.next {w wr w8 w9 : World} {cb : Nat} {l : List En} {now : Int} {ds lc : List En} {ov nv : Value} {e : En} (h : RD w wr cb l now ds lc ov) (hT : ∀ x y, x ∈ l → y ∈ l → x.t = y.t → x = y) (hone : ∀ x y, x ∈ l → y ∈ l → x.h = y.h → x = y)
    (hel : e ∈ lc) (hmin : ∀ y, y ∈ lc → ¬ ah y e) (hex : e.x ≤ now) (hg8 : w.grownBy w8 none) (hrow : w8.ownsRow w.heap.size 23 1 nv (ds.length + 1) ((ds.map fun d => Value.int .u64 d.h) ++ [.int .u64 e.h])) (hne : ∀ k, nv.ownBlock = some k → k ≠ cb)
    (hK : Kp (fun k => k = cb) w8 w9) (hR : ∃ lv G, Rw w9 cb G lv (keepH e.h lc)) : RD w w9 cb l now (ds ++ [e]) (keepH e.h lc) nv := by
  have hel2 := (h.mem e).1 hel
  refine ⟨hR, gb_of_kp hg8 hK (fun j hj => by rw [hj]; exact h.lb), h.lb, ?_, fun y => ?_, keepH_srt h.srt, ?_, fun d hd => ?_, fun d hd y hy => ?_, Nat.le_trans (keepH_len _ _) h.len⟩
  · rw [List.length_append, List.length_singleton, List.map_append]
    exact row_same hrow (fun j hj => hK.block j (own_lo hrow hj).2 (hne j hj))
  · rw [keepH_mem, h.mem]
    simp only [List.mem_append, List.mem_singleton, not_or]
    constructor
    · rintro ⟨⟨h1, h2⟩, h3⟩
      exact ⟨h1, h2, fun e' => h3 (by rw [e'])⟩
    · rintro ⟨h1, h2, h3⟩
      exact ⟨⟨h1, h2⟩, fun e' => h3 (hone y e h1 hel2.1 e')⟩
  · rw [List.pairwise_append]
    exact ⟨h.pw, by simp, fun d hd y hy => by simp at hy; subst hy; exact h.lo d hd y hel⟩
  · simp at hd
    rcases hd with hd | rfl
    · exact h.inn d hd
    · exact ⟨hel2.1, hex⟩
  · rw [keepH_mem] at hy
    simp at hd
    rcases hd with hd | rfl
    · exact h.lo d hd y hy.1
    · have h1 := hmin y hy.1
      have h2 : y.t ≠ d.t := fun e' => hy.2 (by rw [hT y d ((h.mem y).1 hy.1).1 hel2.1 e'])
      unfold ah at h1 ⊢
      omega
theorem RD.fin {w wr : World} {cb : Nat} {l : List En} {now most : Int} {ds lc : List En} {ov : Value} (h : RD w wr cb l now ds lc ov) (he : (∀ y, y ∈ lc → ¬ y.x ≤ now) ∨ most ≤ (ds.length : Int)) (hl : (ds.length : Int) ≤ max most 0) : RDuePost w l now most (.returned ov) wr := by
  refine ⟨ov, ds, rfl, h.g, ⟨h.pw, h.inn, fun d hd y hy hx hn => h.lo d hd y ((h.mem y).2 ⟨hy, hn⟩), fun hlt y hy hx => ?_, hl⟩, h.row⟩
  rcases he with he | he
  · by_cases hm : y ∈ ds
    · exact hm
    · exact absurd hx (he y ((h.mem y).2 ⟨hy, hm⟩))
  · omega

set_option maxRecDepth 100000 in
set_option maxHeartbeats 8000000 in
theorem rdue_46 {w : World} {rb : Nat} {G : Nat → Prop} {lv : Value} {l : List En} (h : Rw w rb G lv l) (hl : l.length < 100000) (hs : l.Pairwise (fun a b => a.t < b.t)) (hone : ∀ x y, x ∈ l → y ∈ l → x.h = y.h → x = y) (now most : Int) (hnow : isI now) (hmost : isI most) :
    Calls Try.prog 46 #[.pointer (some ⟨rb, 0, none⟩), .int .i64 now, .int .i64 most] w fun y w' => RDuePost w l now most y w' := by
  unfold isI at hnow hmost
  have hT : ∀ x y, x ∈ l → y ∈ l → x.t = y.t → x = y := fun x y hx hy ht => by
    obtain ⟨i, hi, rfl⟩ := mem_gt hx
    obtain ⟨j, hj, rfl⟩ := mem_gt hy
    rcases Nat.lt_trichotomy i j with h1 | h1 | h1
    · have := gt_turn hs h1 hj; omega
    · rw [h1]
    · have := gt_turn hs h1 hi; omega
  have hal := World.grownBy_alloc w (.cells #[.slice none 0 0] 67) none
  have hB : Box (w.alloc (.cells #[.slice none 0 0] 67)) 67 w.heap.size #[.slice none 0 0] := Box.new _ _ _
  have h1 := h.kept0 hal
  go_enter Try.func46, Try.ntmps46
  go_wp2
  obtain ⟨cb, hcb⟩ : ∃ cb, cb = w.heap.size := ⟨_, rfl⟩
  rw [← hcb] at hB ⊢
  have hbl : w.heap.size ≤ cb := by omega
  have hcr : ∀ k, G k → k ≠ cb := fun k hk => by have := h.fl k hk; omega
  clear hcb h
  generalize w.alloc (.cells #[.slice none 0 0] 67) = W at *
  have c0 := h1.c0
  have k0 : W.cell? ⟨cb, 0, none⟩ = some (.slice none 0 0) := hB.cell 0
  have f0 := hB.fz 0
  have hrow := h1.row
  have hnl := h1.nl
  have hlp := h1.box.lt
  have HN : Hid (l = [] → lv = .slice none 0 0) := hnl
  have HR : Hid (W.ownsRow 0 128 2 lv l.length (entL l)) := hrow
  clear hnl hrow h1
  go_region_law ((refine step_all128 (l := l) (lv := lv) (by rfl) _ _ (by rfl) (by rfl) (show World.ownsRow _ 0 128 2 lv l.length (entL l) from HR.out) HN.out (by rfl) (by omega) ?_; intro ao5 cp5 w5 hown5 hg5 hnl5; have hg6 : W.grownBy w5 none := gb_trans (gb_drew (gb_refl _ none)) hg5; have b5 := hB.kept hg6 (by simp); have b6 : w5.cell? ⟨cb, 0, none⟩ = some (.slice none 0 0) := b5.cell 0; have b7 : w5.frozen? ⟨cb, 0, none⟩ = false := b5.fz 0))
  all_goals
    have hgs : w5.grownBy (w5.setCell ⟨cb, 0, none⟩ (.slice ao5 l.length cp5)) (some cb) := gb_setCell (gb_refl _ _) _
    have hRc : Rw (w5.setCell ⟨cb, 0, none⟩ (.slice ao5 l.length cp5)) cb (fun k => k = cb ∨ (Value.slice ao5 l.length cp5).ownBlock = some k) (.slice ao5 l.length cp5) l :=
      ⟨b5.set 0 _, row_base (row_kept hown5 hgs (fun j hj e' => by
          obtain ⟨cur, h2⟩ := row_block hown5 j hj
          exact ne_of_type b5 h2 (by decide) (Option.some.inj e').symm)) (Nat.zero_le _), .inl rfl, fun k hk => .inr hk, by
        rintro k (rfl | hk)
        · exact Nat.lt_of_lt_of_le b5.lt hgs.size
        · exact Nat.lt_of_lt_of_le (own_lo hown5 hk).2 hgs.size, hnl5⟩
    have hgw : w.grownBy (w5.setCell ⟨cb, 0, none⟩ (.slice ao5 l.length cp5)) none := gb_mine (gb_trans hal hg6) hgs hbl
    have hst : RD w (w5.setCell ⟨cb, 0, none⟩ (.slice ao5 l.length cp5)) cb l now [] l (.slice none 0 0) :=
      ⟨⟨_, _, hRc⟩, hgw, hbl, ⟨rfl, .inl ⟨rfl, rfl⟩⟩, fun y => by simp, hs, List.Pairwise.nil, by simp, by simp, Nat.le_refl _⟩
    clear hRc hgw hgs b5 b6 b7 hown5 hg5 hg6 hnl5 HR HN c0 k0 f0 hB hal
    generalize w5.setCell ⟨cb, 0, none⟩ (.slice ao5 l.length cp5) = X at *
    go_wp2
    go_loopw [8] (fun v wr => ∃ ds lc, RD w wr cb l now ds lc v ∧ ds.length + lc.length ≤ l.length ∧ (ds.length : Int) ≤ max most 0) (fun v _ => l.length - lenOf v)
    case atStart => exact ⟨[], l, hst, by simp, by simp; omega⟩
    case round =>
      clear hst
      obtain ⟨ds, lc, hd, hlen, hml⟩ := hrel
      obtain ⟨ao, cp, hdv, _, _, _, _⟩ := row_shape hd.row
      subst hdv
      by_cases hmo : (ds.length : Int) < most
      · have hd2 : decide ((ds.length : Int) < most) = true := by simp; omega
        obtain ⟨lv2, G2, hR⟩ := hd.rw_
        by_cases hlc : lc = []
        · subst hlc
          have h44 := rfirst_no hR
          have hpost := hd.fin (most := most) (.inl (by simp)) hml
          clear hR hd
          go_wp2_with (first | (go_at_call 44; go_must (refine h44.mono ?_); rintro y w7 ⟨rfl, hw7⟩; have hw6 := hw7.symm; subst hw6) | fail)
          exact bodyPost_ret (v := .slice ao ds.length cp) (results_tmp Try.results46 _ _ _) rfl hpost
        · have hlc0 : 0 < lc.length := List.length_pos_iff.2 hlc
          obtain ⟨e, hel, hmin, h44⟩ := rfirst_44 hR (by omega) hlc0 hd.srt
          have hel2 := (hd.mem e).1 hel
          by_cases hex : e.x ≤ now
          · have hdx : decide (now < e.x) = false := by simp; omega
            go_wp2_with fail
            refine h44.mono ?_
            rintro y w7 ⟨rfl, hg7⟩
            have hd7 : RD w w7 cb l now ds lc (.slice ao ds.length cp) := ⟨⟨lv2, G2, hR.kept0 hg7⟩, gb_trans hd.g hg7, hd.lb, row_kept hd.row hg7 (by simp), hd.mem, hd.srt, hd.pw, hd.inn, hd.lo, hd.len⟩
            have hR7 := hR.kept0 hg7
            have hr7 := hd7.row
            have hsz := hd7.g.size
            clear hR hd h44 hg7
            go_wp2_with (at_builtin; go_must (refine push23 rfl _ _ rfl w.heap.size _ _ _ (by rfl) hr7 e.h (by rfl) (by omega) hsz ?_))
            intro g8 cap8 w8 hrow8 hgb8 hat8
            have hnb : ∀ j, (Value.slice ao ds.length cp).ownBlock = some j → j ≠ cb ∧ lv2.ownBlock ≠ some j ∧ w.heap.size ≤ j := fun j hj => by
              obtain ⟨cur, h2⟩ := row_block hr7 j hj
              refine ⟨fun e' => ne_of_type h2 hR7.box (by decide) e', fun e' => ?_, (own_lo hr7 hj).1⟩
              obtain ⟨cur2, h3⟩ := row_block hR7.row j e'
              exact ne_of_type h2 h3 (by decide) rfl
            have hR8 := hR7.keepB hgb8 (fun e' => (hnb _ e'.symm).1 rfl) (fun k hk e' => (hnb _ e'.symm).2.1 hk)
            have hg8 : w.grownBy w8 none := gb_of_kp hd7.g ((Kp.refl (fun j => (Value.slice ao ds.length cp).ownBlock = some j) w7).step hgb8 (fun j hj => .inl hj)) (fun j hj => (hnb j hj).2.2)
            have hne8 : ∀ k, (Value.slice (some ⟨g8, 0, none⟩) (ds.length + 1) cap8).ownBlock = some k → k ≠ cb := fun k hk e' => by
              obtain ⟨cur, h2⟩ := row_block hrow8 k hk
              exact ne_of_type h2 hR8.box (by decide) e'
            have h43 := rtake_43 hR8 (by omega) e.h
            have hkl := keepH_lt hel
            clear hr7 hgb8 hat8 hnb hR7 hR8
            go_wp2_with fail
            refine h43.mono ?_
            rintro y w9 ⟨rfl, hk9, lv9, G9, hG9, hR9⟩
            have hd9 := hd7.next hT hone hel hmin hex hg8 hrow8 hne8 hk9 ⟨lv9, G9, hR9⟩
            clear h43 hk9 hR9 hrow8 hg8 hd7 hG9 hne8
            go_wp2_with fail
            exact ⟨⟨ds ++ [e], keepH e.h lc, hd9, by simp; omega, by simp; omega⟩, by rw [lenOf_slice, lenOf_slice]; omega⟩
          · have hdx : decide (now < e.x) = true := by simp; omega
            have hpost := fun W (hf : wr.grownBy W none) => RD.fin (most := most) (h := (⟨⟨lv2, G2, hR.kept0 hf⟩, gb_trans hd.g hf, hd.lb, row_kept hd.row hf (by simp), hd.mem, hd.srt, hd.pw, hd.inn, hd.lo, hd.len⟩ : RD w W cb l now ds lc (.slice ao ds.length cp))) (.inl (fun y hy hyx => by have := hmin y hy; unfold ah at this; omega)) hml
            clear hR hd
            go_wp2_with fail
            refine h44.mono ?_
            rintro y w7 ⟨rfl, hg7⟩
            have hp7 := hpost _ hg7
            clear hpost
            go_wp2
            exact bodyPost_ret (v := .slice ao ds.length cp) (results_tmp Try.results46 _ _ _) rfl hp7
      · have hd2 : decide ((ds.length : Int) < most) = false := by simp; omega
        have hpost := hd.fin (most := most) (.inr (by omega)) hml
        clear hd
        go_wp2
        exact bodyPost_ret (v := .slice ao ds.length cp) (results_tmp Try.results46 _ _ _) rfl hpost

end Go.Proofs.Ytagcmfaljfaikaa

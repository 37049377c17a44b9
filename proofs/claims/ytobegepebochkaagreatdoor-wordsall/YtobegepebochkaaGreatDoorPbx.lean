import Derived.Test.YtobegepebochkaaGreatDoorCh
import Derived.Test.YtobegepebochkaaGreatDoorPbn
import Derived.Test.YtobegepebochkaaGreatDoorPbp
import Derived.Deep.RegionHeld3
import Derived.Test.YtobegepebochkaaGreatDoorPbm
import Derived.Test.YtobegepebochkaaGreatDoorPbl
set_option linter.unusedVariables false
set_option linter.unusedSimpArgs false
namespace Go.Proofs.YtobegepebochkaaGreatDoor
open Go.RowKit
set_option maxRecDepth 100000 in
set_option maxHeartbeats 4000000 in
theorem close_22s {w : World} {bb : Nat} {FT R : Nat → Prop} {J : Nat} (h : Bst w bb FT J R) (hJ : J < 1000000) :
    Calls Tryz.prog 22 #[.pointer (some ⟨bb, 0, none⟩)] w fun y w' => y = .returned (.bool true) ∧ Kp FT w w' := by
  obtain ⟨s0, FB, Fs, Ks, V, W, N, D, hB, hd, hdis, hKs, g1, g2, g3, _⟩ := h
  obtain ⟨b0, b1, t0, t1, n, Fb, Ft, Kb, Kt, Vb, Wb, Nb, Db, Vt, Wt, Nt, Dt, hb, k1, k2, l1, l2, m1, m2, hn, f1, f2, f3, f4⟩ := hB
  have h66 := stands_66 hb k1 k2 l1 l2 (by omega) (by omega)
  go_enter Tryz.func22, Tryz.ntmps22
  go_wp2_with (go_at_call 66; go_must (refine h66.mono ?_))
  rintro y w1 ⟨rfl, hg1⟩
  have hb1 := hb.kept hg1 (by simp)
  have k11 := k1.kept0 hg1
  have k21 := k2.kept0 hg1
  have d1 := hd.kept0 hg1
  have h67 := close_67 hb1 k11 rfl rfl (by omega)
  have HG : Hid (Kp FT w w1) := (Kp.refl _ _).step hg1 (by simp)
  clear h66 hb k1 k2 hg1 hd
  go_wp2_with (go_at_call 67; go_must (refine h67.mono ?_))
  rintro y w2 ⟨rfl, hk2, ov, mv, hb2⟩
  have k22 := k21.other k11 hb1 hk2 (by decide) (by decide) (by decide) (by decide) (by decide) (by decide)
  have d2 := d1.other k11 hb1 hk2 (by decide) (by decide) (by decide) (by decide) (by decide) (by decide)
  have h68 := close_68 hb2
  have h69 := close_69 hb2 k22 rfl rfl (by omega)
  have HG2 : Hid (Kp FT w w2) := HG.out.trans hk2 (fun _ h => h) (fun i hi => .inl (by rcases hi with rfl | hi; exact g1 _ f1; exact g1 _ (f2 i hi)))
  have HB2 : Hid (Box w2 31 bb (bkA b0 b1 ov mv t0 t1 nilS nilS s0 nilS nilS n)) := hb2
  have HK2 : Hid _ := And.intro k22 d2
  clear h67 hb1 k11 k21 hk2 hb2 k22 HG d1 d2
  go_wp2_with (first | (go_at_call 68; go_must (refine h68.mono ?_); rintro y w3 ⟨rfl, hw3⟩; subst hw3) | (go_at_call 69; go_must (refine h69.mono ?_)))
  rintro y w5 ⟨rfl, hk5, ov', mv', hb5⟩
  have d5 := HK2.out.2.other HK2.out.1 HB2.out hk5 (by decide) (by decide) (by decide) (by decide) (by decide) (by decide)
  have h70 := close_70 hb5
  have h71 := close_71 hb5
  have h72 := close_72 hb5
  have h73 := close_73s hb5 d5 rfl rfl (by omega)
  have HP : Hid (Kp FT w w5) := HG2.out.trans hk5 (fun _ h => h) (fun i hi => .inl (by rcases hi with rfl | hi; exact g1 _ f1; exact g1 _ (f3 i hi)))
  clear h68 h69 hk5 hb5 HG2 HB2 HK2 d5
  go_wp2_with (first | (go_at_call 70; go_must (refine h70.mono ?_); rintro y w6 ⟨rfl, hw6⟩; subst hw6) | (go_at_call 71; go_must (refine h71.mono ?_); rintro y w7 ⟨rfl, hw7⟩; subst hw7) | (go_at_call 72; go_must (refine h72.mono ?_); rintro y w8 ⟨rfl, hw8⟩; subst hw8) | (go_at_call 73; go_must (refine h73.mono ?_)))
  rintro y w9 ⟨rfl, hk9, ov9, mv9, hb9⟩
  have HQ : Hid (Kp FT w w9) := HP.out.trans hk9 (fun _ h => h) (fun i hi => .inl (by rcases hi with rfl | hi; exact g1 _ f1; exact g2 i hi))
  clear h70 h71 h72 h73 hk9 hb9 HP
  go_wp2
  go_ret
  exact ⟨rfl, HQ.out⟩
end Go.Proofs.YtobegepebochkaaGreatDoor
namespace Go.Proofs.YtobegepebochkaaGreatDoor
open Go.RowKit
def Kb3 (q : List Tld) (k : Nat) : Prop := ∃ x ∈ q, x.cm.ownBlock = some k
structure Q30 (q : List Tld) (i : Nat) (FM : Nat → Prop) (w : World) : Prop where
  m : ∀ x ∈ q.drop i, w.ownsRow 0 79 3 x.cm x.s.cmd.mt.length (fcs x.s.cmd.mt)
  nm : ∀ x ∈ q.drop i, ∀ g, x.cm.ownBlock = some g → ¬ FM g
set_option maxRecDepth 100000 in
set_option maxHeartbeats 4000000 in
theorem fsteps_30 {w : World} {fb : Nat} {FM : Nat → Prop} (h : Fok w fb FM) {B : Nat} {va : Option Addr} {vc : Nat} {q : List Tld} (hr : w.ownsRow B 86 16 (.slice va q.length vc) q.length (q.flatMap tldL)) (hq : ∀ x ∈ q, w.ownsRow 0 79 3 x.cm x.s.cmd.mt.length (fcs x.s.cmd.mt)) (hp : Pw q) (hql : q.length ≤ 1000000) (hb : ∀ x ∈ q, x.s.cmd.mt.length ≤ 1000000)
    (hvF : ∀ g, (Value.slice va q.length vc).ownBlock = some g → ¬ FM g) (hxF : ∀ k, Kb3 q k → ¬ FM k) :
    Calls Tryz.prog 30 #[.pointer (some ⟨fb, 0, none⟩), .slice va q.length vc] w fun y w' => y = .returned (.tuple #[]) ∧ Kp (fun k => FM k ∨ Kb3 q k) w w' ∧ ∃ FM', Fok w' fb FM' ∧ ∀ k, FM' k → FM k ∨ Kb3 q k ∨ w.heap.size ≤ k := by
  obtain ⟨m, hm⟩ : ∃ m, m = q.length := ⟨_, rfl⟩
  rw [← hm] at hr hvF hql ⊢
  have HM : Hid (q.length = m) := hm.symm
  have HH : Hid (Pw q ∧ ∀ x ∈ q, x.s.cmd.mt.length ≤ 1000000) := ⟨hp, hb⟩
  have HF : Hid (Fok w fb FM) := h
  have HR : Hid (w.ownsRow B 86 16 (.slice va m vc) m (q.flatMap tldL)) := hr
  have HQ : Hid (Q30 q 0 FM w) := ⟨fun x hx => hq x (List.mem_of_mem_drop hx), fun x hx g hg => hxF g ⟨x, List.mem_of_mem_drop hx, hg⟩⟩
  clear h hr hq hp hb hxF hm
  go_enter Tryz.func30, Tryz.ntmps30
  go_wp2
  go_loopw [4] (fun v wq => ∃ (i : Nat) (FR : Nat → Prop), i ≤ m ∧ v = .int .i64 i ∧ Fok wq fb FR ∧ wq.ownsRow B 86 16 (.slice va m vc) m (q.flatMap tldL) ∧ (∀ g, (Value.slice va m vc).ownBlock = some g → ¬ FR g) ∧ Q30 q i FR wq ∧ Kp (fun k => FM k ∨ Kb3 q k) w wq ∧ ∀ k, FR k → FM k ∨ Kb3 q k ∨ w.heap.size ≤ k) (fun v _ => m - (intOf v).toNat)
  case atStart => exact ⟨0, FM, by omega, rfl, HF.out, HR.out, hvF, HQ.out, Kp.refl _ _, fun k hk => .inl hk⟩
  case round =>
    obtain ⟨i, FR, hi, rfl, hF, hrv, hnv, hQ, hkp, hU⟩ := hrel
    clear HF HR HQ hvF
    by_cases hlt : i < m
    · obtain ⟨x, hx, hdr⟩ := drop_cons (q := q) (i := i) (by rw [HM.out]; exact hlt)
      have hxm : x ∈ q.drop i := by rw [hdr]; simp
      have hxq : x ∈ q := List.mem_of_mem_drop hxm
      obtain ⟨_, _, e0, _, _, _, hpos⟩ := row_shape hrv
      injection e0 with e1 e2 e3
      subst e1
      clear e2 e3
      obtain ⟨gv, hgv⟩ := hpos (by omega)
      subst hgv
      obtain ⟨ma, mc, em, _⟩ := row_shape (hQ.m x hxm)
      have cM : wr.cell? ⟨gv, i * 16 + 9, none⟩ = some (.slice ma x.s.cmd.mt.length mc) := by rw [← em]; exact row_cell hrv _ _ (by rw [tl_get q i x 9 hx (by omega)]; rfl)
      have hrm := hQ.m x hxm
      have hnm := hQ.nm x hxm
      rw [em] at hrm hnm
      have h21 := add_21 hF hrm fcs_one (HH.out.2 x hxq) hnm
      simp only [FkPost] at h21
      have hPx : ∀ y ∈ q.drop (i + 1), Dj (.slice ma x.s.cmd.mt.length mc) y.cm := fun y hy => by
        have hp := List.Pairwise.sublist (List.drop_sublist i q) HH.out.1
        rw [hdr] at hp
        have := (List.pairwise_cons.1 hp).1 y hy
        rw [← em]
        exact this.2.2
      have hmem : ∀ y, y ∈ q.drop (i + 1) → y ∈ q.drop i := fun y hy => by rw [hdr]; exact List.mem_cons_of_mem _ hy
      have hib : (i : Int) < (m : Int) := by omega
      have hkx : ∀ k, (Value.slice ma x.s.cmd.mt.length mc).ownBlock = some k → Kb3 q k := fun k hk => ⟨x, hxq, by rw [em]; exact hk⟩
      have HA : Hid _ := And.intro hF (And.intro hrv (And.intro hnv (And.intro hQ (And.intro hkp (And.intro hU (And.intro hPx (And.intro hmem (And.intro hkx hrm))))))))
      clear hF hrv hnv hQ hkp hU hPx hmem hkx hrm hdr hx hxm hxq em hnm
      generalize x.s.cmd.mt.length = ml at *
      go_wp2_with fail
      refine h21.mono ?_
      rintro y w3 ⟨rfl, hk3, FR', hF3, hF3'⟩
      clear h21 cM
      obtain ⟨hF, hrv, hnv, hQ, hkp, hU, hPx, hmem, hkx, hrm⟩ := HA.out
      clear HA
      have hrv3 := row_same hrv (fun k hk => hk3.block k (row_ge hrv hk).2 (hnv k hk))
      have hnv3 : ∀ g, (Value.slice (some ⟨gv, 0, none⟩) m vc).ownBlock = some g → ¬ FR' g := fun g hg hb => by
        rcases hF3' g hb with e | e | e
        · exact hnv g hg e
        · obtain ⟨c1, q1⟩ := row_block hrv g hg
          obtain ⟨c2, q2⟩ := row_block hrm g e
          exact ne_of_type q1 q2 (by decide) rfl
        · have := (row_ge hrv hg).2; omega
      have hQ3 : Q30 q (i + 1) FR' w3 := ⟨fun y hy => row_same (hQ.m y (hmem y hy)) (fun k h1 => hk3.block k (row_ge (hQ.m y (hmem y hy)) h1).2 (hQ.nm y (hmem y hy) k h1)), fun y hy g hg hb => by
        rcases hF3' g hb with e | e | e
        · exact hQ.nm y (hmem y hy) g hg e
        · exact hPx y hy g e hg
        · have := (row_ge (hQ.m y (hmem y hy)) hg).2; omega⟩
      have hkp3 : Kp (fun k => FM k ∨ Kb3 q k) w w3 := hkp.trans hk3 (fun _ h => h) (fun k hk => by
        rcases hU k hk with e | e | e
        · exact .inl (.inl e)
        · exact .inl (.inr e)
        · exact .inr e)
      have hU3 : ∀ k, FR' k → FM k ∨ Kb3 q k ∨ w.heap.size ≤ k := fun k hk => by
        rcases hF3' k hk with e | e | e
        · exact hU k e
        · exact .inr (.inl (hkx k e))
        · exact .inr (.inr (Nat.le_trans hkp.size e))
      have HP : Hid _ := And.intro hF3 (And.intro hrv3 (And.intro hnv3 (And.intro hQ3 (And.intro hkp3 hU3))))
      clear hF hrv hnv hQ hkp hU hPx hmem hkx hrm hF3 hrv3 hnv3 hQ3 hkp3 hU3 hk3 hF3'
      go_wp2
      obtain ⟨p1, p2, p3, p4, p5, p6⟩ := HP.out
      go_roundw
      case rel => exact ⟨i + 1, FR', by omega, by go_num, p1, p2, p3, p4, p5, p6⟩
      case measure => simp [intOf]; omega
    · obtain rfl : i = m := by omega
      have HP : Hid (Kp (fun k => FM k ∨ Kb3 q k) w wr ∧ ∃ FM', Fok wr fb FM' ∧ ∀ k, FM' k → FM k ∨ Kb3 q k ∨ w.heap.size ≤ k) := ⟨hkp, FR, hF, hU⟩
      clear hF hrv hnv hQ hkp hU
      go_wp2
      go_end0
      exact ⟨rfl, HP.out⟩
end Go.Proofs.YtobegepebochkaaGreatDoor
namespace Go.Proofs.YtobegepebochkaaGreatDoor
open Go.RowKit Go.Maps
def Wa (w wr : World) (bb fb : Nat) (Pb Pm R : Nat → Prop) (J : Nat) : Prop :=
  ∃ FT FM, Bst wr bb FT J R ∧ Fok wr fb FM ∧ (∀ k, FT k → ¬ FM k) ∧ (∀ k, FT k → w.heap.size ≤ k ∧ ¬ Pb k) ∧ (∀ k, FM k → w.heap.size ≤ k ∧ ¬ Pm k) ∧ (∀ k, R k → ¬ FM k) ∧ w.grownBy wr none
section
variable {w wr wq : World} {bb fb : Nat} {Pb Pm R : Nat → Prop} {J : Nat}
theorem Wa.gb (h : Wa w wr bb fb Pb Pm R J) : w.grownBy wr none := by
  obtain ⟨FT, FM, _, _, _, _, _, _, h⟩ := h
  exact h
theorem Wa.grow (h : Wa w wr bb fb Pb Pm R J) (hg : wr.grownBy wq none) : Wa w wq bb fb Pb Pm R J := by
  obtain ⟨FT, FM, h1, h2, h3, h4, h5, h6, h7⟩ := h
  exact ⟨FT, FM, h1.kept0 hg, h2.kept0 hg, h3, h4, h5, h6, gb_trans h7 hg⟩
theorem Wa.writes (h : Wa w wr bb fb Pb Pm R J) {g : Nat} (hg : wr.grownBy wq (some g)) (hge : w.heap.size ≤ g) (hP : Pb g ∧ Pm g ∧ ¬ R g) : Wa w wq bb fb Pb Pm R J := by
  obtain ⟨FT, FM, h1, h2, h3, h4, h5, h6, h7⟩ := h
  have hk : Kp (fun k => k = g) wr wq := (Kp.refl _ wr).step hg (fun i hi => .inl (Option.some.inj hi).symm)
  exact ⟨FT, FM, h1.kept hk (fun k hk e => (h4 k hk).2 (by rw [e]; exact hP.1)) (fun k hk e => hP.2.2 (by rw [← e]; exact hk)), h2.kept hk (fun k hk e => (h5 k hk).2 (by rw [e]; exact hP.2.1)), h3, h4, h5, h6, gb_mine h7 hg hge⟩
theorem Wa.new (h : Wa w wr bb fb Pb Pm R J) : Wa w wr bb fb (fun k => wr.heap.size ≤ k) (fun k => wr.heap.size ≤ k) (fun _ => False) J := by
  obtain ⟨FT, FM, h1, h2, h3, h4, h5, h6, h7⟩ := h
  exact ⟨FT, FM, h1.rows (fun _ h => h.elim), h2, h3, fun k hk => ⟨(h4 k hk).1, fun e => by have := h1.lt k hk; omega⟩, fun k hk => ⟨(h5 k hk).1, fun e => by have := h2.lt k hk; omega⟩, fun _ h => h.elim, h7⟩
theorem Wa.rows (h : Wa w wr bb fb Pb Pm R J) {R' : Nat → Prop} (hR : ∀ k, R' k → (∃ c, wr.heap[k]? = some (.cells c 86 (0, 0))) ∧ Pb k ∧ Pm k) : Wa w wr bb fb Pb Pm R' J := by
  obtain ⟨FT, FM, h1, h2, h3, h4, h5, h6, h7⟩ := h
  exact ⟨FT, FM, h1.rows (fun k hk => ⟨(hR k hk).1, fun e => (h4 k e).2 (hR k hk).2.1⟩), h2, h3, h4, h5, fun k hk e => (h5 k e).2 (hR k hk).2.2, h7⟩
theorem Wa.steps (h : Wa w wr bb fb Pb Pm R J) (hJ : J < 100000) {B : Nat} {va : Option Addr} {vc : Nat} {q : List Tld} (hs : Sd wr B (.slice va q.length vc) q) (hp : Pw q) (hql : q.length ≤ 1000000) (hb : ∀ x ∈ q, x.s.cmd.keys.length ≤ 1000000 ∧ x.s.data.length ≤ 1000000)
    (hv : ∀ k, (Value.slice va q.length vc).ownBlock = some k ∨ Kb2 q k → Pb k ∧ Pm k ∧ w.heap.size ≤ k) :
    Calls Tryz.prog 29 #[.pointer (some ⟨bb, 0, none⟩), .slice va q.length vc] wr fun y wq => y = .returned (.tuple #[]) ∧ Wa w wq bb fb (fun k => Pb k ∧ k < wr.heap.size ∧ ¬ ((Value.slice va q.length vc).ownBlock = some k ∨ Kb2 q k)) Pm R (J + 1) ∧ Kp (fun k => ¬ Pb k ∨ Kb2 q k) wr wq ∧ ∀ k, R k → wq.heap[k]? = wr.heap[k]? := by
  obtain ⟨FT, FM, h1, h2, h3, h4, h5, h6, h7⟩ := h
  refine (steps_29 h1 hJ hs hp hql hb (fun g hg hk => (h4 g hk).2 (hv g (.inl hg)).1) (fun g hg hk => (h4 g hk).2 (hv g (.inr hg)).1)).mono ?_
  rintro y wq ⟨rfl, hk, hR, FT', h1', hF⟩
  refine ⟨rfl, ⟨FT', FM, h1', h2.kept hk (fun k hm hb => ?_), fun k hk' hm => ?_, fun k hk' => ?_, h5, h6, ?_⟩, hk.mono (fun i hi => .inl (hi.imp (fun e => (h4 i e).2) id)), hR⟩
  · rcases hb with hb | hb
    · exact h3 k hb hm
    · exact (h5 k hm).2 (hv k (.inr hb)).2.1
  · rcases hF k hk' with e | e | e | e
    · exact h3 k e hm
    · exact (h5 k hm).2 (hv k (.inl e)).2.1
    · exact (h5 k hm).2 (hv k (.inr e)).2.1
    · have := h2.lt k hm; omega
  · rcases hF k hk' with e | e | e | e
    · exact ⟨(h4 k e).1, fun z => (h4 k e).2 z.1⟩
    · exact ⟨(hv k (.inl e)).2.2, fun z => z.2.2 (.inl e)⟩
    · exact ⟨(hv k (.inr e)).2.2, fun z => z.2.2 (.inr e)⟩
    · exact ⟨Nat.le_trans h7.size e, fun z => by have := z.2.1; omega⟩
  · exact gb_of_kp h7 hk (fun j hj => hj.elim (fun e => (h4 j e).1) (fun e => (hv j (.inr e)).2.2))
theorem Wa.flags (h : Wa w wr bb fb Pb Pm R J) {B : Nat} {va : Option Addr} {vc : Nat} {q : List Tld} (hr : wr.ownsRow B 86 16 (.slice va q.length vc) q.length (q.flatMap tldL)) (hq : ∀ x ∈ q, wr.ownsRow 0 79 3 x.cm x.s.cmd.mt.length (fcs x.s.cmd.mt)) (hp : Pw q) (hql : q.length ≤ 1000000) (hb : ∀ x ∈ q, x.s.cmd.mt.length ≤ 1000000)
    (hv : ∀ k, (Value.slice va q.length vc).ownBlock = some k → Pm k) (hx : ∀ k, Kb3 q k → Pb k ∧ Pm k ∧ w.heap.size ≤ k ∧ ¬ R k) :
    Calls Tryz.prog 30 #[.pointer (some ⟨fb, 0, none⟩), .slice va q.length vc] wr fun y wq => y = .returned (.tuple #[]) ∧ Wa w wq bb fb Pb (fun k => Pm k ∧ k < wr.heap.size ∧ ¬ Kb3 q k) R J ∧ Kp (fun k => ¬ Pm k ∨ Kb3 q k) wr wq ∧ ∀ k, R k → wq.heap[k]? = wr.heap[k]? := by
  obtain ⟨FT, FM, h1, h2, h3, h4, h5, h6, h7⟩ := h
  refine (fsteps_30 h2 hr hq hp hql hb (fun g hg hk => (h5 g hk).2 (hv g hg)) (fun g hg hk => (h5 g hk).2 (hx g hg).2.1)).mono ?_
  rintro y wq ⟨rfl, hk, FM', h2', hF⟩
  have hRn : ∀ k, R k → ¬ (FM k ∨ Kb3 q k) := fun k hR e => e.elim (h6 k hR) (fun e => (hx k e).2.2.2 hR)
  refine ⟨rfl, ⟨FT, FM', h1.kept hk (fun k hm hb => ?_) hRn, h2', fun k hm hk' => ?_, h4, fun k hk' => ?_, fun k hR hk' => ?_, ?_⟩, hk.mono (fun i hi => .inl (hi.imp (fun e => (h5 i e).2) id)), fun k hR => hk.block k (h1.rlt k hR) (hRn k hR)⟩
  · rcases hb with hb | hb
    · exact h3 k hm hb
    · exact (h4 k hm).2 (hx k hb).1
  · rcases hF k hk' with e | e | e
    · exact h3 k hm e
    · exact (h4 k hm).2 (hx k e).1
    · have := h1.lt k hm; omega
  · rcases hF k hk' with e | e | e
    · exact ⟨(h5 k e).1, fun z => (h5 k e).2 z.1⟩
    · exact ⟨(hx k e).2.2.1, fun z => z.2.2 e⟩
    · exact ⟨Nat.le_trans h7.size e, fun z => by have := z.2.1; omega⟩
  · rcases hF k hk' with e | e | e
    · exact h6 k hR e
    · exact (hx k e).2.2.2 hR
    · have := h1.rlt k hR; omega
  · exact gb_of_kp h7 hk (fun j hj => hj.elim (fun e => (h5 j e).1) (fun e => (hx j e).2.2.1))
theorem Wa.close (h : Wa w wr bb fb Pb Pm R J) (hJ : J < 1000000) : Calls Tryz.prog 22 #[.pointer (some ⟨bb, 0, none⟩)] wr fun y wq => y = .returned (.bool true) ∧ w.grownBy wq none ∧ ∃ FM, Fok wq fb FM ∧ ∀ k, FM k → w.heap.size ≤ k := by
  obtain ⟨FT, FM, h1, h2, h3, h4, h5, h6, h7⟩ := h
  refine (close_22s h1 hJ).mono ?_
  rintro y wq ⟨rfl, hk⟩
  exact ⟨rfl, gb_of_kp h7 hk (fun j hj => (h4 j hj).1), FM, h2.kept hk (fun k hm hb => h3 k hb hm), fun k hk => (h5 k hk).1⟩
end
end Go.Proofs.YtobegepebochkaaGreatDoor
namespace Go.Proofs.YtobegepebochkaaGreatDoor
open Go.RowKit Go.Maps
structure Jr (w wr : World) (Pb Pm R : Nat → Prop) (v : Value) (q : List Tld) : Prop where
  row : ∃ B, wr.ownsRow B 86 16 v q.length (q.flatMap tldL)
  m : ∀ x ∈ q, wr.ownsRow 0 79 3 x.cm x.s.cmd.mt.length (fcs x.s.cmd.mt)
  pw : Pw q
  len : q.length ≤ 1000000
  mt : ∀ x ∈ q, x.s.cmd.mt.length ≤ 1000000
  hv : ∀ k, v.ownBlock = some k → Pm k ∧ R k
  hx : ∀ k, Kb3 q k → Pb k ∧ Pm k ∧ w.heap.size ≤ k ∧ ¬ R k
structure Ji (w wr : World) (Pb Pm : Nat → Prop) (v : Value) (q : List Tld) : Prop where
  k : ∀ x ∈ q, wr.ownsRow 0 9 1 x.ck x.s.cmd.keys.length (x.s.cmd.keys.map sv)
  d : ∀ x ∈ q, wr.ownsRow 0 5 1 x.cd x.s.data.length (x.s.data.map b8)
  r : ∀ k, v.ownBlock = some k → k < wr.heap.size
  b : ∀ x ∈ q, x.s.cmd.keys.length ≤ 1000000 ∧ x.s.data.length ≤ 1000000
  hv : ∀ k, v.ownBlock = some k ∨ Kb2 q k → Pb k ∧ Pm k ∧ w.heap.size ≤ k
section
variable {w wr : World} {bb fb : Nat} {Pb Pm R : Nat → Prop} {J : Nat}
theorem Wa.steps2 (h : Wa w wr bb fb Pb Pm R J) (hJ : J < 100000) {v : Value} {q : List Tld} (i : Ji w wr Pb Pm v q) (j : Jr w wr Pb Pm R v q) :
    Calls Tryz.prog 29 #[.pointer (some ⟨bb, 0, none⟩), v] wr fun y wq => y = .returned (.tuple #[]) ∧ ∃ Pb', Wa w wq bb fb Pb' Pm R (J + 1) ∧ (∀ u r, Jr w wr Pb Pm R u r → Jr w wq Pb' Pm R u r) ∧ ∀ u r, Ji w wr Pb Pm u r → (∀ k, u.ownBlock = some k ∨ Kb2 r k → ¬ (v.ownBlock = some k ∨ Kb2 q k)) → Ji w wq Pb' Pm u r := by
  obtain ⟨B, hrow⟩ := j.row
  obtain ⟨va, vc, e, _⟩ := row_shape hrow
  have hS : Sd wr B v q := ⟨hrow, i.k, i.d, j.m⟩
  subst e
  refine (h.steps hJ hS j.pw j.len i.b i.hv).mono ?_
  rintro y wq ⟨rfl, hW, hk, hR⟩
  refine ⟨rfl, _, hW, fun u r jr => ?_, fun u r ji hd => ?_⟩
  · obtain ⟨B2, hr2⟩ := jr.row
    have n79 : ∀ k, Kb3 r k → ¬ ((Value.slice va q.length vc).ownBlock = some k ∨ Kb2 q k) := by
      rintro k ⟨x, hx, hk⟩ e
      obtain ⟨c1, h1⟩ := row_block (jr.m x hx) k hk
      rcases e with e | ⟨z, hz, e | e⟩
      · obtain ⟨c2, h2⟩ := row_block hrow k e
        exact ne_of_type h1 h2 (by decide) rfl
      · obtain ⟨c2, h2⟩ := row_block (i.k z hz) k e
        exact ne_of_type h1 h2 (by decide) rfl
      · obtain ⟨c2, h2⟩ := row_block (i.d z hz) k e
        exact ne_of_type h1 h2 (by decide) rfl
    exact ⟨⟨B2, row_same hr2 (fun k e => hR k (jr.hv k e).2)⟩, fun x hx => row_same (jr.m x hx) (fun k e => hk.block k (row_ge (jr.m x hx) e).2 (by
      rintro (a | a)
      · exact a (jr.hx k ⟨x, hx, e⟩).1
      · exact n79 k ⟨x, hx, e⟩ (.inr a))), jr.pw, jr.len, jr.mt, jr.hv, fun k e => ⟨⟨(jr.hx k e).1, by obtain ⟨x, hx, e⟩ := e; exact (row_ge (jr.m x hx) e).2, n79 k e⟩, (jr.hx k e).2⟩⟩
  · have st : ∀ {e s : Nat} {z : Value} {m : Nat} {ys : List Value}, wr.ownsRow 0 e s z m ys → (∀ k, z.ownBlock = some k → Kb2 r k) → wq.ownsRow 0 e s z m ys := fun hr hz => row_same hr (fun k e => hk.block k (row_ge hr e).2 (by
      rintro (a | a)
      · exact a (ji.hv k (.inr (hz k e))).1
      · exact hd k (.inr (hz k e)) (.inr a)))
    refine ⟨fun x hx => st (ji.k x hx) (fun k e => ⟨x, hx, .inl e⟩), fun x hx => st (ji.d x hx) (fun k e => ⟨x, hx, .inr e⟩), fun k e => Nat.lt_of_lt_of_le (ji.r k e) hk.size, ji.b, fun k e => ⟨⟨(ji.hv k e).1, ?_, hd k e⟩, (ji.hv k e).2⟩⟩
    obtain ⟨FT, FM, h1, h2, h3, h4, h5, h6, h7⟩ := h
    rcases e with e | ⟨x, hx, e | e⟩
    · exact ji.r k e
    · exact (row_ge (ji.k x hx) e).2
    · exact (row_ge (ji.d x hx) e).2
theorem Wa.flags2 (h : Wa w wr bb fb Pb Pm R J) {v : Value} {q : List Tld} (j : Jr w wr Pb Pm R v q) :
    Calls Tryz.prog 30 #[.pointer (some ⟨fb, 0, none⟩), v] wr fun y wq => y = .returned (.tuple #[]) ∧ ∃ Pm', Wa w wq bb fb Pb Pm' R J ∧ ∀ u r, Jr w wr Pb Pm R u r → (∀ k, Kb3 r k → ¬ Kb3 q k) → Jr w wq Pb Pm' R u r := by
  obtain ⟨B, hrow⟩ := j.row
  obtain ⟨va, vc, e, _⟩ := row_shape hrow
  have hm := j.m
  have hhv := j.hv
  subst e
  refine (h.flags hrow hm j.pw j.len j.mt (fun k e => (hhv k e).1) j.hx).mono ?_
  rintro y wq ⟨rfl, hW, hk, hR⟩
  refine ⟨rfl, _, hW, fun u r jr hd => ?_⟩
  obtain ⟨B2, hr2⟩ := jr.row
  exact ⟨⟨B2, row_same hr2 (fun k e => hR k (jr.hv k e).2)⟩, fun x hx => row_same (jr.m x hx) (fun k e => hk.block k (row_ge (jr.m x hx) e).2 (by
      rintro (a | a)
      · exact a (jr.hx k ⟨x, hx, e⟩).2.1
      · exact hd k ⟨x, hx, e⟩ a)), jr.pw, jr.len, jr.mt, fun k e => ⟨⟨(jr.hv k e).1, (row_ge hr2 e).2, fun a => (j.hx k a).2.2.2 (jr.hv k e).2⟩, (jr.hv k e).2⟩, fun k e => ⟨(jr.hx k e).1, ⟨(jr.hx k e).2.1, by obtain ⟨x, hx, e⟩ := e; exact (row_ge (jr.m x hx) e).2, hd k e⟩, (jr.hx k e).2.2⟩⟩
end
end Go.Proofs.YtobegepebochkaaGreatDoor
namespace Go.Proofs.YtobegepebochkaaGreatDoor
open Go.RowKit Go.Maps
def Sm (s : Stp) : Prop := s.cmd.keys.length ≤ 2049 ∧ s.cmd.mt.length ≤ 2049
theorem sm_0 : Sm stp0 := by unfold Sm stp0 cmd0; simp
theorem sm_W (k : Int) (t : Bs) (p : Int) : Sm (stpW k t p) := by unfold Sm stpW cmd0; simp
def Fm (r : Fd × List Stp) : Prop := Sm r.1.s ∧ ∀ s ∈ r.2, Sm s
theorem sm_rd (F : Fd) (h : Sm F.s) : Sm F.rd.1.s := by
  unfold Fd.rd
  split
  · rename_i c n e
    have := lineS_len e
    repeat' split
    all_goals first
      | exact ⟨this.1, this.2.1⟩
      | (simp only [Fd.pass, Fd.await]; exact ⟨this.1, this.2.1⟩)
  · repeat' split
    all_goals exact sm_W _ _ _
theorem fm_tell (F : Fd) (h : Sm F.s) : Fm F.tell := by
  refine ⟨sm_0, fun s hs => ?_⟩
  simp only [Fd.tell, List.mem_singleton] at hs
  subst hs
  exact h
theorem fm_skip (F : Fd) (h : Sm F.s) (b : UInt8) : Fm (F.skip b) := by
  unfold Fd.skip
  repeat' split
  · exact ⟨h, by simp⟩
  · exact fm_tell F h
  · exact ⟨h, by simp⟩
theorem fm_fb (F : Fd) (h : Sm F.s) (b : UInt8) : Fm (F.fb b) := by
  unfold Fd.fb
  repeat' split
  · unfold Fd.end1
    split
    · exact fm_tell _ (sm_rd _ h)
    · exact ⟨sm_rd _ h, by simp⟩
  · exact ⟨sm_W _ _ _, by simp⟩
  · exact ⟨h, by simp⟩
  · exact ⟨h, by simp⟩
  · exact ⟨h, by simp⟩
  · exact fm_skip _ (sm_W _ _ _) b
  · exact fm_tell _ h
  · exact fm_skip _ (sm_W _ _ _) b
  · exact fm_skip (F.tk 1) h b
  · exact ⟨h, by simp⟩
theorem fm_run : ∀ (l : Bs) (F : Fd), Sm F.s → Fm (F.run l)
  | [], F, h => ⟨h, by simp [Fd.run]⟩
  | b :: t, F, h => by
    have h1 := fm_fb F h b
    have h2 := fm_run t _ h1.1
    refine ⟨h2.1, fun s hs => ?_⟩
    simp only [Fd.run, List.mem_append] at hs
    exact hs.elim (h1.2 s) (h2.2 s)
theorem AlR.small {w : World} {lim : Int} {raw : Bs} {q : List Tld} {v : Value} {left : Int} {wr : World} (h : AlR w lim.toNat raw q v left wr) (hm : lim ≤ 9223372036854775807) (hl : raw.length ≤ 65536) : q.length ≤ 65536 ∧ ∀ x ∈ q, x.s.cmd.keys.length ≤ 2049 ∧ x.s.cmd.mt.length ≤ 2049 ∧ x.s.data.length ≤ 1000000 := by
  obtain ⟨b, hb, ht, _⟩ := h.tile
  have := ht.le
  refine ⟨by omega, fun x hx => ?_⟩
  have hx' : x.s ∈ ((fl lim.toNat 0).run raw).2 := by rw [h.run]; exact List.mem_map_of_mem hx
  have h1 := (fm_run raw (fl lim.toNat 0) sm_0).2 x.s hx'
  have h2 := dn_run raw (fd0_ok hm) rfl x.s (by rw [fd0_fl]; exact hx')
  have h3 : (fd0 lim).taken = 0 := rfl
  exact ⟨h1.1, h1.2, by omega⟩
end Go.Proofs.YtobegepebochkaaGreatDoor
namespace Go.Proofs.YtobegepebochkaaGreatDoor
open Go.RowKit Go.Maps
theorem Tile.same : ∀ {q r : List Tld} {a b : Nat}, q.map Tld.s = r.map Tld.s → Tile a q b → Tile a r b
  | [], [], a, b, _, h => h
  | [], _ :: _, a, b, e, h => by simp at e
  | _ :: _, [], a, b, e, h => by simp at e
  | x :: q, y :: r, a, b, e, h => by
    simp at e
    obtain ⟨h1, h2, h3⟩ := h
    refine ⟨by rw [← e.1]; exact h1, by rw [← e.1]; exact h2, ?_⟩
    rw [← e.1]
    exact Tile.same e.2 h3
end Go.Proofs.YtobegepebochkaaGreatDoor
namespace Go.Proofs.YtobegepebochkaaGreatDoor
open Go.RowKit Go.Maps
theorem Tile.uniq : ∀ {q : List Tld} {a b c : Nat}, Tile a q b → Tile a q c → b = c
  | [], a, b, c, h1, h2 => by
    have h1 : a = b := h1
    have h2 : a = c := h2
    omega
  | x :: q, a, b, c, h1, h2 => Tile.uniq h1.2.2 h2.2.2
end Go.Proofs.YtobegepebochkaaGreatDoor
namespace Go.Proofs.YtobegepebochkaaGreatDoor
open Go.RowKit Go.Maps
set_option maxRecDepth 100000 in
set_option maxHeartbeats 4000000 in
theorem clip_25 {w : World} {ao : Option Addr} {c : Nat} {l : Bs} (hc : 65536 < l.length → l.length ≤ c ∧ ∃ a, ao = some a) (hn : l.length ≤ 9223372036854775807) :
    Calls Tryz.prog 25 #[.slice ao l.length c] w fun e w' => e = .returned (.slice ao (l.take 65536).length c) ∧ w' = w := by
  by_cases hb : 65536 < l.length
  · obtain ⟨h2, a, rfl⟩ := hc hb
    have ht : (l.take 65536).length = 65536 := by rw [List.length_take]; omega
    rw [ht]
    have d1 : decide ((65536 : Int) < (l.length : Int)) = true := decide_eq_true (by omega)
    have d2 : (65536 : Int) ≤ (c : Int) := by omega
    clear ht hc
    go_enter Tryz.func25, Tryz.ntmps25
    go_wp2
    go_ret
    exact ⟨rfl, rfl⟩
  · have ht : l.take 65536 = l := List.take_of_length_le (by omega)
    rw [ht]
    have d1 : decide ((65536 : Int) < (l.length : Int)) = false := decide_eq_false (by omega)
    clear ht hc
    go_enter Tryz.func25, Tryz.ntmps25
    go_wp2
    go_ret
    exact ⟨rfl, rfl⟩
end Go.Proofs.YtobegepebochkaaGreatDoor

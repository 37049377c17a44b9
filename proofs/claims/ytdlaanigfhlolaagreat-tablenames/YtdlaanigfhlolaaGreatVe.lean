import Derived.Test.YtdlaanigfhlolaaGreatVd
import Derived.Deep.RegionHeld3
/-
  put.
-/
namespace Go.Proofs.YtdlaanigfhlolaaGreat
open Go.RowKit
set_option linter.unusedVariables false

theorem lies_pre {zs : List Int} {pl : Nat} {a b : List Int} (h : Lies zs pl (a ++ b)) : Lies zs pl a := by
  have h1 := h.cutE 0 a.length (by simp)
  rw [Nat.add_zero] at h1
  refine ⟨?_, ?_⟩
  · rw [h1]; simp [cut]
  · have := h.le
    simp at this
    omega
theorem wkT_pre : wkT.L.flatten = be 4 0 ++ (wkT.L.drop 1).flatten := by decide
theorem wk_lay0 {zs : List Int} (h : IsI zs 0 wkT) : lay zs 0 (be 4 0) = zs := lay_same (lies_pre (by rw [← wkT_pre]; exact h.lies))
theorem getD_rep (n i : Nat) : (List.replicate n (0 : Nat)).getD i 0 = 0 := by
  simp only [List.getD, List.getElem?_replicate]
  split <;> rfl
theorem u64s_rep (n i : Nat) (v : Value) (h : (u64s (List.replicate n 0)).toArray[i]? = some v) : v = .int .u64 0 := by
  rw [List.getElem?_toArray] at h
  simp only [u64s, List.map_replicate, List.getElem?_replicate] at h
  split at h
  · injection h with h; exact h.symm
  · cases h
def wkr : Nat := sumB [107] % 16
theorem wkr_lt : wkr < 16 := by decide +kernel

/-- A stage with one item, put. -/
structure St2 (w : World) (st sb : Nat) (G : Nat → Prop) (B : Bl) (zs : List Int) (tb hb : Nat) (mo : Int) (rb : Nat) (Fr : Nat → Prop) (Q : Rl) (qb wb : Nat) (mo2 : Int) (av : Value) (gi ci : Nat) (its : Nat → List Value) (ka : Option Addr) (kc : Nat) (va : Option Addr) (vc : Nat) (gin cin : Nat) : Prop where
  box : Box w 39 st #[.pointer (some ⟨sb, 0, none⟩), .pointer (some ⟨tb, 0, none⟩), .pointer (some ⟨qb, 0, none⟩), .pointer (some ⟨wb, 0, none⟩), av, .int .i64 0]
  iss : IsS w sb G B 3 200 64 256 30 30 (one1 wkA 0) zs
  isi : IsI zs 0 wkT
  ist : IsT w tb hb sb mo 1 16 0 2 ((List.replicate 16 0).set wkr 1)
  isr : IsR w rb Fr Q 200 64 256 wkR2
  isq : IsQ w qb rb (.slice (some ⟨gi, 0, none⟩) 64 ci) 64 its
  it : its 0 = [.bool true, .slice ka 1 kc, .slice va 1 vc, .int .u64 0, .int .i64 0, .int .i64 0, .int .u64 0, .int .i64 4, .int .i64 0, .int .u64 0, .int .u64 0, .int .u64 0]
  has : Has w ka 1 [107]
  bw : Box w 90 wb #[.pointer (some ⟨qb, 0, none⟩), .slice (some ⟨gin, 0, none⟩) 1 cin, .int .i64 16, .int .i64 mo2, .int .i64 0]
  gin : w.cell? ⟨gin, 0, none⟩ = some (.int .u64 1)

set_option maxRecDepth 100000 in
set_option maxHeartbeats 4000000 in
theorem put0 {w : World} {st sb : Nat} {G : Nat → Prop} {B : Bl} {zs : List Int} {tb hb : Nat} {mo : Int} {rb : Nat} {Fr : Nat → Prop} {Q : Rl} {qb wb : Nat} {mo2 : Int} {av : Value} {gi ci : Nat} {its : Nat → List Value} {ka : Option Addr} {kc : Nat} {va : Option Addr} {vc : Nat} (h : St1 w st sb G B zs tb hb mo rb Fr Q qb wb mo2 av gi ci its ka kc va vc) :
    Calls Tryz.prog 34 #[.pointer (some ⟨st, 0, none⟩), .int .u64 1] w fun y w' => y = .returned (.bool true) ∧ Kp (fun k => G k ∨ k = hb ∨ k = tb ∨ k = wb) w w' ∧ ∃ gin cin, St2 w' st sb G B zs tb hb mo rb Fr Q qb wb mo2 av gi ci its ka kc va vc gin cin := by
  obtain ⟨ns, nt, nh, nq, nw, ng⟩ := h.n1
  have hpt := put1 h.ist h.iss iwk_inv.fit iwk_isH wkT (by rw [iwk_place]; exact h.isi) (by rw [iwk_own, iwk_sz]; decide) nt nh (getD_rep _ _) h.m16
  rw [iwk_place, wk_lay0 h.isi] at hpt
  have e16 : sumB wkT.key % (List.replicate 16 0).length = wkr := by simp [wkr, wkT]
  rw [e16] at hpt
  simp only [show ((1 : Nat) : Int) = 1 from rfl] at hpt
  have hrw := fun W (hW : Box W 90 wb #[.pointer (some ⟨qb, 0, none⟩), .slice none 0 0, .int .i64 16, .int .i64 mo2, .int .i64 0]) (hR : IsR W rb Fr Q 200 64 256 wkR2) (hq : IsQ W qb rb (.slice (some ⟨gi, 0, none⟩) 64 ci) 64 its) => rput5 (H := 1) hW (fun W2 hf => rread3 (hq.kept0 hf) (i := 0) (H := 1) (fun W3 hf3 => rfind_yes ((hR.kept0 hf).kept0 hf3) wkR2_fit (by rw [wkR2_N]; decide) wkR2_tk wkR2_h (fun j hj => by omega)) (by decide) (by decide) h.it)
  simp only [show ((1 : Nat) : Int) = 1 from rfl] at hrw
  have c1 := h.box.cell 1
  simp at c1
  have tst : st ≠ tb := fun e => ne_of_type h.box h.ist.box (by decide) e
  have hst : st ≠ hb := fun e => ne_of_type h.box h.ist.hd (by decide) e
  have twb : wb ≠ tb := fun e => ne_of_type h.bw h.ist.box (by decide) e
  have hwb : wb ≠ hb := fun e => ne_of_type h.bw h.ist.hd (by decide) e
  have tqb : qb ≠ tb := fun e => ne_of_type h.isq.box h.ist.box (by decide) e
  have hqb : qb ≠ hb := fun e => ne_of_type h.isq.box h.ist.hd (by decide) e
  have wst : st ≠ wb := fun e => ne_of_type h.box h.bw (by decide) e
  have wqb : qb ≠ wb := fun e => ne_of_type h.isq.box h.bw (by decide) e
  obtain ⟨gcur, hgc⟩ := row_block h.isq.row gi rfl
  have tgi : gi ≠ tb := fun e => ne_of_type hgc h.ist.box (by decide) e
  have hgi : gi ≠ hb := fun e => ne_of_type hgc h.ist.hd (by decide) e
  have wgi : gi ≠ wb := fun e => ne_of_type hgc h.bw (by decide) e
  have hkb : ∀ k, ka.map (·.block) = some k → k ≠ tb ∧ k ≠ hb ∧ k ≠ wb := by
    intro k hk
    obtain ⟨b, o, rfl, hc⟩ := h.has.2 (by omega)
    simp at hk
    subst hk
    have h0 := hc 0 (by omega)
    refine ⟨fun e => ?_, fun e => ?_, fun e => ?_⟩
    · subst e
      rw [h.ist.box.cell] at h0
      rcases o with _ | _ | _ | _ | _ | _ | _ | _ | o <;> simp [tabC] at h0
    · subst e
      rw [cell_of_row w _ _ _ _ _ h.ist.hd] at h0
      have := u64s_rep _ _ _ h0
      simp at this
    · subst e
      rw [h.bw.cell] at h0
      rcases o with _ | _ | _ | _ | _ | o <;> simp at h0
  have hpt' := hpt.mono (R' := fun y w1 => y = .returned (.int .i64 0) ∧ w1.cell? ⟨st, 3, none⟩ = some (.pointer (some ⟨wb, 0, none⟩)) ∧ Box w1 90 wb #[.pointer (some ⟨qb, 0, none⟩), .slice none 0 0, .int .i64 16, .int .i64 mo2, .int .i64 0] ∧ IsR w1 rb Fr Q 200 64 256 wkR2 ∧ IsQ w1 qb rb (.slice (some ⟨gi, 0, none⟩) 64 ci) 64 its ∧ Hid (Kp (fun k => G k ∨ k = hb ∨ k = tb) w w1 ∧ IsS w1 sb G B 3 200 64 256 30 30 (one1 wkA 0) zs ∧ IsT w1 tb hb sb mo 1 16 0 2 ((List.replicate 16 0).set wkr 1))) (by
    rintro y w1 ⟨rfl, hK, hS, hT⟩
    have hb1 := hK.box h.box (by rintro (h1 | h1 | h1); exact ns h1; exact hst h1; exact tst h1)
    refine ⟨rfl, hb1.cell 3, hK.box h.bw (by rintro (h1 | h1 | h1); exact nw h1; exact hwb h1; exact twb h1), h.isr.kept hK (fun k hk => ?_), h.isq.kept hK (by rintro (h1 | h1 | h1); exact nq h1; exact hqb h1; exact tqb h1) (fun k hk => ?_), hK, hS, hT⟩
    · rintro (h1 | h1 | h1)
      · exact h.n2 k hk h1
      · subst h1; exact h.n4.2.1 hk
      · subst h1; exact h.n4.1 hk
    · simp [Value.ownBlock] at hk
      subst hk
      rintro (h1 | h1 | h1); exact ng h1; exact hgi h1; exact tgi h1)
  have hrw2 := fun w1 (hW : Box w1 90 wb #[.pointer (some ⟨qb, 0, none⟩), .slice none 0 0, .int .i64 16, .int .i64 mo2, .int .i64 0]) (hR : IsR w1 rb Fr Q 200 64 256 wkR2) (hq : IsQ w1 qb rb (.slice (some ⟨gi, 0, none⟩) 64 ci) 64 its) (hE : Hid (Kp (fun k => G k ∨ k = hb ∨ k = tb) w w1 ∧ IsS w1 sb G B 3 200 64 256 30 30 (one1 wkA 0) zs ∧ IsT w1 tb hb sb mo 1 16 0 2 ((List.replicate 16 0).set wkr 1))) => (hrw w1 hW hR hq).mono (R' := fun y w2 => y = .returned (.int .i64 0) ∧ Hid (Kp (fun k => G k ∨ k = hb ∨ k = tb ∨ k = wb) w w2 ∧ ∃ gin cin, St2 w2 st sb G B zs tb hb mo rb Fr Q qb wb mo2 av gi ci its ka kc va vc gin cin)) (by
    rintro y w2 ⟨rfl, hf, gin, cin, hlo, hbw, hin⟩
    obtain ⟨hK, hS, hT⟩ := hE.out
    have hK2 : Kp (fun k => k = wb) w1 w2 := (Kp.refl _ _).step hf (fun i hi => .inl (by simpa using hi.symm))
    have hb1 := hK.box h.box (by rintro (h1 | h1 | h1); exact ns h1; exact hst h1; exact tst h1)
    refine ⟨rfl, hK.trans hK2 (fun k hk => by rcases hk with h1 | h1 | h1; exact .inl h1; exact .inr (.inl h1); exact .inr (.inr (.inl h1))) (fun k hk => .inl (.inr (.inr (.inr hk)))), gin, cin, ⟨hK2.box hb1 wst, hS.kept hK2 (fun k hk e => nw (e ▸ hk)), h.isi, hT.kept hK2 twb.symm hwb.symm, hR.kept hK2 (fun k hk e => h.n4.2.2.1 (e ▸ hk)), hq.kept hK2 wqb (fun k hk e => ?_), h.it, (h.has.kept2 hK (fun k hk => ?_)).kept2 hK2 (fun k hk e => (hkb k hk).2.2 e), hbw, hin⟩⟩
    · simp [Value.ownBlock] at hk
      exact wgi (hk.trans e)
    · rintro (h1 | h1 | h1)
      · exact h.n3 k hk h1
      · exact (hkb k hk).2.1 h1
      · exact (hkb k hk).1 h1)
  clear hpt hrw
  go_enter Tryz.func34, Tryz.ntmps34
  go_wp2_with (first | (go_at_call 56; go_must (with_reducible refine hpt'.mono ?_); rintro y w1 ⟨rfl, d3, hW, hR, hq, hE⟩) | fail)
  have hdr := gb_drew (gb_refl w1 none)
  have hrd := (hrw2 w1.drew (hW.kept hdr (by simp)) (hR.kept0 hdr) (hq.kept0 hdr) ⟨hE.out.1.step hdr (by simp), hE.out.2.1.kept0 hdr, hE.out.2.2.kept0 hdr⟩).mono (R' := fun y w2 => y = .returned (.int .i64 0) ∧ w2.cell? ⟨st, 3, none⟩ = some (.pointer (some ⟨wb, 0, none⟩)) ∧ Hid (Kp (fun k => G k ∨ k = hb ∨ k = tb ∨ k = wb) w w2 ∧ ∃ gin cin, St2 w2 st sb G B zs tb hb mo rb Fr Q qb wb mo2 av gi ci its ka kc va vc gin cin)) (by
    rintro y w2 ⟨rfl, hE2⟩
    obtain ⟨k1, gin, cin, hs⟩ := hE2.out
    exact ⟨rfl, hs.box.cell 3, k1, gin, cin, hs⟩)
  clear hrw2 hpt' hE hW hR hq
  go_region_held3 (fun w' => w'.cell? ⟨st, 3, none⟩ = some (.pointer (some ⟨wb, 0, none⟩))) ((first | with_reducible exact hC2 | go_keep)) ((first | (go_at_call 13; with_reducible refine (num_any _ _).mono ?_; rintro y w' ⟨rfl, rfl⟩) | (go_at_call 73; with_reducible refine hrd.mono ?_; rintro y w2 ⟨rfl, hC2, hE2⟩)))
  go_wp2
  go_ret
  exact ⟨rfl, hE2.out⟩
end Go.Proofs.YtdlaanigfhlolaaGreat

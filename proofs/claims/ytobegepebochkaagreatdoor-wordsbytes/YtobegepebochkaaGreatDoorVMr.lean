import Derived.Test.YtobegepebochkaaGreatDoorVMq
set_option linter.unusedVariables false
set_option linter.unusedSimpArgs false
namespace Go.Proofs.YtobegepebochkaaGreatDoor
open Go.RowKit
structure KdC (w : World) (FB : Nat → Prop) (eO eI : TypeId) (s : Nat) (hv wv : Value) (KV KW : Nat) (V W : Nat → Value) (N : Nat → Nat) (D : Nat → List Value) : Prop where
  hr : oC w 0 eO 1 hv KV (vsL V KV)
  wr : oC w 0 eO 1 wv KW (vsL W KW)
  hw : ∀ g, hv.ownBlock = some g → wv.ownBlock ≠ some g
  vs : ∀ i, i < KV → oC w 0 eI s (V i) (N i) (D i)
  ws : ∀ i, i < KW → oC w 0 eI s (W i) (N i) (D i)
  vv : ∀ i j g, i < KV → j < KV → i ≠ j → (V i).ownBlock = some g → (V j).ownBlock ≠ some g
  vw : ∀ i j g, i < KV → j < KW → (V i).ownBlock = some g → (W j).ownBlock ≠ some g
  oc : ∀ i, i < KV → ∀ u ∈ D i, u.oneCell' = true
  dl : ∀ i, i < KV → N i ≤ 1000000
  fh : ∀ g, hv.ownBlock = some g → FB g
  fw : ∀ g, wv.ownBlock = some g → FB g
  fv : ∀ i g, i < KV → (V i).ownBlock = some g → FB g
  fc : ∀ i g, i < KW → (W i).ownBlock = some g → FB g
  ft : ∀ k, FB k → ∃ cur : Array Value × (Nat × Nat), w.heap[k]? = some (.cells cur.1 eO cur.2) ∨ w.heap[k]? = some (.cells cur.1 eI cur.2)
  ne : eO ≠ eI
  kw : KW ≤ KV
section
variable {w w' w2 : World} {FB : Nat → Prop} {eO eI : TypeId} {s : Nat} {hv wv : Value} {KV KW : Nat} {V W : Nat → Value} {N : Nat → Nat} {D : Nat → List Value}
theorem KdC.fl (h : KdC w FB eO eI s hv wv KV KW V W N D) : ∀ k, FB k → k < w.heap.size := fun k hk => by
  obtain ⟨c, h1 | h1⟩ := h.ft k hk <;> exact lt_of_block h1
theorem KdC.same (h : KdC w FB eO eI s hv wv KV KW V W N D) (hf : ∀ k, FB k → w'.heap[k]? = w.heap[k]?) : KdC w' FB eO eI s hv wv KV KW V W N D :=
  ⟨row_sameC h.hr (fun k hk => hf k (h.fh k hk)), row_sameC h.wr (fun k hk => hf k (h.fw k hk)), h.hw, fun i hi => row_sameC (h.vs i hi) (fun k hk => hf k (h.fv i k hi hk)), fun i hi => row_sameC (h.ws i hi) (fun k hk => hf k (h.fc i k hi hk)), h.vv, h.vw, h.oc, h.dl, h.fh, h.fw, h.fv, h.fc, fun k hk => by rw [hf k hk]; exact h.ft k hk, h.ne, h.kw⟩
theorem KdC.kept {row : Option Nat} (h : KdC w FB eO eI s hv wv KV KW V W N D) (hf : w.grownBy w' row) (hn : ∀ k, FB k → some k ≠ row) : KdC w' FB eO eI s hv wv KV KW V W N D :=
  h.same (fun k hk => hf.block k (h.fl k hk) (hn k hk))
theorem KdC.kept0 (h : KdC w FB eO eI s hv wv KV KW V W N D) (hf : w.grownBy w' none) : KdC w' FB eO eI s hv wv KV KW V W N D := h.kept hf (by simp)
theorem KdC.not {b : Nat} {t : TypeId} {vs : Array Value} {z : Nat × Nat} (h : KdC w FB eO eI s hv wv KV KW V W N D) (hb : w.heap[b]? = some (.cells vs t z)) (h1 : t ≠ eO) (h2 : t ≠ eI) : ¬ FB b := fun hk => by
  obtain ⟨c, h3 | h3⟩ := h.ft b hk
  · exact ne_of_type hb h3 h1 rfl
  · exact ne_of_type hb h3 h2 rfl
theorem KdC.nil (w : World) {eO eI : TypeId} (s : Nat) (hne : eO ≠ eI) : KdC w (fun _ => False) eO eI s (.slice none 0 0) (.slice none 0 0) 0 0 (fun _ => .slice none 0 0) (fun _ => .slice none 0 0) (fun _ => 0) (fun _ => []) :=
  ⟨⟨rfl, .inl ⟨rfl, rfl⟩⟩, ⟨rfl, .inl ⟨rfl, rfl⟩⟩, by simp [Value.ownBlock], fun i hi => by omega, fun i hi => by omega, fun i j g hi => by omega, fun i j g hi => by omega, fun i hi => by omega, fun i hi => by omega, by simp [Value.ownBlock], by simp [Value.ownBlock], fun i g hi => by omega, fun i g hi => by omega, fun k h => h.elim, hne, Nat.le_refl _⟩
theorem KdC.nv (h : KdC w FB eO eI s hv wv KV KW V W N D) {v u : Value} {n m : Nat} {xs ys : List Value} (h1 : oC w 0 eO 1 v n xs) (h2 : oC w 0 eI s u m ys) {g : Nat} (hg : u.ownBlock = some g) : v.ownBlock ≠ some g := fun e => by
  obtain ⟨c1, q1⟩ := row_blockC h1 g e
  obtain ⟨c2, q2⟩ := row_blockC h2 g hg
  exact ne_of_type q1 q2 h.ne rfl
theorem KdC.pushV (h : KdC w FB eO eI s hv wv KV KW V W N D) {hv' v : Value} {n : Nat} {xs : List Value} (hvr : oC w 0 eI s v n xs) (hvF : ∀ g, v.ownBlock = some g → ¬ FB g) (hn : n ≤ 1000000) (hoc : ∀ u ∈ xs, u.oneCell' = true)
    (hown : oC w2 0 eO 1 hv' (KV + 1) (vsL V KV ++ [v])) (hg : w.grownBy w2 hv.ownBlock) (hat : ∀ g, hv'.ownBlock = some g → hv.ownBlock = some g ∨ w.heap.size ≤ g) :
    KdC w2 (fun k => (FB k ∧ hv.ownBlock ≠ some k) ∨ v.ownBlock = some k ∨ hv'.ownBlock = some k) eO eI s hv' wv (KV + 1) KW (upd V KV v) W (upd N KV n) (upd D KV xs) := by
  have kI : ∀ {v : Value} {m : Nat} {ys : List Value}, oC w 0 eI s v m ys → oC w2 0 eI s v m ys := fun hr => row_keptC hr hg (fun k hk e => h.nv h.hr hr hk e.symm)
  have hlt : ∀ g, v.ownBlock = some g → g < w.heap.size := fun g hg => (row_geC hvr hg).2
  have hkw := h.kw
  refine ⟨by rw [vsL_upd]; exact hown, row_keptC h.wr hg (fun k hk e => h.hw k e.symm hk), fun g hg2 e => ?_, fun i hi => ?_, fun i hi => ?_, fun i j g hi hj hij hg2 => ?_, fun i j g hi hj hg2 => ?_, fun i hi => ?_, fun i hi => ?_, fun g hg2 => .inr (.inr hg2), fun g hg2 => .inl ⟨h.fw g hg2, fun e => h.hw g e hg2⟩, fun i g hi hg2 => ?_, fun i g hi hg2 => .inl ⟨h.fc i g hi hg2, h.nv h.hr (h.ws i hi) hg2⟩, ?_, h.ne, by omega⟩
  · rcases hat g hg2 with h1 | h1
    · exact h.hw g h1 e
    · have := (row_geC h.wr e).2; omega
  · by_cases e : i = KV
    · subst e; rw [upd_same, upd_same, upd_same]; exact kI hvr
    · rw [upd_other _ _ e, upd_other _ _ e, upd_other _ _ e]; exact kI (h.vs i (by omega))
  · rw [upd_other _ _ (by omega), upd_other _ _ (by omega)]; exact kI (h.ws i hi)
  · by_cases ei : i = KV
    · subst ei
      rw [upd_same] at hg2
      rw [upd_other _ _ (by omega)]
      exact fun e => hvF g hg2 (h.fv j g (by omega) e)
    · rw [upd_other _ _ ei] at hg2
      by_cases ej : j = KV
      · subst ej; rw [upd_same]; exact fun e => hvF g e (h.fv i g (by omega) hg2)
      · rw [upd_other _ _ ej]; exact h.vv i j g (by omega) (by omega) hij hg2
  · by_cases ei : i = KV
    · subst ei; rw [upd_same] at hg2; exact fun e => hvF g hg2 (h.fc j g (by omega) e)
    · rw [upd_other _ _ ei] at hg2; exact h.vw i j g (by omega) (by omega) hg2
  · by_cases e : i = KV
    · subst e; rw [upd_same]; exact hoc
    · rw [upd_other _ _ e]; exact h.oc i (by omega)
  · by_cases e : i = KV
    · subst e; rw [upd_same]; exact hn
    · rw [upd_other _ _ e]; exact h.dl i (by omega)
  · by_cases e : i = KV
    · subst e; rw [upd_same] at hg2; exact .inr (.inl hg2)
    · rw [upd_other _ _ e] at hg2; exact .inl ⟨h.fv i g (by omega) hg2, h.nv h.hr (h.vs i (by omega)) hg2⟩
  · rintro k (⟨hk, e⟩ | hk | hk)
    · have h1 := hg.block k (h.fl k hk) (fun e2 => e e2.symm)
      rw [h1]; exact h.ft k hk
    · obtain ⟨c, hc⟩ := row_blockC (kI hvr) k hk; exact ⟨c, .inr hc⟩
    · obtain ⟨c, hc⟩ := row_blockC hown k hk; exact ⟨c, .inl hc⟩
theorem KdC.pushW (h : KdC w FB eO eI s hv wv KV KW V W N D) (hKW : KW < KV) {wv' v : Value} (hvr : oC w 0 eI s v (N KW) (D KW)) (hvF : ∀ g, v.ownBlock = some g → ¬ FB g)
    (hown : oC w2 0 eO 1 wv' (KW + 1) (vsL W KW ++ [v])) (hg : w.grownBy w2 wv.ownBlock) (hat : ∀ g, wv'.ownBlock = some g → wv.ownBlock = some g ∨ w.heap.size ≤ g) :
    KdC w2 (fun k => (FB k ∧ wv.ownBlock ≠ some k) ∨ v.ownBlock = some k ∨ wv'.ownBlock = some k) eO eI s hv wv' KV (KW + 1) V (upd W KW v) N D := by
  have kI : ∀ {v : Value} {m : Nat} {ys : List Value}, oC w 0 eI s v m ys → oC w2 0 eI s v m ys := fun hr => row_keptC hr hg (fun k hk e => h.nv h.wr hr hk e.symm)
  refine ⟨row_keptC h.hr hg (fun k hk e => h.hw k hk e.symm), by rw [vsL_upd]; exact hown, fun g hg2 e => ?_, fun i hi => kI (h.vs i hi), fun i hi => ?_, h.vv, fun i j g hi hj hg2 => ?_, h.oc, h.dl, fun g hg2 => .inl ⟨h.fh g hg2, h.hw g hg2⟩, fun g hg2 => .inr (.inr hg2), fun i g hi hg2 => .inl ⟨h.fv i g hi hg2, h.nv h.wr (h.vs i hi) hg2⟩, fun i g hi hg2 => ?_, ?_, h.ne, by omega⟩
  · rcases hat g e with h1 | h1
    · exact h.hw g hg2 h1
    · have := (row_geC h.hr hg2).2; omega
  · by_cases e : i = KW
    · subst e; rw [upd_same]; exact kI hvr
    · rw [upd_other _ _ e]; exact kI (h.ws i (by omega))
  · by_cases ej : j = KW
    · subst ej; rw [upd_same]; exact fun e => hvF g e (h.fv i g hi hg2)
    · rw [upd_other _ _ ej]; exact h.vw i j g hi (by omega) hg2
  · by_cases e : i = KW
    · subst e; rw [upd_same] at hg2; exact .inr (.inl hg2)
    · rw [upd_other _ _ e] at hg2; exact .inl ⟨h.fc i g (by omega) hg2, h.nv h.wr (h.ws i (by omega)) hg2⟩
  · rintro k (⟨hk, e⟩ | hk | hk)
    · have h1 := hg.block k (h.fl k hk) (fun e2 => e e2.symm)
      rw [h1]; exact h.ft k hk
    · obtain ⟨c, hc⟩ := row_blockC (kI hvr) k hk; exact ⟨c, .inr hc⟩
    · obtain ⟨c, hc⟩ := row_blockC hown k hk; exact ⟨c, .inl hc⟩
end
structure ClC (w : World) (B0 : Nat) (FB : Nat → Prop) (eO eI : TypeId) (s p q : Nat) (mk : Nat → Nat → List Value) (hv ov mv : Value) (K KO KM : Nat) (V O M : Nat → Value) (L : Nat → Nat) (R : Nat → List Value) : Prop where
  hr : oC w 0 eO 1 hv K (vsL V K)
  orow : oC w B0 eO 1 ov KO (vsL O KO)
  mrow : oC w B0 eO 1 mv KM (vsL M KM)
  om : ∀ g, ov.ownBlock = some g → mv.ownBlock ≠ some g
  hl : ∀ g, hv.ownBlock = some g → g < B0
  vs : ∀ i, i < K → oC w 0 eI s (V i) (L i) (R i)
  os : ∀ i, i < KO → oC w 0 eI s (O i) (L i + p) (rng (L i + p) (mk i))
  ms : ∀ i, i < KM → oC w 0 eI s (M i) (L i + q) (rng (L i + q) (mk i))
  vv : ∀ i j g, i < K → j < K → i ≠ j → (V i).ownBlock = some g → (V j).ownBlock ≠ some g
  vl : ∀ i g, i < K → (V i).ownBlock = some g → g < B0
  oc : ∀ i g, i < KO → (O i).ownBlock = some g → (V i).ownBlock = some g ∨ B0 ≤ g
  mc : ∀ i g, i < KM → (M i).ownBlock = some g → (V i).ownBlock = some g ∨ B0 ≤ g
  fv : ∀ i g, i < K → (V i).ownBlock = some g → FB g
  hB : B0 ≤ w.heap.size
  hL : ∀ i, i < K → L i ≤ 1000000
  ko : KO ≤ K
  km : KM ≤ K
  ne : eO ≠ eI
  sp : 0 < s
  mkl : ∀ i k, (mk i k).length = s
section
variable {w w' : World} {B0 : Nat} {FB : Nat → Prop} {eO eI : TypeId} {s p q : Nat} {mk : Nat → Nat → List Value} {hv ov mv : Value} {K KO KM : Nat} {V O M : Nat → Value} {L : Nat → Nat} {R : Nat → List Value}
theorem ClC.same {row : Option Nat} (h : ClC w B0 FB eO eI s p q mk hv ov mv K KO KM V O M L R) (hf : w.grownBy w' row) (hn : ∀ k (c : Array Value × (Nat × Nat)), row = some k → w.heap[k]? ≠ some (.cells c.1 eO c.2) ∧ w.heap[k]? ≠ some (.cells c.1 eI c.2)) : ClC w' B0 FB eO eI s p q mk hv ov mv K KO KM V O M L R := by
  have k1 : ∀ {B : Nat} {e : TypeId} {t : Nat} {v : Value} {m : Nat} {ys : List Value}, oC w B e t v m ys → (e = eO ∨ e = eI) → oC w' B e t v m ys := fun hr he => row_keptC hr hf (fun k hk e => by
    obtain ⟨c, hc⟩ := row_blockC hr k hk
    rcases he with rfl | rfl
    · exact (hn k c e.symm).1 hc
    · exact (hn k c e.symm).2 hc)
  exact ⟨k1 h.hr (.inl rfl), k1 h.orow (.inl rfl), k1 h.mrow (.inl rfl), h.om, h.hl, fun i hi => k1 (h.vs i hi) (.inr rfl), fun i hi => k1 (h.os i hi) (.inr rfl), fun i hi => k1 (h.ms i hi) (.inr rfl), h.vv, h.vl, h.oc, h.mc, h.fv, Nat.le_trans h.hB hf.size, h.hL, h.ko, h.km, h.ne, h.sp, h.mkl⟩
theorem ClC.kept0 (h : ClC w B0 FB eO eI s p q mk hv ov mv K KO KM V O M L R) (hf : w.grownBy w' none) : ClC w' B0 FB eO eI s p q mk hv ov mv K KO KM V O M L R := h.same hf (by simp)
theorem ClC.far {b : Nat} {t : TypeId} {vs : Array Value} {z : Nat × Nat} (h : ClC w B0 FB eO eI s p q mk hv ov mv K KO KM V O M L R) (hb : w.heap[b]? = some (.cells vs t z)) (h1 : t ≠ eO) (h2 : t ≠ eI) (hf : w.grownBy w' (some b)) : ClC w' B0 FB eO eI s p q mk hv ov mv K KO KM V O M L R :=
  h.same hf (fun k c e => by
    have e2 := Option.some.inj e; subst e2
    exact ⟨fun e3 => ne_of_type hb e3 h1 rfl, fun e3 => ne_of_type hb e3 h2 rfl⟩)
theorem ClC.read (h : ClC w B0 FB eO eI s p q mk hv ov mv K KO KM V O M L R) {R' : Nat → List Value} (hR : ∀ i, i < K → R i = R' i) : ClC w B0 FB eO eI s p q mk hv ov mv K KO KM V O M L R' :=
  ⟨h.hr, h.orow, h.mrow, h.om, h.hl, fun i hi => by rw [← hR i hi]; exact h.vs i hi, h.os, h.ms, h.vv, h.vl, h.oc, h.mc, h.fv, h.hB, h.hL, h.ko, h.km, h.ne, h.sp, h.mkl⟩
theorem ClC.push (h : ClC w B0 FB eO eI s p q mk hv ov mv K KO KM V O M L (fun i => rng (L i) (mk i))) {i k m : Nat} {lv lv' : Value} (hi : i < K) (hl : oC w 0 eI s lv (L i + k) (rng (L i + k) (mk i))) (hap : Ap B0 KO KM V O M i lv) (hp : Psh w w' lv (L i + k) m lv') (hl' : oC w' 0 eI s lv' (L i + k + m) (rng (L i + k + m) (mk i))) (h16 : i < KO → p ≤ k + m) (hKM : KM ≤ i) :
    ClC w' B0 FB eO eI s p q mk hv ov mv K KO KM V O M L (fun i => rng (L i) (mk i)) ∧ Ap B0 KO KM V O M i lv' ∧ ∃ row, w.grownBy w' row ∧ ∀ g, row = some g → FB g ∨ B0 ≤ g := by
  rcases hp with ⟨g, cap, rfl, hc, rfl, hg⟩ | ⟨g, cap, rfl, hge, hg⟩
  · obtain ⟨c0, hc0⟩ := row_blockC hl g rfl
    have t90 : ∀ {B m : Nat} {v : Value} {ys : List Value}, oC w B eO 1 v m ys → ∀ k, v.ownBlock = some k → some k ≠ some g := fun hr k hk e => by
      obtain ⟨c1, hc1⟩ := row_blockC hr k hk
      exact ne_of_type hc1 hc0 h.ne (Option.some.inj e)
    have hvi : ∀ j, j < K → (V j).ownBlock = some g → j = i := fun j hj e => by
      rcases hap g rfl with h1 | ⟨_, _, h1⟩
      · apply Classical.byContradiction
        intro hne
        exact h.vv j i g hj hi hne e h1
      · have := h.vl j g hj e; omega
    refine ⟨⟨row_keptC h.hr hg (t90 h.hr), row_keptC h.orow hg (t90 h.orow), row_keptC h.mrow hg (t90 h.mrow), h.om, h.hl, fun j hj => ?_, fun j hj => ?_, fun j hj => ?_, h.vv, h.vl, h.oc, h.mc, h.fv, Nat.le_trans h.hB hg.size, h.hL, h.ko, h.km, h.ne, h.sp, h.mkl⟩, hap, some g, hg, ?_⟩
    · by_cases e : (V j).ownBlock = some g
      · obtain rfl := hvi j hj e
        have h9 := row_innerC h.sp hl (h.vs j hj) e hl' (by omega)
        rw [rng_take (h.mkl j) (by omega)] at h9
        exact h9
      · exact row_keptC (h.vs j hj) hg (fun q hq e2 => e (by rw [hq]; exact e2))
    · by_cases e : (O j).ownBlock = some g
      · have hji : j = i := by
          rcases hap g rfl with h1 | ⟨h1, _, _⟩
          · rcases h.oc j g hj e with h2 | h2
            · exact hvi j (Nat.lt_of_lt_of_le hj h.ko) h2
            · have := h.vl i g hi h1; omega
          · exact absurd e (h1 j hj)
        subst hji
        have h3 := h16 hj
        have h9 := row_innerC h.sp hl (h.os j hj) e hl' (by omega)
        rw [rng_take (h.mkl j) (by omega)] at h9
        exact h9
      · exact row_keptC (h.os j hj) hg (fun q hq e2 => e (by rw [hq]; exact e2))
    · refine row_keptC (h.ms j hj) hg (fun q hq e2 => ?_)
      have e : (M j).ownBlock = some g := by rw [hq]; exact e2
      rcases hap g rfl with h1 | ⟨_, h1, _⟩
      · rcases h.mc j g hj e with h2 | h2
        · have := hvi j (Nat.lt_of_lt_of_le hj h.km) h2; omega
        · have := h.vl i g hi h1; omega
      · exact h1 j hj e
    · intro q hq
      have hq2 := Option.some.inj hq
      subst hq2
      rcases hap g rfl with h1 | ⟨_, _, h1⟩
      · exact .inl (h.fv i g hi h1)
      · exact .inr h1
  · refine ⟨h.kept0 hg, fun q hq => ?_, none, hg, by simp⟩
    have hq2 : g = q := by simpa [Value.ownBlock] using hq
    subst hq2
    refine .inr ⟨fun j hj e => ?_, fun j hj e => ?_, Nat.le_trans h.hB hge⟩
    · have := (row_geC (h.os j hj) e).2; omega
    · have := (row_geC (h.ms j hj) e).2; omega
theorem ClC.write (h : ClC w B0 FB eO eI s p q mk hv ov mv K 0 0 V O M L R) {i g c : Nat} {R' : List Value} (hi : i < K) (hv2 : V i = .slice (some ⟨g, 0, none⟩) (L i) c) (hg : w.grownBy w' (some g)) (hown : oC w' 0 eI s (.slice (some ⟨g, 0, none⟩) (L i) c) (L i) R') :
    ClC w' B0 FB eO eI s p q mk hv ov mv K 0 0 V O M L (upd R i R') := by
  have hVi := h.vs i hi
  rw [hv2] at hVi
  obtain ⟨c0, hc0⟩ := row_blockC hVi g rfl
  have t90 : ∀ {B m : Nat} {v : Value} {ys : List Value}, oC w B eO 1 v m ys → ∀ k, v.ownBlock = some k → some k ≠ some g := fun hr k hk e => by
    obtain ⟨c1, hc1⟩ := row_blockC hr k hk
    exact ne_of_type hc1 hc0 h.ne (Option.some.inj e)
  refine ⟨row_keptC h.hr hg (t90 h.hr), row_keptC h.orow hg (t90 h.orow), row_keptC h.mrow hg (t90 h.mrow), h.om, h.hl, fun j hj => ?_, fun j hj => by omega, fun j hj => by omega, h.vv, h.vl, h.oc, h.mc, h.fv, Nat.le_trans h.hB hg.size, h.hL, h.ko, h.km, h.ne, h.sp, h.mkl⟩
  by_cases e : j = i
  · subst e
    rw [upd_same, hv2]
    exact hown
  · rw [upd_other _ _ e]
    refine row_keptC (h.vs j hj) hg (fun q hq e2 => h.vv j i q hj hi e hq ?_)
    rw [hv2, Option.some.inj e2]; rfl
theorem ClC.one {w7 : World} {lv ov' : Value} {i : Nat} (h : ClC w B0 FB eO eI s p q mk hv ov mv K i KM V O M L R) (hi : i < K) (hl : oC w 0 eI s lv (L i + p) (rng (L i + p) (mk i))) (hap : Ap B0 i KM V O M i lv) (hown : oC w7 B0 eO 1 ov' (i + 1) (vsL O i ++ [lv])) (hg : w.grownBy w7 ov.ownBlock) (hat : ∀ g, ov'.ownBlock = some g → ov.ownBlock = some g ∨ w.heap.size ≤ g) :
    ClC w7 B0 FB eO eI s p q mk hv ov' mv K (i + 1) KM V (upd O i lv) M L R ∧ Kp (fun k => B0 ≤ k) w w7 := by
  have hB := h.hB
  have ho0 : ∀ g, ov.ownBlock = some g → B0 ≤ g := fun g e => (row_geC h.orow e).1
  have keep : ∀ {B : Nat} {e : TypeId} {t : Nat} {v : Value} {m : Nat} {ys : List Value}, oC w B e t v m ys → (e ≠ eO ∨ ∀ g, v.ownBlock = some g → ov.ownBlock ≠ some g) → oC w7 B e t v m ys := fun hr hd => by
    refine row_keptC hr hg (fun k hk e2 => ?_)
    rcases hd with hd | hd
    · obtain ⟨c1, hc1⟩ := row_blockC hr k hk
      obtain ⟨c2, hc2⟩ := row_blockC h.orow k e2.symm
      exact ne_of_type hc1 hc2 hd rfl
    · exact hd k hk e2.symm
  refine ⟨⟨keep h.hr (.inr fun g hg2 e => by have := h.hl g hg2; have := ho0 g e; omega), by rw [vsL_upd]; exact hown, keep h.mrow (.inr fun g hg2 e => h.om g e hg2), ?_, h.hl, fun j hj => keep (h.vs j hj) (.inl h.ne.symm), fun j hj => ?_, fun j hj => keep (h.ms j hj) (.inl h.ne.symm), h.vv, h.vl, fun j g hj hg2 => ?_, h.mc, h.fv, ?_, h.hL, hi, h.km, h.ne, h.sp, h.mkl⟩, ?_⟩
  · intro g hg2 e
    rcases hat g hg2 with h1 | h1
    · exact h.om g h1 e
    · have := (row_geC h.mrow e).2; omega
  · by_cases e : j = i
    · subst e; rw [upd_same]; exact keep hl (.inl h.ne.symm)
    · rw [upd_other _ _ e]; exact keep (h.os j (by omega)) (.inl h.ne.symm)
  · by_cases e : j = i
    · subst e; rw [upd_same] at hg2
      exact (hap g hg2).imp id (fun h => h.2.2)
    · rw [upd_other _ _ e] at hg2; exact h.oc j g (by omega) hg2
  · have := hg.size; omega
  · exact (Kp.refl _ w).step hg (fun g e => .inl (ho0 g e))
theorem ClC.many {w7 : World} {lv mv' : Value} {i : Nat} (h : ClC w B0 FB eO eI s p q mk hv ov mv K KO i V O M L R) (hi : i < K) (hl : oC w 0 eI s lv (L i + q) (rng (L i + q) (mk i))) (hap : Ap B0 KO i V O M i lv) (hown : oC w7 B0 eO 1 mv' (i + 1) (vsL M i ++ [lv])) (hg : w.grownBy w7 mv.ownBlock) (hat : ∀ g, mv'.ownBlock = some g → mv.ownBlock = some g ∨ w.heap.size ≤ g) :
    ClC w7 B0 FB eO eI s p q mk hv ov mv' K KO (i + 1) V O (upd M i lv) L R ∧ Kp (fun k => B0 ≤ k) w w7 := by
  have hB := h.hB
  have ho0 : ∀ g, mv.ownBlock = some g → B0 ≤ g := fun g e => (row_geC h.mrow e).1
  have keep : ∀ {B : Nat} {e : TypeId} {t : Nat} {v : Value} {m : Nat} {ys : List Value}, oC w B e t v m ys → (e ≠ eO ∨ ∀ g, v.ownBlock = some g → mv.ownBlock ≠ some g) → oC w7 B e t v m ys := fun hr hd => by
    refine row_keptC hr hg (fun k hk e2 => ?_)
    rcases hd with hd | hd
    · obtain ⟨c1, hc1⟩ := row_blockC hr k hk
      obtain ⟨c2, hc2⟩ := row_blockC h.mrow k e2.symm
      exact ne_of_type hc1 hc2 hd rfl
    · exact hd k hk e2.symm
  refine ⟨⟨keep h.hr (.inr fun g hg2 e => by have := h.hl g hg2; have := ho0 g e; omega), keep h.orow (.inr fun g hg2 e => h.om g hg2 e), by rw [vsL_upd]; exact hown, ?_, h.hl, fun j hj => keep (h.vs j hj) (.inl h.ne.symm), fun j hj => keep (h.os j hj) (.inl h.ne.symm), fun j hj => ?_, h.vv, h.vl, h.oc, fun j g hj hg2 => ?_, h.fv, ?_, h.hL, h.ko, hi, h.ne, h.sp, h.mkl⟩, ?_⟩
  · intro g hg2 e
    rcases hat g e with h1 | h1
    · exact h.om g hg2 h1
    · have := (row_geC h.orow hg2).2; omega
  · by_cases e : j = i
    · subst e; rw [upd_same]; exact keep hl (.inl h.ne.symm)
    · rw [upd_other _ _ e]; exact keep (h.ms j (by omega)) (.inl h.ne.symm)
  · by_cases e : j = i
    · subst e; rw [upd_same] at hg2
      exact (hap g hg2).imp id (fun h => h.2.2)
    · rw [upd_other _ _ e] at hg2; exact h.mc j g (by omega) hg2
  · have := hg.size; omega
  · exact (Kp.refl _ w).step hg (fun g e => .inl (ho0 g e))
end
theorem KdC.cl {w : World} {FB : Nat → Prop} {eO eI : TypeId} {s : Nat} {hv wv : Value} {KV KW : Nat} {V W : Nat → Value} {N : Nat → Nat} {D : Nat → List Value} (h : KdC w FB eO eI s hv wv KV KW V W N D) (p q : Nat) (mk : Nat → Nat → List Value) (hs : 0 < s) (hmk : ∀ i k, (mk i k).length = s) (O M : Nat → Value) : ClC w w.heap.size FB eO eI s p q mk hv (.slice none 0 0) (.slice none 0 0) KV 0 0 V O M N D :=
  ⟨h.hr, ⟨rfl, .inl ⟨rfl, rfl⟩⟩, ⟨rfl, .inl ⟨rfl, rfl⟩⟩, by simp [Value.ownBlock], fun g e => h.fl g (h.fh g e), h.vs, fun i hi => by omega, fun i hi => by omega, h.vv, fun i g hi e => h.fl g (h.fv i g hi e), fun i g hi => by omega, fun i g hi => by omega, h.fv, Nat.le_refl _, h.dl, Nat.zero_le _, Nat.zero_le _, h.ne, hs, hmk⟩
end Go.Proofs.YtobegepebochkaaGreatDoor

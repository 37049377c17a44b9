import Derived.Test.YtobegepebochkaaGreatDoorVPaf
import Derived.Deep.RegionLaw
set_option linter.unusedVariables false
set_option linter.unusedSimpArgs false
namespace Go.Proofs.YtobegepebochkaaGreatDoor
open Go.RowKit
def vsL (V : Nat → Value) (K : Nat) : List Value := (List.range K).map V
theorem vsL_succ (V : Nat → Value) (K : Nat) : vsL V (K + 1) = vsL V K ++ [V K] := by unfold vsL; rw [List.range_succ, List.map_append]; rfl
theorem vsL_upd (V : Nat → Value) (K : Nat) (v : Value) : vsL (upd V K v) (K + 1) = vsL V K ++ [v] := by
  rw [vsL_succ, upd_same]
  congr 1
  unfold vsL
  apply List.map_congr_left
  intro i hi
  rw [List.mem_range] at hi
  exact upd_other _ _ (by omega)
theorem vsL_get (V : Nat → Value) {K i : Nat} (h : i < K) : (vsL V K)[i]? = some (V i) := by unfold vsL; simp [h]
structure Kd (w : World) (FB : Nat → Prop) (eO eI : TypeId) (s : Nat) (hv wv : Value) (KV KW : Nat) (V W : Nat → Value) (N : Nat → Nat) (D : Nat → List Value) : Prop where
  hr : w.ownsRow 0 eO 1 hv KV (vsL V KV)
  wr : w.ownsRow 0 eO 1 wv KW (vsL W KW)
  hw : ∀ g, hv.ownBlock = some g → wv.ownBlock ≠ some g
  vs : ∀ i, i < KV → w.ownsRow 0 eI s (V i) (N i) (D i)
  ws : ∀ i, i < KW → w.ownsRow 0 eI s (W i) (N i) (D i)
  vv : ∀ i j g, i < KV → j < KV → i ≠ j → (V i).ownBlock = some g → (V j).ownBlock ≠ some g
  vw : ∀ i j g, i < KV → j < KW → (V i).ownBlock = some g → (W j).ownBlock ≠ some g
  oc : ∀ i, i < KV → ∀ u ∈ D i, u.oneCell' = true
  dl : ∀ i, i < KV → N i ≤ 1000000
  fh : ∀ g, hv.ownBlock = some g → FB g
  fw : ∀ g, wv.ownBlock = some g → FB g
  fv : ∀ i g, i < KV → (V i).ownBlock = some g → FB g
  fc : ∀ i g, i < KW → (W i).ownBlock = some g → FB g
  ft : ∀ k, FB k → ∃ cur, w.heap[k]? = some (.cells cur eO (0, 0)) ∨ w.heap[k]? = some (.cells cur eI (0, 0))
  ne : eO ≠ eI
  kw : KW ≤ KV
section
variable {w w' w2 : World} {FB : Nat → Prop} {eO eI : TypeId} {s : Nat} {hv wv : Value} {KV KW : Nat} {V W : Nat → Value} {N : Nat → Nat} {D : Nat → List Value}
theorem Kd.fl (h : Kd w FB eO eI s hv wv KV KW V W N D) : ∀ k, FB k → k < w.heap.size := fun k hk => by
  obtain ⟨c, h1 | h1⟩ := h.ft k hk <;> exact lt_of_block h1
theorem Kd.same (h : Kd w FB eO eI s hv wv KV KW V W N D) (hf : ∀ k, FB k → w'.heap[k]? = w.heap[k]?) : Kd w' FB eO eI s hv wv KV KW V W N D :=
  ⟨row_same h.hr (fun k hk => hf k (h.fh k hk)), row_same h.wr (fun k hk => hf k (h.fw k hk)), h.hw, fun i hi => row_same (h.vs i hi) (fun k hk => hf k (h.fv i k hi hk)), fun i hi => row_same (h.ws i hi) (fun k hk => hf k (h.fc i k hi hk)), h.vv, h.vw, h.oc, h.dl, h.fh, h.fw, h.fv, h.fc, fun k hk => by rw [hf k hk]; exact h.ft k hk, h.ne, h.kw⟩
theorem Kd.kept {row : Option Nat} (h : Kd w FB eO eI s hv wv KV KW V W N D) (hf : w.grownBy w' row) (hn : ∀ k, FB k → some k ≠ row) : Kd w' FB eO eI s hv wv KV KW V W N D :=
  h.same (fun k hk => hf.block k (h.fl k hk) (hn k hk))
theorem Kd.kept0 (h : Kd w FB eO eI s hv wv KV KW V W N D) (hf : w.grownBy w' none) : Kd w' FB eO eI s hv wv KV KW V W N D := h.kept hf (by simp)
theorem Kd.nil (w : World) {eO eI : TypeId} (s : Nat) (hne : eO ≠ eI) : Kd w (fun _ => False) eO eI s (.slice none 0 0) (.slice none 0 0) 0 0 (fun _ => .slice none 0 0) (fun _ => .slice none 0 0) (fun _ => 0) (fun _ => []) :=
  ⟨⟨rfl, .inl ⟨rfl, rfl⟩⟩, ⟨rfl, .inl ⟨rfl, rfl⟩⟩, by simp [Value.ownBlock], fun i hi => by omega, fun i hi => by omega, fun i j g hi => by omega, fun i j g hi => by omega, fun i hi => by omega, fun i hi => by omega, by simp [Value.ownBlock], by simp [Value.ownBlock], fun i g hi => by omega, fun i g hi => by omega, fun k h => h.elim, hne, Nat.le_refl _⟩
end
theorem rng_take {f : Nat → List Value} {s : Nat} (h : ∀ i, (f i).length = s) : ∀ {n m : Nat}, m ≤ n → (rng n f).take (m * s) = rng m f
  | 0, m, hm => by obtain rfl : m = 0 := by omega
                   simp [rng]
  | n + 1, m, hm => by
    rcases Nat.lt_or_ge n m with h1 | h1
    · obtain rfl : m = n + 1 := by omega
      exact List.take_of_length_le (by rw [rng_len h]; exact Nat.le_refl _)
    · rw [rng_succ, List.take_append_of_le_length (by rw [rng_len h]; exact Nat.mul_le_mul_right s h1)]
      exact rng_take h h1
theorem rng_rep {f : Nat → List Value} {v : Value} {n : Nat} (h : ∀ k, n ≤ k → f k = [v]) : ∀ m, rng n f ++ List.replicate m v = rng (n + m) f
  | 0 => by simp
  | m + 1 => by rw [List.replicate_succ', ← List.append_assoc, rng_rep h m, ← Nat.add_assoc, rng_succ, h (n + m) (by omega)]
theorem Psh.box {w w' : World} {v v' : Value} {n m b : Nat} {e t : TypeId} {s : Nat} {xs : List Value} {vs : Array Value} (h : Psh w w' v n m v') (hr : w.ownsRow 0 e s v n xs) (hb : Box w t b vs) (hne : e ≠ t) : Box w' t b vs :=
  hb.kept h.gb (fun e2 => by obtain ⟨c, hc⟩ := row_block hr b e2.symm; exact ne_of_type hc hb hne rfl)
theorem own_form {w : World} {B : Nat} {e : TypeId} {s : Nat} {v : Value} {n : Nat} {xs : List Value} (h : w.ownsRow B e s v n xs) {g : Nat} (hg : v.ownBlock = some g) : ∃ c, v = .slice (some ⟨g, 0, none⟩) n c := by
  rcases h.2 with ⟨rfl, _⟩ | ⟨g', c, cur, rfl, _⟩
  · simp [Value.ownBlock] at hg
  · simp [Value.ownBlock] at hg; subst hg; exact ⟨c, rfl⟩
theorem same_cap {w : World} {B B' : Nat} {e e' : TypeId} {s g n c m c' : Nat} {xs ys : List Value} (hs : 0 < s) (h1 : w.ownsRow B e s (.slice (some ⟨g, 0, none⟩) n c) n xs) (h2 : w.ownsRow B' e' s (.slice (some ⟨g, 0, none⟩) m c') m ys) : c = c' := by
  rcases h1.2 with ⟨q, _⟩ | ⟨g1, c1, cur1, q1, _, r1, _, _, s1, _⟩
  · simp at q
  · rcases h2.2 with ⟨q, _⟩ | ⟨g2, c2, cur2, q2, _, r2, _, _, s2, _⟩
    · simp at q
    · simp at q1 q2
      obtain ⟨rfl, rfl⟩ := q1
      obtain ⟨rfl, rfl⟩ := q2
      rw [r1] at r2
      simp at r2
      obtain ⟨rfl, _⟩ := r2
      have : c * s = c' * s := by omega
      exact Nat.eq_of_mul_eq_mul_right hs this
theorem row_inner {w w' : World} {e : TypeId} {s : Nat} {v : Value} {g n cap N m : Nat} {xs ys zs : List Value} (hs : 0 < s) (h1 : w.ownsRow 0 e s (.slice (some ⟨g, 0, none⟩) n cap) n xs) (h2 : w.ownsRow 0 e s v m ys) (hg : v.ownBlock = some g) (h3 : w'.ownsRow 0 e s (.slice (some ⟨g, 0, none⟩) N cap) N zs) (hm : m ≤ N) : w'.ownsRow 0 e s v m (zs.take (m * s)) := by
  obtain ⟨c, rfl⟩ := own_form h2 hg
  obtain rfl := same_cap hs h1 h2
  exact row_take h3 hm
structure Cl (w : World) (B0 : Nat) (FB : Nat → Prop) (eO eI : TypeId) (s p q : Nat) (mk : Nat → Nat → List Value) (hv ov mv : Value) (K KO KM : Nat) (V O M : Nat → Value) (L : Nat → Nat) (R : Nat → List Value) : Prop where
  hr : w.ownsRow 0 eO 1 hv K (vsL V K)
  orow : w.ownsRow B0 eO 1 ov KO (vsL O KO)
  mrow : w.ownsRow B0 eO 1 mv KM (vsL M KM)
  om : ∀ g, ov.ownBlock = some g → mv.ownBlock ≠ some g
  hl : ∀ g, hv.ownBlock = some g → g < B0
  vs : ∀ i, i < K → w.ownsRow 0 eI s (V i) (L i) (R i)
  os : ∀ i, i < KO → w.ownsRow 0 eI s (O i) (L i + p) (rng (L i + p) (mk i))
  ms : ∀ i, i < KM → w.ownsRow 0 eI s (M i) (L i + q) (rng (L i + q) (mk i))
  vv : ∀ i j g, i < K → j < K → i ≠ j → (V i).ownBlock = some g → (V j).ownBlock ≠ some g
  vl : ∀ i g, i < K → (V i).ownBlock = some g → g < B0
  oc : ∀ i g, i < KO → (O i).ownBlock = some g → (V i).ownBlock = some g ∨ B0 ≤ g
  mc : ∀ i g, i < KM → (M i).ownBlock = some g → (V i).ownBlock = some g ∨ B0 ≤ g
  fv : ∀ i g, i < K → (V i).ownBlock = some g → FB g
  hB : B0 ≤ w.heap.size
  hL : ∀ i, i < K → L i ≤ 1000000
  ko : KO ≤ K
  km : KM ≤ K
  ne : eO ≠ eI
  sp : 0 < s
  mkl : ∀ i k, (mk i k).length = s
section
variable {w w' : World} {B0 : Nat} {FB : Nat → Prop} {eO eI : TypeId} {s p q : Nat} {mk : Nat → Nat → List Value} {hv ov mv : Value} {K KO KM : Nat} {V O M : Nat → Value} {L : Nat → Nat} {R : Nat → List Value}
theorem Cl.same {row : Option Nat} (h : Cl w B0 FB eO eI s p q mk hv ov mv K KO KM V O M L R) (hf : w.grownBy w' row) (hn : ∀ k c, row = some k → w.heap[k]? ≠ some (.cells c eO (0, 0)) ∧ w.heap[k]? ≠ some (.cells c eI (0, 0))) : Cl w' B0 FB eO eI s p q mk hv ov mv K KO KM V O M L R := by
  have k1 : ∀ {B : Nat} {e : TypeId} {t : Nat} {v : Value} {m : Nat} {ys : List Value}, w.ownsRow B e t v m ys → (e = eO ∨ e = eI) → w'.ownsRow B e t v m ys := fun hr he => row_kept hr hf (fun k hk e => by
    obtain ⟨c, hc⟩ := row_block hr k hk
    rcases he with rfl | rfl
    · exact (hn k c e.symm).1 hc
    · exact (hn k c e.symm).2 hc)
  exact ⟨k1 h.hr (.inl rfl), k1 h.orow (.inl rfl), k1 h.mrow (.inl rfl), h.om, h.hl, fun i hi => k1 (h.vs i hi) (.inr rfl), fun i hi => k1 (h.os i hi) (.inr rfl), fun i hi => k1 (h.ms i hi) (.inr rfl), h.vv, h.vl, h.oc, h.mc, h.fv, Nat.le_trans h.hB hf.size, h.hL, h.ko, h.km, h.ne, h.sp, h.mkl⟩
theorem Cl.kept0 (h : Cl w B0 FB eO eI s p q mk hv ov mv K KO KM V O M L R) (hf : w.grownBy w' none) : Cl w' B0 FB eO eI s p q mk hv ov mv K KO KM V O M L R := h.same hf (by simp)
theorem Cl.far {b : Nat} {t : TypeId} {vs : Array Value} {z : Nat × Nat} (h : Cl w B0 FB eO eI s p q mk hv ov mv K KO KM V O M L R) (hb : w.heap[b]? = some (.cells vs t z)) (h1 : t ≠ eO) (h2 : t ≠ eI) (hf : w.grownBy w' (some b)) : Cl w' B0 FB eO eI s p q mk hv ov mv K KO KM V O M L R :=
  h.same hf (fun k c e => by
    have e2 := Option.some.inj e; subst e2
    exact ⟨fun e3 => ne_of_type hb e3 h1 rfl, fun e3 => ne_of_type hb e3 h2 rfl⟩)
theorem Cl.read (h : Cl w B0 FB eO eI s p q mk hv ov mv K KO KM V O M L R) {R' : Nat → List Value} (hR : ∀ i, i < K → R i = R' i) : Cl w B0 FB eO eI s p q mk hv ov mv K KO KM V O M L R' :=
  ⟨h.hr, h.orow, h.mrow, h.om, h.hl, fun i hi => by rw [← hR i hi]; exact h.vs i hi, h.os, h.ms, h.vv, h.vl, h.oc, h.mc, h.fv, h.hB, h.hL, h.ko, h.km, h.ne, h.sp, h.mkl⟩
def Ap (B0 : Nat) (KO KM : Nat) (V O M : Nat → Value) (i : Nat) (lv : Value) : Prop :=
  ∀ g, lv.ownBlock = some g → (V i).ownBlock = some g ∨ (∀ j, j < KO → (O j).ownBlock ≠ some g) ∧ (∀ j, j < KM → (M j).ownBlock ≠ some g) ∧ B0 ≤ g
theorem Cl.push (h : Cl w B0 FB eO eI s p q mk hv ov mv K KO KM V O M L (fun i => rng (L i) (mk i))) {i k m : Nat} {lv lv' : Value} (hi : i < K) (hl : w.ownsRow 0 eI s lv (L i + k) (rng (L i + k) (mk i))) (hap : Ap B0 KO KM V O M i lv) (hp : Psh w w' lv (L i + k) m lv') (hl' : w'.ownsRow 0 eI s lv' (L i + k + m) (rng (L i + k + m) (mk i))) (h16 : i < KO → p ≤ k + m) (hKM : KM ≤ i) :
    Cl w' B0 FB eO eI s p q mk hv ov mv K KO KM V O M L (fun i => rng (L i) (mk i)) ∧ Ap B0 KO KM V O M i lv' ∧ ∃ row, w.grownBy w' row ∧ ∀ g, row = some g → FB g ∨ B0 ≤ g := by
  rcases hp with ⟨g, cap, rfl, hc, rfl, hg⟩ | ⟨g, cap, rfl, hge, hg⟩
  · obtain ⟨c0, hc0⟩ := row_block hl g rfl
    have t90 : ∀ {B m : Nat} {v : Value} {ys : List Value}, w.ownsRow B eO 1 v m ys → ∀ k, v.ownBlock = some k → some k ≠ some g := fun hr k hk e => by
      obtain ⟨c1, hc1⟩ := row_block hr k hk
      exact ne_of_type hc1 hc0 h.ne (Option.some.inj e)
    have hvi : ∀ j, j < K → (V j).ownBlock = some g → j = i := fun j hj e => by
      rcases hap g rfl with h1 | ⟨_, _, h1⟩
      · apply Classical.byContradiction
        intro hne
        exact h.vv j i g hj hi hne e h1
      · have := h.vl j g hj e; omega
    refine ⟨⟨row_kept h.hr hg (t90 h.hr), row_kept h.orow hg (t90 h.orow), row_kept h.mrow hg (t90 h.mrow), h.om, h.hl, fun j hj => ?_, fun j hj => ?_, fun j hj => ?_, h.vv, h.vl, h.oc, h.mc, h.fv, Nat.le_trans h.hB hg.size, h.hL, h.ko, h.km, h.ne, h.sp, h.mkl⟩, hap, some g, hg, ?_⟩
    · by_cases e : (V j).ownBlock = some g
      · obtain rfl := hvi j hj e
        have h9 := row_inner h.sp hl (h.vs j hj) e hl' (by omega)
        rw [rng_take (h.mkl j) (by omega)] at h9
        exact h9
      · exact row_kept (h.vs j hj) hg (fun q hq e2 => e (by rw [hq]; exact e2))
    · by_cases e : (O j).ownBlock = some g
      · have hji : j = i := by
          rcases hap g rfl with h1 | ⟨h1, _, _⟩
          · rcases h.oc j g hj e with h2 | h2
            · exact hvi j (Nat.lt_of_lt_of_le hj h.ko) h2
            · have := h.vl i g hi h1; omega
          · exact absurd e (h1 j hj)
        subst hji
        have h3 := h16 hj
        have h9 := row_inner h.sp hl (h.os j hj) e hl' (by omega)
        rw [rng_take (h.mkl j) (by omega)] at h9
        exact h9
      · exact row_kept (h.os j hj) hg (fun q hq e2 => e (by rw [hq]; exact e2))
    · refine row_kept (h.ms j hj) hg (fun q hq e2 => ?_)
      have e : (M j).ownBlock = some g := by rw [hq]; exact e2
      rcases hap g rfl with h1 | ⟨_, h1, _⟩
      · rcases h.mc j g hj e with h2 | h2
        · have := hvi j (Nat.lt_of_lt_of_le hj h.km) h2; omega
        · have := h.vl i g hi h1; omega
      · exact h1 j hj e
    · intro q hq
      have hq2 := Option.some.inj hq
      subst hq2
      rcases hap g rfl with h1 | ⟨_, _, h1⟩
      · exact .inl (h.fv i g hi h1)
      · exact .inr h1
  · refine ⟨h.kept0 hg, fun q hq => ?_, none, hg, by simp⟩
    have hq2 : g = q := by simpa [Value.ownBlock] using hq
    subst hq2
    refine .inr ⟨fun j hj e => ?_, fun j hj e => ?_, Nat.le_trans h.hB hge⟩
    · have := (row_ge (h.os j hj) e).2; omega
    · have := (row_ge (h.ms j hj) e).2; omega
theorem Cl.write (h : Cl w B0 FB eO eI s p q mk hv ov mv K 0 0 V O M L R) {i g c : Nat} {R' : List Value} (hi : i < K) (hv2 : V i = .slice (some ⟨g, 0, none⟩) (L i) c) (hg : w.grownBy w' (some g)) (hown : w'.ownsRow 0 eI s (.slice (some ⟨g, 0, none⟩) (L i) c) (L i) R') :
    Cl w' B0 FB eO eI s p q mk hv ov mv K 0 0 V O M L (upd R i R') := by
  have hVi := h.vs i hi
  rw [hv2] at hVi
  obtain ⟨c0, hc0⟩ := row_block hVi g rfl
  have t90 : ∀ {B m : Nat} {v : Value} {ys : List Value}, w.ownsRow B eO 1 v m ys → ∀ k, v.ownBlock = some k → some k ≠ some g := fun hr k hk e => by
    obtain ⟨c1, hc1⟩ := row_block hr k hk
    exact ne_of_type hc1 hc0 h.ne (Option.some.inj e)
  refine ⟨row_kept h.hr hg (t90 h.hr), row_kept h.orow hg (t90 h.orow), row_kept h.mrow hg (t90 h.mrow), h.om, h.hl, fun j hj => ?_, fun j hj => by omega, fun j hj => by omega, h.vv, h.vl, h.oc, h.mc, h.fv, Nat.le_trans h.hB hg.size, h.hL, h.ko, h.km, h.ne, h.sp, h.mkl⟩
  by_cases e : j = i
  · subst e
    rw [upd_same, hv2]
    exact hown
  · rw [upd_other _ _ e]
    refine row_kept (h.vs j hj) hg (fun q hq e2 => h.vv j i q hj hi e hq ?_)
    rw [hv2, Option.some.inj e2]; rfl
theorem Cl.one {w7 : World} {lv ov' : Value} {i : Nat} (h : Cl w B0 FB eO eI s p q mk hv ov mv K i KM V O M L R) (hi : i < K) (hl : w.ownsRow 0 eI s lv (L i + p) (rng (L i + p) (mk i))) (hap : Ap B0 i KM V O M i lv) (hown : w7.ownsRow B0 eO 1 ov' (i + 1) (vsL O i ++ [lv])) (hg : w.grownBy w7 ov.ownBlock) (hat : ∀ g, ov'.ownBlock = some g → ov.ownBlock = some g ∨ w.heap.size ≤ g) :
    Cl w7 B0 FB eO eI s p q mk hv ov' mv K (i + 1) KM V (upd O i lv) M L R ∧ Kp (fun k => B0 ≤ k) w w7 := by
  have hB := h.hB
  have ho0 : ∀ g, ov.ownBlock = some g → B0 ≤ g := fun g e => (row_ge h.orow e).1
  have keep : ∀ {B : Nat} {e : TypeId} {t : Nat} {v : Value} {m : Nat} {ys : List Value}, w.ownsRow B e t v m ys → (e ≠ eO ∨ ∀ g, v.ownBlock = some g → ov.ownBlock ≠ some g) → w7.ownsRow B e t v m ys := fun hr hd => by
    refine row_kept hr hg (fun k hk e2 => ?_)
    rcases hd with hd | hd
    · obtain ⟨c1, hc1⟩ := row_block hr k hk
      obtain ⟨c2, hc2⟩ := row_block h.orow k e2.symm
      exact ne_of_type hc1 hc2 hd rfl
    · exact hd k hk e2.symm
  refine ⟨⟨keep h.hr (.inr fun g hg2 e => by have := h.hl g hg2; have := ho0 g e; omega), by rw [vsL_upd]; exact hown, keep h.mrow (.inr fun g hg2 e => h.om g e hg2), ?_, h.hl, fun j hj => keep (h.vs j hj) (.inl h.ne.symm), fun j hj => ?_, fun j hj => keep (h.ms j hj) (.inl h.ne.symm), h.vv, h.vl, fun j g hj hg2 => ?_, h.mc, h.fv, ?_, h.hL, hi, h.km, h.ne, h.sp, h.mkl⟩, ?_⟩
  · intro g hg2 e
    rcases hat g hg2 with h1 | h1
    · exact h.om g h1 e
    · have := (row_ge h.mrow e).2; omega
  · by_cases e : j = i
    · subst e; rw [upd_same]; exact keep hl (.inl h.ne.symm)
    · rw [upd_other _ _ e]; exact keep (h.os j (by omega)) (.inl h.ne.symm)
  · by_cases e : j = i
    · subst e; rw [upd_same] at hg2
      exact (hap g hg2).imp id (fun h => h.2.2)
    · rw [upd_other _ _ e] at hg2; exact h.oc j g (by omega) hg2
  · have := hg.size; omega
  · exact (Kp.refl _ w).step hg (fun g e => .inl (ho0 g e))
theorem Cl.many {w7 : World} {lv mv' : Value} {i : Nat} (h : Cl w B0 FB eO eI s p q mk hv ov mv K KO i V O M L R) (hi : i < K) (hl : w.ownsRow 0 eI s lv (L i + q) (rng (L i + q) (mk i))) (hap : Ap B0 KO i V O M i lv) (hown : w7.ownsRow B0 eO 1 mv' (i + 1) (vsL M i ++ [lv])) (hg : w.grownBy w7 mv.ownBlock) (hat : ∀ g, mv'.ownBlock = some g → mv.ownBlock = some g ∨ w.heap.size ≤ g) :
    Cl w7 B0 FB eO eI s p q mk hv ov mv' K KO (i + 1) V O (upd M i lv) L R ∧ Kp (fun k => B0 ≤ k) w w7 := by
  have hB := h.hB
  have ho0 : ∀ g, mv.ownBlock = some g → B0 ≤ g := fun g e => (row_ge h.mrow e).1
  have keep : ∀ {B : Nat} {e : TypeId} {t : Nat} {v : Value} {m : Nat} {ys : List Value}, w.ownsRow B e t v m ys → (e ≠ eO ∨ ∀ g, v.ownBlock = some g → mv.ownBlock ≠ some g) → w7.ownsRow B e t v m ys := fun hr hd => by
    refine row_kept hr hg (fun k hk e2 => ?_)
    rcases hd with hd | hd
    · obtain ⟨c1, hc1⟩ := row_block hr k hk
      obtain ⟨c2, hc2⟩ := row_block h.mrow k e2.symm
      exact ne_of_type hc1 hc2 hd rfl
    · exact hd k hk e2.symm
  refine ⟨⟨keep h.hr (.inr fun g hg2 e => by have := h.hl g hg2; have := ho0 g e; omega), keep h.orow (.inr fun g hg2 e => h.om g hg2 e), by rw [vsL_upd]; exact hown, ?_, h.hl, fun j hj => keep (h.vs j hj) (.inl h.ne.symm), fun j hj => keep (h.os j hj) (.inl h.ne.symm), fun j hj => ?_, h.vv, h.vl, h.oc, fun j g hj hg2 => ?_, h.fv, ?_, h.hL, h.ko, hi, h.ne, h.sp, h.mkl⟩, ?_⟩
  · intro g hg2 e
    rcases hat g e with h1 | h1
    · exact h.om g hg2 h1
    · have := (row_ge h.orow hg2).2; omega
  · by_cases e : j = i
    · subst e; rw [upd_same]; exact keep hl (.inl h.ne.symm)
    · rw [upd_other _ _ e]; exact keep (h.ms j (by omega)) (.inl h.ne.symm)
  · by_cases e : j = i
    · subst e; rw [upd_same] at hg2
      exact (hap g hg2).imp id (fun h => h.2.2)
    · rw [upd_other _ _ e] at hg2; exact h.mc j g (by omega) hg2
  · have := hg.size; omega
  · exact (Kp.refl _ w).step hg (fun g e => .inl (ho0 g e))
end
theorem Kd.cl {w : World} {FB : Nat → Prop} {eO eI : TypeId} {s : Nat} {hv wv : Value} {KV KW : Nat} {V W : Nat → Value} {N : Nat → Nat} {D : Nat → List Value} (h : Kd w FB eO eI s hv wv KV KW V W N D) (p q : Nat) (mk : Nat → Nat → List Value) (hs : 0 < s) (hmk : ∀ i k, (mk i k).length = s) (O M : Nat → Value) : Cl w w.heap.size FB eO eI s p q mk hv (.slice none 0 0) (.slice none 0 0) KV 0 0 V O M N D :=
  ⟨h.hr, ⟨rfl, .inl ⟨rfl, rfl⟩⟩, ⟨rfl, .inl ⟨rfl, rfl⟩⟩, by simp [Value.ownBlock], fun g e => h.fl g (h.fh g e), h.vs, fun i hi => by omega, fun i hi => by omega, h.vv, fun i g hi e => h.fl g (h.fv i g hi e), fun i g hi => by omega, fun i g hi => by omega, h.fv, Nat.le_refl _, h.dl, Nat.zero_le _, Nat.zero_le _, h.ne, hs, hmk⟩
end Go.Proofs.YtobegepebochkaaGreatDoor
namespace Go.Proofs.YtobegepebochkaaGreatDoor
open Go.RowKit
theorem ty_of {sl el : TypeId} {z : Value} {sz bs : Nat} (hu : Tryz.prog.underlying sl = some (.slice el)) (hi : (Tryz.prog.info? el).map (fun i => (i.zero, i.size, i.bytes)) = some (some z, sz, bs)) (hz : z.cells.size = sz) (h0 : 0 < sz) (hb : bs ≤ 1000) : ∃ ti, Ty sl el ti z sz bs := by
  obtain ⟨i0, hi0, hz0, hz1, hz2⟩ := info_parts hi
  exact ⟨i0, hu, hi0, hz0, hz1, hz2, hz, h0, hb⟩
theorem ty_38 : ∃ ti, Ty 38 5 ti (.int .u8 0) 1 1 := ty_of Tryz.underlying38 (by kernel_rfl) rfl (by omega) (by omega)
theorem ty_22 : ∃ ti, Ty 22 38 ti (.slice none 0 0) 1 24 := ty_of Tryz.underlying22 (by kernel_rfl) rfl (by omega) (by omega)
theorem ty_36 : ∃ ti, Ty 36 9 ti (.string ⟨#[]⟩) 1 16 := ty_of Tryz.underlying36 (by kernel_rfl) rfl (by omega) (by omega)
theorem ty_25 : ∃ ti, Ty 25 36 ti (.slice none 0 0) 1 24 := ty_of Tryz.underlying25 (by kernel_rfl) rfl (by omega) (by omega)
def nilS : Value := .slice none 0 0
def bkA (b0 b1 b2 b3 t0 t1 t2 t3 s0 s1 s2 : Value) (n : Int) : Array Value := #[b0, b1, b2, b3, nilS, nilS, nilS, nilS, t0, t1, t2, t3, nilS, nilS, nilS, nilS, nilS, nilS, nilS, nilS, nilS, nilS, s0, s1, s2, nilS, .int .i64 n]
section
variable {w : World} {bb : Nat} {b0 b1 b2 b3 t0 t1 t2 t3 s0 s1 s2 : Value} {n : Int} {F : Nat → Prop} {K : Nat} {V W : Nat → Value} {N : Nat → Nat} {D : Nat → List Value}
theorem full_65 (h : Box w 31 bb (bkA b0 b1 b2 b3 t0 t1 t2 t3 s0 s1 s2 n)) : Calls Tryz.prog 65 #[.pointer (some ⟨bb, 0, none⟩)] w fun y w' => y = .returned (.bool (decide (200000 < n))) ∧ w' = w := by
  have c : w.cell? ⟨bb, 26, none⟩ = some (.int .i64 n) := h.cell 26
  go_enter Tryz.func65, Tryz.ntmps65
  go_wp2
  go_ret
  exact ⟨by simp, rfl⟩
theorem full_20 (h : Box w 31 bb (bkA b0 b1 b2 b3 t0 t1 t2 t3 s0 s1 s2 n)) (hn : 200000 < n) (v : Value) : Calls Tryz.prog 20 #[.pointer (some ⟨bb, 0, none⟩), v] w fun y w' => y = .returned (.tuple #[]) ∧ w' = w := by
  have h63 := full_65 h
  rw [decide_eq_true hn] at h63
  go_enter Tryz.func20, Tryz.ntmps20
  go_wp2_with (first | (go_at_call 65; go_must (refine h63.mono ?_); rintro y w1 ⟨rfl, hw1⟩; have hw2 := hw1.symm; subst hw2) | fail)
  exact bodyPost_ret (v := .tuple #[]) (results_none Tryz.results20 _ _ _) rfl ⟨rfl, rfl⟩
end
end Go.Proofs.YtobegepebochkaaGreatDoor

import Derived.Test.YtdlaanigfhlolaaGreatVc
/-
  make: the walk.
-/
namespace Go.Proofs.YtdlaanigfhlolaaGreat
open Go.RowKit
set_option linter.unusedVariables false

theorem Has.kept2 {w w' : World} {a : Option Addr} {n : Nat} {ys : List Int} {F : Nat → Prop} (h : Has w a n ys) (hK : Kp F w w') (hn : ∀ k, a.map (·.block) = some k → ¬ F k) : Has w' a n ys := by
  refine ⟨h.1, fun h0 => ?_⟩
  obtain ⟨b, o, rfl, hc⟩ := h.2 h0
  refine ⟨b, o, rfl, fun i hi => ?_⟩
  have h1 := hc i hi
  have hlt := World.block_lt_of_cell? _ _ h1
  have hb := hK.block b hlt (hn b rfl)
  simpa [World.cell?, hb] using h1
/-- Behind both Takes. -/
structure Mid (w w2 : World) (base a1 a2 st sb : Nat) (G1 : Nat → Prop) (B1 : Bl) (zs : List Int) (tb hb : Nat) (mo : Int) (rb : Nat) (F2 : Nat → Prop) (Q2 : Rl) (qb wb : Nat) (mo2 : Int) (gi ci : Nat) (its : Nat → List Value) (av : Value) : Prop where
  K : Kp (fun k => (base ≤ k ∧ k < a2) ∨ k = qb ∨ k = st) w w2
  box : Box w2 39 st #[.pointer (some ⟨sb, 0, none⟩), .pointer (some ⟨tb, 0, none⟩), .pointer (some ⟨qb, 0, none⟩), .pointer (some ⟨wb, 0, none⟩), av, .int .i64 0]
  iss : IsS w2 sb G1 B1 3 200 64 256 30 30 (one1 wkA 0) zs
  ist : IsT w2 tb hb sb mo 0 16 0 2 (List.replicate 16 0)
  isr : IsR w2 rb F2 Q2 200 64 256 wkR2
  isq : IsQ w2 qb rb (.slice (some ⟨gi, 0, none⟩) 64 ci) 64 its
  bw : Box w2 90 wb #[.pointer (some ⟨qb, 0, none⟩), .slice none 0 0, .int .i64 16, .int .i64 mo2, .int .i64 0]
  g1 : ∀ k, G1 k → (base ≤ k ∧ k < a1) ∨ w.heap.size ≤ k
  f2 : ∀ k, F2 k → (a1 ≤ k ∧ k < a2) ∨ w.heap.size ≤ k
  n2 : ∀ k, F2 k → ¬ G1 k
  gg : ¬ G1 gi ∧ ¬ F2 gi ∧ w.heap.size ≤ gi
  le : a1 ≤ a2
theorem Mid.kept0 {w w2 w3 : World} {base a1 a2 st sb : Nat} {G1 : Nat → Prop} {B1 : Bl} {zs : List Int} {tb hb : Nat} {mo : Int} {rb : Nat} {F2 : Nat → Prop} {Q2 : Rl} {qb wb : Nat} {mo2 : Int} {gi ci : Nat} {its : Nat → List Value} {av : Value} (h : Mid w w2 base a1 a2 st sb G1 B1 zs tb hb mo rb F2 Q2 qb wb mo2 gi ci its av) (hf : w2.grownBy w3 none) : Mid w w3 base a1 a2 st sb G1 B1 zs tb hb mo rb F2 Q2 qb wb mo2 gi ci its av :=
  ⟨h.K.step hf (by simp), h.box.kept hf (by simp), h.iss.kept0 hf, h.ist.kept0 hf, h.isr.kept0 hf, h.isq.kept0 hf, h.bw.kept hf (by simp), h.g1, h.f2, h.n2, h.gg, h.le⟩
theorem Mid.all {w w2 w4 : World} {base a1 a2 st sb : Nat} {G1 : Nat → Prop} {B1 : Bl} {zs : List Int} {tb hb : Nat} {mo : Int} {rb : Nat} {F2 : Nat → Prop} {Q2 : Rl} {qb wb : Nat} {mo2 : Int} {gi ci : Nat} {its : Nat → List Value} {av : Value} (h : Mid w w2 base a1 a2 st sb G1 B1 zs tb hb mo rb F2 Q2 qb wb mo2 gi ci its av) (hst : a2 ≤ st ∧ st < w.heap.size) (hq : ¬ st = qb) (v : Value) : Mid w (w2.setCell ⟨st, 4, none⟩ v) base a1 a2 st sb G1 B1 zs tb hb mo rb F2 Q2 qb wb mo2 gi ci its v := by
  have hg : w2.grownBy (w2.setCell ⟨st, 4, none⟩ v) (some st) := gb_setCell (gb_refl _ _) _
  have hK : Kp (fun k => k = st) w2 (w2.setCell ⟨st, 4, none⟩ v) := (Kp.refl _ _).step hg (fun i hi => .inl (by simpa using hi.symm))
  refine ⟨h.K.step hg (fun i hi => .inl (.inr (.inr (by simpa using hi.symm)))), h.box.set 4 v, h.iss.kept hK (fun k hk e => ?_), h.ist.kept hK (fun e => ne_of_type h.ist.box h.box (by decide) e) (fun e => ne_of_type h.ist.hd h.box (by decide) e), h.isr.kept hK (fun k hk e => ?_), h.isq.kept hK (fun e => hq e.symm) (fun k hk e => ?_), hK.box h.bw (fun e => ne_of_type h.bw h.box (by decide) e), h.g1, h.f2, h.n2, h.gg, h.le⟩
  · have hle := h.le
    rcases h.g1 k hk with h1 | h1 <;> omega
  · rcases h.f2 k hk with h1 | h1 <;> omega
  · obtain ⟨cur, hc⟩ := row_block h.isq.row k hk
    exact ne_of_type hc h.box (by decide) e
set_option maxRecDepth 100000 in
set_option maxHeartbeats 4000000 in
theorem make0 {w : World} {base st sb : Nat} {G : Nat → Prop} {B : Bl} {zs : List Int} {tb hb : Nat} {mo : Int} {rb : Nat} {Fr : Nat → Prop} {Q : Rl} {qb wb : Nat} {mo2 : Int} {a1 a2 : Nat} (h : St0 w base st sb G B zs tb hb mo rb Fr Q qb wb mo2 a1 a2) {ka : Option Addr} {kc : Nat} (hk : Has w ka 1 [107]) (hkc : ka = none → kc = 0) (hka : ∀ k, ka.map (·.block) = some k → a2 ≤ k ∧ k < w.heap.size ∧ k ≠ qb ∧ k ≠ st) :
    Calls Tryz.prog 33 #[.pointer (some ⟨st, 0, none⟩), .int .i64 0, .slice ka 1 kc] w fun y w' => y = .returned (.tuple #[.int .u64 1, .bool true]) ∧ Kp (fun k => base ≤ k) w w' ∧ (∀ k, ka.map (·.block) = some k → w'.heap[k]? = w.heap[k]?) ∧ ∃ G' B' zs' Fr' Q' av gi ci its ka' kc' va' vc', St1 w' st sb G' B' zs' tb hb mo rb Fr' Q' qb wb mo2 av gi ci its ka' kc' va' vc' ∧ ∀ k, G' k → base ≤ k := by
  have htk := fresh_take h.iss wk_invA 0 (by rw [wk_n.1]; decide) wk_np.1 rfl (by rw [wk_np.2.1]; decide)
  have c0 := h.box.cell 0
  simp at c0
  have htk3 := fun W Fr Q (hR : IsR W rb Fr Q 200 64 256 wkR) (hq : IsQ W qb rb (.slice none 0 0) 0 (fun _ => it0)) (h1 : ¬ Fr qb) => rtake3 hR wkR_fit (iv := .slice none 0 0) (its := fun _ => it0) hq h1 (fun k hk => by simp [Value.ownBlock] at hk) (i := 0) (p := 0) (by decide) rfl (by decide) (by decide) (fun q hq => by omega) (by rw [wkR_e, wkR_N]; decide) (by rw [wkR_e]; decide) (fun j hj => by rw [wkR_N] at hj; omega)
  rw [wkR_h, wkR_e, wkR_N] at htk3
  have hst := h.box.lt
  have hqs := h.isq.box.lt
  obtain ⟨lo1, lo2, lo3, lo4, lo5⟩ := h.lo
  obtain ⟨le1, le2⟩ := h.le
  have hGn : ∀ k, a1 ≤ k → ¬ G k := fun k hk hG => by have := (h.g1 k hG).2; omega
  have hFn : ∀ k, a2 ≤ k → ¬ Fr k := fun k hk hG => by have := (h.g2 k hG).2; omega
  have htk' := htk.mono (R' := fun y w1 => y = .returned (.tuple #[.int .u64 1, .int .i64 0]) ∧ w1.cell? ⟨st, 2, none⟩ = some (.pointer (some ⟨qb, 0, none⟩)) ∧ ∃ G1 B1, Hid (Kp (fun k => base ≤ k ∧ k < a1) w w1 ∧ IsS w1 sb G1 B1 3 200 64 256 30 30 (one1 wkA 0) (headZ zs 0 0) ∧ (∀ k, G1 k → (base ≤ k ∧ k < a1) ∨ w.heap.size ≤ k)) ∧ IsR w1 rb Fr Q 200 64 256 wkR ∧ IsQ w1 qb rb (.slice none 0 0) 0 (fun _ => it0)) (by
    rintro y w1 ⟨rfl, hK1, G1, B1, hS1, hG1⟩
    have hb1 := hK1.box h.box (hGn st (by omega))
    exact ⟨rfl, hb1.cell 2, G1, B1, ⟨hK1.mono (fun k hk => .inl (h.g1 k hk)), hS1, fun k hk => (hG1 k hk).elim (fun h' => .inl (h.g1 k h')) .inr⟩, h.isr.kept hK1 (fun k hk hG => by have := (h.g2 k hk).1; have := (h.g1 k hG).2; omega), h.isq.kept hK1 (hGn qb (by omega)) (fun k hk => by simp [Value.ownBlock] at hk)⟩)
  clear htk
  have h71 := fun w1 G1 B1 (hE1 : Hid (Kp (fun k => base ≤ k ∧ k < a1) w w1 ∧ IsS w1 sb G1 B1 3 200 64 256 30 30 (one1 wkA 0) (headZ zs 0 0) ∧ (∀ k, G1 k → (base ≤ k ∧ k < a1) ∨ w.heap.size ≤ k))) (hR1 : IsR w1 rb Fr Q 200 64 256 wkR) (hq1 : IsQ w1 qb rb (.slice none 0 0) 0 (fun _ => it0)) => (htk3 w1 Fr Q hR1 hq1 (hFn qb lo3)).mono (R' := fun y w2 => y = .returned (.tuple #[.int .u64 1, .int .i64 0]) ∧ w2.cell? ⟨st, 4, none⟩ = some (.slice none 0 0) ∧ ∃ F2 Q2 gi ci its2, Hid (Mid w w2 base a1 a2 st sb G1 B1 (headZ zs 0 0) tb hb mo rb F2 Q2 qb wb mo2 gi ci its2 (.slice none 0 0))) (by
    rintro y w2 ⟨rfl, hK2, F2, Q2, iv2, its2, hR2, hq2, hF2, hi2, hn2⟩
    obtain ⟨hK1, hS1, hG1⟩ := hE1.out
    obtain ⟨ai, ci, rfl, _, _, _, hai⟩ := row_shape hq2.row
    obtain ⟨gi, rfl⟩ := hai (by omega)
    have hgi := hi2 gi rfl
    have hs1 := hK1.size
    have hgi2 : w1.heap.size ≤ gi := hgi.1.elim (fun e => by simp [Value.ownBlock] at e) (fun e => e)
    have hK2' : Kp (fun k => (a1 ≤ k ∧ k < a2) ∨ k = qb) w1 w2 := hK2.mono (fun k hk => by
      rcases hk with h1 | h1 | h1
      · exact .inl (.inl (h.g2 k h1))
      · exact .inl (.inr h1)
      · simp [Value.ownBlock] at h1)
    have hK : Kp (fun k => (base ≤ k ∧ k < a2) ∨ k = qb ∨ k = st) w w2 := hK1.trans hK2' (fun k hk => .inl ⟨hk.1, by omega⟩) (fun k hk => .inl (hk.elim (fun h' => .inl ⟨by omega, h'.2⟩) (fun h' => .inr (.inl h'))))
    have hqst : st ≠ qb := fun e => ne_of_type h.box h.isq.box (by decide) e
    have hbx : Box w2 39 st _ := hK2'.box (hK1.box h.box (by omega)) (by omega)
    have hT1 := h.ist.kept hK1 (by omega) (by omega)
    have hqt : tb ≠ qb := fun e => ne_of_type h.ist.box h.isq.box (by decide) e
    have hqh : hb ≠ qb := fun e => ne_of_type h.ist.hd h.isq.box (by decide) e
    have hqw : wb ≠ qb := fun e => ne_of_type h.bw h.isq.box (by decide) e
    refine ⟨rfl, hbx.cell 4, F2, Q2, gi, ci, its2, ⟨hK, hbx, ?_, hT1.kept hK2' (by omega) (by omega), hR2, hq2, hK2'.box (hK1.box h.bw (by omega)) (by omega), hG1, ?_, ?_, ⟨?_, hgi.2, by omega⟩, le2⟩⟩
    · exact hS1.kept hK2' (fun k hk hk2 => by rcases hG1 k hk with h1 | h1 <;> rcases hk2 with h2 | h2 <;> omega)
    · intro k hk
      rcases hF2 k hk with h1 | h1
      · exact .inl (h.g2 k h1)
      · exact .inr (by omega)
    · intro k hk hg
      have hlt := hS1.lt k hg
      rcases hF2 k hk with h1 | h1
      · have := h.g2 k h1
        have hfl := h.isr.lt k h1
        rcases hG1 k hg with h2 | h2 <;> omega
      · omega
    · intro hg
      have hlt := hS1.lt gi hg
      omega)
  clear htk3
  have h54 := fun W5 n5 (hn5 : W5.heap.size = n5) G1 B1 F2 Q2 gi ci its2 av (hM5 : Mid w W5 base a1 a2 st sb G1 B1 (headZ zs 0 0) tb hb mo rb F2 Q2 qb wb mo2 gi ci its2 av) => (iwk_lay (hM5.iss.kept0 (World.grownBy_alloc W5 (.cells #[.int .u8 118] 5 (1, 2)) none)) (by rw [h.zl]; decide) ka kc n5 1 ((hk.kept2 hM5.K (fun k hk1 hk2 => by have := hka k hk1; omega)).kept0 (World.grownBy_alloc W5 (.cells #[.int .u8 118] 5 (1, 2)) none)) (hn5 ▸ has_one (cell_new1 W5 118 (1, 2))) (fun x hx e => by
      have h1 := hka x hx
      rcases hM5.g1 _ hM5.iss.fa.2 with h2 | h2 <;> omega) (fun e => by
      have := hM5.iss.lt _ hM5.iss.fa.2
      omega)).mono (R' := fun y w7 => y = .returned (.int .i64 0) ∧ w7.cell? ⟨st, 2, none⟩ = some (.pointer (some ⟨qb, 0, none⟩)) ∧ Hid (Mid w w7 base a1 a2 st sb G1 B1 (lay (headZ zs 0 0) 0 wkT.L.flatten) tb hb mo rb F2 Q2 qb wb mo2 gi ci its2 av)) (by
    rintro y w7 ⟨rfl, hS7, hf7⟩
    have hM6 := hM5.kept0 (World.grownBy_alloc W5 (.cells #[.int .u8 118] 5 (1, 2)) none)
    have hag := hM6.iss.fa.2
    have hagl := hM6.g1 _ hag
    have nst : st ≠ B1.ag := by rcases hagl with h2 | h2 <;> omega
    have nqb : qb ≠ B1.ag := by rcases hagl with h2 | h2 <;> omega
    have nwb : wb ≠ B1.ag := by have := h.bw.lt; rcases hagl with h2 | h2 <;> omega
    have ntb : tb ≠ B1.ag := by have := h.ist.box.lt; rcases hagl with h2 | h2 <;> omega
    have nhb : hb ≠ B1.ag := by have := lt_of_block h.ist.hd; rcases hagl with h2 | h2 <;> omega
    have hK7 : Kp (fun k => k = B1.ag) (W5.alloc (.cells #[.int .u8 118] 5 (1, 2))) w7 := (Kp.refl _ _).step hf7 (fun i hi => .inl (by simpa using hi.symm))
    have hb7 := hM6.box.kept hf7 (by simpa using nst)
    refine ⟨rfl, hb7.cell 2, ⟨hM6.K.step hf7 (fun i hi => ?_), hb7, hS7, hM6.ist.kept hK7 ntb nhb, hM6.isr.kept hK7 (fun k hk e => ?_), hM6.isq.kept hK7 nqb (fun k hk e => ?_), hM6.bw.kept hf7 (by simpa using nwb), hM6.g1, hM6.f2, hM6.n2, hM6.gg, hM6.le⟩⟩
    · simp at hi
      subst hi
      rcases hagl with h2 | h2
      · exact .inl (.inl ⟨h2.1, by omega⟩)
      · exact .inr h2
    · subst e
      exact hM6.n2 _ hk hag
    · simp [Value.ownBlock] at hk
      subst hk
      exact hM6.gg.1 (e ▸ hag))
  have hHk := fun W5 G1 B1 F2 Q2 gi ci its2 av zz (hM5 : Mid w W5 base a1 a2 st sb G1 B1 zz tb hb mo rb F2 Q2 qb wb mo2 gi ci its2 av) => hk.kept2 hM5.K (fun k hk1 hk2 => by have := hka k hk1; omega)
  have h72 := fun W7 G1 B1 F2 Q2 gi ci its2 av zz (hM7 : Mid w W7 base a1 a2 st sb G1 B1 zz tb hb mo rb F2 Q2 qb wb mo2 gi ci its2 av) (hI : IsI zz 0 wkT) => (rlay3 (hM7.isr.kept0 (World.grownBy_alloc W7 (.cells #[.int .u8 118] 5 (1, 2)) none)) wkR2_fit (hM7.isq.kept0 (World.grownBy_alloc W7 (.cells #[.int .u8 118] 5 (1, 2)) none)) (i := 0) (H := 1) (fun W hf => rfind_yes (((hM7.isr.kept0 (World.grownBy_alloc W7 (.cells #[.int .u8 118] 5 (1, 2)) none))).kept0 hf) wkR2_fit (by rw [wkR2_N]; decide) wkR2_tk wkR2_h (fun j hj => by omega)) (by rw [wkR2_N]; decide) (by decide) (by decide) (by rw [wkR2_cl, wkR2_n]; decide) ((hHk _ _ _ _ _ _ _ _ _ _ hM7).kept0 (World.grownBy_alloc W7 (.cells #[.int .u8 118] 5 (1, 2)) none)) (has_one (cell_new1 W7 118 (1, 2))) hkc (by simp) (vc := 1) legal_k (by decide) (by rw [wkR2_cl, wkR2_sz]; decide) hM7.gg.2.1).mono (R' := fun y w9 => y = .returned (.int .i64 0) ∧ Hid (Kp (fun k => base ≤ k) w w9 ∧ (∀ k, ka.map (·.block) = some k → w9.heap[k]? = w.heap[k]?) ∧ ∃ G' B' zs' Fr' Q' av gi ci its ka' kc' va' vc', St1 w9 st sb G' B' zs' tb hb mo rb Fr' Q' qb wb mo2 av gi ci its ka' kc' va' vc' ∧ ∀ k, G' k → base ≤ k)) (by
    rintro y w9 ⟨rfl, hf9, ka', kc', va', vc', hq9, hh9, hb9⟩
    have hM8 := hM7.kept0 (World.grownBy_alloc W7 (.cells #[.int .u8 118] 5 (1, 2)) none)
    have hs8 := hM8.K.size
    have hK9 : Kp (fun k => k = gi) (W7.alloc (.cells #[.int .u8 118] 5 (1, 2))) w9 := (Kp.refl _ _).step hf9 (fun i hi => .inl (by simpa using hi.symm))
    have hgg := hM8.gg
    have nst : st ≠ gi := by omega
    have nwb : wb ≠ gi := by have := h.bw.lt; omega
    have ntb : tb ≠ gi := by have := h.ist.box.lt; omega
    have nhb : hb ≠ gi := by have := lt_of_block h.ist.hd; omega
    have hbase : base ≤ st := by omega
    refine ⟨rfl, ?_, ?_, G1, B1, zz, F2, Q2, av, gi, ci, _, ka', kc', va', vc', ⟨hM8.box.kept hf9 (by simpa using nst), hM8.iss.kept hK9 (fun k hk e => hgg.1 (e ▸ hk)), hI, hM8.ist.kept hK9 ntb nhb, h.m16, hM8.isr.kept hK9 (fun k hk e => hgg.2.1 (e ▸ hk)), hq9, by rw [upd_same], hh9, hM8.bw.kept hf9 (by simpa using nwb), ?_, hM8.n2, ?_, ?_⟩, fun k hk => by rcases hM8.g1 k hk with h1 | h1 <;> omega⟩
    · refine (hM8.K.mono (fun k hk => .inl ?_)).step hf9 (fun i hi => .inl ?_)
      · rcases hk with h1 | h1 | h1 <;> omega
      · simp at hi; omega
    · intro k hk
      have h1 := hka k hk
      rw [hK9.block k (by have := hM8.K.size; omega) (by omega), hM8.K.block k h1.2.1 (by omega)]
    · have hn : ∀ x, a2 ≤ x → x < w.heap.size → ¬ G1 x := fun x h1 h2 hG => by rcases hM8.g1 x hG with h3 | h3 <;> omega
      exact ⟨hn st lo5 hst, hn tb lo1 h.ist.box.lt, hn hb lo2 (lt_of_block h.ist.hd), hn qb lo3 hqs, hn wb lo4 h.bw.lt, hgg.1⟩
    · intro k hk hG
      have := hb9 k hk
      have := hM8.iss.lt k hG
      omega
    · have hn : ∀ x, a2 ≤ x → x < w.heap.size → ¬ F2 x := fun x h1 h2 hG => by rcases hM8.f2 x hG with h3 | h3 <;> omega
      exact ⟨hn tb lo1 h.ist.box.lt, hn hb lo2 (lt_of_block h.ist.hd), hn wb lo4 h.bw.lt, hn st lo5 hst⟩)
  simp only [show ((1 : Nat) : Int) = 1 from rfl] at h72
  have hzh : (headZ zs 0 0).length = 12288 := by rw [headZ_lay _ _ _ (by rw [h.zl]; decide), length_lay (by rw [hd0_len, h.zl]; decide), h.zl]
  have hII : IsI (lay (headZ zs 0 0) 0 wkT.L.flatten) 0 wkT := iwk_isI (by rw [hzh]; decide)
  have HK0 : Hid (Has w ka 1 [107]) := hk
  have hqst : ¬ st = qb := fun e => ne_of_type h.box h.isq.box (by decide) e
  clear hk hHk
  go_enter Tryz.func33, Tryz.ntmps33
  go_wp2_with (first | (go_at_call 53; go_must (refine htk'.mono ?_); rintro y w1 ⟨rfl, c2, G1, B1, hE1, hR1, hq1⟩) | (go_at_call 71; go_must (refine (h71 _ _ _ hE1 hR1 hq1).mono ?_); rintro y w2 ⟨rfl, c4, F2, Q2, gi, ci, its2, hM⟩; (have ca : ∀ o, (w2.alloc o).cell? ⟨st, 4, none⟩ = some (.slice none 0 0) := fun o => gb_cellN (World.grownBy_alloc w2 o none) c4)) | (go_at_call 13; go_must (refine (num_any _ _).mono ?_); rintro y w' ⟨rfl, rfl⟩) | (at_builtin; go_must (refine push40 rfl _ _ rfl 0 (.slice none 0 0) 0 [] (by rfl) (World.ownsRow_nil _ _ _ _) 1 (by rfl) (by omega) (Nat.zero_le _) ?_); intro g1 cap1 w4 ho4 hg4 hat4; (have hg5 : w2.grownBy w4 none := hg4); (have hM4 : Hid (Mid w w4 base a1 a2 st sb G1 B1 (headZ zs 0 0) tb hb mo rb F2 Q2 qb wb mo2 gi ci its2 (.slice none 0 0)) := hM.out.kept0 hg5); (have e4 := hM4.out.box.cell 4); simp at e4; (have z4 := hM4.out.box.fz 4); (have e0 := hM4.out.box.cell 0); (have e2 := hM4.out.box.cell 2); simp at e0 e2; (have hM5 : Hid (Mid w (w4.setCell ⟨st, 4, none⟩ (.slice (some ⟨g1, 0, none⟩) 1 cap1)) base a1 a2 st sb G1 B1 (headZ zs 0 0) tb hb mo rb F2 Q2 qb wb mo2 gi ci its2 (.slice (some ⟨g1, 0, none⟩) 1 cap1)) := hM4.out.all (w4 := w4) ⟨lo5, hst⟩ hqst _); (have hcv := Lib.run_convert_bytes_const (w4.setCell ⟨st, 4, none⟩ (.slice (some ⟨g1, 0, none⟩) 1 cap1)) 29 5 #[.int .u8 118] 1 1 Tryz.underlying29 Tryz.underlying5); simp at hcv) | (go_at_call 54; go_must (with_reducible refine (h54 _ w4.heap.size (by simp) _ _ _ _ _ _ _ _ hM5.out).mono ?_); rintro y w7 ⟨rfl, d2, hM7⟩; (have hcv7 := Lib.run_convert_bytes_const w7 29 5 #[.int .u8 118] 1 1 Tryz.underlying29 Tryz.underlying5); simp at hcv7) | (go_at_call 72; go_must (with_reducible refine (h72 _ _ _ _ _ _ _ _ _ _ hM7.out hII).mono ?_); rintro y w9 ⟨rfl, hE9⟩) | fail)
  go_ret2
  exact ⟨rfl, hE9.out⟩
end Go.Proofs.YtdlaanigfhlolaaGreat

import Derived.Test.YtobegepebochkaaGreatDoorZc
/-
  A Book in memory (Bok): Bytes, Texts, Close.
-/
namespace Go.Proofs.YtobegepebochkaaGreatDoor
open Go.RowKit
set_option linter.unusedVariables false
set_option linter.unusedSimpArgs false

/-- A Book with at most K lists of bytes and as many of texts; FB its blocks; s0 its steps. -/
def Bok (s0 : Value) (w : World) (bb : Nat) (FB : Nat → Prop) (K : Nat) : Prop :=
  ∃ b0 b1 t0 t1 n Fb Ft Kb Kt Vb Wb Nb Db Vt Wt Nt Dt, Box w 31 bb (bkA b0 b1 nilS nilS t0 t1 nilS nilS s0 nilS nilS n) ∧ Kd w Fb 38 5 1 b0 b1 Kb Kb Vb Wb Nb Db ∧ Kd w Ft 36 9 1 t0 t1 Kt Kt Vt Wt Nt Dt ∧
    (∀ i, i < Kb → ∃ l : Bs, Db i = l.map b8) ∧ (∀ i, i < Kt → ∃ ws : List Bs, Dt i = ws.map sv) ∧ Kb ≤ K ∧ Kt ≤ K ∧ (0 ≤ n ∧ n ≤ 1300000) ∧ FB bb ∧ (∀ k, Fb k → FB k) ∧ (∀ k, Ft k → FB k) ∧ ∀ k, FB k → k < w.heap.size
theorem Bok.same {s0 : Value} {w w' : World} {bb : Nat} {FB : Nat → Prop} {K : Nat} (h : Bok s0 w bb FB K) (hs : w.heap.size ≤ w'.heap.size) (hf : ∀ k, FB k → w'.heap[k]? = w.heap[k]?) : Bok s0 w' bb FB K := by
  obtain ⟨b0, b1, t0, t1, n, Fb, Ft, Kb, Kt, Vb, Wb, Nb, Db, Vt, Wt, Nt, Dt, hb, k1, k2, l1, l2, m1, m2, hn, f1, f2, f3, f4⟩ := h
  exact ⟨b0, b1, t0, t1, n, Fb, Ft, Kb, Kt, Vb, Wb, Nb, Db, Vt, Wt, Nt, Dt, by unfold Box; rw [hf bb f1]; exact hb, k1.same (fun k hk => hf k (f2 k hk)), k2.same (fun k hk => hf k (f3 k hk)), l1, l2, m1, m2, hn, f1, f2, f3, fun k hk => Nat.lt_of_lt_of_le (f4 k hk) hs⟩
theorem Bok.kept {s0 : Value} {w w' : World} {bb : Nat} {FB F : Nat → Prop} {K : Nat} (h : Bok s0 w bb FB K) (hk : Kp F w w') (hd : ∀ k, FB k → ¬ F k) : Bok s0 w' bb FB K :=
  h.same hk.size (fun k h1 => hk.block k (by obtain ⟨b0, b1, t0, t1, n, Fb, Ft, Kb, Kt, Vb, Wb, Nb, Db, Vt, Wt, Nt, Dt, hb, k1, k2, l1, l2, m1, m2, hn, f1, f2, f3, f4⟩ := h; exact f4 k h1) (hd k h1))
theorem Bok.kept0 {s0 : Value} {w w' : World} {bb : Nat} {FB : Nat → Prop} {K : Nat} (h : Bok s0 w bb FB K) (hk : w.grownBy w' none) : Bok s0 w' bb FB K := h.kept (Kp.of (F := fun _ => False) hk) (fun _ _ h => h)
theorem Bok.lt {s0 : Value} {w : World} {bb : Nat} {FB : Nat → Prop} {K : Nat} (h : Bok s0 w bb FB K) : ∀ k, FB k → k < w.heap.size := by
  obtain ⟨b0, b1, t0, t1, n, Fb, Ft, Kb, Kt, Vb, Wb, Nb, Db, Vt, Wt, Nt, Dt, hb, k1, k2, l1, l2, m1, m2, hn, f1, f2, f3, f4⟩ := h
  exact f4
theorem Bok.new {w : World} {bb : Nat} (hb : Box w 31 bb (bkA nilS nilS nilS nilS nilS nilS nilS nilS nilS nilS nilS 0)) : Bok nilS w bb (fun k => k = bb) 0 :=
  ⟨nilS, nilS, nilS, nilS, 0, fun _ => False, fun _ => False, 0, 0, _, _, _, _, _, _, _, _, hb, Kd.nil w 1 (by decide), Kd.nil w 1 (by decide), fun i hi => by omega, fun i hi => by omega, Nat.le_refl _, Nat.le_refl _, by omega, rfl, fun _ h => h.elim, fun _ h => h.elim, fun k hk => by subst hk; exact hb.lt⟩
/-- Another kind's lists stand. -/
theorem Kd.other {w w' : World} {bb : Nat} {A : Array Value} {F G : Nat → Prop} {eO eI fO fI : TypeId} {s r : Nat} {hv wv hu wu : Value} {KV KW JV JW : Nat} {V W U X : Nat → Value} {N M : Nat → Nat} {D E : Nat → List Value} (h : Kd w F eO eI s hv wv KV KW V W N D) (g : Kd w G fO fI r hu wu JV JW U X M E) (hb : Box w 31 bb A) (hk : Kp (fun k => k = bb ∨ G k) w w') (n1 : 31 ≠ eO) (n2 : 31 ≠ eI) (n3 : fO ≠ eO) (n4 : fO ≠ eI) (n5 : fI ≠ eO) (n6 : fI ≠ eI) : Kd w' F eO eI s hv wv KV KW V W N D :=
  h.same (fun k h1 => hk.block k (h.fl k h1) (by
    rintro (rfl | h2)
    · exact h.not hb n1 n2 h1
    · obtain ⟨c, h3 | h3⟩ := g.ft k h2
      · exact h.not h3 n3 n4 h1
      · exact h.not h3 n5 n6 h1))
/-- What a Book leaves that has taken a list in. -/
def BkPost (s0 : Value) (w : World) (bb : Nat) (FB : Nat → Prop) (K : Nat) (v : Value) (w' : World) : Prop :=
  Kp FB w w' ∧ ∃ FB', Bok s0 w' bb FB' (K + 1) ∧ ∀ k, FB' k → FB k ∨ v.ownBlock = some k ∨ w.heap.size ≤ k
section
variable {s0 : Value} {w : World} {bb : Nat} {FB : Nat → Prop} {K : Nat}
theorem Bok.more (h : Bok s0 w bb FB K) : Bok s0 w bb FB (K + 1) := by
  obtain ⟨b0, b1, t0, t1, n, Fb, Ft, Kb, Kt, Vb, Wb, Nb, Db, Vt, Wt, Nt, Dt, hb, k1, k2, l1, l2, m1, m2, hn, f1, f2, f3, f4⟩ := h
  exact ⟨b0, b1, t0, t1, n, Fb, Ft, Kb, Kt, Vb, Wb, Nb, Db, Vt, Wt, Nt, Dt, hb, k1, k2, l1, l2, by omega, by omega, hn, f1, f2, f3, f4⟩
theorem bok_bytes (h : Bok s0 w bb FB K) (hK : K < 1000000) {vao : Option Addr} {vcp m : Nat} {l : Bs} (hv : w.ownsRow 0 5 1 (.slice vao m vcp) m (l.map b8)) (hm : m ≤ 1000000) (hvF : ∀ g, (Value.slice vao m vcp).ownBlock = some g → ¬ FB g) :
    Calls Tryz.prog 20 #[.pointer (some ⟨bb, 0, none⟩), .slice vao m vcp] w fun y w' => y = .returned (.tuple #[]) ∧ BkPost s0 w bb FB K (.slice vao m vcp) w' := by
  have h0 := h
  obtain ⟨b0, b1, t0, t1, n, Fb, Ft, Kb, Kt, Vb, Wb, Nb, Db, Vt, Wt, Nt, Dt, hb, k1, k2, l1, l2, m1, m2, hn, f1, f2, f3, f4⟩ := h
  by_cases hf : 200000 < n
  · refine (full_20 hb hf _).mono ?_
    rintro y w' ⟨rfl, hw⟩
    rw [hw]
    exact ⟨rfl, Kp.refl _ _, FB, h0.more, fun k hk => .inl hk⟩
  · refine (keep_20 hb k1 (by omega) (by omega) hv (fun u hu => by rw [List.mem_map] at hu; obtain ⟨x, _, rfl⟩ := hu; rfl) hm (fun g hg hk => hvF g hg (f2 g hk))).mono ?_
    rintro y w' ⟨rfl, hkp, q0, q1, F', V', W', hb', k1', hF'⟩
    refine ⟨rfl, hkp.mono (fun i hi => .inl (by rcases hi with rfl | hi; exact f1; exact f2 i hi)), fun k => FB k ∨ F' k, ⟨q0, q1, t0, t1, _, F', Ft, Kb + 1, Kt, V', W', _, _, Vt, Wt, Nt, Dt, hb', k1', k2.other k1 hb hkp (by decide) (by decide) (by decide) (by decide) (by decide) (by decide), fun i hi => ?_, l2, by omega, by omega, by omega, .inl f1, fun k hk => .inr hk, fun k hk => .inl (f3 k hk), ?_⟩, ?_⟩
    · by_cases e : i = Kb
      · subst e; rw [upd_same]; exact ⟨l, rfl⟩
      · rw [upd_other _ _ e]; exact l1 i (by omega)
    · rintro k (hk | hk)
      · exact Nat.lt_of_lt_of_le (f4 k hk) hkp.size
      · exact k1'.fl k hk
    · rintro k (hk | hk)
      · exact .inl hk
      · exact (hF' k hk).imp (f2 k) id
theorem bok_texts (h : Bok s0 w bb FB K) (hK : K < 1000000) {vao : Option Addr} {vcp m : Nat} {l : List Bs} (hv : w.ownsRow 0 9 1 (.slice vao m vcp) m (l.map sv)) (hm : m ≤ 1000000) (hvF : ∀ g, (Value.slice vao m vcp).ownBlock = some g → ¬ FB g) :
    Calls Tryz.prog 19 #[.pointer (some ⟨bb, 0, none⟩), .slice vao m vcp] w fun y w' => y = .returned (.tuple #[]) ∧ BkPost s0 w bb FB K (.slice vao m vcp) w' := by
  have h0 := h
  obtain ⟨b0, b1, t0, t1, n, Fb, Ft, Kb, Kt, Vb, Wb, Nb, Db, Vt, Wt, Nt, Dt, hb, k1, k2, l1, l2, m1, m2, hn, f1, f2, f3, f4⟩ := h
  by_cases hf : 200000 < n
  · refine (full_19 hb hf _).mono ?_
    rintro y w' ⟨rfl, hw⟩
    rw [hw]
    exact ⟨rfl, Kp.refl _ _, FB, h0.more, fun k hk => .inl hk⟩
  · refine (keep_19 hb k2 (by omega) (by omega) hv (fun u hu => by rw [List.mem_map] at hu; obtain ⟨x, _, rfl⟩ := hu; rfl) hm (fun g hg hk => hvF g hg (f3 g hk))).mono ?_
    rintro y w' ⟨rfl, hkp, q0, q1, F', V', W', hb', k2', hF'⟩
    refine ⟨rfl, hkp.mono (fun i hi => .inl (by rcases hi with rfl | hi; exact f1; exact f3 i hi)), fun k => FB k ∨ F' k, ⟨b0, b1, q0, q1, _, Fb, F', Kb, Kt + 1, Vb, Wb, Nb, Db, V', W', _, _, hb', k1.other k2 hb hkp (by decide) (by decide) (by decide) (by decide) (by decide) (by decide), k2', l1, fun i hi => ?_, by omega, by omega, by omega, .inl f1, fun k hk => .inl (f2 k hk), fun k hk => .inr hk, ?_⟩, ?_⟩
    · by_cases e : i = Kt
      · subst e; rw [upd_same]; exact ⟨l, rfl⟩
      · rw [upd_other _ _ e]; exact l2 i (by omega)
    · rintro k (hk | hk)
      · exact Nat.lt_of_lt_of_le (f4 k hk) hkp.size
      · exact k2'.fl k hk
    · rintro k (hk | hk)
      · exact .inl hk
      · exact (hF' k hk).imp (f3 k) id
set_option maxRecDepth 100000 in
set_option maxHeartbeats 4000000 in
theorem close_22 (h : Bok nilS w bb FB K) (hK : K < 1000000) :
    Calls Tryz.prog 22 #[.pointer (some ⟨bb, 0, none⟩)] w fun y w' => y = .returned (.bool true) ∧ Kp FB w w' := by
  obtain ⟨b0, b1, t0, t1, n, Fb, Ft, Kb, Kt, Vb, Wb, Nb, Db, Vt, Wt, Nt, Dt, hb, k1, k2, l1, l2, m1, m2, hn, f1, f2, f3, f4⟩ := h
  have h66 := stands_66 hb k1 k2 l1 l2 (by omega) (by omega)
  go_enter Tryz.func22, Tryz.ntmps22
  go_wp2_with (go_at_call 66; go_must (refine h66.mono ?_))
  rintro y w1 ⟨rfl, hg1⟩
  have hb1 := hb.kept hg1 (by simp)
  have k11 := k1.kept0 hg1
  have k21 := k2.kept0 hg1
  have h67 := close_67 hb1 k11 rfl rfl (by omega)
  have HG : Hid (Kp FB w w1) := (Kp.refl _ _).step hg1 (by simp)
  clear h66 hb k1 k2 hg1
  go_wp2_with (go_at_call 67; go_must (refine h67.mono ?_))
  rintro y w2 ⟨rfl, hk2, ov, mv, hb2⟩
  have k22 := k21.other k11 hb1 hk2 (by decide) (by decide) (by decide) (by decide) (by decide) (by decide)
  have h68 := close_68 hb2
  have h69 := close_69 hb2 k22 rfl rfl (by omega)
  have HG2 : Hid (Kp FB w w2) := HG.out.trans hk2 (fun _ h => h) (fun i hi => .inl (by rcases hi with rfl | hi; exact f1; exact f2 i hi))
  clear h67 hb1 k11 k21 hk2 hb2 k22 HG
  go_wp2_with (first | (go_at_call 68; go_must (refine h68.mono ?_); rintro y w3 ⟨rfl, hw3⟩; subst hw3) | (go_at_call 69; go_must (refine h69.mono ?_)))
  rintro y w5 ⟨rfl, hk5, ov', mv', hb5⟩
  have h70 := close_70 hb5
  have h71 := close_71 hb5
  have h72 := close_72 hb5
  have h73 := close_73 hb5
  have HP : Hid (Kp FB w w5) := HG2.out.trans hk5 (fun _ h => h) (fun i hi => .inl (by rcases hi with rfl | hi; exact f1; exact f3 i hi))
  clear h68 h69 hk5 hb5 HG2
  go_wp2_with (first | (go_at_call 70; go_must (refine h70.mono ?_); rintro y w6 ⟨rfl, hw6⟩; subst hw6) | (go_at_call 71; go_must (refine h71.mono ?_); rintro y w7 ⟨rfl, hw7⟩; subst hw7) | (go_at_call 72; go_must (refine h72.mono ?_); rintro y w8 ⟨rfl, hw8⟩; subst hw8) | (go_at_call 73; go_must (refine h73.mono ?_); rintro y w9 ⟨rfl, hw9⟩; subst hw9))
  go_ret
  exact ⟨rfl, HP.out⟩
end
end Go.Proofs.YtobegepebochkaaGreatDoor
/-
  The lists of flags that were told (flags): add, own.
-/
namespace Go.Proofs.YtobegepebochkaaGreatDoor
open Go.RowKit
set_option linter.unusedVariables false
set_option linter.unusedSimpArgs false

theorem ty_39 : ∃ ti, Ty 39 79 ti (.agg #[.int .u8 0, .string ⟨#[]⟩, .bool false]) 3 32 := ty_of Tryz.underlying39 (by kernel_rfl) rfl (by omega) (by omega)
theorem ty_33 : ∃ ti, Ty 33 39 ti (.slice none 0 0) 1 24 := ty_of Tryz.underlying33 (by kernel_rfl) rfl (by omega) (by omega)
/-- Lists of flags in memory; FM their blocks. -/
def Fok (w : World) (fb : Nat) (FM : Nat → Prop) : Prop :=
  ∃ lv F K V W N D, Box w 35 fb #[lv] ∧ Kd w F 39 79 3 lv (.slice none 0 0) K 0 V W N D ∧ K ≤ 300 ∧ FM fb ∧ (∀ k, F k → FM k) ∧ ∀ k, FM k → k < w.heap.size
theorem Fok.same {w w' : World} {fb : Nat} {FM : Nat → Prop} (h : Fok w fb FM) (hs : w.heap.size ≤ w'.heap.size) (hf : ∀ k, FM k → w'.heap[k]? = w.heap[k]?) : Fok w' fb FM := by
  obtain ⟨lv, F, K, V, W, N, D, hb, hd, hK, f1, f2, f3⟩ := h
  exact ⟨lv, F, K, V, W, N, D, by unfold Box; rw [hf fb f1]; exact hb, hd.same (fun k hk => hf k (f2 k hk)), hK, f1, f2, fun k hk => Nat.lt_of_lt_of_le (f3 k hk) hs⟩
theorem Fok.lt {w : World} {fb : Nat} {FM : Nat → Prop} (h : Fok w fb FM) : ∀ k, FM k → k < w.heap.size := by
  obtain ⟨lv, F, K, V, W, N, D, hb, hd, hK, f1, f2, f3⟩ := h
  exact f3
theorem Fok.kept {w w' : World} {fb : Nat} {FM F : Nat → Prop} (h : Fok w fb FM) (hk : Kp F w w') (hd : ∀ k, FM k → ¬ F k) : Fok w' fb FM := h.same hk.size (fun k h1 => hk.block k (h.lt k h1) (hd k h1))
theorem Fok.kept0 {w w' : World} {fb : Nat} {FM : Nat → Prop} (h : Fok w fb FM) (hk : w.grownBy w' none) : Fok w' fb FM := h.kept (Kp.of (F := fun _ => False) hk) (fun _ _ h => h)
theorem Fok.new {w : World} {fb : Nat} (hb : Box w 35 fb #[.slice none 0 0]) : Fok w fb (fun k => k = fb) :=
  ⟨_, fun _ => False, 0, _, _, _, _, hb, Kd.nil w 3 (by decide), Nat.zero_le _, rfl, fun _ h => h.elim, fun k hk => by subst hk; exact hb.lt⟩
def FkPost (w : World) (fb : Nat) (FM : Nat → Prop) (v : Value) (w' : World) : Prop :=
  Kp FM w w' ∧ ∃ FM', Fok w' fb FM' ∧ ∀ k, FM' k → FM k ∨ v.ownBlock = some k ∨ w.heap.size ≤ k
set_option maxRecDepth 100000 in
set_option maxHeartbeats 4000000 in
theorem add_21 {w : World} {fb : Nat} {FM : Nat → Prop} (h : Fok w fb FM) {vao : Option Addr} {vcp m : Nat} {xs : List Value} (hv : w.ownsRow 0 79 3 (.slice vao m vcp) m xs) (hoc : ∀ u ∈ xs, u.oneCell' = true) (hm : m ≤ 1000000) (hvF : ∀ g, (Value.slice vao m vcp).ownBlock = some g → ¬ FM g) :
    Calls Tryz.prog 21 #[.pointer (some ⟨fb, 0, none⟩), .slice vao m vcp] w fun y w' => y = .returned (.tuple #[]) ∧ FkPost w fb FM (.slice vao m vcp) w' := by
  have hpost0 : FkPost w fb FM (.slice vao m vcp) w := ⟨Kp.refl _ _, FM, h, fun k hk => .inl hk⟩
  have HP0 : Hid _ := hpost0
  obtain ⟨lv, F, K, V, W, N, D, hb, hd, hK, f1, f2, f3⟩ := h
  obtain ⟨tO, TO⟩ := ty_33
  obtain ⟨lao, lcp, hdl, _, _, _, _⟩ := row_shape hd.hr
  subst hdl
  have c0 : w.cell? ⟨fb, 0, none⟩ = some (.slice lao K lcp) := hb.cell 0
  have hr := hd.hr
  clear hpost0
  by_cases h0 : m = 0
  · have d0 : decide ((0 : Int) < (m : Int)) = false := by simp; omega
    have d1 : decide (0 < m) = false := by simp; omega
    clear hd hr
    go_enter Tryz.func21, Tryz.ntmps21
    go_wp2
    go_end0
    exact ⟨rfl, HP0.out⟩
  · have d0 : decide ((0 : Int) < (m : Int)) = true := by simp; omega
    have d1 : decide (0 < m) = true := by simp; omega
    by_cases hK3 : K < 300
    · have d2 : decide ((K : Int) < 300) = true := by simp; omega
      have d3 : decide (K < 300) = true := by simp; omega
      have hbF : ¬ F fb := hd.not hb (by decide) (by decide)
      have HD : Hid _ := hd
      clear hd
      go_enter Tryz.func21, Tryz.ntmps21
      go_wp2_with (at_builtin; go_must (refine pushB TO rfl _ _ rfl 0 _ K _ (by rfl) hr [.slice vao m vcp] rfl (by simp [Value.oneCell']) (by rfl) (by omega) (Nat.zero_le _) ?_))
      intro g2 cap2 w2 hrow2 hgb2 hat2
      have hd2 := Kd.pushV HD.out hv (fun g hg hk => hvF g hg (f2 g hk)) hm hoc hrow2 hgb2 (fun g hg => by simp [Value.ownBlock] at hg; subst hg; exact hat2)
      have hb2 := hb.kept hgb2 (fun e => hbF (Kd.fh HD.out _ e.symm))
      have f12 := hb2.fz 0
      have k12 : w2.cell? ⟨fb, 0, none⟩ = some (.slice lao K lcp) := hb2.cell 0
      have hg3 : w2.grownBy (w2.setCell ⟨fb, 0, none⟩ (.slice (some ⟨g2, 0, none⟩) (K + 1) cap2)) (some fb) := gb_setCell (gb_refl _ _) _
      have hpost : FkPost w fb FM (.slice vao m vcp) (w2.setCell ⟨fb, 0, none⟩ (.slice (some ⟨g2, 0, none⟩) (K + 1) cap2)) := by
        have hkp : Kp FM w (w2.setCell ⟨fb, 0, none⟩ (.slice (some ⟨g2, 0, none⟩) (K + 1) cap2)) := ((Kp.refl FM w).step hgb2 (fun j hj => .inl (f2 j (Kd.fh HD.out j hj)))).step hg3 (fun j hj => by have := Option.some.inj hj; subst this; exact .inl f1)
        have hd3 := hd2.kept hg3 (fun k hk e => hd2.not hb2 (by decide) (by decide) (by have := Option.some.inj e; subst this; exact hk))
        refine ⟨hkp, fun k => FM k ∨ _, ⟨_, _, K + 1, _, _, _, _, hb2.set 0 _, hd3, by omega, .inl f1, fun k hk => .inr hk, ?_⟩, ?_⟩
        · rintro k (hk | hk)
          · exact Nat.lt_of_lt_of_le (f3 k hk) hkp.size
          · exact hd3.fl k hk
        · rintro k (hk | ⟨hk, _⟩ | hk | hk)
          · exact .inl hk
          · exact .inl (f2 k hk)
          · exact .inr (.inl hk)
          · simp [Value.ownBlock] at hk
            subst hk
            rcases hat2 with e | e
            · exact .inl (f2 _ (Kd.fh HD.out _ e))
            · exact .inr (.inr e)
      have HP : Hid _ := hpost
      clear hpost hd2 hb2 hg3 hrow2 hgb2 hat2 HD hr
      go_wp2
      go_end0
      exact ⟨rfl, HP.out⟩
    · have d2 : decide ((K : Int) < 300) = false := by simp; omega
      have d3 : decide (K < 300) = false := by simp; omega
      clear hd hr
      go_enter Tryz.func21, Tryz.ntmps21
      go_wp2
      go_end0
      exact ⟨rfl, HP0.out⟩
end Go.Proofs.YtobegepebochkaaGreatDoor

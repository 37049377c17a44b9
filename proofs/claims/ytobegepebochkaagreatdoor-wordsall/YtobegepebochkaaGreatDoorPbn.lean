import Derived.Test.YtobegepebochkaaGreatDoorPbm
import Derived.Test.YtobegepebochkaaGreatDoorBi
set_option linter.unusedVariables false
set_option linter.unusedSimpArgs false
namespace Go.Proofs.YtobegepebochkaaGreatDoor
open Go.RowKit
theorem Kd.other {w w' : World} {bb : Nat} {A : Array Value} {F G : Nat → Prop} {eO eI fO fI : TypeId} {s r : Nat} {hv wv hu wu : Value} {KV KW JV JW : Nat} {V W U X : Nat → Value} {N M : Nat → Nat} {D E : Nat → List Value} (h : Kd w F eO eI s hv wv KV KW V W N D) (g : Kd w G fO fI r hu wu JV JW U X M E) (hb : Box w 31 bb A) (hk : Kp (fun k => k = bb ∨ G k) w w') (n1 : 31 ≠ eO) (n2 : 31 ≠ eI) (n3 : fO ≠ eO) (n4 : fO ≠ eI) (n5 : fI ≠ eO) (n6 : fI ≠ eI) : Kd w' F eO eI s hv wv KV KW V W N D :=
  h.same (fun k h1 => hk.block k (h.fl k h1) (by
    rintro (rfl | h2)
    · exact h.not hb n1 n2 h1
    · obtain ⟨c, h3 | h3⟩ := g.ft k h2
      · exact h.not h3 n3 n4 h1
      · exact h.not h3 n5 n6 h1))
section
variable {s0 : Value} {w : World} {bb : Nat} {FB : Nat → Prop} {K : Nat}
end
end Go.Proofs.YtobegepebochkaaGreatDoor
namespace Go.Proofs.YtobegepebochkaaGreatDoor
open Go.RowKit
theorem ty_39 : ∃ ti, Ty 39 79 ti (.agg #[.int .u8 0, .string ⟨#[]⟩, .bool false]) 3 32 := ty_of Tryz.underlying39 (by kernel_rfl) rfl (by omega) (by omega)
theorem ty_33 : ∃ ti, Ty 33 39 ti (.slice none 0 0) 1 24 := ty_of Tryz.underlying33 (by kernel_rfl) rfl (by omega) (by omega)
def Fok (w : World) (fb : Nat) (FM : Nat → Prop) : Prop :=
  ∃ lv F K V W N D, Box w 35 fb #[lv] ∧ Kd w F 39 79 3 lv (.slice none 0 0) K 0 V W N D ∧ K ≤ 300 ∧ FM fb ∧ (∀ k, F k → FM k) ∧ ∀ k, FM k → k < w.heap.size
theorem Fok.same {w w' : World} {fb : Nat} {FM : Nat → Prop} (h : Fok w fb FM) (hs : w.heap.size ≤ w'.heap.size) (hf : ∀ k, FM k → w'.heap[k]? = w.heap[k]?) : Fok w' fb FM := by
  obtain ⟨lv, F, K, V, W, N, D, hb, hd, hK, f1, f2, f3⟩ := h
  exact ⟨lv, F, K, V, W, N, D, by unfold Box; rw [hf fb f1]; exact hb, hd.same (fun k hk => hf k (f2 k hk)), hK, f1, f2, fun k hk => Nat.lt_of_lt_of_le (f3 k hk) hs⟩
theorem Fok.lt {w : World} {fb : Nat} {FM : Nat → Prop} (h : Fok w fb FM) : ∀ k, FM k → k < w.heap.size := by
  obtain ⟨lv, F, K, V, W, N, D, hb, hd, hK, f1, f2, f3⟩ := h
  exact f3
theorem Fok.kept {w w' : World} {fb : Nat} {FM F : Nat → Prop} (h : Fok w fb FM) (hk : Kp F w w') (hd : ∀ k, FM k → ¬ F k) : Fok w' fb FM := h.same hk.size (fun k h1 => hk.block k (h.lt k h1) (hd k h1))
theorem Fok.kept0 {w w' : World} {fb : Nat} {FM : Nat → Prop} (h : Fok w fb FM) (hk : w.grownBy w' none) : Fok w' fb FM := h.kept (Kp.of (F := fun _ => False) hk) (fun _ _ h => h)
theorem Fok.new {w : World} {fb : Nat} (hb : Box w 35 fb #[.slice none 0 0]) : Fok w fb (fun k => k = fb) :=
  ⟨_, fun _ => False, 0, _, _, _, _, hb, Kd.nil w 3 (by decide), Nat.zero_le _, rfl, fun _ h => h.elim, fun k hk => by subst hk; exact hb.lt⟩
def FkPost (w : World) (fb : Nat) (FM : Nat → Prop) (v : Value) (w' : World) : Prop :=
  Kp FM w w' ∧ ∃ FM', Fok w' fb FM' ∧ ∀ k, FM' k → FM k ∨ v.ownBlock = some k ∨ w.heap.size ≤ k
set_option maxRecDepth 100000 in
set_option maxHeartbeats 4000000 in
theorem add_21 {w : World} {fb : Nat} {FM : Nat → Prop} (h : Fok w fb FM) {vao : Option Addr} {vcp m : Nat} {xs : List Value} (hv : w.ownsRow 0 79 3 (.slice vao m vcp) m xs) (hoc : ∀ u ∈ xs, u.oneCell' = true) (hm : m ≤ 1000000) (hvF : ∀ g, (Value.slice vao m vcp).ownBlock = some g → ¬ FM g) :
    Calls Tryz.prog 21 #[.pointer (some ⟨fb, 0, none⟩), .slice vao m vcp] w fun y w' => y = .returned (.tuple #[]) ∧ FkPost w fb FM (.slice vao m vcp) w' := by
  have hpost0 : FkPost w fb FM (.slice vao m vcp) w := ⟨Kp.refl _ _, FM, h, fun k hk => .inl hk⟩
  have HP0 : Hid _ := hpost0
  obtain ⟨lv, F, K, V, W, N, D, hb, hd, hK, f1, f2, f3⟩ := h
  obtain ⟨tO, TO⟩ := ty_33
  obtain ⟨lao, lcp, hdl, _, _, _, _⟩ := row_shape hd.hr
  subst hdl
  have c0 : w.cell? ⟨fb, 0, none⟩ = some (.slice lao K lcp) := hb.cell 0
  have hr := hd.hr
  clear hpost0
  by_cases h0 : m = 0
  · have d0 : decide ((0 : Int) < (m : Int)) = false := by simp; omega
    have d1 : decide (0 < m) = false := by simp; omega
    clear hd hr
    go_enter Tryz.func21, Tryz.ntmps21
    go_wp2
    go_end0
    exact ⟨rfl, HP0.out⟩
  · have d0 : decide ((0 : Int) < (m : Int)) = true := by simp; omega
    have d1 : decide (0 < m) = true := by simp; omega
    by_cases hK3 : K < 300
    · have d2 : decide ((K : Int) < 300) = true := by simp; omega
      have d3 : decide (K < 300) = true := by simp; omega
      have hbF : ¬ F fb := hd.not hb (by decide) (by decide)
      have HD : Hid _ := hd
      clear hd
      go_enter Tryz.func21, Tryz.ntmps21
      go_wp2_with (at_builtin; go_must (refine pushB TO rfl _ _ rfl 0 _ K _ (by rfl) hr [.slice vao m vcp] rfl (by simp [Value.oneCell']) (by rfl) (by omega) (Nat.zero_le _) ?_))
      intro g2 cap2 w2 hrow2 hgb2 hat2
      have hd2 := Kd.pushV HD.out hv (fun g hg hk => hvF g hg (f2 g hk)) hm hoc hrow2 hgb2 (fun g hg => by simp [Value.ownBlock] at hg; subst hg; exact hat2)
      have hb2 := hb.kept hgb2 (fun e => hbF (Kd.fh HD.out _ e.symm))
      have f12 := hb2.fz 0
      have k12 : w2.cell? ⟨fb, 0, none⟩ = some (.slice lao K lcp) := hb2.cell 0
      have hg3 : w2.grownBy (w2.setCell ⟨fb, 0, none⟩ (.slice (some ⟨g2, 0, none⟩) (K + 1) cap2)) (some fb) := gb_setCell (gb_refl _ _) _
      have hpost : FkPost w fb FM (.slice vao m vcp) (w2.setCell ⟨fb, 0, none⟩ (.slice (some ⟨g2, 0, none⟩) (K + 1) cap2)) := by
        have hkp : Kp FM w (w2.setCell ⟨fb, 0, none⟩ (.slice (some ⟨g2, 0, none⟩) (K + 1) cap2)) := ((Kp.refl FM w).step hgb2 (fun j hj => .inl (f2 j (Kd.fh HD.out j hj)))).step hg3 (fun j hj => by have := Option.some.inj hj; subst this; exact .inl f1)
        have hd3 := hd2.kept hg3 (fun k hk e => hd2.not hb2 (by decide) (by decide) (by have := Option.some.inj e; subst this; exact hk))
        refine ⟨hkp, fun k => FM k ∨ _, ⟨_, _, K + 1, _, _, _, _, hb2.set 0 _, hd3, by omega, .inl f1, fun k hk => .inr hk, ?_⟩, ?_⟩
        · rintro k (hk | hk)
          · exact Nat.lt_of_lt_of_le (f3 k hk) hkp.size
          · exact hd3.fl k hk
        · rintro k (hk | ⟨hk, _⟩ | hk | hk)
          · exact .inl hk
          · exact .inl (f2 k hk)
          · exact .inr (.inl hk)
          · simp [Value.ownBlock] at hk
            subst hk
            rcases hat2 with e | e
            · exact .inl (f2 _ (Kd.fh HD.out _ e))
            · exact .inr (.inr e)
      have HP : Hid _ := hpost
      clear hpost hd2 hb2 hg3 hrow2 hgb2 hat2 HD hr
      go_wp2
      go_end0
      exact ⟨rfl, HP.out⟩
    · have d2 : decide ((K : Int) < 300) = false := by simp; omega
      have d3 : decide (K < 300) = false := by simp; omega
      clear hd hr
      go_enter Tryz.func21, Tryz.ntmps21
      go_wp2
      go_end0
      exact ⟨rfl, HP0.out⟩
end Go.Proofs.YtobegepebochkaaGreatDoor

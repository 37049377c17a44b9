import Derived.Test.YtobegepebochkaaGreatDoorRCf
import Derived.Test.YtobegepebochkaaGreatDoorRPbp
set_option linter.unusedVariables false
set_option linter.unusedSimpArgs false
set_option maxRecDepth 100000
set_option maxHeartbeats 16000000
namespace Go.Proofs.YtobegepebochkaaGreatDoor
open Go.RowKit
def Bof (s0 : Value) (w : World) (bb : Nat) (FB : Nat -> Prop) : Prop :=
  ∃ b0 b1 t0 t1 n Fb Ft Kb Kt Vb Wb Nb Db Vt Wt Nt Dt, Box w 31 bb (bkA b0 b1 nilS nilS t0 t1 nilS nilS s0 nilS nilS n) /\ Kd w Fb 38 5 1 b0 b1 Kb Kb Vb Wb Nb Db /\ Kd w Ft 36 9 1 t0 t1 Kt Kt Vt Wt Nt Dt /\
    (∀ i, i < Kb -> ∃ l : Bs, Db i = l.map b8) /\ (∀ i, i < Kt -> ∃ ws : List Bs, Dt i = ws.map sv) /\ ((Kb : Int) <= n /\ Kb <= 200001) /\ ((Kt : Int) <= n /\ Kt <= 200001) /\ (0 <= n /\ n <= 1300000) /\ FB bb /\ (∀ k, Fb k -> FB k) /\ (∀ k, Ft k -> FB k) /\ ∀ k, FB k -> k < w.heap.size
theorem Bof.same {s0 : Value} {w w' : World} {bb : Nat} {FB : Nat -> Prop} (h : Bof s0 w bb FB) (hs : w.heap.size <= w'.heap.size) (hf : ∀ k, FB k -> w'.heap[k]? = w.heap[k]?) : Bof s0 w' bb FB := by
  obtain ⟨b0, b1, t0, t1, n, Fb, Ft, Kb, Kt, Vb, Wb, Nb, Db, Vt, Wt, Nt, Dt, hb, k1, k2, l1, l2, m1, m2, hn, f1, f2, f3, f4⟩ := h
  exact ⟨b0, b1, t0, t1, n, Fb, Ft, Kb, Kt, Vb, Wb, Nb, Db, Vt, Wt, Nt, Dt, by unfold Box; rw [hf bb f1]; exact hb, k1.same (fun k hk => hf k (f2 k hk)), k2.same (fun k hk => hf k (f3 k hk)), l1, l2, m1, m2, hn, f1, f2, f3, fun k hk => Nat.lt_of_lt_of_le (f4 k hk) hs⟩
theorem Bof.lt {s0 : Value} {w : World} {bb : Nat} {FB : Nat -> Prop} (h : Bof s0 w bb FB) : ∀ k, FB k -> k < w.heap.size := by
  obtain ⟨b0, b1, t0, t1, n, Fb, Ft, Kb, Kt, Vb, Wb, Nb, Db, Vt, Wt, Nt, Dt, hb, k1, k2, l1, l2, m1, m2, hn, f1, f2, f3, f4⟩ := h
  exact f4
theorem Bof.new {w : World} {bb : Nat} (hb : Box w 31 bb (bkA nilS nilS nilS nilS nilS nilS nilS nilS nilS nilS nilS 0)) : Bof nilS w bb (fun k => k = bb) :=
  ⟨nilS, nilS, nilS, nilS, 0, fun _ => False, fun _ => False, 0, 0, _, _, _, _, _, _, _, _, hb, Kd.nil w 1 (by decide), Kd.nil w 1 (by decide), fun i hi => by omega, fun i hi => by omega, ⟨by omega, by omega⟩, ⟨by omega, by omega⟩, by omega, rfl, fun _ h => h.elim, fun _ h => h.elim, fun k hk => by subst hk; exact hb.lt⟩
def BfPost (s0 : Value) (w : World) (bb : Nat) (FB : Nat -> Prop) (v : Value) (w' : World) : Prop :=
  Kp FB w w' /\ ∃ FB', Bof s0 w' bb FB' /\ ∀ k, FB' k -> FB k \/ v.ownBlock = some k \/ w.heap.size <= k
section
variable {s0 : Value} {w : World} {bb : Nat} {FB : Nat -> Prop}
theorem bof_bytes (h : Bof s0 w bb FB) {vao : Option Addr} {vcp m : Nat} {l : Bs} (hv : w.ownsRow 0 5 1 (.slice vao m vcp) m (l.map b8)) (hm : m <= 1000000) (hvF : ∀ g, (Value.slice vao m vcp).ownBlock = some g -> ¬ FB g) :
    Calls Tryz.prog 20 #[.pointer (some ⟨bb, 0, none⟩), .slice vao m vcp] w fun y w' => y = .returned (.tuple #[]) /\ BfPost s0 w bb FB (.slice vao m vcp) w' := by
  have h0 := h
  obtain ⟨b0, b1, t0, t1, n, Fb, Ft, Kb, Kt, Vb, Wb, Nb, Db, Vt, Wt, Nt, Dt, hb, k1, k2, l1, l2, m1, m2, hn, f1, f2, f3, f4⟩ := h
  by_cases hf : 200000 < n
  . refine (full_20 hb hf _).mono ?_
    rintro y w' ⟨rfl, hw⟩
    rw [hw]
    exact ⟨rfl, Kp.refl _ _, FB, h0, fun k hk => .inl hk⟩
  . refine (keep_20 hb k1 (by omega) (by omega) hv (fun u hu => by rw [List.mem_map] at hu; obtain ⟨x, _, rfl⟩ := hu; rfl) hm (fun g hg hk => hvF g hg (f2 g hk))).mono ?_
    rintro y w' ⟨rfl, hkp, q0, q1, F', V', W', hb', k1', hF'⟩
    refine ⟨rfl, hkp.mono (fun i hi => .inl (by rcases hi with rfl | hi; exact f1; exact f2 i hi)), fun k => FB k \/ F' k, ⟨q0, q1, t0, t1, _, F', Ft, Kb + 1, Kt, V', W', _, _, Vt, Wt, Nt, Dt, hb', k1', k2.other k1 hb hkp (by decide) (by decide) (by decide) (by decide) (by decide) (by decide), fun i hi => ?_, l2, by omega, by omega, by omega, .inl f1, fun k hk => .inr hk, fun k hk => .inl (f3 k hk), ?_⟩, ?_⟩
    . by_cases e : i = Kb
      . subst e; rw [upd_same]; exact ⟨l, rfl⟩
      . rw [upd_other _ _ e]; exact l1 i (by omega)
    . rintro k (hk | hk)
      . exact Nat.lt_of_lt_of_le (f4 k hk) hkp.size
      . exact k1'.fl k hk
    . rintro k (hk | hk)
      . exact .inl hk
      . exact (hF' k hk).imp (f2 k) id
theorem bof_texts (h : Bof s0 w bb FB) {vao : Option Addr} {vcp m : Nat} {l : List Bs} (hv : w.ownsRow 0 9 1 (.slice vao m vcp) m (l.map sv)) (hm : m <= 1000000) (hvF : ∀ g, (Value.slice vao m vcp).ownBlock = some g -> ¬ FB g) :
    Calls Tryz.prog 19 #[.pointer (some ⟨bb, 0, none⟩), .slice vao m vcp] w fun y w' => y = .returned (.tuple #[]) /\ BfPost s0 w bb FB (.slice vao m vcp) w' := by
  have h0 := h
  obtain ⟨b0, b1, t0, t1, n, Fb, Ft, Kb, Kt, Vb, Wb, Nb, Db, Vt, Wt, Nt, Dt, hb, k1, k2, l1, l2, m1, m2, hn, f1, f2, f3, f4⟩ := h
  by_cases hf : 200000 < n
  . refine (full_19 hb hf _).mono ?_
    rintro y w' ⟨rfl, hw⟩
    rw [hw]
    exact ⟨rfl, Kp.refl _ _, FB, h0, fun k hk => .inl hk⟩
  . refine (keep_19 hb k2 (by omega) (by omega) hv (fun u hu => by rw [List.mem_map] at hu; obtain ⟨x, _, rfl⟩ := hu; rfl) hm (fun g hg hk => hvF g hg (f3 g hk))).mono ?_
    rintro y w' ⟨rfl, hkp, q0, q1, F', V', W', hb', k2', hF'⟩
    refine ⟨rfl, hkp.mono (fun i hi => .inl (by rcases hi with rfl | hi; exact f1; exact f3 i hi)), fun k => FB k \/ F' k, ⟨b0, b1, q0, q1, _, Fb, F', Kb, Kt + 1, Vb, Wb, Nb, Db, V', W', _, _, hb', k1.other k2 hb hkp (by decide) (by decide) (by decide) (by decide) (by decide) (by decide), k2', l1, fun i hi => ?_, by omega, by omega, by omega, .inl f1, fun k hk => .inl (f2 k hk), fun k hk => .inr hk, ?_⟩, ?_⟩
    . by_cases e : i = Kt
      . subst e; rw [upd_same]; exact ⟨l, rfl⟩
      . rw [upd_other _ _ e]; exact l2 i (by omega)
    . rintro k (hk | hk)
      . exact Nat.lt_of_lt_of_le (f4 k hk) hkp.size
      . exact k2'.fl k hk
    . rintro k (hk | hk)
      . exact .inl hk
      . exact (hF' k hk).imp (f3 k) id
end
end Go.Proofs.YtobegepebochkaaGreatDoor

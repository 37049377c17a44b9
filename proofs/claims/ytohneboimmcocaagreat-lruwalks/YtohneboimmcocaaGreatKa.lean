import Derived.Test.YtohneboimmcocaaGreatOf
/-
  LruWalks: the program's calls, whatever the lists are.
-/
namespace Go.Proofs.YtohneboimmcocaaGreat
open Go.RowKit
set_option linter.unusedVariables false

section
variable {w : World} {xb sb qb gl gc : Nat} {F : Nat → Prop} {B : Bl} {b c d e f g : Int} {A : Ab} {m : List Int} {T : List Nat} {cls : Nat → Nat} {S : Lm} {hot warm : Nat}
/-- What a call leaves. -/
def LAft (w : World) (xb sb qb gl gc : Nat) (F : Nat → Prop) (B : Bl) (b c d e f g : Int) (A : Ab) (m : List Int) (T : List Nat) (cls : Nat → Nat) (hot warm : Nat) (w' : World) : Prop := Kp (fun k => F k ∨ k = gl) w w' ∧ ∃ S : Lm, LE w' xb sb qb gl gc F B b c d e f g A m T cls S hot warm
theorem LE.cases (h : LE w xb sb qb gl gc F B b c d e f g A m T cls S hot warm) {H : Nat} (hH : H ∈ T) : ∃ bs p n s L zs, QM w sb qb gl gc F B b c d e f g A zs T bs p n s L ∧ LQ w xb sb qb gl gc F B b c d e f g A m T bs cls S.X S.ma hot warm ∧ ((s H = 4 ∧ ∀ c k, H ∉ S.X c k) ∨ ∃ k U V, k < 3 ∧ s H = k + 1 ∧ S.X (cls H) k = U ++ H :: V) := by
  obtain ⟨bs, hL⟩ := h.ex
  obtain ⟨p, n, s, L, ⟨zs, hz, hq⟩, hI⟩ := hL.ql.ex
  refine ⟨bs, p, n, s, L, zs, hq, hL, ?_⟩
  have hs := hI.st H hH
  by_cases e : s H = 4
  · refine .inl ⟨e, fun c k hm => ?_⟩
    have := hI.sub _ _ _ hm
    have := hI.k3 _ _ _ hm
    omega
  · have hm := hI.out H hH (by omega)
    obtain ⟨U, V, hX⟩ := List.append_of_mem hm
    exact .inr ⟨s H - 1, U, V, by omega, by omega, hX⟩
theorem LE.len (h : LE w xb sb qb gl gc F B b c d e f g A m T cls S hot warm) (hT : T.length ≤ 300) (ci k : Nat) : (S.X ci k).length ≤ 300 := by
  obtain ⟨bs, hL⟩ := h.ex
  obtain ⟨p, n, s, L, _, hI⟩ := hL.ql.ex
  exact Nat.le_trans (nodup_len (hI.nd ci k) (fun x hx => (hI.sub _ _ _ hx).1)) hT
theorem LE.tot (h : LE w xb sb qb gl gc F B b c d e f g A m T cls S hot warm) (hT : T.length ≤ 300) (ci : Nat) : tot S.X ci ≤ 900 := by
  have h0 := h.len hT ci 0
  have h1 := h.len hT ci 1
  have h2 := h.len hT ci 2
  unfold Go.Proofs.YtohneboimmcocaaGreat.tot
  omega
theorem LE.leave (h : LE w xb sb qb gl gc F B b c d e f g A m T cls S hot warm) {H : Nat} (hH : H ∈ T) :
    Calls Tryz.prog 31 #[.pointer (some ⟨xb, 0, none⟩), .int .u64 H] w fun y w' => ∃ r : Int, y = .returned (.int .i64 r) ∧ LAft w xb sb qb gl gc F B b c d e f g A m T cls hot warm w' := by
  obtain ⟨bs, p, n, s, L, zs, hq, hL, hc⟩ := h.cases hH
  rcases hc with ⟨hs4, hno⟩ | ⟨k, U, V, hk, hsk, hXk⟩
  · have hst := q_state hq hH
    rw [hs4] at hst
    refine (leave_31 hL.bx (drop_none (by omega) hst)).mono ?_
    rintro y w' ⟨rfl, hf⟩
    exact ⟨_, rfl, Kp.of hf, S, h.kept0 hf⟩
  · refine (leave_31 hL.bx (q_drop hL.ql hXk)).mono ?_
    rintro y w' ⟨rfl, hK, hQ⟩
    exact ⟨_, rfl, hK, ⟨upX S.X (cls H) k (U ++ V), S.ma⟩, ⟨bs, hL.step hK hQ⟩⟩
theorem LE.enter (h : LE w xb sb qb gl gc F B b c d e f g A m T cls S hot warm) (hT : T.length ≤ 300) {H : Nat} (hH : H ∈ T) :
    Calls Tryz.prog 32 #[.pointer (some ⟨xb, 0, none⟩), .int .u64 H] w fun y w' => ∃ r : Int, y = .returned (.int .i64 r) ∧ LAft w xb sb qb gl gc F B b c d e f g A m T cls hot warm w' := by
  obtain ⟨bs, p, n, s, L, zs, hq, hL, hc⟩ := h.cases hH
  rcases hc with ⟨hs4, hno⟩ | ⟨k, U, V, hk, hsk, hXk⟩
  · refine (enter_32 hL hH (fun k2 => hno _ _) (by have := h.len hT (cls H) 0; omega)).mono ?_
    rintro y w' ⟨rfl, hK, hQ⟩
    exact ⟨_, rfl, hK, ⟨upX S.X (cls H) 0 (H :: S.X (cls H) 0), upf S.ma H (S.ma H - S.ma H % 2)⟩, ⟨_, hQ⟩⟩
  · refine (enter_no (.inr rfl) hL.bx (q_mayT hq hH (by omega) hk hsk)).mono ?_
    rintro y w' ⟨rfl, hf⟩
    exact ⟨_, rfl, Kp.of hf, S, h.kept0 hf⟩
theorem LE.hit (h : LE w xb sb qb gl gc F B b c d e f g A m T cls S hot warm) {H : Nat} (hH : H ∈ T) :
    Calls Tryz.prog 33 #[.pointer (some ⟨xb, 0, none⟩), .int .u64 H] w fun y w' => ∃ r : Int, y = .returned (.int .i64 r) ∧ LAft w xb sb qb gl gc F B b c d e f g A m T cls hot warm w' := by
  obtain ⟨bs, p, n, s, L, zs, hq, hL, hc⟩ := h.cases hH
  rcases hc with ⟨hs4, hno⟩ | ⟨k, U, V, hk, hsk, hXk⟩
  · obtain ⟨x, kk, hX1, hI1, _⟩ := hq.its H hH
    have hst := state_yes hq.iss hq.inv.fit hX1 _ hI1
    rw [show (itm bs p n s H).st = ((s H : Nat) : Int) from rfl, hs4] at hst
    refine (hit_no (st := ((4 : Nat) : Int)) (by omega) hL.bx (hst.mono ?_)).mono ?_
    · rintro y w1 ⟨rfl, hf⟩
      exact ⟨0, rfl, hf⟩
    · rintro y w' ⟨rfl, hf⟩
      exact ⟨_, rfl, Kp.of hf, S, h.kept0 hf⟩
  · refine (hit_33 hL (k := k) (by rw [hXk]; simp)).mono ?_
    rintro y w' ⟨rfl, hK, hQ⟩
    exact ⟨_, rfl, hK, ⟨S.X, upf S.ma H (S.ma H + (1 - S.ma H % 2))⟩, ⟨_, hQ⟩⟩
theorem LE.balance (h : LE w xb sb qb gl gc F B b c d e f g A m T cls S hot warm) (hT : T.length ≤ 300) (hsh : hot ≤ 100) (hsw : warm ≤ 100) {ci : Nat} (hc : ci < A.n) :
    Calls Tryz.prog 18 #[.pointer (some ⟨xb, 0, none⟩), .int .i64 ci, .int .i64 2, Value.nilFunc] w fun y w' => ∃ r : Int, y = .returned (.int .i64 r) ∧ LAft w xb sb qb gl gc F B b c d e f g A m T cls hot warm w' := by
  have := balance_18 h hc hsh hsw (by have := h.tot hT ci; omega) (links := 2) (by omega)
  refine this.mono ?_
  rintro y w' ⟨rfl, hK, hE⟩
  exact ⟨_, rfl, hK, _, hE⟩
end
end Go.Proofs.YtohneboimmcocaaGreat

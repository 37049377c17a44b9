import Derived.Test.YtjkdflnnpdionaaGreatMz
/-
  The program's side alone: Push, Last, Drop, Shift, by what stands where.
-/
namespace Go.Proofs.YtjkdflnnpdionaaGreat
open Go.RowKit
set_option linter.unusedVariables false

/-- What a call has turned of what stands where: H stands at `to` alone, if it succeeded. -/
def Mem (S S' : Lm) (er : Int) (H : Nat) (to : Option (Nat × Nat)) : Prop := ∀ G c k, G ∈ S' c k ↔ if er = 0 ∧ G = H then to = some (c, k) else G ∈ S c k
theorem Mem.refl (S : Lm) {er : Int} (he : er ≠ 0) (H : Nat) (to : Option (Nat × Nat)) : Mem S S er H to := fun G c k => by
  rw [if_neg (fun h => he h.1)]
/-- What a call of the program gives. -/
def Pc (w : World) (P : Nat → Prop) (wb N : Nat) (D : Wd) (lsb : Nat) (vs : Nat → Value) (Y : Nat → List Nat) (S : Lm) (cl : Nat → Nat) (f : Nat) (xa : Array Value) (H : Nat) (to : Option (Nat × Nat)) (good : Prop) : Prop :=
  ∃ er : Int, (er = 0 ↔ good) ∧ Calls Tryz.prog f xa w fun y w' => y = .returned (.int .i64 er) ∧ Kp P w w' ∧ ∃ D' S', Mv D D' 0 ∧ GW w' P wb (N + 1) D' lsb vs Y S' cl ∧ Mem S S' er H to
section
variable {w : World} {P : Nat → Prop} {wb N : Nat} {D : Wd} {lsb : Nat} {vs : Nat → Value} {Y : Nat → List Nat} {cl : Nat → Nat} {S : Lm}
theorem pc_er (hW : GW w P wb N D lsb vs Y S cl) (hN : N < 300) {f : Nat} {xa : Array Value} {H : Nat} {to : Option (Nat × Nat)} {good : Prop} {er : Int} (he : er ≠ 0) (hg : ¬ good) (h : Calls Tryz.prog f xa w fun y w' => y = .returned (.int .i64 er) ∧ w.grownBy w' none) : Pc w P wb N D lsb vs Y S cl f xa H to good := by
  refine ⟨er, ⟨fun e => absurd e he, fun e => absurd e hg⟩, h.mono ?_⟩
  rintro y w' ⟨rfl, hf⟩
  obtain ⟨D', m1, m2⟩ := ((Hlf.refl hW).kept0 hf).gw hW hN
  exact ⟨rfl, Kp.of hf, D', S, m1, m2, Mem.refl S he H to⟩
theorem pc_ok (hW : GW w P wb N D lsb vs Y S cl) (hN : N < 300) {f : Nat} {xa : Array Value} {H : Nat} {to : Option (Nat × Nat)} {good : Prop} (hg : good) {S' : Lm} (hS : ∀ G c k, G ∈ S' c k ↔ if G = H then to = some (c, k) else G ∈ S c k) (h : Calls Tryz.prog f xa w fun y w' => y = .returned (.int .i64 0) ∧ Hlf w P wb D lsb vs Y cl S' w') : Pc w P wb N D lsb vs Y S cl f xa H to good := by
  refine ⟨0, ⟨fun _ => hg, fun _ => rfl⟩, h.mono ?_⟩
  rintro y w' ⟨rfl, hB⟩
  obtain ⟨D', m1, m2⟩ := hB.gw hW hN
  refine ⟨rfl, hB.kp, D', S', m1, m2, fun G c k => ?_⟩
  rw [hS]
  by_cases e : G = H
  · rw [if_pos e, if_pos ⟨rfl, e⟩]
  · rw [if_neg e, if_neg (fun h => e h.2)]
theorem mem_put {c0 k0 H : Nat} {l : List Nat} (hno : ∀ c k, H ∉ S c k) (hl : ∀ G, G ∈ l ↔ G = H ∨ G ∈ S c0 k0) : ∀ G c k, G ∈ upX S c0 k0 l c k ↔ if G = H then some (c0, k0) = some (c, k) else G ∈ S c k := fun G c k => by
  by_cases e : c = c0 ∧ k = k0
  · obtain ⟨rfl, rfl⟩ := e
    rw [upX_same, hl]
    by_cases eG : G = H
    · simp [eG]
    · simp [eG]
  · rw [upX_ne _ _ e]
    by_cases eG : G = H
    · subst eG
      simp only [if_pos, Option.some.injEq, Prod.mk.injEq]
      exact ⟨fun h => absurd h (hno c k), fun h => absurd ⟨h.1.symm, h.2.symm⟩ e⟩
    · simp [eG]
theorem mem_cut {c0 k0 H : Nat} {U V : List Nat} (hX : S c0 k0 = U ++ H :: V) (hnd : (S c0 k0).Nodup) (hone : ∀ c k, H ∈ S c k → c = c0 ∧ k = k0) : ∀ G c k, G ∈ upX S c0 k0 (U ++ V) c k ↔ if G = H then (none : Option (Nat × Nat)) = some (c, k) else G ∈ S c k := fun G c k => by
  by_cases e : c = c0 ∧ k = k0
  · obtain ⟨rfl, rfl⟩ := e
    rw [upX_same, hX]
    by_cases eG : G = H
    · subst eG
      rw [hX] at hnd
      obtain ⟨_, n2, n3⟩ := List.nodup_append.1 hnd
      have n4 := (List.nodup_cons.1 n2).1
      simp only [if_pos, reduceCtorEq, iff_false]
      intro hm
      rcases List.mem_append.1 hm with hm | hm
      · exact n3 _ hm G (by simp) rfl
      · exact n4 hm
    · simp [eG]
  · rw [upX_ne _ _ e]
    by_cases eG : G = H
    · subst eG
      simp only [if_pos, reduceCtorEq, iff_false]
      exact fun h => e (hone c k h)
    · simp [eG]
theorem GW.cpush (hW : GW w P wb N D lsb vs Y S cl) (hN : N < 300) {H : Nat} (h64 : H < 18446744073709551616) {k2 : Nat} (hk2 : k2 < 3) : Pc w P wb N D lsb vs Y S cl 23 #[.pointer (some ⟨D.qb, 0, none⟩), .int .u64 H, .int .i64 ((k2 : Int) + 1)] H (some (cl H, k2)) (H ∈ D.xl ∧ ∀ c k, H ∉ S c k) := by
  obtain ⟨bs, p, n, s, hX⟩ := hW.gx
  have hM := hW.ms
  have hl : D.xl.length ≤ 300 := by have := hW.nN; omega
  have hlt := hX.lt hl
  have hqm := hX.qm hM
  by_cases hH : H ∈ D.xl
  · rcases hX.cases hH with ⟨hs4, hno⟩ | ⟨k, U, V, hk, hsk, hXk⟩
    · refine pc_ok hW hN ⟨hH, hno⟩ (S' := upX S (cl H) k2 (H :: S (cl H) k2)) (mem_put hno (fun G => by simp)) ((q_push (hX.lq hM hl) hH hk2 (fun k2 => hno _ _) (by have := hlt.ln (cl H) k2; omega)).mono ?_)
      rintro y w1 ⟨rfl, hK, hQ⟩
      exact ⟨rfl, Hlf.of hW hX hQ hK⟩
    · exact pc_er hW hN (er := 8) (by decide) (fun h => h.2 (cl H) k (by rw [hXk]; simp)) (push_er (.inr (.inr rfl)) (q_mayT hqm hH hk2 hk hsk))
  · exact pc_er hW hN (er := 20) (by decide) (fun h => hH h.1) (push_er (.inr (.inl rfl)) (q_mayN hqm hk2 (hX.noI h64 hH)))
theorem GW.clast (hW : GW w P wb N D lsb vs Y S cl) (hN : N < 300) {H : Nat} (h64 : H < 18446744073709551616) {k2 : Nat} (hk2 : k2 < 3) : Pc w P wb N D lsb vs Y S cl 24 #[.pointer (some ⟨D.qb, 0, none⟩), .int .u64 H, .int .i64 ((k2 : Int) + 1)] H (some (cl H, k2)) (H ∈ D.xl ∧ ∀ c k, H ∉ S c k) := by
  obtain ⟨bs, p, n, s, hX⟩ := hW.gx
  have hM := hW.ms
  have hl : D.xl.length ≤ 300 := by have := hW.nN; omega
  have hlt := hX.lt hl
  have hqm := hX.qm hM
  by_cases hH : H ∈ D.xl
  · rcases hX.cases hH with ⟨hs4, hno⟩ | ⟨k, U, V, hk, hsk, hXk⟩
    · refine pc_ok hW hN ⟨hH, hno⟩ (S' := upX S (cl H) k2 (S (cl H) k2 ++ [H])) (mem_put hno (fun G => by simp [or_comm])) ((q_last (hX.lq hM hl) hH hk2 (fun k2 => hno _ _) (by have := hlt.ln (cl H) k2; omega)).mono ?_)
      rintro y w1 ⟨rfl, hK, hQ⟩
      exact ⟨rfl, Hlf.of hW hX hQ hK⟩
    · exact pc_er hW hN (er := 8) (by decide) (fun h => h.2 (cl H) k (by rw [hXk]; simp)) (last_er (.inr (.inr rfl)) (q_mayT hqm hH hk2 hk hsk))
  · exact pc_er hW hN (er := 20) (by decide) (fun h => hH h.1) (last_er (.inr (.inl rfl)) (q_mayN hqm hk2 (hX.noI h64 hH)))
theorem GW.cdrop (hW : GW w P wb N D lsb vs Y S cl) (hN : N < 300) {H : Nat} (h64 : H < 18446744073709551616) : Pc w P wb N D lsb vs Y S cl 25 #[.pointer (some ⟨D.qb, 0, none⟩), .int .u64 H] H none (∃ c k, H ∈ S c k) := by
  obtain ⟨bs, p, n, s, hX⟩ := hW.gx
  have hM := hW.ms
  have hl : D.xl.length ≤ 300 := by have := hW.nN; omega
  have hlt := hX.lt hl
  have hqm := hX.qm hM
  by_cases hH : H ∈ D.xl
  · rcases hX.cases hH with ⟨hs4, hno⟩ | ⟨k, U, V, hk, hsk, hXk⟩
    · have hst := q_state hqm hH
      rw [hs4] at hst
      exact pc_er hW hN (er := 20) (by decide) (fun h => by obtain ⟨c, k, hm⟩ := h; exact hno c k hm) (drop_none (by omega) hst)
    · have hm : H ∈ S (cl H) k := by rw [hXk]; simp
      refine pc_ok hW hN ⟨_, _, hm⟩ (S' := upX S (cl H) k (U ++ V)) (mem_cut hXk (hlt.nd _ _) (fun c k' h' => hlt.one _ _ _ _ H h' hm)) ((q_drop (hX.lq hM hl) hXk).mono ?_)
      rintro y w1 ⟨rfl, hK, hQ⟩
      exact ⟨rfl, Hlf.of hW hX hQ hK⟩
  · exact pc_er hW hN (er := 20) (by decide) (fun h => by obtain ⟨c, k, hm⟩ := h; exact hX.out hH c k hm) (drop_none (by omega) (q_stateN hqm (hX.noI h64 hH)))
theorem GW.cshift (hW : GW w P wb N D lsb vs Y S cl) (hN : N < 300) {H : Nat} (h64 : H < 18446744073709551616) {k2 : Nat} (hk2 : k2 < 3) : Pc w P wb N D lsb vs Y S cl 26 #[.pointer (some ⟨D.qb, 0, none⟩), .int .u64 H, .int .i64 ((k2 : Int) + 1)] H (some (cl H, k2)) (∃ c k, H ∈ S c k) := by
  obtain ⟨bs, p, n, s, hX⟩ := hW.gx
  have hM := hW.ms
  have hl : D.xl.length ≤ 300 := by have := hW.nN; omega
  have hlt := hX.lt hl
  have hqm := hX.qm hM
  by_cases hH : H ∈ D.xl
  · rcases hX.cases hH with ⟨hs4, hno⟩ | ⟨k, U, V, hk, hsk, hXk⟩
    · have hst := q_state hqm hH
      rw [hs4] at hst
      exact pc_er hW hN (er := 20) (by decide) (fun h => by obtain ⟨c, k, hm⟩ := h; exact hno c k hm) (shift_none hk2 (by omega) hst)
    · have hm : H ∈ S (cl H) k := by rw [hXk]; simp
      have h1 := mem_cut hXk (hlt.nd _ _) (fun c k' h' => hlt.one _ _ _ _ H h' hm)
      have hno : ∀ c k', H ∉ upX S (cl H) k (U ++ V) c k' := fun c k' h' => by
        have := (h1 H c k').1 h'
        simp at this
      refine pc_ok hW hN ⟨_, _, hm⟩ (S' := upX (upX S (cl H) k (U ++ V)) (cl H) k2 (H :: (upX S (cl H) k (U ++ V)) (cl H) k2)) (fun G c k' => ?_) ((q_shift (hX.lq hM hl) hXk hk2 (by have := hlt.ln (cl H) k2; omega)).mono ?_)
      · rw [mem_put hno (fun G => by simp) G c k']
        by_cases e : G = H
        · rw [if_pos e, if_pos e]
        · rw [if_neg e, if_neg e, h1 G c k', if_neg e]
      · rintro y w1 ⟨rfl, hK, hQ⟩
        exact ⟨rfl, Hlf.of hW hX hQ hK⟩
  · exact pc_er hW hN (er := 20) (by decide) (fun h => by obtain ⟨c, k, hm⟩ := h; exact hX.out hH c k hm) (shift_none hk2 (by omega) (q_stateN hqm (hX.noI h64 hH)))
/-- A list as the program tells it. -/
structure Ch (w : World) (sb qb c : Nat) (kd : Int) (L : List Nat) : Prop where
  hd : ∀ W, w.grownBy W none → Calls Tryz.prog 63 #[.pointer (some ⟨qb, 0, none⟩), .int .i64 c, .int .i64 kd] W fun y w' => y = .returned (pr (L.headD 0)) ∧ W.grownBy w' none
  tl : ∀ W, w.grownBy W none → Calls Tryz.prog 64 #[.pointer (some ⟨qb, 0, none⟩), .int .i64 c, .int .i64 kd] W fun y w' => y = .returned (pr (L.getLastD 0)) ∧ W.grownBy w' none
  ln : ∀ W, w.grownBy W none → Calls Tryz.prog 65 #[.pointer (some ⟨qb, 0, none⟩), .int .i64 c, .int .i64 kd] W fun y w' => y = .returned (.int .i64 L.length) ∧ W.grownBy w' none
  ah : ∀ (U : List Nat) (H : Nat) (V : List Nat), L = U ++ H :: V → ∀ W, w.grownBy W none → Calls Tryz.prog 92 #[.pointer (some ⟨qb, 0, none⟩), .int .u64 H] W fun y w' => y = .returned (pr (U.getLastD 0)) ∧ W.grownBy w' none
  bh : ∀ (U : List Nat) (H : Nat) (V : List Nat), L = U ++ H :: V → ∀ W, w.grownBy W none → Calls Tryz.prog 93 #[.pointer (some ⟨qb, 0, none⟩), .int .u64 H] W fun y w' => y = .returned (pr (V.headD 0)) ∧ W.grownBy w' none
  at' : ∀ H, H ∈ L → ∃ pl : Int, ∀ W, w.grownBy W none → Calls Tryz.prog 82 #[.pointer (some ⟨sb, 0, none⟩), .int .u64 H] W fun y w' => y = .returned (.tuple #[.int .i64 pl, .int .i64 c, .int .i64 0]) ∧ W.grownBy w' none
  sq : ∀ W, w.grownBy W none → QLst W qb c kd L
  z : 0 ∉ L
  l9 : L.length ≤ 900
theorem GW.ch (hW : GW w P wb N D lsb vs Y S cl) {c k : Nat} (hc : c < 3) (hk : k < 3) : Ch w D.sb D.qb c ((k : Int) + 1) (S c k) := by
  obtain ⟨bs, p, n, s, hX⟩ := hW.gx
  have hl : D.xl.length ≤ 300 := by have := hW.nN; omega
  have hlt := hX.lt hl
  have hlq := fun W (hf : w.grownBy W none) => hX.lq (hW.kept0 hf).ms hl
  have hcl : ∀ U H V, S c k = U ++ H :: V → cl H = c := fun U H V e => by
    have := (hX.li.sub c k H (by rw [e]; simp)).2.2
    omega
  refine ⟨fun W hf => q_headL (hlq W hf) (by rw [hX.n3]; exact hc) hk _ rfl, fun W hf => q_tailL (hlq W hf) (by rw [hX.n3]; exact hc) hk _ rfl, fun W hf => q_lenL (hlq W hf) (by rw [hX.n3]; exact hc) hk, fun U H V e W hf => ?_, fun U H V e W hf => ?_, fun H hm => ?_, fun W hf => ?_, fun h0 => hlt.z (hlt.sub c k 0 h0).1, by have := hlt.ln c k; omega⟩
  · exact q_ahead (hlq W hf) (k := k) (by rw [hcl U H V e]; exact e) _ rfl
  · exact q_behind (hlq W hf) (k := k) (by rw [hcl U H V e]; exact e) _ rfl
  · obtain ⟨U, V, e⟩ := List.append_of_mem hm
    have hH := (hlt.sub c k H hm).1
    obtain ⟨x, l, hX2, _⟩ := hX.its H hH
    refine ⟨((D.A.place x l : Nat) : Int), fun W hf => ?_⟩
    have := at_yes (hW.kept0 hf).ms.ms.iss hX.inv.fit hX2
    rw [hX.cls H hH x l hX2, hcl U H V e] at this
    exact this
  · have := (hW.kept0 hf).qlst c ((k : Int) + 1)
    unfold SL at this
    rw [if_pos (by omega)] at this
    simpa using this
end
end Go.Proofs.YtjkdflnnpdionaaGreat

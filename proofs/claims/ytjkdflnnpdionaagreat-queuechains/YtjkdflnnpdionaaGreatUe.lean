import Derived.Test.YtjkdflnnpdionaaGreatUd
import Derived.Test.YtjkdflnnpdionaaGreatNs
/-
  QueueChains: where the walk stands.
-/
namespace Go.Proofs.YtjkdflnnpdionaaGreat
open Go.RowKit
set_option linter.unusedVariables false

section
variable {w : World} {P P' G : Nat → Prop} {wb N : Nat} {D : Wd} {lsb : Nat} {vs : Nat → Value} {Y : Nat → List Nat} {cl : Nat → Nat} {S : Lm}
theorem GW.keptK {w' : World} (h : GW w P wb N D lsb vs Y S cl) (hK : Kp G w w') (hn : ∀ k, k < w.heap.size → P k → ¬ G k) (hP' : ∀ k, k < w.heap.size → P k → P' k) : GW w' P' wb N D lsb vs Y S cl :=
  ⟨h.ms.keptK hK hn hP', h.gx, h.nN, h.sub, h.zl, h.nd, h.tb⟩
end
/-- What is noted, of a beginning of the handles that were told; the others stand nowhere. -/
structure InP (T : List Nat) (S : Lm) (ins : List Nat) : Prop where
  len : ins.length ≤ T.length
  nd : T.Nodup
  at' : ∀ (k H : Nat), T[k]? = some H → k < ins.length → ∃ j : Nat, ins[k]? = some j ∧ j ≤ 3 ∧ (j = 0 → ∀ c i, H ∉ S c i) ∧ (∀ i, j = i + 1 → ∃ c, H ∈ S c i)
  out : ∀ (k H : Nat), T[k]? = some H → ins.length ≤ k → ∀ c i, H ∉ S c i
theorem InP.ok {T : List Nat} {S : Lm} {ins : List Nat} (h : InP T S ins) (e : ins.length = T.length) : InOk T S ins :=
  ⟨e, h.nd, fun k H hk => h.at' k H hk (by rw [e]; exact (List.getElem?_eq_some_iff.1 hk).1)⟩
theorem InP.push {T : List Nat} {S : Lm} {ins : List Nat} (h : InP T S ins) (e : ins.length < T.length) : InP T S (ins ++ [0]) := by
  refine ⟨by simp; omega, h.nd, fun k H hk hl => ?_, fun k H hk hl => h.out k H hk (by simp at hl; omega)⟩
  by_cases e2 : k < ins.length
  · obtain ⟨j, h1, h2⟩ := h.at' k H hk e2
    exact ⟨j, by rw [List.getElem?_append_left e2]; exact h1, h2⟩
  · have : k = ins.length := by simp at hl; omega
    subst this
    exact ⟨0, by simp, by omega, fun _ => h.out _ H hk (Nat.le_refl _), fun i hi => by omega⟩
theorem InP.told {T : List Nat} {S : Lm} {ins : List Nat} (h : InP T S ins) {H : Nat} (hn : H ∉ T) (hs : ∀ c i, H ∉ S c i) : InP (T ++ [H]) S ins := by
  have hl := h.len
  refine ⟨by simp; omega, List.nodup_append.2 ⟨h.nd, by simp, fun a ha b hb e => by simp at hb; exact hn (by rw [← hb, ← e]; exact ha)⟩, fun k G hk hkl => ?_, fun k G hk hkl => ?_⟩
  · rw [List.getElem?_append_left (by omega)] at hk
    exact h.at' k G hk hkl
  · by_cases e : k < T.length
    · rw [List.getElem?_append_left e] at hk
      exact h.out k G hk hkl
    · rw [List.getElem?_append_right (by omega)] at hk
      have hm := List.mem_of_getElem? hk
      simp at hm
      subst hm
      exact hs
/-- The kind that a call leaves. -/
def kdOf : Option (Nat × Nat) → Nat
  | none => 0
  | some (_, i) => i + 1
theorem InP.stay {T : List Nat} {S S' : Lm} {ins : List Nat} (h : InP T S ins) {er : Int} {H : Nat} {to : Option (Nat × Nat)} (he : er ≠ 0) (hm : Mem S S' er H to) : InP T S' ins := by
  have e : ∀ G c k, G ∈ S' c k ↔ G ∈ S c k := fun G c k => by rw [hm G c k, if_neg (fun h => he h.1)]
  refine ⟨h.len, h.nd, fun k G hk hl => ?_, fun k G hk hl c i hh => h.out k G hk hl c i ((e G c i).1 hh)⟩
  obtain ⟨j, h1, h2, h3, h4⟩ := h.at' k G hk hl
  refine ⟨j, h1, h2, fun h0 c i hh => h3 h0 c i ((e G c i).1 hh), fun i hi => ?_⟩
  obtain ⟨c, hc⟩ := h4 i hi
  exact ⟨c, (e G c i).2 hc⟩
theorem InP.goes {T : List Nat} {S S' : Lm} {ins : List Nat} (h : InP T S ins) {k H : Nat} {to : Option (Nat × Nat)} (hk : T[k]? = some H) (hkl : k < ins.length) (h3 : ∀ c i, to = some (c, i) → i < 3) (hm : Mem S S' 0 H to) : InP T S' (ins.set k (kdOf to)) := by
  have e : ∀ G, G ≠ H → ∀ c k, G ∈ S' c k ↔ G ∈ S c k := fun G hG c k => by rw [hm G c k, if_neg (fun h => hG h.2)]
  have e2 : ∀ c k, H ∈ S' c k ↔ to = some (c, k) := fun c k => by rw [hm H c k, if_pos ⟨rfl, rfl⟩]
  have hne : ∀ k' G, T[k']? = some G → k' ≠ k → G ≠ H := fun k' G hG hn e => by
    subst e
    exact hn ((List.getElem?_inj (List.getElem?_eq_some_iff.1 hG).1 h.nd).1 (hG.trans hk.symm))
  refine ⟨by simp; exact h.len, h.nd, fun k' G hG hl => ?_, fun k' G hG hl c i hh => ?_⟩
  · rw [List.length_set] at hl
    by_cases e3 : k' = k
    · subst e3
      obtain rfl : G = H := by rw [hG] at hk; exact Option.some.inj hk
      refine ⟨kdOf to, by rw [List.getElem?_set_self hl], ?_, fun h0 c i hh => ?_, fun i hi => ?_⟩
      · rcases to with _ | ⟨c, i⟩
        · show 0 ≤ 3; omega
        · have := h3 c i rfl
          show i + 1 ≤ 3; omega
      · rw [(e2 c i).1 hh] at h0
        have h0' : i + 1 = 0 := h0
        omega
      · rcases to with _ | ⟨c, i'⟩
        · have hi' : 0 = i + 1 := hi
          omega
        · have hi' : i' + 1 = i + 1 := hi
          exact ⟨c, (e2 c i).2 (by rw [show i' = i by omega])⟩
    · obtain ⟨j, h1, h2, h5, h4⟩ := h.at' k' G hG hl
      have hx := hne k' G hG e3
      refine ⟨j, by rw [List.getElem?_set_ne (fun e => e3 e.symm)]; exact h1, h2, fun h0 c i hh => h5 h0 c i ((e G hx c i).1 hh), fun i hi => ?_⟩
      obtain ⟨c, hc⟩ := h4 i hi
      exact ⟨c, (e G hx c i).2 hc⟩
  · rw [List.length_set] at hl
    have hx := hne k' G hG (by omega)
    exact h.out k' G hG hl c i ((e G hx c i).1 hh)

/-- Where the walk stands. -/
structure Qa (w0 W : World) (P : Nat → Prop) (wb N : Nat) (D : Wd) (lsb : Nat) (vs : Nat → Value) (Y : Nat → List Nat) (S : Lm) (cl : Nat → Nat) (ins : List Nat) (inv : Value) : Prop where
  gr : w0.grownBy W none
  gw : GW W P wb N D lsb vs Y S cl
  good : ∀ H, H ∈ D.xt → ∃ x k, IsH D.A H x k
  row : W.ownsRow 0 3 1 inv ins.length (i64s ins)
  pw : ∀ k, P k → w0.heap.size ≤ k
  pn : ∀ k, W.heap.size ≤ k → P k
  ro : ∀ k, inv.ownBlock = some k → w0.heap.size ≤ k ∧ ¬ P k
section
variable {w0 w w' : World} {P : Nat → Prop} {wb N : Nat} {D : Wd} {lsb : Nat} {vs : Nat → Value} {Y : Nat → List Nat} {cl : Nat → Nat} {S : Lm} {ins : List Nat} {inv : Value}
theorem Qa.kept0 (h : Qa w0 w P wb N D lsb vs Y S cl ins inv) (hf : w.grownBy w' none) : Qa w0 w' (fun k => P k ∧ (k < w.heap.size ∨ w'.heap.size ≤ k)) wb N D lsb vs Y S cl ins inv := by
  have hs := hf.size
  exact ⟨gb_trans h.gr hf, h.gw.keptK (G := fun _ => False) (Kp.of hf) (fun _ _ _ hh => hh) (fun k hk hp => ⟨hp, .inl hk⟩), h.good, row_kept h.row hf (by simp), fun k hk => h.pw k hk.1, fun k hk => ⟨h.pn k (Nat.le_trans hs hk), .inr hk⟩, fun k hk => ⟨(h.ro k hk).1, fun hp => (h.ro k hk).2 hp.1⟩⟩
/-- The same blocks: nothing of the own lies between. -/
theorem Qa.kept1 (h : Qa w0 w P wb N D lsb vs Y S cl ins inv) (hf : w.grownBy w' none) : Qa w0 w' P wb N D lsb vs Y S cl ins inv :=
  ⟨gb_trans h.gr hf, h.gw.kept0 hf, h.good, row_kept h.row hf (by simp), h.pw, fun k hk => h.pn k (Nat.le_trans hf.size hk), h.ro⟩
theorem Qa.more {M : Nat} (h : Qa w0 w P wb N D lsb vs Y S cl ins inv) (h1 : N ≤ M) (h2 : M ≤ 300) : Qa w0 w P wb M D lsb vs Y S cl ins inv :=
  ⟨h.gr, h.gw.more h1 h2, h.good, h.row, h.pw, h.pn, h.ro⟩
theorem Qa.kp (h : Qa w0 w P wb N D lsb vs Y S cl ins inv) (hK : Kp P w w') {M : Nat} {D' : Wd} {S' : Lm} {cl' : Nat → Nat} (hg : GW w' P wb M D' lsb vs Y S' cl') (hgo : ∀ H, H ∈ D'.xt → ∃ x k, IsH D'.A H x k) : Qa w0 w' P wb M D' lsb vs Y S' cl' ins inv :=
  ⟨kp_grown h.gr (hK.less h.pw), hg, hgo, row_same h.row (fun k hk => hK.block k (row_lt h.row k hk) (h.ro k hk).2), h.pw, fun k hk => h.pn k (Nat.le_trans hK.size hk), h.ro⟩
theorem Qa.rows (h : Qa w0 w P wb N D lsb vs Y S cl ins inv) (hf : w.grownBy w' inv.ownBlock) {ins' : List Nat} {inv' : Value} (hr : w'.ownsRow 0 3 1 inv' ins'.length (i64s ins')) (hn : ∀ k, inv'.ownBlock = some k → inv.ownBlock = some k ∨ w.heap.size ≤ k) : Qa w0 w' (fun k => (P k ∧ k < w.heap.size) ∨ w'.heap.size ≤ k) wb N D lsb vs Y S cl ins' inv' := by
  have hs := hf.size
  have hK : Kp (fun k => inv.ownBlock = some k) w w' := (Kp.refl _ _).step hf (fun i hi => .inl hi)
  have hs0 := h.gr.size
  refine ⟨⟨hf.os.trans h.gr.os, hf.tape.trans h.gr.tape, hf.output.trans h.gr.output, Nat.le_trans hs0 hs, fun k hk _ => ?_⟩, h.gw.keptK hK (fun k _ hp hk => (h.ro k hk).2 hp) (fun k hk hp => .inl ⟨hp, hk⟩), h.good, hr, fun k hk => ?_, fun k hk => .inr hk, fun k hk => ⟨?_, ?_⟩⟩
  · rw [hf.block k (by omega) (fun e => by have := (h.ro k e.symm).1; omega)]
    exact h.gr.block k hk (by simp)
  · rcases hk with hk | hk
    · exact h.pw k hk.1
    · omega
  · rcases hn k hk with e | e
    · exact (h.ro k e).1
    · omega
  · have hl := row_lt hr k hk
    rintro (⟨hp, hk2⟩ | hk2)
    · rcases hn k hk with e | e
      · exact (h.ro k e).2 hp
      · omega
    · omega
theorem Qa.cells (h : Qa w0 w P wb N D lsb vs Y S cl ins inv) : Cells w wb D := h.gw.ms.cells
/-- A call of the program. -/
theorem Qa.pc (h : Qa w0 w P wb N D lsb vs Y S cl ins inv) {f : Nat} {xa : Array Value} {H : Nat} {to : Option (Nat × Nat)} {good : Prop} (hp : Pc w P wb N D lsb vs Y S cl f xa H to good) :
    ∃ er : Int, (er = 0 ↔ good) ∧ Calls Tryz.prog f xa w fun y w' => y = .returned (.int .i64 er) ∧ Kp P w w' ∧ ∃ D' S', Mv D D' 0 ∧ Mem S S' er H to ∧ Qa w0 w' P wb (N + 1) D' lsb vs Y S' cl ins inv := by
  obtain ⟨er, he, hc⟩ := hp
  refine ⟨er, he, hc.mono ?_⟩
  rintro y w' ⟨rfl, hK, D', S', hm, hg, hM⟩
  exact ⟨rfl, hK, D', S', hm, hM, h.kp hK hg (fun G hG => by rw [hm.A]; exact h.good G (by rw [← hm.xt]; exact hG))⟩
/-- Is. -/
theorem Qa.is_ (h : Qa w0 w P wb N D lsb vs Y S cl ins inv) (H : Nat) : Calls Tryz.prog 27 #[.pointer (some ⟨D.lb, 0, none⟩), .int .u64 H] w fun y w' => y = .returned (.bool (decide (H ∈ D.xl))) ∧ w.grownBy w' none := by
  obtain ⟨bs, p, n, s, hX⟩ := h.gw.gx
  exact hX.is_ h.gw.ms (by have := h.gw.nN; omega) H
theorem Qa.lt (h : Qa w0 w P wb N D lsb vs Y S cl ins inv) : Lt D.xl S := by
  obtain ⟨bs, p, n, s, hX⟩ := h.gw.gx
  exact hX.lt (by have := h.gw.nN; omega)
/-- makes. -/
theorem Qa.makes (h : Qa w0 w P wb N D lsb vs Y S cl ins inv) (hI : InP D.xt S ins) (hN : N < 255) (o : Opv) : Calls Tryz.prog 22 #[.pointer (some ⟨wb, 0, none⟩), .agg o.cs] w fun y w' => y = .returned (.bool true) ∧ ∃ D' cl', SameP D D' ∧ Qa w0 w' P wb (N + 1) D' lsb vs Y S cl' ins inv ∧ InP D'.xt S ins := by
  refine (makes_22 h.gw h.pn hN o).mono ?_
  rintro y w' ⟨rfl, hK, D', cl', hm, hg⟩
  have hlt := h.lt
  refine ⟨rfl, D', cl', hm.same, ?_⟩
  rcases hm.ex with ⟨e1, e2, e3⟩ | ⟨H, c, x, k, e1, hT, e2⟩
  · exact ⟨h.kp hK hg (fun G hG => by rw [e3]; exact h.good G (by rw [← e1]; exact hG)), by rw [e1]; exact hI⟩
  · have hno : H ∉ D.xt := fun hm => by
      obtain ⟨q, l, hq⟩ := h.good H hm
      exact hT.not q l hq
    refine ⟨h.kp hK hg (fun G hG => ?_), ?_⟩
    · rw [e1] at hG
      rcases List.mem_append.1 hG with hG | hG
      · obtain ⟨q, l, hq⟩ := h.good G hG
        exact ⟨q, l, hT.old G q l hq⟩
      · simp at hG
        subst hG
        exact ⟨x, k, hT.good⟩
    · rw [e1]
      exact hI.told hno (fun c i hm => hno (h.gw.sub H (hlt.sub c i H hm).1))
end
end Go.Proofs.YtjkdflnnpdionaaGreat

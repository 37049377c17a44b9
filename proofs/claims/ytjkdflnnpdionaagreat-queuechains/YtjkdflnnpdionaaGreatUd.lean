import Derived.Test.YtjkdflnnpdionaaGreatUc
import Derived.Deep.RegionHeld3
/-
  stand: each handle in just the list that is said.
-/
namespace Go.Proofs.YtjkdflnnpdionaaGreat
open Go.RowKit Go.Shelf
set_option linter.unusedVariables false

/-- The first m lists, one behind the other. -/
def fl9 (S : Lm) : Nat → List Nat
  | 0 => []
  | m + 1 => fl9 S m ++ S (m / 3) (m % 3)
theorem fl9_mem {S : Lm} {H : Nat} : ∀ {m : Nat}, H ∈ fl9 S m ↔ ∃ j, j < m ∧ H ∈ S (j / 3) (j % 3)
  | 0 => by simp [fl9]
  | m + 1 => by
    rw [fl9, List.mem_append, fl9_mem (m := m)]
    constructor
    · rintro (⟨j, hj, h⟩ | h)
      · exact ⟨j, by omega, h⟩
      · exact ⟨m, by omega, h⟩
    · rintro ⟨j, hj, h⟩
      by_cases e : j = m
      · subst e; exact .inr h
      · exact .inl ⟨j, by omega, h⟩
theorem fl9_nodup {T : List Nat} {S : Lm} (hL : Lt T S) : ∀ m, (fl9 S m).Nodup
  | 0 => by simp [fl9]
  | m + 1 => by
    rw [fl9]
    refine List.nodup_append.2 ⟨fl9_nodup hL m, hL.nd _ _, fun a ha b hb e => ?_⟩
    subst e
    obtain ⟨j, hj, h⟩ := fl9_mem.1 ha
    have := hL.one _ _ _ _ a h hb
    omega
theorem fl9_len {T : List Nat} {S : Lm} (hL : Lt T S) : ∀ m, (fl9 S m).length ≤ 900 * m
  | 0 => by simp [fl9]
  | m + 1 => by
    rw [fl9, List.length_append]
    have := fl9_len hL m
    have := hL.ln (m / 3) (m % 3)
    omega
theorem fl9_next (S : Lm) {c k : Nat} (hk : k < 3) : (fl9 S (3 * c + k)).length + (S c k).length = (fl9 S (3 * c + (k + 1))).length := by
  rw [show 3 * c + (k + 1) = (3 * c + k) + 1 by omega, fl9, List.length_append, show (3 * c + k) / 3 = c by omega, show (3 * c + k) % 3 = k by omega]

/-- What is noted of each handle that was told. -/
structure InOk (T : List Nat) (S : Lm) (ins : List Nat) : Prop where
  len : ins.length = T.length
  nd : T.Nodup
  at' : ∀ (k H : Nat), T[k]? = some H → ∃ j : Nat, ins[k]? = some j ∧ j ≤ 3 ∧ (j = 0 → ∀ c i, H ∉ S c i) ∧ (∀ i, j = i + 1 → ∃ c, H ∈ S c i)
def posT : List Nat → List Nat → List Nat
  | H :: T, j :: ins => if 0 < j then H :: posT T ins else posT T ins
  | _, _ => []
theorem posT_len : ∀ {T ins : List Nat}, ins.length = T.length → (posT T ins).length = ins.countP (fun j => decide (0 < j))
  | [], [], _ => rfl
  | [], _ :: _, h => by simp at h
  | _ :: _, [], h => by simp at h
  | H :: T, j :: ins, h => by
    have ih := posT_len (T := T) (ins := ins) (by simpa using h)
    rw [posT, List.countP_cons]
    by_cases e : 0 < j
    · rw [if_pos e, if_pos (by simpa using e), List.length_cons, ih]
    · rw [if_neg e, if_neg (by simpa using e), ih]; rfl
theorem posT_mem {G : Nat} : ∀ {T ins : List Nat}, ins.length = T.length → (G ∈ posT T ins ↔ ∃ k j : Nat, T[k]? = some G ∧ ins[k]? = some j ∧ 0 < j)
  | [], [], _ => by simp [posT]
  | [], _ :: _, h => by simp at h
  | _ :: _, [], h => by simp at h
  | H :: T, j :: ins, h => by
    have ih := posT_mem (G := G) (T := T) (ins := ins) (by simpa using h)
    have key : (∃ k j' : Nat, (H :: T)[k]? = some G ∧ (j :: ins)[k]? = some j' ∧ 0 < j') ↔ (H = G ∧ 0 < j) ∨ ∃ k j' : Nat, T[k]? = some G ∧ ins[k]? = some j' ∧ 0 < j' := by
      constructor
      · rintro ⟨k, j', h1, h2, h3⟩
        cases k with
        | zero => simp at h1 h2; subst h2; exact .inl ⟨h1, h3⟩
        | succ k => simp at h1 h2; exact .inr ⟨k, j', h1, h2, h3⟩
      · rintro (⟨h1, h2⟩ | ⟨k, j', h1, h2, h3⟩)
        · exact ⟨0, j, by simp [h1], by simp, h2⟩
        · exact ⟨k + 1, j', by simpa using h1, by simpa using h2, h3⟩
    rw [key, posT, ← ih]
    by_cases e : 0 < j
    · rw [if_pos e, List.mem_cons]
      constructor
      · rintro (h | h)
        · exact .inl ⟨h.symm, e⟩
        · exact .inr h
      · rintro (⟨h, _⟩ | h)
        · exact .inl h.symm
        · exact .inr h
    · rw [if_neg e]
      constructor
      · exact .inr
      · rintro (⟨_, h⟩ | h)
        · exact absurd h e
        · exact h
theorem posT_sub {G : Nat} : ∀ {T ins : List Nat}, G ∈ posT T ins → G ∈ T
  | [], _, h => by simp [posT] at h
  | _ :: _, [], h => by simp [posT] at h
  | H :: T, j :: ins, h => by
    rw [posT] at h
    by_cases e : 0 < j
    · rw [if_pos e, List.mem_cons] at h
      rcases h with rfl | h
      · simp
      · exact List.mem_cons_of_mem _ (posT_sub h)
    · rw [if_neg e] at h
      exact List.mem_cons_of_mem _ (posT_sub h)
theorem posT_nodup : ∀ {T ins : List Nat}, T.Nodup → (posT T ins).Nodup
  | [], _, _ => by simp [posT]
  | _ :: _, [], _ => by simp [posT]
  | H :: T, j :: ins, h => by
    obtain ⟨h1, h2⟩ := List.nodup_cons.1 h
    rw [posT]
    by_cases e : 0 < j
    · rw [if_pos e]
      exact List.nodup_cons.2 ⟨fun hm => h1 (posT_sub hm), posT_nodup h2⟩
    · rw [if_neg e]
      exact posT_nodup h2
/-- As many stand in lists as are noted. -/
theorem InOk.count {T T' : List Nat} {S : Lm} {ins : List Nat} (h : InOk T S ins) (hL : Lt T' S) (hs : ∀ H, H ∈ T' → H ∈ T) : ins.countP (fun j => decide (0 < j)) = (fl9 S 9).length := by
  rw [← posT_len h.len]
  have e : ∀ G, G ∈ posT T ins ↔ G ∈ fl9 S 9 := fun G => by
    rw [posT_mem h.len, fl9_mem]
    constructor
    · rintro ⟨k, j, h1, h2, h3⟩
      obtain ⟨j', g1, g2, g3, g4⟩ := h.at' k G h1
      rw [h2] at g1
      simp at g1
      subst g1
      obtain ⟨c, hc⟩ := g4 (j - 1) (by omega)
      have hb := hL.sub c (j - 1) G hc
      exact ⟨3 * c + (j - 1), by omega, by rw [show (3 * c + (j - 1)) / 3 = c by omega, show (3 * c + (j - 1)) % 3 = j - 1 by omega]; exact hc⟩
    · rintro ⟨m, hm, hG⟩
      have hb := hL.sub _ _ G hG
      obtain ⟨k, hk⟩ := List.mem_iff_getElem?.1 (hs G hb.1)
      obtain ⟨j', g1, g2, g3, g4⟩ := h.at' k G hk
      refine ⟨k, j', hk, g1, ?_⟩
      rcases Nat.eq_zero_or_pos j' with e | e
      · exact absurd hG (g3 e _ _)
      · exact e
  have h1 := nodup_len (posT_nodup (ins := ins) h.nd) (fun x hx => (e x).1 hx)
  have h2 := nodup_len (fl9_nodup hL 9) (fun x hx => (e x).2 hx)
  omega
def i64s (xs : List Nat) : List Value := xs.map fun (n : Nat) => Value.int .i64 (n : Int)
theorem i64s_get {xs : List Nat} {i h : Nat} (e : xs[i]? = some h) : (i64s xs)[i]? = some (.int .i64 (h : Int)) := by simp [i64s, e]

section
variable {w : World} {P : Nat → Prop} {wb N : Nat} {D : Wd} {lsb : Nat} {vs : Nat → Value} {Y : Nat → List Nat} {cl : Nat → Nat} {S : Lm}
set_option maxRecDepth 100000 in
set_option maxHeartbeats 4000000 in
theorem stand_28 (hW : GW w P wb N D lsb vs Y S cl) {ins : List Nat} (hI : InOk D.xt S ins) {ia : Option Addr} {ic : Nat} (hin : w.ownsRow 0 3 1 (.slice ia ins.length ic) ins.length (i64s ins)) :
    Calls Tryz.prog 28 #[.pointer (some ⟨wb, 0, none⟩), .slice ia ins.length ic] w fun y w' => y = .returned (.bool true) ∧ w.grownBy w' none := by
  have hch : ∀ c k : Nat, c < 3 → k < 3 → ∀ W, w.grownBy W none → Calls Tryz.prog 81 #[.pointer (some ⟨D.qb, 0, none⟩), .int .i64 c, .int .i64 ((k : Int) + 1)] W fun y w' => ∃ v', y = .returned (.tuple #[v', .bool true]) ∧ W.grownBy w' none ∧ w'.ownsRow 0 50 1 v' (S c k).length (uvs (S c k)) := fun c k hc hk W hf => chain_81 ((hW.kept0 hf).ch hc hk)
  have hat : ∀ c k : Nat, c < 3 → k < 3 → ∀ H, H ∈ S c k → ∃ pl : Int, ∀ W, w.grownBy W none → Calls Tryz.prog 82 #[.pointer (some ⟨D.sb, 0, none⟩), .int .u64 H] W fun y w' => y = .returned (.tuple #[.int .i64 pl, .int .i64 c, .int .i64 0]) ∧ W.grownBy w' none := fun c k hc hk H hm => (hW.ch hc hk).at' H hm
  have hx3 := hW.nN
  have hlt : Lt D.xl S := by
    obtain ⟨bs, p, n, s, hX⟩ := hW.gx
    exact hX.lt (by omega)
  have hcnt := hI.count hlt hW.sub
  obtain ⟨ao, cc, htv, _, _, _, hao⟩ := row_shape hW.ms.ms.trow
  have hbx : ∀ W, w.grownBy W none → W.cell? ⟨wb, 0, none⟩ = some (.pointer (some ⟨D.sb, 0, none⟩)) ∧ W.cell? ⟨wb, 1, none⟩ = some (.pointer (some ⟨D.qb, 0, none⟩)) ∧ W.cell? ⟨wb, 4, none⟩ = some (.slice ao D.xt.length cc) := fun W hf => by
    have := (hW.ms.ms.box.kept hf (by simp)).cell 4
    rw [htv] at this
    exact ⟨(hW.ms.ms.box.kept hf (by simp)).cell 0, (hW.ms.ms.box.kept hf (by simp)).cell 1, this⟩
  have hrow : ∀ W, w.grownBy W none → W.ownsRow 0 26 1 (.slice ao D.xt.length cc) D.xt.length (uvs D.xt) := fun W hf => by
    have := (hW.ms.kept0 hf).ms.trow
    rw [htv] at this
    exact this
  have hinr : ∀ W, w.grownBy W none → W.ownsRow 0 3 1 (.slice ia ins.length ic) ins.length (i64s ins) := fun W hf => row_kept hin hf (by simp)
  obtain ⟨ia', ic', hiv, _, _, _, hia⟩ := row_shape hin
  simp only [Value.slice.injEq, true_and] at hiv
  obtain ⟨rfl, rfl⟩ := hiv
  have hsub : ∀ c k H, H ∈ S c k → ∃ i j : Nat, D.xt[i]? = some H ∧ (∀ i', D.xt[i']? = some H → i' = i) ∧ ins[i]? = some j ∧ j = k + 1 := fun c k H hm => by
    have hb := hlt.sub c k H hm
    obtain ⟨i, hi⟩ := List.mem_iff_getElem?.1 (hW.sub H hb.1)
    obtain ⟨j, g1, g2, g3, g4⟩ := hI.at' i H hi
    refine ⟨i, j, hi, fun i' hi' => ?_, g1, ?_⟩
    · exact (List.getElem?_inj (List.getElem?_eq_some_iff.1 hi').1 hI.nd).1 (hi'.trans hi.symm)
    · rcases Nat.eq_zero_or_pos j with e | e
      · exact absurd hm (g3 e _ _)
      · obtain ⟨c', hc'⟩ := g4 (j - 1) (by omega)
        have := hlt.one _ _ _ _ H hm hc'
        omega
  have hlen := hI.len
  have hfl := fl9_len hlt
  have hln := hlt.ln
  have hx2 : D.xt.length ≤ 300 := by omega
  have hxc : Hid (D.xt.length ≤ 300) := hx2
  generalize D.xt = xt at *
  generalize D.sb = sb at *
  generalize D.qb = qb at *
  have HI : Hid (ins.length = xt.length) := hlen
  have HC : Hid (ins.countP (fun j => decide (0 < j)) = (fl9 S 9).length) := hcnt
  clear hW hI hlt hcnt htv hlen hx3 hin hx2
  go_enter Tryz.func28, Tryz.ntmps28
  go_wp2
  go_loopw [5, 6] (fun tv cv wr => ∃ c : Nat, c ≤ 3 ∧ tv = .int .i64 ((fl9 S (3 * c)).length : Nat) ∧ cv = .int .i64 (c : Nat) ∧ w.grownBy wr none) (fun _ cv _ => (3 - intOf cv).toNat)
  case atStart => exact ⟨0, by omega, rfl, rfl, gb_refl _ _⟩
  case round =>
    obtain ⟨c, hc3, rfl, rfl, hg⟩ := hrel
    by_cases hc : c < 3
    · have e1 : decide ((c : Int) < 3) = true := decide_eq_true (by omega)
      have e2 : IntKind.i64.wrap ((c : Int) + 1) = (c : Int) + 1 := by rw [IntKind.wrap_i64]; omega
      go_wp2
      go_loopw [5, 7] (fun tv kv wq => ∃ k : Nat, k ≤ 3 ∧ tv = .int .i64 ((fl9 S (3 * c + k)).length : Nat) ∧ kv = .int .i64 ((k : Int) + 1) ∧ w.grownBy wq none) (fun _ kv _ => (4 - intOf kv).toNat)
      case atStart => exact ⟨0, by omega, rfl, rfl, hg⟩
      case round =>
        obtain ⟨k, hk3, rfl, rfl, hgk⟩ := hrel
        by_cases hk : k < 3
        · have e3 : decide ((k : Int) + 1 ≤ 3) = true := decide_eq_true (by omega)
          have e4 : IntKind.i64.wrap ((k : Int) + 1 + 1) = (k : Int) + 1 + 1 := by rw [IntKind.wrap_i64]; omega
          have e5 : IntKind.i64.wrap (((fl9 S (3 * c + k)).length : Nat) + ((S c k).length : Nat) : Int) = ((fl9 S (3 * c + (k + 1))).length : Nat) := by
            have h1 := fl9_next S (c := c) hk
            have h2 := hfl (3 * c + (k + 1))
            rw [IntKind.wrap_i64]; omega
          have hch' := hch c k hc hk _ hgk
          have hat' := hat c k hc hk
          have hsub' := hsub c k
          obtain ⟨cb0, cb1, cb4⟩ := hbx _ hgk
          have hl9 := hln c k
          clear hch hat hsub hfl hln
          generalize hLE : S c k = L at *
          generalize (fl9 S (3 * c + k)).length = t0 at *
          generalize ht1 : (fl9 S (3 * c + (k + 1))).length = t1 at *
          obtain ⟨ln, hln⟩ : ∃ ln, L.length = ln := ⟨_, rfl⟩
          have hget : ∀ i, i < ln → ∃ y, L[i]? = some y := fun i hi => ⟨L[i], List.getElem?_eq_getElem (by omega)⟩
          rw [hln] at e5 hch' hl9
          have HT1 : Hid ((fl9 S (3 * c + (k + 1))).length = t1) := ht1
          clear hLE hln ht1
          go_wp2_with (first | (go_at_call 81; go_must (refine hch'.mono ?_); rintro y w1 ⟨v', rfl, hf1, hr1⟩; obtain ⟨la, lc, rfl, _, _, _, hla⟩ := row_shape hr1))
          have hg1 := gb_trans hgk hf1
          have hlr : ∀ W, w1.grownBy W none → W.ownsRow 0 50 1 (.slice la ln lc) ln (uvs L) := fun W hf => row_kept hr1 hf (by simp)
          clear hr1 hch' cb0 cb1 cb4 hgk hf1
          go_loopw [10] (fun iv wi => ∃ i : Nat, i ≤ ln ∧ iv = .int .i64 (i : Nat) ∧ w1.grownBy wi none) (fun iv _ => ln - (intOf iv).toNat)
          case atStart => exact ⟨0, by omega, rfl, gb_refl _ _⟩
          case round =>
            obtain ⟨i, hil, rfl, hgi⟩ := hrel
            by_cases hi : i < ln
            · obtain ⟨H, hH⟩ := hget i hi
              obtain ⟨g, rfl⟩ := hla (by omega)
              have hm : H ∈ L := List.mem_of_getElem? hH
              obtain ⟨pl, hat82⟩ := hat' H hm
              obtain ⟨ix, j, hx1, hx2, hx3, rfl⟩ := hsub' H hm
              have hxl : ix < xt.length := (List.getElem?_eq_some_iff.1 hx1).1
              obtain ⟨tg, rfl⟩ := hao (by omega)
              have hil2 : ix < ins.length := (List.getElem?_eq_some_iff.1 hx3).1
              obtain ⟨ig, rfl⟩ := hia (by omega)
              have hcs := fun W (hf : w1.grownBy W none) => And.intro (hbx _ (gb_trans hg1 hf)).1 (row_cell (hlr _ hf) i _ (uvs_get hH))
              have hc2 := fun W (hf : w1.grownBy W none) => And.intro (hbx _ (gb_trans hg1 hf)).2.2 (row_cell (hlr _ hf) i _ (uvs_get hH))
              have htd := fun W (hf : w1.grownBy W none) q x (hq : xt[q]? = some x) => told_row (hrow _ (gb_trans hg1 hf)) hq
              have hic := fun W (hf : w1.grownBy W none) => row_cell (hinr _ (gb_trans hg1 hf)) ix _ (i64s_get hx3)
              have hat2 := hat82 _ (gb_trans hg1 (gb_trans hgi (gb_drew (gb_refl _ _))))
              have d1 : decide ((i : Int) < ln) = true := decide_eq_true (by omega)
              have l1 : (i : Int) < ln := by omega
              have l2 : ¬ (i : Int) < 0 := by omega
              have d4 : IntKind.i64.wrap ((i : Int) + 1) = (i : Int) + 1 := by rw [IntKind.wrap_i64]; omega
              have HX1 : Hid (xt[ix]? = some H) := hx1
              have HX2 : Hid (∀ i', xt[i']? = some H → i' = ix) := hx2
              clear hbx hrow hinr hlr hat82 hat' hsub' hget hm hH hx1 hx2 hx3 hla hao hia
              go_wp2
              have hk0 := hcs wr.drew (gb_trans hgi (gb_drew (gb_refl _ _)))
              go_region_held3 (fun W => W.cell? ⟨wb, 0, none⟩ = some (.pointer (some ⟨sb, 0, none⟩)) ∧ W.cell? ⟨g, i, none⟩ = some (.int .u64 (H : Nat))) ((first | with_reducible exact hk1 | with_reducible exact hk0 | go_keep)) ((first | (go_at_call 82; with_reducible refine hat2.mono ?_; rintro y w5 ⟨rfl, hf5⟩; (have hg5 := gb_trans (gb_trans hgi (gb_drew (gb_refl _ none))) hf5); (have hk1 := hcs _ hg5))))
              clear hk0 hk1 hat2 hcs
              go_wp2
              go_loopw [14] (fun kv wk => ∃ q : Nat, q ≤ ix ∧ kv = .int .i64 (q : Nat) ∧ w1.grownBy wk none) (fun kv _ => ix - (intOf kv).toNat)
              case atStart => exact ⟨0, by omega, rfl, gb_trans hg5 (by first | exact gb_refl _ _ | exact gb_drew (gb_refl _ _))⟩
              case round =>
                obtain ⟨q, hqx, rfl, hgq⟩ := hrel
                obtain ⟨k4, k5⟩ := hc2 _ hgq
                have q1 : (q : Int) < xt.length := by omega
                have q2 : decide ((q : Int) < xt.length) = true := decide_eq_true q1
                have q3 : ¬ (q : Int) < 0 := by omega
                have q4 : IntKind.i64.wrap ((q : Int) + 1) = (q : Int) + 1 := by have := hxc.out; rw [IntKind.wrap_i64]; omega
                by_cases hq : q < ix
                · obtain ⟨x, hx⟩ : ∃ x, xt[q]? = some x := ⟨xt[q], List.getElem?_eq_getElem (by omega)⟩
                  have k6 := htd _ hgq q x hx
                  have hne : ¬ x = H := fun e => by
                    have := HX2.out q (e ▸ hx)
                    omega
                  have hne2 : ¬ (x : Int) = (H : Int) := by omega
                  have hne3 : decide (¬ (x : Int) = (H : Int)) = true := decide_eq_true hne2
                  clear hx htd hc2 hic hne
                  go_wp2
                  go_quiet (fail)
                  go_wp2
                  exact ⟨⟨q + 1, by omega, by go_num, gb_trans hgq (gb_drewN (gb_refl _ _) _)⟩, by simp [intOf]; omega⟩
                · obtain rfl : q = ix := by omega
                  have k6 := htd _ hgq q H HX1.out
                  have k7 := hic _ (gb_trans hgq (gb_drewN (gb_refl _ _) 0))
                  have q5 : ¬ (q : Int) = (xt.length : Int) := by omega
                  have q6 : (q : Int) < ins.length := by omega
                  have hic' := fun n => hic (wr.drewN n) (gb_trans hgq (gb_drewN (gb_refl _ _) n))
                  have hc2' := fun n => hc2 (wr.drewN n) (gb_trans hgq (gb_drewN (gb_refl _ _) n))
                  clear htd hc2 hic
                  go_wp2
                  go_quiet (fail)
                  go_wp2_with (first | (go_at_call 16; go_must (refine (num_any _ _).mono ?_); rintro y w6 ⟨rfl, rfl⟩) | fail)
                  exact ⟨⟨i + 1, by omega, by go_num, gb_trans hgq (gb_drewN (gb_refl _ _) _)⟩, by simp [intOf]; omega⟩
            · have d1 : decide ((i : Int) < ln) = false := decide_eq_false (by omega)
              clear hbx hrow hinr hlr hat' hsub' hget hla hao hia
              go_wp2
              exact ⟨⟨k + 1, by omega, by rw [HT1.out], by go_num, gb_trans hg1 hgi⟩, by simp [intOf]; omega⟩
        · have e3 : decide ((k : Int) + 1 ≤ 3) = false := decide_eq_false (by omega)
          obtain rfl : k = 3 := by omega
          clear hch hat hsub hbx hrow hinr hao hia
          go_wp2
          exact ⟨⟨c + 1, by omega, by rw [show 3 * (c + 1) = 3 * c + 3 by omega], by go_num, hgk⟩, by simp [intOf]; omega⟩
    · obtain rfl : c = 3 := by omega
      have e1 : decide (((3 : Nat) : Int) < 3) = false := decide_eq_false (by omega)
      have HF := HC.out
      have hle := List.countP_le_length (p := fun j => decide (0 < j)) (l := ins)
      have hx3 := hxc.out
      have hx4 := HI.out
      clear hch hat hsub hbx hrow hao
      go_wp2
      go_loopw [15, 16] (fun nv iv wq => ∃ i : Nat, i ≤ ins.length ∧ nv = .int .i64 ((ins.take i).countP (fun j => decide (0 < j)) : Nat) ∧ iv = .int .i64 (i : Nat) ∧ w.grownBy wq none) (fun _ iv _ => ins.length - (intOf iv).toNat)
      case atStart => exact ⟨0, by omega, by simp, rfl, hg⟩
      case round =>
        obtain ⟨i, hil, rfl, rfl, hgi⟩ := hrel
        by_cases hi : i < ins.length
        · obtain ⟨j, hj⟩ : ∃ j, ins[i]? = some j := ⟨ins[i], List.getElem?_eq_getElem hi⟩
          obtain ⟨ig, rfl⟩ := hia (by omega)
          have k1 := row_cell (hinr _ hgi) i _ (i64s_get hj)
          have htk : ins.take (i + 1) = ins.take i ++ [j] := by rw [List.take_add_one, hj]; rfl
          have hcp : ((ins.take (i + 1)).countP (fun j => decide (0 < j)) : Nat) = (ins.take i).countP (fun j => decide (0 < j)) + if 0 < j then 1 else 0 := by
            rw [htk, List.countP_append, List.countP_singleton]
            by_cases e : 0 < j <;> simp [e]
          have hct := List.countP_le_length (p := fun j => decide (0 < j)) (l := ins.take i)
          rw [List.length_take] at hct
          obtain ⟨c0, hc0⟩ : ∃ c0, (ins.take i).countP (fun j => decide (0 < j)) = c0 := ⟨_, rfl⟩
          rw [hc0] at hcp hct
          have HCP : Hid (((ins.take (i + 1)).countP (fun j => decide (0 < j)) : Nat) = c0 + if 0 < j then 1 else 0) := hcp
          simp only [hc0]
          have e5 : IntKind.i64.wrap ((i : Int) + 1) = (i : Int) + 1 := by rw [IntKind.wrap_i64]; omega
          have e6 : IntKind.i64.wrap ((c0 : Int) + 1) = (c0 : Int) + 1 := by rw [IntKind.wrap_i64]; omega
          have e7 : decide ((i : Int) < ins.length) = true := decide_eq_true (by omega)
          have e8 : (i : Int) < ins.length := by omega
          have e9 : ¬ (i : Int) < 0 := by omega
          clear hinr htk hcp hct hc0 hj HF hle
          by_cases e : 0 < j
          · have f1 : (0 : Int) < j := by omega
            have f2 : decide ((j : Int) > 0) = true := decide_eq_true f1
            go_wp2
            exact ⟨⟨i + 1, by omega, by rw [HCP.out, if_pos e]; go_num, by go_num, hgi⟩, by simp [intOf]; omega⟩
          · have f1 : ¬ (0 : Int) < j := by omega
            have f2 : decide ((j : Int) > 0) = false := decide_eq_false f1
            go_wp2
            exact ⟨⟨i + 1, by omega, by rw [HCP.out, if_neg e]; rfl, by go_num, hgi⟩, by simp [intOf]; omega⟩
        · have e7 : decide ((i : Int) < ins.length) = false := decide_eq_false (by omega)
          have e8 : ins.take i = ins := List.take_of_length_le (by omega)
          rw [e8, HF]
          clear hinr
          go_wp2
          go_ret
          exact ⟨by simp, hgi⟩
end
end Go.Proofs.YtjkdflnnpdionaaGreat

import Derived.Test.YtoaaaeefcipdcaaYg
import Derived.Test.YtoaaaeefcipdcaaMx
import Derived.Test.YtoaaaeefcipdcaaSx
import Derived.Deep.CutRange
import Derived.Deep.CutBlock
import Derived.Deep.RegionHeld3
/-
  ClassOnce: its walk.
-/
namespace Go.Proofs.Ytoaaaeefcipdcaa
open Go.RowKit
set_option linter.unusedVariables false

/-- The Set and the config, ahead of the rows. -/
structure PrW (w0 : World) (sb cb : Nat) (b c d e f g : Int) (A : Ab) (W : World) : Prop where
  gr : w0.grownBy W none
  set : ∃ F B zs, IsS W sb F B b c d e f g A zs ∧ (∀ k, F k → w0.heap.size ≤ k) ∧ ¬ F cb
  cfg : Box W 23 cb (cfgA A.ps b c d e f g)
theorem PrW.gb {w0 W W' : World} {sb cb : Nat} {b c d e f g : Int} {A : Ab} (h : PrW w0 sb cb b c d e f g A W) (hf : W.grownBy W' none) : PrW w0 sb cb b c d e f g A W' := by
  obtain ⟨F, B, zs, h1, h2⟩ := h.set
  exact ⟨gb_trans h.gr hf, ⟨F, B, zs, h1.kept0 hf, h2⟩, h.cfg.kept hf (by simp)⟩
theorem PrW.tell {w0 W : World} {sb cb : Nat} {b c d e f g : Int} {A : Ab} (h : PrW w0 sb cb b c d e f g A W) {fn : Nat} {args : Array Value} {v : Value}
    (hc : ∀ {F : Nat → Prop} {B : Bl} {zs : List Int}, IsS W sb F B b c d e f g A zs → Calls Try.prog fn args W fun y w' => y = .returned v ∧ W.grownBy w' none) :
    Calls Try.prog fn args W fun y W' => y = .returned v ∧ PrW w0 sb cb b c d e f g A W' := by
  obtain ⟨F, B, zs, h1, h2⟩ := h.set
  refine (hc h1).mono ?_
  rintro y W' ⟨rfl, hf⟩
  exact ⟨rfl, h.gb hf⟩
theorem PrW.same {w0 W : World} {sb cb : Nat} {b c d e f g : Int} {A : Ab} (h : PrW w0 sb cb b c d e f g A W) {fn : Nat} {args : Array Value} {v : Value}
    (hc : ∀ {F : Nat → Prop} {B : Bl} {zs : List Int}, IsS W sb F B b c d e f g A zs → Calls Try.prog fn args W fun y w' => y = .returned v ∧ W = w') :
    Calls Try.prog fn args W fun y W' => y = .returned v ∧ W = W' := by
  obtain ⟨F, B, zs, h1, h2⟩ := h.set
  exact hc h1
theorem SzE.trans {A B C : Ab} (h : SzE A B) (k : SzE B C) : SzE A C := ⟨k.ps.trans h.ps, k.m.trans h.m, k.n.trans h.n, k.sz.trans h.sz⟩
/-- The pages' array. -/
def pgA (A : Ab) : Array Value := ((List.range 62).map fun i => Value.int .i64 (A.pg i : Nat)).toArray
theorem pgA_size (A : Ab) : (pgA A).size = 62 := by simp [pgA]
theorem pgA_get (A : Ab) {i : Nat} (h : i < 62) : (pgA A)[i]? = some (.int .i64 (A.pg i : Nat)) := by
  simp [pgA, h]
theorem pgA_set {A A' : Ab} {i : Nat} (h : ∀ j, A'.pg j = A.pg j + if j = i then 1 else 0) : (pgA A).setIfInBounds i (.int .i64 ((A.pg i + 1 : Nat) : Int)) = pgA A' := by
  refine Array.ext_getElem? fun j => ?_
  rw [Array.getElem?_setIfInBounds, pgA_size]
  by_cases hj : j < 62
  · by_cases e : i = j
    · subst e
      rw [if_pos rfl, if_pos hj, pgA_get A' hj, h, if_pos rfl]
    · rw [if_neg e, pgA_get A hj, pgA_get A' hj, h, if_neg (fun e' => e e'.symm)]
      rfl
  · have h1 : (pgA A)[j]? = none := Array.getElem?_eq_none (by rw [pgA_size]; omega)
    have h2 : (pgA A')[j]? = none := Array.getElem?_eq_none (by rw [pgA_size]; omega)
    rw [h1, h2]
    split
    · split
      · omega
      · rfl
    · rfl


section
variable {sl el : TypeId} {ti : TypeInfo} {z : Value} {sz bs : Nat} {w : World} {ops : Array Oper} {o : Oper} {a : Act} {Q : Exit → Act → World → Prop}
/-- append(l, m...) in a region that draws, whether or not m has elements. -/
theorem step_cat {K : Act → World → Prop} {E : Prop} (T : Ty sl el ti z sz bs) (hgd : o.guard = none) (s x : Operand)
    (ho : o.op = .call { callee := .builtin .append, args := #[s, x], argTypes := #[sl, sl] }) (v : Value) (n : Nat) (xs : List Value) (hs : a.eval s = v) (hown : w.ownsRow 0 el sz v n xs) (ad : Addr) (m c : Nat) (news : List Value) (hx : a.eval x = .slice (some ad) m c) (hl : news.length = m * sz) (hnews : ∀ j u, news[j]? = some u → w.cell? (ad.add j) = some u) (h1 : ∀ u ∈ news, u.oneCell' = true) (hn : n + m ≤ 1000000000)
    (h : ∀ v' w', w'.ownsRow 0 el sz v' (n + m) (xs ++ news) → w.grownBy w' v.ownBlock → (∀ k, v'.ownBlock = some k → v.ownBlock = some k ∨ w.heap.size ≤ k) → K (a.put o.dst v') w') :
    if Region.wanted o (yielded ops a.tmps) = true then Oper.wp Try.prog o a w K Q else E := by
  have hw : Region.wanted o (yielded ops a.tmps) = true := by simp [Region.wanted, hgd]
  rw [if_pos hw]
  by_cases hm : m = 0
  · subst hm
    have hnil : news = [] := List.length_eq_zero_iff.1 (by omega)
    subst hnil
    have hr := run_psh0 T w o.type 0 v n xs hown (.slice (some ad) 0 c) ⟨_, _, rfl⟩
    unfold Oper.wp
    simp [execOp, ho, resolve, invoke, builtin, hs, hx, hr, Result.andThen]
    have hh : K (a.put o.dst v) w := h v w (by simpa using hown) (gb_refl _ _) (fun k hk => .inl hk)
    exact hh
  · obtain ⟨v', w', hr, a1, a2⟩ := run_psh T w o.type v n xs hown ad m c news hl hnews h1 (by omega) hn
    unfold Oper.wp
    simp [execOp, ho, resolve, invoke, builtin, hs, hx, hr, Result.andThen]
    exact h v' w' a1 a2.gb (fun k hk => a2.at' hk)
end

theorem pcs_len (A : Ab) (T : List (Nat × Nat)) : (pcs A T).length = T.length := by simp [pcs]
section
variable {w0 W : World} {sb cb pb : Nat} {b c d e f g : Int} {A : Ab} {T : List (Nat × Nat)} {O : List Nat} {P : Array Value} {tv ov : Value}
theorem OcW.fits {L : List (Nat × Nat × Nat)} {p k : Nat} (h : OcW w0 sb cb pb b c d e f g A L O P tv ov W) (hL : L = pcs A T) (ho : Oc A (T ++ [(p, k)]) O) (hl : T.length + O.length ≤ 300) :
    Calls Try.prog 24 #[.pointer (some ⟨sb, 0, none⟩), .int .i64 (A.own p : Nat), .int .u64 (A.hdl p k : Nat), tv, ov] W fun y W' => y = .returned (.tuple #[.agg #[.int .u64 (A.hdl p k : Nat), .int .i64 (A.place p k : Nat), .int .i64 (A.place p k + A.sz (A.own p) : Nat)], .bool true]) ∧ OcW w0 sb cb pb b c d e f g A L O P tv ov W' := by
  subst hL
  obtain ⟨h1, h2⟩ := ho.fits
  have hi := ho.ish (t := (p, k)) (by simp)
  have hok := ho.ok (by simp; omega)
  have hok2 : PcOk (pcs A T) := ⟨by rw [pcs_len]; omega, fun t ht => hok.2 t (by
    unfold pcs at ht ⊢
    rw [List.map_append]
    exact List.mem_append_left _ ht)⟩
  exact h.tell fun hS => fits_24 hS ho.inv.fit hi h.trow hok2 h1 h.orow (by omega) h2
theorem OcW.count {L : List (Nat × Nat × Nat)} (h : OcW w0 sb cb pb b c d e f g A L O P tv ov W) (hL : L = pcs A T) (ho : Oc A T O) (hl : T.length + O.length ≤ 300) {i : Nat} (hi : i < A.n) :
    Calls Try.prog 22 #[tv, .int .i64 (A.sz i : Nat)] W fun y W' => y = .returned (.int .i64 (A.tk i : Nat)) ∧ OcW w0 sb cb pb b c d e f g A L O P tv ov W' := by
  subst hL
  have := count_22 h.trow (ho.ok (by omega)) (A.sz i) (by have h1 := ho.inv.hi i hi; have h2 := ho.inv.ps0; omega)
  rw [ho.cnt hi] at this
  refine this.mono ?_
  rintro y W' ⟨rfl, hf⟩
  exact ⟨rfl, h.gb hf⟩
theorem OcW.adds {L : List (Nat × Nat × Nat)} (h : OcW w0 sb cb pb b c d e f g A L O P tv ov W) (hL : L = pcs A T) (ho : Oc A T O) (hl : T.length + O.length ≤ 300) :
    Calls Try.prog 27 #[.pointer (some ⟨sb, 0, none⟩), cfgV A.ps b c d e f g, tv] W fun y W' => y = .returned (.bool true) ∧ W.grownBy W' none := by
  subst hL
  obtain ⟨F, B, zs, hS, _⟩ := h.set
  exact adds_27 hS ho.inv h.trow (ho.ok (by omega)) fun i hi => ho.cnt hi
end

set_option maxRecDepth 100000 in
set_option maxHeartbeats 4000000 in
theorem once_some {A0 : Ab} {b c d e f g : Int} {zs : List Int} (hI : Inv A0) (hnp : A0.np = 0) (htk : ∀ i, A0.tk i = 0) (hgn : ∀ p k, A0.gen p k = 0) (a : Option Addr) (n cap : Nat) (hn : n ≤ 9223372036854775807) (w : World) (hin : OpsIn w a n)
    (hgc : ∀ W, Calls Try.prog 17 #[cfgV A0.ps b c d e f g] W fun x w' => ∃ sb G B, x = .returned (.tuple #[.pointer (some ⟨sb, 0, none⟩), .bool false]) ∧ W.grownBy w' none ∧ IsS w' sb G B b c d e f g A0 zs ∧ ∀ k, G k → W.heap.size ≤ k) :
    Calls Try.prog 5 #[cfgV A0.ps b c d e f g, .slice a n cap] w fun y w' => y = .returned (.bool true) ∧ w.grownBy w' none := by
  have hwk := fun W => wakes_10 W
  obtain ⟨n1, hn1⟩ : ∃ n1, A0.n = n1 + 1 := ⟨A0.n - 1, by have := hI.n1; omega⟩
  have hn2 : n1 + 1 ≤ 62 := by rw [← hn1]; exact hI.n2
  have hcl : ∀ {sb cb : Nat} {W : World}, PrW w sb cb b c d e f g A0 W → Calls Try.prog 18 #[.pointer (some ⟨sb, 0, none⟩)] W fun y w' => y = .returned (.int .i64 ((n1 : Int) + 1)) ∧ W = w' := fun h => by
    have := h.same (fun h => classes_20 h hI.toSzs)
    rw [hn1] at this
    exact this
  have hch : ∀ {sb cb : Nat} {W : World}, PrW w sb cb b c d e f g A0 W → ∀ i, i < n1 + 1 → Calls Try.prog 19 #[.pointer (some ⟨sb, 0, none⟩), .int .i64 (i : Nat)] W fun y w' => y = .returned (.int .i64 (A0.sz i : Nat)) ∧ PrW w sb cb b c d e f g A0 w' := fun h i hi => h.tell (fun h => chunk_yes h hI.toSzs i (by omega))
  have hch0 : ∀ {sb cb : Nat} {W : World}, PrW w sb cb b c d e f g A0 W → Calls Try.prog 19 #[.pointer (some ⟨sb, 0, none⟩), .int .i64 0] W fun y w' => y = .returned (.int .i64 (A0.sz 0 : Nat)) ∧ PrW w sb cb b c d e f g A0 w' := fun h => hch h 0 (by omega)
  have hch1 : ∀ {sb cb : Nat} {W : World}, PrW w sb cb b c d e f g A0 W → Calls Try.prog 19 #[.pointer (some ⟨sb, 0, none⟩), .int .i64 (n1 : Nat)] W fun y w' => y = .returned (.int .i64 (A0.sz n1 : Nat)) ∧ PrW w sb cb b c d e f g A0 w' := fun h => hch h n1 (by omega)
  have hs0 : 64 ≤ A0.sz 0 := hI.lo 0 (by omega)
  have hs1 : 64 ≤ A0.sz n1 := hI.lo n1 (by omega)
  have hsb0 : A0.sz 0 ≤ 1048576 := by have h1 := hI.hi 0 (by omega); have h2 := hI.ps0; omega
  have hsb1 : A0.sz n1 ≤ 1048576 := by have h1 := hI.hi n1 (by omega); have h2 := hI.ps0; omega
  have hal : w.grownBy (w.alloc (.cells (cfgA A0.ps b c d e f g) 23)) none := World.grownBy_alloc _ _ _
  have hbx := Box.new w 23 (cfgA A0.ps b c d e f g)
  unfold cfgA at hal hbx
  unfold cfgV at hgc ⊢
  clear hch
  go_enter Try.func5, Try.ntmps5
  go_upto_region 2 with (go_at_call 17; go_must (refine (hgc _).mono ?_); rintro y w1 ⟨sb, G, B, rfl, hf1, hS1, hG1⟩)
  have hP1 : PrW w sb w.heap.size b c d e f g A0 w1 := ⟨gb_trans hal hf1, ⟨G, B, zs, hS1, fun k hk => Nat.le_trans hal.size (hG1 k hk), fun hk => by have := hG1 _ hk; simp at this; omega⟩, hbx.kept hf1 (by simp)⟩
  clear hS1 hG1 hf1 hal hbx hgc
  generalize A0.sz 0 = s0 at *
  generalize A0.sz n1 = s1 at *
  have hz1 : decide (((n1 : Int) + 1) < 1) = false := by simp; omega
  have hz2 : decide (((n1 : Int) + 1) > 62) = false := by simp; omega
  have hz3 : decide ((s0 : Int) < 64) = false := by simp; omega
  have hz4 : decide ((s1 : Int) < 64) = false := by simp; omega
  go_upto_region 6 with (first
    | (go_at_call 18; (first | refine (hcl hP2).mono ?_ | refine (hcl hP1).mono ?_); rintro y w' ⟨rfl, rfl⟩)
    | (go_at_call 19; (first | (refine (hch1 hP2).mono ?_; rintro y w3 ⟨rfl, hP3⟩; clear hP2) | (refine (hch0 hP1).mono ?_; rintro y w2 ⟨rfl, hP2⟩; clear hP1))))
  go_upto_region 10 with fail
  have hpz : pgA A0 = ((List.range 62).map fun _ => Value.int .i64 0).toArray := by
    unfold pgA Ab.pg
    rw [hnp]
    rfl
  have hF3 := hP3
  generalize hvs : w3.alloc _ = V
  have hBp : Box V 56 w3.heap.size (pgA A0) := by rw [← hvs, hpz]; exact Box.new w3 56 _
  have hPV : w3.grownBy V none := by rw [← hvs]; exact World.grownBy_alloc _ _ _
  have hO0 : Oc A0 [] [] := ⟨hI, by simp, List.nodup_nil, fun i _ => by rw [htk]; rfl, by simp, fun p k => by rw [hgn]; exact Nat.zero_le _⟩
  have hW0 : OcW w sb w.heap.size w3.heap.size b c d e f g A0 (pcs A0 []) [] (pgA A0) (.slice none 0 0) (.slice none 0 0) V := by
    have hQ := hP3.gb hPV
    obtain ⟨F, B, zs, h1, h2, h3⟩ := hQ.set
    obtain ⟨F', B', zs', g1, g2, g3⟩ := hP3.set
    exact ⟨hQ.gr, ⟨F', B', zs', g1.kept0 hPV, g2, g3, fun hk => by have := g1.lt _ hk; omega, by simp [Value.ownBlock], by simp [Value.ownBlock]⟩, hQ.cfg, hBp, hP3.gr.size, ⟨rfl, .inl ⟨rfl, rfl⟩⟩, ⟨rfl, .inl ⟨rfl, rfl⟩⟩, by simp [Value.ownBlock], by simp [Value.ownBlock]⟩
  clear hvs hBp hPV hF3 hP3 hpz hz1 hz2 hz3 hz4 hs0 hs1 hsb0 hsb1 hcl hch0 hch1 htk hgn
  generalize w3.heap.size = pb at *
  go_upto_block 0 with fail
  go_cut [7, 8, 10, 11] from 12 to 211 (fun tv ov us x W => ∃ A T O, Oc A T O ∧ T.length + O.length ≤ 300 ∧ SzE A0 A ∧ OcW w sb w.heap.size pb b c d e f g A (pcs A T) O (pgA A) tv ov W)
  case first =>
    go_wp2_with fail
    go_loopw [7, 8, 10, 11] (fun tv ov us x W => ∃ A T O, ∃ i : Nat, x = .int .i64 i ∧ i ≤ n ∧ us = .int .i64 (A.np : Nat) ∧ Oc A T O ∧ T.length + O.length ≤ i ∧ i ≤ 300 ∧ SzE A0 A ∧ OcW w sb w.heap.size pb b c d e f g A (pcs A T) O (pgA A) tv ov W) (fun _ _ _ x _ => n - (intOf x).toNat)
    case atStart => exact ⟨A0, [], [], 0, rfl, by omega, by rw [hnp]; rfl, hO0, by simp, by omega, ⟨rfl, rfl, rfl, rfl⟩, hW0⟩
    case round =>
      clear hW0 hO0
      obtain ⟨A, T, O, i, rfl, hi, rfl, hO, hTO, hi3, hE, hW⟩ := hrel
      obtain ⟨a2, c2, hov, _, _, _, g2⟩ := row_shape hW.orow
      subst hov
      by_cases hx : i < n ∧ i < 300
      · obtain ⟨hlt, h3⟩ := hx
        have hd1 : decide ((i : Int) < n) = true := by simp; omega
        have hd2 : decide ((i : Int) < 300) = true := by simp; omega
        obtain ⟨b0, o0, rfl, dn, an, hop⟩ : ∃ b0 o0, a = some ⟨b0, o0, none⟩ ∧ ∃ dn an : Int, ∀ W, w.grownBy W none → W.cell? ⟨b0, o0 + i * 6, none⟩ = some (.int .i64 dn) ∧ W.cell? ⟨b0, o0 + i * 6 + 1, none⟩ = some (.int .i64 an) := by
          obtain ⟨b0, o0, rfl, dn, an, bn, HH, raw, vv, ⟨m0, m1, _⟩, _⟩ := hin i hlt
          exact ⟨b0, o0, rfl, dn, an, fun W hf => ⟨gb_cellN hf m0, gb_cellN hf m1⟩⟩
        obtain ⟨a1, c1, htv, _, _, _, g1⟩ := row_shape hW.trow
        rw [pcs_len] at htv
        subst htv
        clear hin
        have m0 := (hop _ hW.gr).1
        go_upto_region 13 with fail
        go_cut [85] from 75 to 85 (fun x W => x = .bool (decide (dn = 1 ∨ T.length = 0)) ∧ OcW w sb w.heap.size pb b c d e f g A (pcs A T) O (pgA A) (.slice a1 T.length c1) (.slice a2 O.length c2) W)
        case first =>
          by_cases e1 : dn = 1
          · have hb1 : (dn == 1) = true := by simp [e1]
            go_wp2_with fail
            go_meet
            exact ⟨by simp [e1], hW⟩
          · have hb1 : (dn == 1) = false := by simp [e1]
            by_cases e2 : T.length = 0
            · have hb2 : ((T.length : Int) == 0) = true := by simp [e2]
              go_wp2_with fail
              go_meet
              exact ⟨by simp [e1, e2], hW⟩
            · have hb2 : ((T.length : Int) == 0) = false := by simp; exact fun e => e2 (by rw [e]; rfl)
              go_wp2_with fail
              go_meet
              exact ⟨by simp [e1, e2], hW⟩
        case rest =>
          obtain ⟨rfl, hW2⟩ := hcut
          clear hW m0
          have hW := hW2
          clear hW2
          by_cases ht : dn = 1 ∨ T.length = 0
          · rw [show decide (dn = 1 ∨ T.length = 0) = true by simpa using ht]
            have hn1A : A.n = n1 + 1 := by rw [hE.n, hn1]
            obtain ⟨k, hk, -, hwi⟩ := within_nat an (n1 + 1) (by omega) (by omega)
            have hkA : k < A.n := by omega
            have hcl : ∀ {W : World}, OcW w sb w.heap.size pb b c d e f g A (pcs A T) O (pgA A) (.slice a1 T.length c1) (.slice a2 O.length c2) W → Calls Try.prog 18 #[.pointer (some ⟨sb, 0, none⟩)] W fun y W' => y = .returned (.int .i64 ((n1 : Int) + 1)) ∧ W = W' := fun h => by
              obtain ⟨F, B, zs, hS, _⟩ := h.set
              have := classes_20 hS hO.inv.toSzs
              rw [hn1A] at this
              exact this
            have hWd := hW.gb (gb_drew (gb_refl _ none))
            have m1 := (hop _ hW.gr).2
            have m1d := (hop _ hWd.gr).2
            go_upto_region 14 with fail
            go_cut [12] from 86 to 93 (fun x W => x = .int .i64 (k : Nat) ∧ OcW w sb w.heap.size pb b c d e f g A (pcs A T) O (pgA A) (.slice a1 T.length c1) (.slice a2 O.length c2) W)
            case first =>
              go_region_with (first | (go_at_call 18; go_must (refine (hcl hWd).mono ?_); rintro y w' ⟨rfl, rfl⟩) | (go_at_call 21; go_must (refine (hwi _).mono ?_); rintro y w' ⟨rfl, rfl⟩))
              all_goals
                go_wp2_with fail
                go_meet
                exact ⟨rfl, hWd⟩
            case rest =>
              obtain ⟨rfl, hW2⟩ := hcut
              clear hW hWd m1 m1d
              have hW := hW2
              clear hW2
              have hps := hE.ps
              have hch : ∀ {W : World}, OcW w sb w.heap.size pb b c d e f g A (pcs A T) O (pgA A) (.slice a1 T.length c1) (.slice a2 O.length c2) W → Calls Try.prog 19 #[.pointer (some ⟨sb, 0, none⟩), .int .i64 (k : Nat)] W fun y W' => y = .returned (.int .i64 (A.sz k : Nat)) ∧ OcW w sb w.heap.size pb b c d e f g A (pcs A T) O (pgA A) (.slice a1 T.length c1) (.slice a2 O.length c2) W' := fun h => h.tell (fun h => chunk_yes h hO.inv.toSzs k hkA)
              have hct : ∀ {W : World}, OcW w sb w.heap.size pb b c d e f g A (pcs A T) O (pgA A) (.slice a1 T.length c1) (.slice a2 O.length c2) W → Calls Try.prog 22 #[.slice a1 T.length c1, .int .i64 (A.sz k : Nat)] W fun y W' => y = .returned (.int .i64 (A.tk k : Nat)) ∧ OcW w sb w.heap.size pb b c d e f g A (pcs A T) O (pgA A) (.slice a1 T.length c1) (.slice a2 O.length c2) W' := fun h => h.count rfl hO (by omega) hkA
              have hp0 : ∀ {W : World}, OcW w sb w.heap.size pb b c d e f g A (pcs A T) O (pgA A) (.slice a1 T.length c1) (.slice a2 O.length c2) W → W.cell? ⟨pb, k, none⟩ = some (.int .i64 (A.pg k : Nat)) ∧ W.cell? ⟨w.heap.size, 0, none⟩ = some (.int .i64 (A.ps : Nat)) := fun h => ⟨(h.pag.cell k).trans (pgA_get A (by omega)), h.cfg.cell 0⟩
              have hfull := hO.full hkA
              have hbd : A.pg k * A.each k ≤ 16777216 := by
                have h1 := hO.inv.rl k hkA
                have h2 := hO.inv.fit.rt k hkA
                have h3 : A.pg k * A.each k = (A.row k).length + A.tk k := h1.symm
                omega
              have hea := (hO.inv.toSzs.each hkA)
              have hslo := hO.inv.lo k hkA
              have hshi := hO.inv.hi k hkA
              have hpsb := hO.inv.ps0
              have hdv : (A.ps : Int) / (A.sz k : Int) = (A.each k : Int) := by simp [Ab.each]
              have hdv2 : Int.tdiv (A.ps : Int) (A.sz k : Int) = (A.each k : Int) := by rw [Int.tdiv_eq_ediv_of_nonneg (by omega)]; exact hdv
              have hz1 : ((A.sz k : Int) == 0) = false := by simp; omega
              have hz2 : (A.sz k : Int) ≠ 0 := by omega
              have hz3 : ¬ A.sz k = 0 := by omega
              have hE0 : (0 : Int) ≤ (A.each k : Int) := by omega
              have hE1 : (A.each k : Int) ≤ 4611686018427387904 := by omega
              have hm0 : (0 : Int) ≤ (A.pg k : Int) * (A.each k : Int) := by rw [← Int.natCast_mul]; omega
              have hm1 : (A.pg k : Int) * (A.each k : Int) ≤ 4611686018427387904 := by rw [← Int.natCast_mul]; omega
              have hfb : (((A.tk k : Nat) : Int) == (A.pg k : Int) * (A.each k : Int)) = decide (A.row k = []) := by
                rw [← Int.natCast_mul]
                by_cases hr : A.row k = []
                · rw [decide_eq_true hr]; simp only [beq_iff_eq]; exact congrArg Int.ofNat (hfull.2 hr)
                · rw [decide_eq_false hr]
                  have : ¬ A.tk k = A.pg k * A.each k := fun e => hr (hfull.1 e)
                  simp only [beq_eq_false_iff_ne, ne_eq]
                  intro e; exact this (Int.ofNat.inj e)
              have hw1 : wrap64 (A.each k : Int) = (A.each k : Int) := ww _ hE0 hE1
              have hw2 : IntKind.i64.wrap (A.each k : Int) = (A.each k : Int) := wi _ hE0 hE1
              have hw3 : wrap64 ((A.pg k : Int) * (A.each k : Int)) = (A.pg k : Int) * (A.each k : Int) := ww _ hm0 hm1
              have hw4 : IntKind.i64.wrap ((A.pg k : Int) * (A.each k : Int)) = (A.pg k : Int) * (A.each k : Int) := wi _ hm0 hm1
              have hkb : k < 62 := by clear hw1 hw2 hw3 hw4; omega
              have hkz0 : (0 : Int) ≤ (k : Int) := by clear hw1 hw2 hw3 hw4; omega
              have hkz1 : (k : Int) < 62 := by clear hw1 hw2 hw3 hw4; omega
              have hkz2 : (k : Int) ≤ 62 := by clear hw1 hw2 hw3 hw4; omega
              have hWd := hW.gb (gb_drew (gb_refl _ none))
              go_upto_region 15 with fail
              go_cut [13] from 94 to 109 (fun x W => x = .bool (decide (A.row k = [])) ∧ OcW w sb w.heap.size pb b c d e f g A (pcs A T) O (pgA A) (.slice a1 T.length c1) (.slice a2 O.length c2) W)
              case first =>
                obtain ⟨e0, e1⟩ := hp0 hWd
                generalize A.tk k = TK at *
                generalize A.pg k = PG at *
                generalize A.each k = EA at *
                generalize hSZ : A.sz k = SZ at *
                go_region_held3 (fun w' => w'.cell? ⟨pb, k, none⟩ = some (.int .i64 (PG : Nat)) ∧ w'.cell? ⟨w.heap.size, 0, none⟩ = some (.int .i64 (A.ps : Nat))) ((first | exact (hp0 (by assumption)) | exact (hp0 (by assumption)).1 | exact (hp0 (by assumption)).2 | go_keep)) ((first | (go_at_call 19; refine (hch (by assumption)).mono ?_; rintro _ _ ⟨rfl, _⟩) | (go_at_call 22; refine (hct (by assumption)).mono ?_; rintro _ _ ⟨rfl, _⟩)))
                all_goals
                  go_wp2_with fail
                  go_meet
                  exact ⟨by first | rfl | rw [← hps, hdv, hw2, hw4, hfb], by assumption⟩
              case rest =>
                obtain ⟨rfl, hW2⟩ := hcut
                clear hW hWd hfb hw1 hw2 hw3 hw4 hE0 hE1 hm0 hm1 hdv hdv2 hz1 hz2 hz3 hct hch hcl hfull hbd hea hwi
                have hW := hW2
                clear hW2
                have hbm : b = (A.m : Nat) := by obtain ⟨F, B, zs, hS, _⟩ := hW.set; exact hS.bm
                have hmm := hO.inv.mm
                have hnm := hO.inv.nm
                have hc1 : ∀ {A' : Ab} {L : List (Nat × Nat × Nat)} {tv : Value} {W : World}, OcW w sb w.heap.size pb b c d e f g A' L O (pgA A) tv (.slice a2 O.length c2) W → W.cell? ⟨w.heap.size, 1, none⟩ = some (.int .i64 b) := fun h => h.cfg.cell 1
                rcases oc_take_all hO hkA with ⟨hr, hm, hT⟩ | ⟨A', p, q, hT, hO', hL', hL, how, hE', hnf, hpg, hnp'⟩
                · have htk := hW.take rfl hT
                  rw [decide_eq_true hr]
                  have hq1 : ((A.np : Int) == b) = true := by rw [hbm, hm]; simp
                  have HO : Hid (Oc A T O ∧ SzE A0 A) := ⟨hO, hE⟩
                  clear hE hO hT hr hp0 hop hbm hm hmm hnm hps
                  go_wp2_with (first | (go_at_call 23; go_must (refine htk.mono ?_); rintro y w5 ⟨rfl, hW5⟩; (have z1 := hc1 hW5)) | (go_at_call 13; go_must (refine (num_any2 _ _).mono ?_); rintro y w' ⟨rfl, rfl⟩) | fail)
                  go_roundw
                  case rel => exact ⟨A, T, O, i + 1, by go_num, by omega, rfl, HO.out.1, by omega, by omega, HO.out.2, hW5⟩
                  case measure => simp [intOf]; omega
                · have htk := hW.take hE'.ps hT
                  have hfit : ∀ {W : World}, OcW w sb w.heap.size pb b c d e f g A' (pcs A T) O (pgA A) (.slice a1 T.length c1) (.slice a2 O.length c2) W → Calls Try.prog 24 #[.pointer (some ⟨sb, 0, none⟩), .int .i64 (k : Nat), .int .u64 (A'.hdl p q : Nat), .slice a1 T.length c1, .slice a2 O.length c2] W fun y W' => y = .returned (.tuple #[.agg #[.int .u64 (A'.hdl p q : Nat), .int .i64 (A'.place p q : Nat), .int .i64 ((A'.place p q : Int) + A'.sz k)], .bool true]) ∧ OcW w sb w.heap.size pb b c d e f g A' (pcs A T) O (pgA A) (.slice a1 T.length c1) (.slice a2 O.length c2) W' := fun h => by
                    have := h.fits hL.symm hO' (by omega)
                    rw [how] at this
                    exact this
                  by_cases hr : A.row k = []
                  · skip
                    have hnpm : A.np ≠ A.m := fun e => hnf ⟨hr, e⟩
                    have hq1 : ((A.np : Int) == b) = false := by rw [hbm]; simp; omega
                    have hpg1 : ∀ j, A'.pg j = A.pg j + if j = k then 1 else 0 := fun j => by rw [hpg]; simp [hr]
                    have hnp1 : A'.np = A.np + 1 := by rw [hnp', if_pos hr]
                    have hpgb : A.pg k ≤ A.np := Nat.le_trans List.countP_le_length (by simp)
                    have hpgc : A.np ≤ 1024 := by omega
                    rw [decide_eq_true hr]
                    clear hpg hnp' hnf hr hT hop hnm hmm hps hshi hpsb hslo hp0 hbm
                    have HO : Hid (Oc A' (T ++ [(p, q)]) O ∧ SzE A0 A' ∧ pcs A' (T ++ [(p, q)]) = pcs A T ++ [pc A' (p, q)] ∧ pcs A' T = pcs A T) := ⟨hO', hE.trans hE', hL', hL⟩
                    clear hO' hE' hE hL' hL hO
                    go_upto_region 23 with (first | (go_at_call 23; go_must (refine htk.mono ?_); rintro y w5 ⟨rfl, hW5⟩; (have z1 := hc1 hW5)) | (go_at_call 24; go_must (refine (hfit hW5).mono ?_); rintro y w6 ⟨rfl, hW6⟩) | (go_at_call 13; go_must (refine (num_any2 _ _).mono ?_); rintro y w' ⟨rfl, rfl⟩))
                    have hW7 := hW6.gb (World.grownBy_alloc w6 (.cells #[.int .u64 (A'.hdl p q : Nat), .int .i64 (A'.place p q : Nat), .int .i64 ((A'.place p q : Int) + A'.sz k)] 63) none)
                    have hB7 := Box.new w6 63 #[.int .u64 (A'.hdl p q : Nat), .int .i64 (A'.place p q : Nat), .int .i64 ((A'.place p q : Int) + A'.sz k)]
                    have hne : w6.heap.size ≠ pb := by have := hW6.pag.lt; omega
                    clear hW5 hW6 hW htk hfit z1
                    generalize w6.alloc (.cells #[.int .u64 (A'.hdl p q : Nat), .int .i64 (A'.place p q : Nat), .int .i64 ((A'.place p q : Int) + A'.sz k)] 63) = w7 at *
                    generalize w6.heap.size = sx at *
                    have hpc := (hW7.pag.cell k).trans (pgA_get A hkb)
                    have hpf := hW7.pag.fz k
                    go_upto_region 26 with fail
                    have hW8 := hW7.page k (.int .i64 ((A.pg k : Int) + 1))
                    have hB8 := hB7.kept (gb_setCell (gb_refl w7 _) (.int .i64 ((A.pg k : Int) + 1)) : w7.grownBy (w7.setCell ⟨pb, k, none⟩ (.int .i64 ((A.pg k : Int) + 1))) (some pb)) (fun e => hne (Option.some.inj e))
                    rw [show (Value.int .i64 ((A.pg k : Int) + 1)) = .int .i64 ((A.pg k + 1 : Nat) : Int) by simp, pgA_set hpg1, ← show (Value.int .i64 ((A.pg k : Int) + 1)) = .int .i64 ((A.pg k + 1 : Nat) : Int) by simp] at hW8
                    clear hW7 hB7 hpc hpf
                    generalize w7.setCell ⟨pb, k, none⟩ (.int .i64 ((A.pg k : Int) + 1)) = w8 at *
                    have x0 := hB8.cell 0
                    have x1 := hB8.cell 1
                    have x2 := hB8.cell 2
                    simp at x0 x1 x2
                    have hrow := hW8.trow
                    rw [pcs_len] at hrow
                    obtain ⟨ti, T54⟩ := ty54
                    go_wp2_with (first | (at_builtin; go_must (refine pushG T54 rfl _ _ rfl (.slice a1 T.length c1) T.length (pcL (pcs A T)) (by rfl) hrow [.int .u64 (A'.hdl p q : Nat), .int .i64 (A'.place p q : Nat), .int .i64 ((A'.place p q : Int) + A'.sz k)] rfl (by simp [Value.oneCell']) (by rfl) (by omega) ?_); intro v9 w9 hr9 hp9) | fail)
                    have hLq : pcL (pcs A' (T ++ [(p, q)])) = pcL (pcs A T) ++ [.int .u64 (A'.hdl p q : Nat), .int .i64 (A'.place p q : Nat), .int .i64 ((A'.place p q : Int) + A'.sz k)] := by
                      rw [HO.out.2.2.1, pcL_append]
                      simp only [pcc, pc, how, Int.natCast_add]
                    have hr10 : w9.ownsRow 0 63 3 v9 (pcs A' (T ++ [(p, q)])).length (pcL (pcs A' (T ++ [(p, q)]))) := by
                      rw [pcs_len, hLq, List.length_append]
                      exact hr9
                    have hW10 := hW8.rowT hr10 hp9.gb (fun _ hk => hp9.at' hk)
                    go_roundw
                    case rel => exact ⟨A', T ++ [(p, q)], O, i + 1, by go_num, by omega, by first | (rw [hnp1]; done) | (rw [hnp1]; rfl) | (rw [hnp1]; go_num), HO.out.1, by rw [List.length_append, List.length_singleton]; omega, by omega, HO.out.2.1, hW10⟩
                    case measure => simp [intOf]; omega
                  · skip
                    have hpg1 : pgA A' = pgA A := by unfold pgA; simp only [hpg, hr, false_and, if_false, Nat.add_zero]
                    have hnp1 : A'.np = A.np := by rw [hnp', if_neg hr]; rfl
                    rw [decide_eq_false hr]
                    clear hpg hnp' hnf hr hT hop hnm hmm hps hshi hpsb hslo hp0 hbm
                    have HO : Hid (Oc A' (T ++ [(p, q)]) O ∧ SzE A0 A' ∧ pcs A' (T ++ [(p, q)]) = pcs A T ++ [pc A' (p, q)] ∧ pcs A' T = pcs A T) := ⟨hO', hE.trans hE', hL', hL⟩
                    clear hO' hE' hE hL' hL hO
                    go_upto_region 23 with (first | (go_at_call 23; go_must (refine htk.mono ?_); rintro y w5 ⟨rfl, hW5⟩; (have z1 := hc1 hW5)) | (go_at_call 24; go_must (refine (hfit hW5).mono ?_); rintro y w6 ⟨rfl, hW6⟩) | (go_at_call 13; go_must (refine (num_any2 _ _).mono ?_); rintro y w' ⟨rfl, rfl⟩))
                    have hW7 := hW6.gb (World.grownBy_alloc w6 (.cells #[.int .u64 (A'.hdl p q : Nat), .int .i64 (A'.place p q : Nat), .int .i64 ((A'.place p q : Int) + A'.sz k)] 63) none)
                    have hB7 := Box.new w6 63 #[.int .u64 (A'.hdl p q : Nat), .int .i64 (A'.place p q : Nat), .int .i64 ((A'.place p q : Int) + A'.sz k)]
                    have hne : w6.heap.size ≠ pb := by have := hW6.pag.lt; omega
                    clear hW5 hW6 hW htk hfit z1
                    generalize w6.alloc (.cells #[.int .u64 (A'.hdl p q : Nat), .int .i64 (A'.place p q : Nat), .int .i64 ((A'.place p q : Int) + A'.sz k)] 63) = w7 at *
                    generalize w6.heap.size = sx at *
                    go_upto_region 26 with fail
                    have hW8 := hW7
                    rw [← hpg1] at hW8
                    have hB8 := hB7
                    clear hW7 hB7
                    have x0 := hB8.cell 0
                    have x1 := hB8.cell 1
                    have x2 := hB8.cell 2
                    simp at x0 x1 x2
                    have hrow := hW8.trow
                    rw [pcs_len] at hrow
                    obtain ⟨ti, T54⟩ := ty54
                    go_wp2_with (first | (at_builtin; go_must (refine pushG T54 rfl _ _ rfl (.slice a1 T.length c1) T.length (pcL (pcs A T)) (by rfl) hrow [.int .u64 (A'.hdl p q : Nat), .int .i64 (A'.place p q : Nat), .int .i64 ((A'.place p q : Int) + A'.sz k)] rfl (by simp [Value.oneCell']) (by rfl) (by omega) ?_); intro v9 w9 hr9 hp9) | fail)
                    have hLq : pcL (pcs A' (T ++ [(p, q)])) = pcL (pcs A T) ++ [.int .u64 (A'.hdl p q : Nat), .int .i64 (A'.place p q : Nat), .int .i64 ((A'.place p q : Int) + A'.sz k)] := by
                      rw [HO.out.2.2.1, pcL_append]
                      simp only [pcc, pc, how, Int.natCast_add]
                    have hr10 : w9.ownsRow 0 63 3 v9 (pcs A' (T ++ [(p, q)])).length (pcL (pcs A' (T ++ [(p, q)]))) := by
                      rw [pcs_len, hLq, List.length_append]
                      exact hr9
                    have hW10 := hW8.rowT hr10 hp9.gb (fun _ hk => hp9.at' hk)
                    go_roundw
                    case rel => exact ⟨A', T ++ [(p, q)], O, i + 1, by go_num, by omega, by first | (rw [hnp1]; done) | (rw [hnp1]; rfl) | (rw [hnp1]; go_num), HO.out.1, by rw [List.length_append, List.length_singleton]; omega, by omega, HO.out.2.1, hW10⟩
                    case measure => simp [intOf]; omega
          · rw [show decide (dn = 1 ∨ T.length = 0) = false by simpa using ht]
            have hT0 : 0 < T.length := by rcases Nat.eq_zero_or_pos T.length with h | h; exact absurd (.inr h) ht; exact h
            obtain ⟨j, hj, -, hwi⟩ := within_nat an T.length (by omega) (by omega)
            obtain ⟨A', H, h64, hHd, hG1, hG2, hno, hO', hL', hE', hpg', hnp'⟩ := oc_give_all hO (by omega) hj
            obtain ⟨b1, rfl⟩ := g1 (by rw [pcs_len]; omega)
            have hrow := hW.trow
            rw [pcs_len] at hrow
            have hk0 : ∀ {W : World}, OcW w sb w.heap.size pb b c d e f g A (pcs A T) O (pgA A) (.slice (some ⟨b1, 0, none⟩) T.length c1) (.slice a2 O.length c2) W → W.cell? ⟨b1, j * 3, none⟩ = some (.int .u64 (H : Nat)) := fun h => by
              have hr := h.trow
              rw [← pcs_len A T] at hr
              have := (row3 hr (i := j) (by rw [pcs_len]; exact hj)).1
              rw [hHd] at this
              exact this
            have k0 := hk0 hW
            clear hk0
            have m1 := (hop _ hW.gr).2
            have hO300 : O.length ≤ 300 := by omega
            have hXX : Hid (Oc A' (T.eraseIdx j) (O ++ [H]) ∧ pcs A' (T.eraseIdx j) = (pcs A T).eraseIdx j ∧ SzE A0 A' ∧ A'.ps = A.ps ∧ GiveC A A' H 0 ∧ GiveC A' A' H 20 ∧ (∀ p k, ¬ IsH A' H p k) ∧ pgA A' = pgA A ∧ A'.np = A.np) := ⟨hO', hL', hE.trans hE', hE'.ps, hG1, hG2, hno, by unfold pgA; simp only [hpg'], hnp'⟩
            have hjz0 : (0 : Int) ≤ (j : Int) := by omega
            have hjz1 : (j : Int) < T.length := by omega
            have hjz2 : (j : Int) ≤ T.length := by omega
            have hjz3 : (j : Int) + 1 ≤ T.length := by omega
            have hcz : (T.length : Int) ≤ c1 := by have := (row_shape hrow); obtain ⟨_, _, e, _, h5, _⟩ := this; cases e; omega
            have hjz4 : (j : Int) ≤ c1 := by omega
            have hjz5 : (j : Int) + 1 ≤ c1 := by omega
            have hjw : IntKind.i64.wrap ((j : Int) + 1) = (j : Int) + 1 := wi _ (by omega) (by omega)
            clear hO' hL' hE' hG1 hG2 hno hpg' hnp' hHd hO hE hop ht g1 g2
            go_upto_region 29 with (go_at_call 21; go_must (refine (hwi _).mono ?_); rintro y w' ⟨rfl, rfl⟩)
            go_cut [7] from 172 to 181 (fun v W => OcW w sb w.heap.size pb b c d e f g A ((pcs A T).eraseIdx j) O (pgA A) v (.slice a2 O.length c2) W)
            case first =>
              obtain ⟨X, hX⟩ : ∃ X, X = wc := ⟨_, rfl⟩
              rw [← hX] at hW hrow k0 m1 ⊢
              clear hX k0 m1 hwi hXX h64 hO300 hwk
              obtain ⟨ti, T54⟩ := ty54
              have hlL : (pcs A T).length = T.length := pcs_len A T
              have hE0 : ∀ W' : World, W'.heap[X.heap.size]? = some (.cells #[] 63 (0, 0)) → W'.ownsRow 0 63 3 (.slice (some ⟨X.heap.size, 0, none⟩) 0 0) 0 [] := fun W' h => ⟨rfl, .inr ⟨X.heap.size, 0, #[], rfl, Nat.zero_le _, h, Nat.le_refl _, by unfold maxLen; omega, by simp, by simp⟩⟩
              have hcell : ∀ W' : World, X.grownBy W' none → ∀ o u, (pcL (pcs A T))[o]? = some u → W'.cell? ⟨b1, o, none⟩ = some u := fun W' hf o u hu => gb_cellN hf (row_cell hrow o u hu)
              have hc1 : ∀ W' : World, X.grownBy W' none → ∀ o u, (pcL ((pcs A T).take j))[o]? = some u → W'.cell? ((⟨b1, 0, none⟩ : Addr).add o) = some u := fun W' hf o u hu => by
                rw [Addr.add_mid, Nat.zero_add]
                refine hcell W' hf o u ?_
                rw [pcL_take] at hu
                rw [List.getElem?_take] at hu
                split at hu
                · exact hu
                · exact absurd hu (by simp)
              have hc2 : ∀ W' : World, X.grownBy W' none → ∀ o u, (pcL ((pcs A T).drop (j + 1)))[o]? = some u → W'.cell? ((⟨b1, (j + 1) * 3, none⟩ : Addr).add o) = some u := fun W' hf o u hu => by
                rw [Addr.add_mid]
                refine hcell W' hf _ u ?_
                rw [pcL_drop, List.getElem?_drop] at hu
                exact hu
              have hl1 : (pcL ((pcs A T).take j)).length = j * 3 := by rw [pcL_len, List.length_take, hlL]; congr 1; omega
              have hl2 : (pcL ((pcs A T).drop (j + 1))).length = (T.length - (j + 1)) * 3 := by rw [pcL_len, List.length_drop, hlL]
              have hjz6 : (0 : Int) ≤ (j : Int) + 1 := by omega
              have hc3 : ∀ W' : World, X.grownBy W' none → ∀ o u, (pcL ((pcs A T).drop (j + 1)))[o]? = some u → W'.cell? ((if c1 = j + 1 then (⟨b1, 0, none⟩ : Addr) else ⟨b1, (j + 1) * 3, none⟩).add o) = some u := fun W' hf o u hu => by
                by_cases hcj : c1 = j + 1
                · have h0 : (pcL ((pcs A T).drop (j + 1))).length = 0 := by rw [hl2]; omega
                  rw [List.length_eq_zero_iff.1 h0] at hu
                  simp at hu
                · rw [if_neg hcj]; exact hc2 W' hf o u hu
              have hbig : 1 * (T.length - (j + 1)) ≤ 1000 := by omega
              have hbig2 : j + (T.length - (j + 1)) ≤ 1000000000 := by omega
              have hbig3 : 0 + j ≤ 1000000000 := by omega
              have hW0s : w.heap.size ≤ X.heap.size := hW.gr.size
              have HH : Hid (OcW w sb w.heap.size pb b c d e f g A (pcs A T) O (pgA A) (.slice (some ⟨b1, 0, none⟩) T.length c1) (.slice a2 O.length c2) X) := hW
              clear hW hc2
              by_cases hcj : c1 = j + 1
              · subst hcj
                simp only [if_true] at hc3
                have hjz7 : (j : Int) ≤ (j : Int) + 1 := by omega
                have hjz8 : (T.length : Int) ≤ (j : Int) + 1 := by omega
                go_region_law ((first
                  | (refine step_cat T54 (by rfl) (.tmp 172) (.tmp 175) (by rfl) (.slice (some ⟨X.heap.size, 0, none⟩) 0 0) 0 [] (by rfl) (hE0 _ (by first | exact heap_alloc_new X _ | exact heap_alloc_new X.drew _)) ⟨b1, 0, none⟩ j (j + 1) (pcL ((pcs A T).take j)) (by rfl) hl1 (hc1 _ (by first | exact gb_drew (gb_alloc (gb_refl _ _) _) | exact gb_alloc (gb_drew (gb_refl _ _)) _ | exact gb_alloc (gb_refl _ _) _)) (pcL_one _) (by omega) ?_; intro v1 w5 ho5 hg5 hn5; have hX5 : X.grownBy w5 none := gb_mine (g := X.heap.size) (by first | exact gb_drew (gb_alloc (gb_refl _ _) _) | exact gb_alloc (gb_drew (gb_refl _ _)) _ | exact gb_alloc (gb_refl _ _) _) hg5 (Nat.le_refl _); have hat5 : ∀ k, v1.ownBlock = some k → X.heap.size ≤ k := fun k hk => (by rcases hn5 k hk with e | e; (simp [Value.ownBlock] at e; omega); exact Nat.le_trans (World.grownBy.size (row := none) (by first | exact gb_drew (gb_alloc (gb_refl _ _) _) | exact gb_alloc (gb_drew (gb_refl _ _)) _ | exact gb_alloc (gb_refl _ _) _)) e); have hr5 : w5.ownsRow 0 63 3 v1 j (pcL ((pcs A T).take j)) := (by simpa using ho5); clear ho5 hg5 hn5)
                  | (refine step_cat T54 (by rfl) (.tmp 176) (.tmp 180) (by rfl) v1 j (pcL ((pcs A T).take j)) (by rfl) (show World.ownsRow _ 0 63 3 _ _ _ from hr5) ⟨b1, 0, none⟩ (T.length - (j + 1)) 0 (pcL ((pcs A T).drop (j + 1))) (by rfl) hl2 (hc3 _ (by first | exact hX5 | exact gb_drew hX5 | exact gb_alloc hX5 _)) (pcL_one _) hbig2 ?_; intro v2 w6 ho6 hg6 hn6)))
                all_goals
                  go_wp2_with fail
                  go_meet
                  refine HH.out.rowT (L' := (pcs A T).eraseIdx j) ?_ ?_ ?_
                  · rw [pcL_erase, show ((pcs A T).eraseIdx j).length = j + (T.length - (j + 1)) by rw [List.length_eraseIdx, hlL]; split <;> omega]
                    exact ho6
                  · refine gb_none _ ?_
                    cases hb : v1.ownBlock with
                    | none => rw [hb] at hg6; exact gb_trans (by first | exact hX5 | exact gb_drew hX5) hg6
                    | some q => rw [hb] at hg6; exact gb_mine (by first | exact hX5 | exact gb_drew hX5) hg6 (hat5 q hb)
                  · intro k hk
                    rcases hn6 k hk with e | e
                    · exact .inr (hat5 k e)
                    · exact .inr (Nat.le_trans hX5.size e)
              · simp only [if_neg hcj] at hc3
                go_region_law ((first
                  | (refine step_cat T54 (by rfl) (.tmp 172) (.tmp 175) (by rfl) (.slice (some ⟨X.heap.size, 0, none⟩) 0 0) 0 [] (by rfl) (hE0 _ (by first | exact heap_alloc_new X _ | exact heap_alloc_new X.drew _)) ⟨b1, 0, none⟩ j c1 (pcL ((pcs A T).take j)) (by rfl) hl1 (hc1 _ (by first | exact gb_drew (gb_alloc (gb_refl _ _) _) | exact gb_alloc (gb_drew (gb_refl _ _)) _ | exact gb_alloc (gb_refl _ _) _)) (pcL_one _) (by omega) ?_; intro v1 w5 ho5 hg5 hn5; have hX5 : X.grownBy w5 none := gb_mine (g := X.heap.size) (by first | exact gb_drew (gb_alloc (gb_refl _ _) _) | exact gb_alloc (gb_drew (gb_refl _ _)) _ | exact gb_alloc (gb_refl _ _) _) hg5 (Nat.le_refl _); have hat5 : ∀ k, v1.ownBlock = some k → X.heap.size ≤ k := fun k hk => (by rcases hn5 k hk with e | e; (simp [Value.ownBlock] at e; omega); exact Nat.le_trans (World.grownBy.size (row := none) (by first | exact gb_drew (gb_alloc (gb_refl _ _) _) | exact gb_alloc (gb_drew (gb_refl _ _)) _ | exact gb_alloc (gb_refl _ _) _)) e); have hr5 : w5.ownsRow 0 63 3 v1 j (pcL ((pcs A T).take j)) := (by simpa using ho5); clear ho5 hg5 hn5)
                  | (refine step_cat T54 (by rfl) (.tmp 176) (.tmp 180) (by rfl) v1 j (pcL ((pcs A T).take j)) (by rfl) (show World.ownsRow _ 0 63 3 _ _ _ from hr5) ⟨b1, (j + 1) * 3, none⟩ (T.length - (j + 1)) (c1 - (j + 1)) (pcL ((pcs A T).drop (j + 1))) (by rfl) hl2 (hc3 _ (by first | exact hX5 | exact gb_drew hX5 | exact gb_alloc hX5 _)) (pcL_one _) hbig2 ?_; intro v2 w6 ho6 hg6 hn6)))
                all_goals
                  go_wp2_with fail
                  go_meet
                  refine HH.out.rowT (L' := (pcs A T).eraseIdx j) ?_ ?_ ?_
                  · rw [pcL_erase, show ((pcs A T).eraseIdx j).length = j + (T.length - (j + 1)) by rw [List.length_eraseIdx, hlL]; split <;> omega]
                    exact ho6
                  · refine gb_none _ ?_
                    cases hb : v1.ownBlock with
                    | none => rw [hb] at hg6; exact gb_trans (by first | exact hX5 | exact gb_drew hX5) hg6
                    | some q => rw [hb] at hg6; exact gb_mine (by first | exact hX5 | exact gb_drew hX5) hg6 (hat5 q hb)
                  · intro k hk
                    rcases hn6 k hk with e | e
                    · exact .inr (hat5 k e)
                    · exact .inr (Nat.le_trans hX5.size e)
            case rest =>
              have hW2 := hcut
              clear hcut hW hrow k0 m1
              have horow := hW2.orow
              obtain ⟨ti5, T55⟩ := ty55
              have hpsA : A'.ps = A.ps := hXX.out.2.2.2.1
              have hTl : (T.eraseIdx j).length + (O ++ [H]).length ≤ i + 1 := by
                rw [List.length_eraseIdx, if_pos hj, List.length_append, List.length_singleton]
                omega
              clear hjz0 hjz1 hjz2 hjz3 hjz4 hjz5 hjw hcz
              go_upto_region 31 with (at_builtin; go_must (refine pushG T55 rfl _ _ rfl (.slice a2 O.length c2) O.length (hdls O) (by rfl) horow [.int .u64 (H : Nat)] rfl (by simp [Value.oneCell']) (by rfl) (by omega) ?_); intro v9 w9 hr9 hp9)
              have hr10 : w9.ownsRow 0 59 1 v9 (O ++ [H]).length (hdls (O ++ [H])) := by
                rw [List.length_append]
                unfold hdls at hr9 ⊢
                rw [List.map_append]
                exact hr9
              have hW3 := hW2.rowO hr10 hp9.gb (fun _ hk => hp9.at' hk)
              clear hW2 horow hr9 hp9 hr10 T55
              have hA1 := hW3.give hpsA hXX.out.2.2.2.2.1
              have HT : Hid (hTl = hTl ∧ A'.ps = A.ps) := ⟨rfl, hpsA⟩
              have HL : Hid ((T.eraseIdx j).length + (O ++ [H]).length ≤ i + 1) := hTl
              clear HT hTl hpsA hW3 hn hn1 hn2 hI hnp hj hT0
              have HA : Hid (Calls Try.prog 25 #[.pointer (some ⟨sb, 0, none⟩), .int .u64 (H : Nat)] w9 _) := hA1
              clear hA1
              go_upto_region 32 with (go_at_call 25; refine HA.out.mono ?_; rintro y w10 ⟨rfl, hW4⟩)
              clear HA
              have hA2 := hW4.give (A' := A') rfl hXX.out.2.2.2.2.2.1
              have HA : Hid (Calls Try.prog 25 #[.pointer (some ⟨sb, 0, none⟩), .int .u64 (H : Nat)] w10 _) := hA2
              clear hA2 hW4
              go_upto_region 33 with (go_at_call 25; refine HA.out.mono ?_; rintro y w11 ⟨rfl, hW5⟩)
              clear HA
              have hA3 := hW5.tell (fun h => at_no h hXX.out.1.inv.fit h64 hXX.out.2.2.2.2.2.2.1)
              have HA : Hid (Calls Try.prog 26 #[.pointer (some ⟨sb, 0, none⟩), .int .u64 (H : Nat)] w11 _) := hA3
              clear hA3 hW5
              go_upto_region 34 with (go_at_call 26; refine HA.out.mono ?_; rintro y w12 ⟨rfl, hW6⟩)
              clear HA
              have H6 : Hid (OcW w sb w.heap.size pb b c d e f g A' ((pcs A T).eraseIdx j) (O ++ [H]) (pgA A) _ v9 w12) := hW6
              clear hW6
              go_wp2_with (first | (go_at_call 13; go_must (refine (num_any2 _ _).mono ?_); rintro y w' ⟨rfl, rfl⟩) | fail)
              have hW7 := H6.out
              rw [← hXX.out.2.1, ← hXX.out.2.2.2.2.2.2.2.1] at hW7
              go_roundw
              case rel => exact ⟨A', T.eraseIdx j, O ++ [H], i + 1, by go_num, by omega, by rw [hXX.out.2.2.2.2.2.2.2.2], hXX.out.1, HL.out, by omega, hXX.out.2.2.1, hW7⟩
              case measure => simp [intOf]; omega
      · by_cases hlt : i < n
        · have h3 : ¬ i < 300 := fun e => hx ⟨hlt, e⟩
          have hd1 : decide ((i : Int) < n) = true := by simp; omega
          have hd2 : decide ((i : Int) < 300) = false := by simp; omega
          go_wp2_with fail
          go_meet
          exact ⟨A, T, O, hO, by omega, hE, hW⟩
        · have hd1 : decide ((i : Int) < n) = false := by simp; omega
          go_wp2_with fail
          go_meet
          exact ⟨A, T, O, hO, by omega, hE, hW⟩
  case rest =>
    obtain ⟨A, T, O, hO, hTO, hE, hW⟩ := hcut
    clear hW0 hO0 hin
    obtain ⟨a2, c2, rfl, _, _, _, g2⟩ := row_shape hW.orow
    obtain ⟨a1, c1, htv, _, _, _, g1⟩ := row_shape hW.trow
    rw [pcs_len] at htv
    subst htv
    go_wp2_with fail
    go_loopw [25] (fun x W => ∃ j : Nat, j ≤ O.length ∧ x = .int .i64 j ∧ OcW w sb w.heap.size pb b c d e f g A (pcs A T) O (pgA A) (.slice a1 T.length c1) (.slice a2 O.length c2) W) (fun x _ => O.length - (intOf x).toNat)
    case atStart => exact ⟨0, by omega, rfl, hW⟩
    case round =>
      clear hW
      obtain ⟨j, hj, rfl, hW⟩ := hrel
      by_cases hlt : j < O.length
      · obtain ⟨b2, rfl⟩ := g2 (by omega)
        have k0 := row_cell hW.orow j (.int .u64 ((O.getD j 0 : Nat) : Int)) (by simp [hdls, List.getD_eq_getElem?_getD, List.getElem?_eq_getElem hlt])
        have hmem : O.getD j 0 ∈ O := by
          rw [List.getD_eq_getElem?_getD, List.getElem?_eq_getElem hlt]
          exact List.getElem_mem hlt
        obtain ⟨q1, q2⟩ := hO.old hmem
        have hat := hW.tell (fun h => at_no h hO.inv.fit q1 q2)
        generalize O.getD j 0 = oh at *
        have hd : decide ((j : Int) < O.length) = true := by simp; omega
        have hd2 : decide (j < O.length) = true := by simp; omega
        clear hI hE hO g1 g2 hmem q1 q2 hW hwk
        go_wp2_with (first | (go_at_call 26; go_must (refine hat.mono ?_); rintro y w5 ⟨rfl, hW5⟩) | (go_at_call 13; go_must (refine (num_any2 _ _).mono ?_); rintro y w' ⟨rfl, rfl⟩) | fail)
        go_roundw
        case rel => exact ⟨j + 1, by omega, by go_num, hW5⟩
        case measure => simp [intOf]; omega
      · have hd : decide ((j : Int) < O.length) = false := by simp; omega
        have hd2 : decide (j < O.length) = false := by simp; omega
        clear hlt
        go_wp2_with fail
        go_loopw [29] (fun x W => ∃ j : Nat, j ≤ T.length ∧ x = .int .i64 j ∧ OcW w sb w.heap.size pb b c d e f g A (pcs A T) O (pgA A) (.slice a1 T.length c1) (.slice a2 O.length c2) W) (fun x _ => T.length - (intOf x).toNat)
        case atStart => exact ⟨0, by omega, rfl, hW⟩
        case round =>
          clear hW hd hd2
          obtain ⟨l, hl, rfl, hW⟩ := hrel
          by_cases hlt : l < T.length
          · obtain ⟨b1, rfl⟩ := g1 (by rw [pcs_len]; omega)
            have e0 : (pcs A T).getD l (0, 0, 0) = pc A T[l] := by
              rw [List.getD_eq_getElem?_getD, pcs, List.getElem?_map, List.getElem?_eq_getElem hlt]; rfl
            have hk : ∀ W', OcW w sb w.heap.size pb b c d e f g A (pcs A T) O (pgA A) (.slice (some ⟨b1, 0, none⟩) T.length c1) (.slice a2 O.length c2) W' → W'.cell? ⟨b1, l * 3, none⟩ = some (.int .u64 (A.hdl T[l].1 T[l].2 : Nat)) ∧ W'.cell? ⟨b1, l * 3 + 1, none⟩ = some (.int .i64 (A.place T[l].1 T[l].2 : Nat)) := fun W' hW' => by
              have hr := hW'.trow
              rw [← pcs_len A T] at hr
              obtain ⟨k0, k1, _⟩ := row3 hr (i := l) (by rw [pcs_len]; exact hlt)
              rw [e0] at k0 k1
              exact ⟨k0, k1⟩
            obtain ⟨k0, _⟩ := hk _ hW
            have hat := hW.tell (fun h => at_yes h hO.inv.fit (hO.ish (List.getElem_mem hlt)))
            have hpl : A.place T[l].1 T[l].2 ≤ 1073741824 := (place_le hO.inv.fit.toFit1 (hO.tk _ (List.getElem_mem hlt)).1 (hO.tk _ (List.getElem_mem hlt)).2.1).1
            generalize A.hdl T[l].1 T[l].2 = H at *
            generalize A.place T[l].1 T[l].2 = pl at *
            generalize A.own T[l].1 = ow at *
            have hd : decide ((l : Int) < T.length) = true := by simp; omega
            have hd2 : decide (l < T.length) = true := by simp; omega
            have hne : ((pl : Int) != (pl : Int)) = false := by simp
            clear hI hE hO g1 g2 e0 hwk hW
            go_wp2_with (first | (go_at_call 26; go_must (refine hat.mono ?_); rintro y w5 ⟨rfl, hW5⟩; (have k1 := (hk _ hW5).2)) | (go_at_call 13; go_must (refine (num_any2 _ _).mono ?_); rintro y w' ⟨rfl, rfl⟩) | fail)
            go_roundw
            case rel => exact ⟨l + 1, by omega, by go_num, hW5⟩
            case measure => simp [intOf]; omega
          · have hd : decide ((l : Int) < T.length) = false := by simp; omega
            have hd2 : decide (l < T.length) = false := by simp; omega
            have had := hW.adds rfl hO (by omega)
            have z0 := hW.cfg.cell 0
            have z1 := hW.cfg.cell 1
            have z2 := hW.cfg.cell 2
            have z3 := hW.cfg.cell 3
            have z4 := hW.cfg.cell 4
            have z5 := hW.cfg.cell 5
            have z6 := hW.cfg.cell 6
            simp [cfgA] at z0 z1 z2 z3 z4 z5 z6
            unfold cfgV at had
            have hgr := hW.gr
            clear hI hE hO g1 g2 hW
            go_wp2_with (first | (go_at_call 27; go_must (refine had.mono ?_); rintro y w5 ⟨rfl, hf5⟩) | (go_at_call 9; go_must (refine (hwk _).mono ?_); rintro y w6 ⟨rfl, hf6⟩) | fail)
            go_ret
            exact ⟨rfl, gb_trans (gb_trans hgr hf5) hf6⟩

end Go.Proofs.Ytoaaaeefcipdcaa

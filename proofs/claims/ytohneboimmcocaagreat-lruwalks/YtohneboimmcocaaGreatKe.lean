import Derived.Test.YtohneboimmcocaaGreatKd
import Derived.Test.YtohneboimmcocaaGreatWp
/-
  LruWalks' walk.
-/
namespace Go.Proofs.YtohneboimmcocaaGreat
open Go.RowKit Go.Shelf
set_option linter.unusedVariables false
attribute [local go_sem] Oper.semAt_some

/-- The law's boxes. -/
structure WA (W : World) (t1 t2 t3 t4 bl bc : Nat) (cs : Array Value) (wb xb ci : Nat) : Prop where
  b1 : Box W 66 t1 cs
  b2 : Box W 4 t2 #[.bool false]
  b3 : Box W 25 t3 #[.pointer (some ⟨wb, 0, none⟩)]
  b4 : Box W 3 t4 #[.int .i64 ci]
  bl : Box W 41 bl #[.pointer (some ⟨xb, 0, none⟩)]
  bc : Box W 3 bc #[.int .i64 ci]
/-- A range's own. -/
structure WR (W : World) (t7 t8 t9 B0 : Nat) (wv : Value) (R : List Nat) (nn : Nat) (st : Bool) : Prop where
  b7 : Box W 72 t7 #[wv]
  row : W.ownsRow B0 48 1 wv R.length (uvs R)
  b8 : Box W 3 t8 #[.int .i64 nn]
  b9 : Box W 4 t9 #[.bool st]
/-- Where they lie: what the program's calls turn lies between N2 and N3. -/
structure WP (N2 N3 t1 t2 t3 t4 bl bc : Nat) : Prop where
  p1 : t1 < N2
  p2 : t2 < N2
  pn : N2 ≤ N3
  p3 : N3 ≤ t3
  p4 : N3 ≤ t4
  pl : N3 ≤ bl
  pc : N3 ≤ bc
section
variable {W W' : World} {t1 t2 t3 t4 bl bc t7 t8 t9 B0 N2 N3 : Nat} {cs : Array Value} {wb xb ci : Nat} {wv : Value} {R : List Nat} {nn : Nat} {st : Bool} {G0 : Nat → Prop}
theorem row_own8 {B : Nat} {v : Value} {n : Nat} {vs : List Value} (h : W.ownsRow B 48 1 v n vs) {row : Option Nat} (hf : W.grownBy W' row) (hr : ∀ r, row = some r → ∃ o : Obj, W.heap[r]? = some o ∧ o.isCells = false) : W'.ownsRow B 48 1 v n vs :=
  row_kept h hf (fun k hk e => by
    obtain ⟨o, ho, hc⟩ := hr k e.symm
    obtain ⟨cur, hb⟩ := row_block h k hk
    rw [ho] at hb
    cases hb
    simp [Obj.isCells] at hc)
theorem row_ne {B : Nat} {v : Value} {n t j : Nat} {vs : List Value} {bs : Array Value} (h : W.ownsRow B 48 1 v n vs) (hb : Box W t j bs) (ht : t ≠ 48) : ∀ k, v.ownBlock = some k → k ≠ j := fun k hk e => by
  obtain ⟨cur, h1⟩ := row_block h k hk
  subst e
  rw [show W.heap[k]? = _ from hb] at h1
  cases h1
  exact ht rfl
theorem WA.own (h : WA W t1 t2 t3 t4 bl bc cs wb xb ci) {row : Option Nat} (hf : W.grownBy W' row) (hr : ∀ r, row = some r → ∃ o : Obj, W.heap[r]? = some o ∧ o.isCells = false) : WA W' t1 t2 t3 t4 bl bc cs wb xb ci :=
  ⟨h.b1.keptG hf hr, h.b2.keptG hf hr, h.b3.keptG hf hr, h.b4.keptG hf hr, h.bl.keptG hf hr, h.bc.keptG hf hr⟩
theorem WR.own (h : WR W t7 t8 t9 B0 wv R nn st) {row : Option Nat} (hf : W.grownBy W' row) (hr : ∀ r, row = some r → ∃ o : Obj, W.heap[r]? = some o ∧ o.isCells = false) : WR W' t7 t8 t9 B0 wv R nn st :=
  ⟨h.b7.keptG hf hr, row_own8 h.row hf hr, h.b8.keptG hf hr, h.b9.keptG hf hr⟩
theorem WA.kp (h : WA W t1 t2 t3 t4 bl bc cs wb xb ci) (hp : WP N2 N3 t1 t2 t3 t4 bl bc) (hG : ∀ k, G0 k → N2 ≤ k ∧ k < N3) (hK : Kp G0 W W') : WA W' t1 t2 t3 t4 bl bc cs wb xb ci := by
  obtain ⟨q1, q2, q3, q4, q5, q6, q7⟩ := hp
  have hn : ∀ k, k < N2 ∨ N3 ≤ k → ¬ G0 k := fun k hk hh => by have := hG k hh; omega
  exact ⟨hK.box h.b1 (hn _ (by omega)), hK.box h.b2 (hn _ (by omega)), hK.box h.b3 (hn _ (by omega)), hK.box h.b4 (hn _ (by omega)), hK.box h.bl (hn _ (by omega)), hK.box h.bc (hn _ (by omega))⟩
theorem WR.kp (h : WR W t7 t8 t9 B0 wv R nn st) (h7 : N3 ≤ t7) (h8 : N3 ≤ t8) (h9 : N3 ≤ t9) (hB : N3 ≤ B0) (hG : ∀ k, G0 k → N2 ≤ k ∧ k < N3) (hK : Kp G0 W W') : WR W' t7 t8 t9 B0 wv R nn st := by
  have hn : ∀ k, N3 ≤ k → ¬ G0 k := fun k hk hh => by have := hG k hh; omega
  exact ⟨hK.box h.b7 (hn _ h7), row_same h.row (fun k hk => hK.block k (h.row.lt k hk).2 (hn k (Nat.le_trans hB (h.row.lt k hk).1))), hK.box h.b8 (hn _ h8), hK.box h.b9 (hn _ h9)⟩
theorem WA.set (h : WA W t1 t2 t3 t4 bl bc cs wb xb ci) {k : Nat} (v : Value) (n1 : t1 ≠ k) (n2 : t2 ≠ k) (n3 : t3 ≠ k) (n4 : t4 ≠ k) (n5 : bl ≠ k) (n6 : bc ≠ k) : WA (W.setCell ⟨k, 0, none⟩ v) t1 t2 t3 t4 bl bc cs wb xb ci :=
  ⟨h.b1.far n1, h.b2.far n2, h.b3.far n3, h.b4.far n4, h.bl.far n5, h.bc.far n6⟩
theorem WR.set8 (h : WR W t7 t8 t9 B0 wv R nn st) (x : Nat) (n7 : t7 ≠ t8) (n9 : t9 ≠ t8) : WR (W.setCell ⟨t8, 0, none⟩ (.int .i64 x)) t7 t8 t9 B0 wv R x st :=
  ⟨h.b7.far n7, row_kept h.row (gb_setCell (gb_refl _ (some t8)) _) (fun k hk e => row_ne h.row h.b8 (by decide) k hk (by simpa using e)), h.b8.set 0 _, h.b9.far n9⟩
theorem WR.set9 (h : WR W t7 t8 t9 B0 wv R nn st) (x : Bool) (n7 : t7 ≠ t9) (n8 : t8 ≠ t9) : WR (W.setCell ⟨t9, 0, none⟩ (.bool x)) t7 t8 t9 B0 wv R nn x :=
  ⟨h.b7.far n7, row_kept h.row (gb_setCell (gb_refl _ (some t9)) _) (fun k hk e => row_ne h.row h.b9 (by decide) k hk (by simpa using e)), h.b8.far n8, h.b9.set 0 _⟩
end
/-- Marks of ranges that are over. -/
def Dfr (N : Nat) : List Deferred → World → Prop
  | [], _ => True
  | d :: ds, W => (∃ D, d = { target := .collected D, args := #[] } ∧ N ≤ D ∧ W.heap[D]? = some (.deferred (some [])) ∧ ∀ d' ∈ ds, ∀ D', d'.target = .collected D' → D' < D) ∧ Dfr N ds W
theorem Dfr.keeps {N : Nat} {W W' : World} (hk : KeepsFrom N W W') : ∀ {ds : List Deferred}, Dfr N ds W → Dfr N ds W'
  | [], h => trivial
  | d :: ds, h => by
    obtain ⟨⟨D, h1, h2, h3, h4⟩, h5⟩ := h
    exact ⟨⟨D, h1, h2, hk.same D _ h2 h3 rfl, h4⟩, Dfr.keeps hk h5⟩
theorem Dfr.lt {N : Nat} {W : World} : ∀ {ds : List Deferred}, Dfr N ds W → ∀ d ∈ ds, ∀ D, d.target = .collected D → D < W.heap.size
  | [], h, d, hd, D, hD => by simp at hd
  | d :: ds, h, d', hd, D', hD => by
    obtain ⟨⟨D, h1, h2, h3, h4⟩, h5⟩ := h
    rcases List.mem_cons.1 hd with rfl | hd
    · subst h1
      cases hD
      exact (Array.getElem?_eq_some_iff.1 h3).1
    · exact Dfr.lt h5 d' hd D' hD
theorem Dfr.put {N : Nat} {W : World} {D : Nat} {o : Obj} : ∀ {ds : List Deferred}, Dfr N ds W → (∀ d' ∈ ds, ∀ D', d'.target = .collected D' → D' < D) → Dfr N ds (W.putObj D o)
  | [], h, hl => trivial
  | d :: ds, h, hl => by
    obtain ⟨⟨D1, h1, h2, h3, h4⟩, h5⟩ := h
    refine ⟨⟨D1, h1, h2, ?_, h4⟩, Dfr.put h5 (fun d' hd' => hl d' (List.mem_cons_of_mem _ hd'))⟩
    have hlt := hl d List.mem_cons_self D1 (by rw [h1])
    rw [(grownBy_putObj' W D o).block D1 (Array.getElem?_eq_some_iff.1 h3).1 (by simp; omega)]
    exact h3
theorem Dfr.own {N : Nat} {W W' V : World} {row : Option Nat} (hg : W.grownBy W' row) : ∀ {ds : List Deferred}, Dfr N ds W → (∀ r, row = some r → V.heap.size ≤ r) → Dfr N ds V → Dfr N ds W'
  | [], h, hr, hV => trivial
  | d :: ds, h, hr, hV => by
    obtain ⟨⟨D1, h1, h2, h3, h4⟩, h5⟩ := h
    obtain ⟨⟨D2, k1, k2, k3, k4⟩, k5⟩ := hV
    refine ⟨⟨D1, h1, h2, ?_, h4⟩, Dfr.own hg h5 hr k5⟩
    have e : D1 = D2 := by
      have := h1.symm.trans k1
      injection this with this
      injection this
    have hlt : D2 < V.heap.size := (Array.getElem?_eq_some_iff.1 k3).1
    rw [hg.block D1 (Array.getElem?_eq_some_iff.1 h3).1 (fun e2 => by have := hr D1 e2.symm; omega)]
    exact h3
def pvals {T : List Nat} (l : List { H : Nat // H ∈ T }) : List Nat := l.map Subtype.val
theorem dfr_leaves {w : World} {N t2 : Nat} {tmps : Array Value} (hN : w.heap.size ≤ N) (hres : ∀ W, Box W 4 t2 #[.bool true] → w.grownBy W none → LeavesInM Fence.wide 4 Tryz.prog Tryz.f7 tmps (fun y w' => y = .returned (.bool true) ∧ w.grownBy w' none) [] .returning W) : ∀ (ds : List Deferred) (W : World), Dfr N ds W → Box W 4 t2 #[.bool true] → w.grownBy W none → LeavesInM Fence.wide 4 Tryz.prog Tryz.f7 tmps (fun y w' => y = .returned (.bool true) ∧ w.grownBy w' none) ds .returning W
  | [], W, h, hb, hg => hres W hb hg
  | d :: ds, W, h, hb, hg => by
    obtain ⟨⟨D, h1, h2, h3, h4⟩, h5⟩ := h
    refine ⟨by simp, .inl ⟨D, _, by rw [h1], run_takeDeferred h3, ?_⟩⟩
    refine dfr_leaves hN hres ds _ (h5.put h4) (hb.keptG (grownBy_putObj' W D _) (fun r e => by cases e; exact ⟨_, h3, rfl⟩)) ?_
    exact gb_mine hg (grownBy_putObj' W D _) (by omega)

set_option maxRecDepth 100000 in
set_option maxHeartbeats 16000000 in
theorem lruWalks_any (x0 x1 cc : Int) {w : World} {a va : Option Addr} {n c nv vc : Nat} (hO : OpsIn w a n) (hn : n ≤ maxLen) (hV : ∀ i, i < nv → ∃ b o, va = some ⟨b, o, none⟩ ∧ ∃ z : Int, w.cell? ⟨b, o + i, none⟩ = some (.int .i64 z)) (hnv : nv ≤ maxLen) :
    Calls Tryz.prog 7 #[.agg #[.int .i64 x0, .int .i64 x1, .slice a n c, .int .i64 cc, .slice va nv vc]] w fun y w' => y = .returned (.bool true) ∧ w.grownBy w' none := by
  obtain ⟨hot, hh⟩ : ∃ hot : Nat, (hot : Int) = 1 + x0 % 89 := ⟨(1 + x0 % 89).toNat, by omega⟩
  have hx1 : 0 ≤ x1 % (90 - (1 + x0 % 89)) ∧ x1 % (90 - (1 + x0 % 89)) < 90 - (1 + x0 % 89) := ⟨Int.emod_nonneg _ (by omega), Int.emod_lt_of_pos _ (by omega)⟩
  obtain ⟨warm, hw⟩ : ∃ warm : Nat, (warm : Int) = 1 + x1 % (90 - (1 + x0 % 89)) := ⟨(1 + x1 % (90 - (1 + x0 % 89))).toNat, by omega⟩
  have hsh : hot ≤ 100 ∧ warm ≤ 100 := by omega
  obtain ⟨ci, hci⟩ : ∃ ci : Nat, (ci : Int) = cc % 3 := ⟨(cc % 3).toNat, by omega⟩
  have hc3 : ci < 3 := by omega
  have hal := World.grownBy_alloc w (.cells #[.int .i64 x0, .int .i64 x1, .slice a n c, .int .i64 cc, .slice va nv vc] 66) none
  have hal2 := World.grownBy_alloc (w.alloc (.cells #[.int .i64 x0, .int .i64 x1, .slice a n c, .int .i64 cc, .slice va nv vc] 66)) (.cells #[.bool false] 4) none
  have hb1 := (Box.new w 66 #[.int .i64 x0, .int .i64 x1, .slice a n c, .int .i64 cc, .slice va nv vc]).kept hal2 (by simp)
  have hb2 := Box.new (w.alloc (.cells #[.int .i64 x0, .int .i64 x1, .slice a n c, .int .i64 cc, .slice va nv vc] 66)) 4 #[.bool false]
  rw [World.size_alloc] at hb2
  have hz2 : ((w.alloc (.cells #[.int .i64 x0, .int .i64 x1, .slice a n c, .int .i64 cc, .slice va nv vc] 66)).alloc (.cells #[.bool false] 4)).heap.size = w.heap.size + 1 + 1 := by simp
  have h27 := (scripted_27 x0 x1 hh hw (c := c) ((hO.kept0 hal).kept0 hal2) hn).mono (R' := fun y w3 => ∃ wb, y = .returned (.pointer (some ⟨wb, 0, none⟩)) ∧ Hid (Box w3 66 w.heap.size #[.int .i64 x0, .int .i64 x1, .slice a n c, .int .i64 cc, .slice va nv vc] ∧ Box w3 4 (w.heap.size + 1) #[.bool false] ∧ w.grownBy w3 none ∧ w.heap.size + 1 + 1 ≤ w3.heap.size ∧ ∃ xb T G0 L S, WI w3 wb xb T G0 L ∧ L w3 S ∧ ∀ k, G0 k → w.heap.size + 1 + 1 ≤ k)) (by
    rintro y w3 ⟨wb, E, rfl, hf, hG⟩
    obtain ⟨xb, T, G0, L, S, h1, h2, h3⟩ := gs_wi hG hsh.1 hsh.2
    rw [hz2] at h3
    have := hf.size
    exact ⟨wb, rfl, hb1.kept hf (by simp), hb2.kept hf (by simp), gb_trans hal (gb_trans hal2 hf), by omega, xb, T, G0, L, S, h1, h2, h3⟩)
  have u0 := hb1.cell 0
  have u1 := hb1.cell 1
  have u2 := hb1.cell 2
  have hw3 := fun W => within_any cc 3 (by omega) (by omega) W
  simp only [← hci] at hw3
  have hw6 := fun z W => within_any z 6 (by omega) (by omega) W
  have hef := eql_func 70 Tryz.underlying70 (.func 71) #[]
  clear hh hw hO hn hx1 hal hal2 hz2 hci hb1 hb2
  refine (callsIn_wide (n := 4)).1 ?_
  refine callsIn_of_wp_marks Tryz.func7 rfl trivial ?_ rfl
  simp only [Tryz.ntmps7, List.size_toArray, List.length_cons, List.length_nil, Nat.reduceAdd, Nat.reduceSub, Array.replicate_succ, Array.replicate_zero, List.push_toArray, List.append_toArray, List.nil_append, List.cons_append]
  simp at u0 u1 u2
  gi_wp2_with (first | (refine ⟨trivial, ?_⟩; gi_at_call 27; refine (callsIn_wide.2 h27).mono ?_; rintro y w3 ⟨wb, rfl, hE⟩; (have k3 := hE.out.1.cell 3); simp at k3; (have k3a : ∀ o, (w3.alloc o).cell? ⟨w.heap.size, 3, none⟩ = some (.int .i64 cc) := fun o => gb_cellN (World.grownBy_alloc w3 o none) k3)) | (refine ⟨trivial, ?_⟩; gi_at_call 28; refine (callsIn_wide.2 (hw3 _)).mono ?_; rintro y w' ⟨rfl, rfl⟩))
  obtain ⟨k1, k2, hg3, hsz3, xb, T, G0, L, S, hI, hL, hG0⟩ := hE.out
  have hp : WP (w.heap.size + 1 + 1) w3.heap.size w.heap.size (w.heap.size + 1) w3.heap.size (w3.heap.size + 1) (w3.heap.size + 1 + 1) (w3.heap.size + 1 + 1 + 1) := ⟨by omega, by omega, by omega, by omega, by omega, by omega, by omega⟩
  have hGG : ∀ k, G0 k → w.heap.size + 1 + 1 ≤ k ∧ k < w3.heap.size := fun k hk => ⟨hG0 k hk, hI.lt k hk⟩
  have hbelow : ∀ W S, L W S → w.grownBy W none := fun W S h => by
    have hK := hI.bel W S h
    refine ⟨hK.os.trans hg3.os, hK.tape.trans hg3.tape, hK.output.trans hg3.output, Nat.le_trans hg3.size hK.size, fun k hk _ => ?_⟩
    rw [hK.block k (by omega) (fun hh => by have := (hGG k hh).1; omega)]
    exact hg3.block k hk (by simp)
  have h4 : ∀ W4, W4 = (w3.alloc (.cells #[.pointer (some ⟨wb, 0, none⟩)] 25)).alloc (.cells #[.int .i64 ci] 3) → Hid (Box W4 66 w.heap.size #[.int .i64 x0, .int .i64 x1, .slice a n c, .int .i64 cc, .slice va nv vc] ∧ Box W4 4 (w.heap.size + 1) #[.bool false] ∧ Box W4 25 w3.heap.size #[.pointer (some ⟨wb, 0, none⟩)] ∧ Box W4 3 (w3.heap.size + 1) #[.int .i64 ci] ∧ L W4 S ∧ W4.heap.size = w3.heap.size + 1 + 1) := by
    rintro W4 rfl
    have b3 := Box.new w3 25 #[.pointer (some ⟨wb, 0, none⟩)]
    have g1 := World.grownBy_alloc w3 (.cells #[.pointer (some ⟨wb, 0, none⟩)] 25) none
    have s1 : (w3.alloc (.cells #[.pointer (some ⟨wb, 0, none⟩)] 25)).heap.size = w3.heap.size + 1 := by simp
    generalize w3.alloc (.cells #[.pointer (some ⟨wb, 0, none⟩)] 25) = V at *
    have b4 := Box.new V 3 #[.int .i64 (ci : Int)]
    have g2 := World.grownBy_alloc V (.cells #[.int .i64 (ci : Int)] 3) none
    rw [s1] at b4
    exact ⟨k1.kept (gb_trans g1 g2) (by simp), k2.kept (gb_trans g1 g2) (by simp), b3.kept g2 (by simp), b4, hI.own _ _ none _ hL (gb_trans g1 g2) (by simp), by simp [s1]⟩
  replace h4 := h4 _ rfl
  clear hE h27 k1 k2 k3 k3a hw3 hL
  generalize (w3.alloc (.cells #[.pointer (some ⟨wb, 0, none⟩)] 25)).alloc (.cells #[.int .i64 ci] 3) = W4 at *
  have h29 := (walk_29 xb ci W4.drew).mono (R' := fun y w5 => y = .returned (.func (.func 71) #[] #[.pointer (some ⟨w3.heap.size + 1 + 1, 0, none⟩), .pointer (some ⟨w3.heap.size + 1 + 1 + 1, 0, none⟩)]) ∧ Hid (WA w5 w.heap.size (w.heap.size + 1) w3.heap.size (w3.heap.size + 1) (w3.heap.size + 1 + 1) (w3.heap.size + 1 + 1 + 1) #[.int .i64 x0, .int .i64 x1, .slice a n c, .int .i64 cc, .slice va nv vc] wb xb ci ∧ ∃ S, L w5 S)) (by
    rintro y w5 ⟨rfl, rfl⟩
    obtain ⟨b1, b2, b3, b4, hL4, s4⟩ := h4.out
    have gd : W4.grownBy W4.drew none := gb_drew (gb_refl _ _)
    have sd : W4.drew.heap.size = w3.heap.size + 1 + 1 := s4
    have b5 := Box.new W4.drew 41 #[.pointer (some ⟨xb, 0, none⟩)]
    have g5 := World.grownBy_alloc W4.drew (.cells #[.pointer (some ⟨xb, 0, none⟩)] 41) none
    have s5 : (W4.drew.alloc (.cells #[.pointer (some ⟨xb, 0, none⟩)] 41)).heap.size = w3.heap.size + 1 + 1 + 1 := by simp [sd]
    rw [sd] at b5 ⊢
    generalize W4.drew.alloc (.cells #[.pointer (some ⟨xb, 0, none⟩)] 41) = V at *
    have b6 := Box.new V 3 #[.int .i64 (ci : Int)]
    have g6 := World.grownBy_alloc V (.cells #[.int .i64 (ci : Int)] 3) none
    rw [s5] at b6
    have gg := gb_trans gd (gb_trans g5 g6)
    exact ⟨rfl, ⟨b1.kept gg (by simp), b2.kept gg (by simp), b3.kept gg (by simp), b4.kept gg (by simp), b5.kept g6 (by simp), b6⟩, S, hI.own _ _ none _ hL4 gg (by simp)⟩)
  have hk0 : W4.drew.cell? ⟨w3.heap.size, 0, none⟩ = some (.pointer (some ⟨wb, 0, none⟩)) ∧ W4.drew.cell? ⟨wb, 2, none⟩ = some (.pointer (some ⟨xb, 0, none⟩)) ∧ W4.drew.cell? ⟨w3.heap.size + 1, 0, none⟩ = some (.int .i64 ci) := by
    obtain ⟨b1, b2, b3, b4, hL4, s4⟩ := h4.out
    have gd : W4.grownBy W4.drew none := gb_drew (gb_refl _ _)
    exact ⟨(b3.kept gd (by simp)).cell 0, hI.cell _ _ (hI.own _ _ none _ hL4 gd (by simp)), (b4.kept gd (by simp)).cell 0⟩
  have hkk : ∀ W, Hid (WA W w.heap.size (w.heap.size + 1) w3.heap.size (w3.heap.size + 1) (w3.heap.size + 1 + 1) (w3.heap.size + 1 + 1 + 1) #[.int .i64 x0, .int .i64 x1, .slice a n c, .int .i64 cc, .slice va nv vc] wb xb ci ∧ ∃ S, L W S) → W.cell? ⟨w3.heap.size, 0, none⟩ = some (.pointer (some ⟨wb, 0, none⟩)) ∧ W.cell? ⟨wb, 2, none⟩ = some (.pointer (some ⟨xb, 0, none⟩)) ∧ W.cell? ⟨w3.heap.size + 1, 0, none⟩ = some (.int .i64 ci) := fun W h => by
    obtain ⟨ha, S', hL'⟩ := h.out
    exact ⟨ha.b3.cell 0, hI.cell _ _ hL', ha.b4.cell 0⟩
  refine wpIn_wide.2 ?_
  go_region_held3 (fun W => W.cell? ⟨w3.heap.size, 0, none⟩ = some (.pointer (some ⟨wb, 0, none⟩)) ∧ W.cell? ⟨wb, 2, none⟩ = some (.pointer (some ⟨xb, 0, none⟩)) ∧ W.cell? ⟨w3.heap.size + 1, 0, none⟩ = some (.int .i64 ci)) ((first | with_reducible exact hk1 | with_reducible exact hk0 | go_keep)) ((go_at_call 29; with_reducible refine h29.mono ?_; rintro y w5 ⟨rfl, hE5⟩; (have hk1 := hkk _ hE5)))
  clear hk0 hk1 h29 h4 hkk hg3
  gi_wp2
  have hwn := hp.pn
  have hres : ∀ (tmps : Array Value) (W : World), tmps[2]? = some (.pointer (some ⟨w.heap.size + 1, 0, none⟩)) → Box W 4 (w.heap.size + 1) #[.bool true] → w.grownBy W none → LeavesInM Fence.wide 4 Tryz.prog Tryz.f7 tmps (fun y w' => y = .returned (.bool true) ∧ w.grownBy w' none) [] .returning W := fun tmps W ht hb hg => by
    have hc := hb.cell 0
    simp at hc
    refine ⟨_, ?_, rfl, hg⟩
    simp [results, Tryz.f7, go_sem, hc, ht]
  refine wpIn_loop (fun ac W => ∃ (k : Nat) (u7 u8 u9 u29 u30 u31 u32 u33 u34 u35 u36 u104 u105 u106 u107 u108 u109 u110 u111 : Value) (ds : List Deferred), k ≤ 2 ∧ ac = { tmps := #[.agg #[.int .i64 x0, .int .i64 x1, .slice a n c, .int .i64 cc, .slice va nv vc], .pointer (some ⟨w.heap.size, 0, none⟩), .pointer (some ⟨w.heap.size + 1, 0, none⟩), .pointer (some ⟨w3.heap.size, 0, none⟩), .pointer (some ⟨w3.heap.size + 1, 0, none⟩), .func (.func 71) #[] #[.pointer (some ⟨w3.heap.size + 1 + 1, 0, none⟩), .pointer (some ⟨w3.heap.size + 1 + 1 + 1, 0, none⟩)], .int .i64 k, u7, u8, u9, undef, .pointer (some ⟨w.heap.size, 0, none⟩), .agg #[.int .i64 x0, .int .i64 x1], .pointer (some ⟨w.heap.size, 2, none⟩), .slice a n c, .pointer (some ⟨wb, 0, none⟩), .pointer (some ⟨wb, 0, none⟩), .bool false, .pointer (some ⟨w.heap.size, 3, none⟩), .int .i64 cc, .int .i64 ci, .pointer (some ⟨wb, 0, none⟩), .pointer (some ⟨wb, 0, none⟩), .pointer (some ⟨wb, 2, none⟩), .pointer (some ⟨xb, 0, none⟩), .int .i64 ci, .func (.func 71) #[] #[.pointer (some ⟨w3.heap.size + 1 + 1, 0, none⟩), .pointer (some ⟨w3.heap.size + 1 + 1 + 1, 0, none⟩)], .func (.func 71) #[] #[.pointer (some ⟨w3.heap.size + 1 + 1, 0, none⟩), .pointer (some ⟨w3.heap.size + 1 + 1 + 1, 0, none⟩)], .bool false, u29, u30, u31, u32, u33, u34, u35, u36, undef, undef, undef, undef, undef, undef, undef, undef, undef, undef, undef, undef, undef, undef, undef, undef, undef, undef, undef, undef, undef, undef, undef, undef, undef, undef, undef, undef, undef, undef, undef, undef, undef, undef, undef, undef, undef, undef, undef, undef, undef, undef, undef, undef, undef, undef, undef, undef, undef, undef, undef, undef, undef, undef, undef, undef, undef, undef, undef, undef, undef, undef, undef, undef, undef, undef, undef, u104, u105, u106, u107, u108, u109, u110, u111, undef], defers := ds } ∧ Hid (Dfr w3.heap.size ds W ∧ WA W w.heap.size (w.heap.size + 1) w3.heap.size (w3.heap.size + 1) (w3.heap.size + 1 + 1) (w3.heap.size + 1 + 1 + 1) #[.int .i64 x0, .int .i64 x1, .slice a n c, .int .i64 cc, .slice va nv vc] wb xb ci ∧ ∃ S, L W S)) (fun ac _ => 2 - (intOf (ac.tmps.getD 6 undef)).toNat) ⟨0, _, _, _, _, _, _, _, _, _, _, _, _, _, _, _, _, _, _, _, [], by omega, rfl, trivial, hE5.out.1, hE5.out.2⟩ ?round
  case round =>
    rintro _ W ⟨k, u7, u8, u9, u29, u30, u31, u32, u33, u34, u35, u36, u104, u105, u106, u107, u108, u109, u110, u111, ds, hk, rfl, hSt⟩
    clear hE5
    by_cases hk2 : k < 2
    · have e1 : decide ((k : Int) < 2) = true := decide_eq_true (by omega)
      have e1' : (k : Int) < 2 := by omega
      obtain ⟨hD, hA, S, hL⟩ := hSt.out
      obtain ⟨hR5, h30⟩ := hI.row W S ci hL hc3
      have qc : w3.heap.size + 1 + 1 + 1 < W.heap.size := hA.bc.lt
      have c3 := hA.b3.cell 0
      have c4 := hA.b4.cell 0
      simp at c3 c4
      clear hSt hef
      gi_wp2_with (first | (refine ⟨trivial, ?_⟩; gi_at_call 30; refine (callsIn_wide.2 h30).mono ?_; rintro y W1 ⟨v, rfl, hg1, hr1⟩; (obtain ⟨ra, rc, hrs, _, _, _, hra⟩ := row_shape hr1); subst hrs))
      have h7 : ∀ V, V = ((W1.alloc (.cells #[.slice ra (rowN S.X ci).length rc] 72)).alloc (.cells #[.int .i64 0] 3)).alloc (.cells #[.bool false] 4) → Dfr w3.heap.size ds V ∧ WA V w.heap.size (w.heap.size + 1) w3.heap.size (w3.heap.size + 1) (w3.heap.size + 1 + 1) (w3.heap.size + 1 + 1 + 1) #[.int .i64 x0, .int .i64 x1, .slice a n c, .int .i64 cc, .slice va nv vc] wb xb ci ∧ WR V W1.heap.size (W1.heap.size + 1) (W1.heap.size + 1 + 1) W.heap.size (.slice ra (rowN S.X ci).length rc) (rowN S.X ci) 0 false ∧ L V S ∧ V.heap.size = W1.heap.size + 1 + 1 + 1 := by
        rintro V rfl
        have b7 := Box.new W1 72 #[.slice ra (rowN S.X ci).length rc]
        have g7 := World.grownBy_alloc W1 (.cells #[.slice ra (rowN S.X ci).length rc] 72) none
        have s7 : (W1.alloc (.cells #[.slice ra (rowN S.X ci).length rc] 72)).heap.size = W1.heap.size + 1 := by simp
        generalize W1.alloc (.cells #[.slice ra (rowN S.X ci).length rc] 72) = V1 at *
        have b8 := Box.new V1 3 #[.int .i64 0]
        have g8 := World.grownBy_alloc V1 (.cells #[.int .i64 0] 3) none
        have s8 : (V1.alloc (.cells #[.int .i64 0] 3)).heap.size = W1.heap.size + 1 + 1 := by simp [s7]
        rw [s7] at b8
        generalize V1.alloc (.cells #[.int .i64 0] 3) = V2 at *
        have b9 := Box.new V2 4 #[.bool false]
        have g9 := World.grownBy_alloc V2 (.cells #[.bool false] 4) none
        rw [s8] at b9
        have g89 := gb_trans g8 g9
        have g79 := gb_trans g7 g89
        have gg := gb_trans hg1 g79
        exact ⟨hD.keeps ((KeepsOthers.of_grownBy gg (by simp)).from _), hA.own gg (by simp), ⟨b7.kept g89 (by simp), row_kept hr1 g79 (by simp), b8.kept g9 (by simp), b9⟩, hI.own _ _ none _ hL gg (by simp), by simp [s8]⟩
      replace h7 := h7 _ rfl
      have hsz3' := (hI.bel _ _ hL).size
      have hsz1 := hg1.size
      clear c3 c4 h30 hA hD hL hr1 hra hg1
      generalize ((W1.alloc (.cells #[.slice ra (rowN S.X ci).length rc] 72)).alloc (.cells #[.int .i64 0] 3)).alloc (.cells #[.bool false] 4) = W0 at *
      obtain ⟨hD, hA, hR, hL, hs0⟩ := h7
      obtain ⟨R, hRE⟩ : ∃ R, rowN S.X ci = R := ⟨_, rfl⟩
      have hGk : ∀ k, (G0 k ∨ k = W1.heap.size + 1 ∨ k = W1.heap.size + 1 + 1) → k < W0.heap.size := by
        rintro k (h | rfl | rfl)
        · have := (hGG k h).2
          omega
        · omega
        · omega
      have hwk := hI.walk W0 S ci (w3.heap.size + 1 + 1) (w3.heap.size + 1 + 1 + 1) (fun k => G0 k ∨ k = W1.heap.size + 1 ∨ k = W1.heap.size + 1 + 1) (4 - 1) hL hc3 (by omega) hA.bl.lt hA.bc.lt (hA.bl.cell 0) (hA.bc.cell 0) hGk
      rw [hRE] at hwk hR hR5 ⊢
      obtain ⟨T7, hT7⟩ : ∃ T7, W1.heap.size = T7 := ⟨_, rfl⟩
      have hW3 : w3.heap.size ≤ W.heap.size := hsz3'
      have hWT : W.heap.size ≤ T7 := by omega
      rw [hT7] at hwk hR hs0 ⊢
      have hs0' : T7 + 1 + 1 + 1 ≤ W0.heap.size := by omega
      clear hT7 hs0 hGk
      refine wpIn_rangeFunc_ownG rfl (by omega) (gf := 71) (lb := #[.pointer (some ⟨w3.heap.size + 1 + 1, 0, none⟩), .pointer (some ⟨w3.heap.size + 1 + 1 + 1, 0, none⟩)]) rfl trivial (enters_of Tryz.func71 (by kernel_rfl) rfl) hwk
        (fun h1 h2 => h1.trans h2) (fun V l o o' hl ho h1 h2 => KW.put V l o o' ho h1) (Below.refl _ _) (fun _ => rfl)
        (fun pre V => (WA V w.heap.size (w.heap.size + 1) w3.heap.size (w3.heap.size + 1) (w3.heap.size + 1 + 1) (w3.heap.size + 1 + 1 + 1) #[.int .i64 x0, .int .i64 x1, .slice a n c, .int .i64 cc, .slice va nv vc] wb xb ci ∧ WR V T7 (T7 + 1) (T7 + 1 + 1) W.heap.size (.slice ra R.length rc) R pre.length false ∧ (∃ S, L V S) ∧ Dfr w3.heap.size ds V) ∧ pvals pre = R.take pre.length)
        (fun cd pre V => (cd = .exit 2 ∧ WA V w.heap.size (w.heap.size + 1) w3.heap.size (w3.heap.size + 1) (w3.heap.size + 1 + 1) (w3.heap.size + 1 + 1 + 1) #[.int .i64 x0, .int .i64 x1, .slice a n c, .int .i64 cc, .slice va nv vc] wb xb ci ∧ (∃ nn, WR V T7 (T7 + 1) (T7 + 1 + 1) W.heap.size (.slice ra R.length rc) R nn true) ∧ (∃ S, L V S) ∧ Dfr w3.heap.size ds V) ∨ (cd = .ret ∧ ¬ pvals pre <+: R))
        (fun s A B row ⟨⟨h1, h2, ⟨S', h3⟩, h4⟩, h5⟩ hg hr => ⟨⟨h1.own hg (fun r e => (hr r e).2), h2.own hg (fun r e => (hr r e).2), ⟨S', hI.own _ _ row _ h3 hg (fun r e => by have := (hr r e).1; omega)⟩, Dfr.own hg h4 (fun r e => (hr r e).1) hD⟩, h5⟩)
        (fun cd s A B row hs hg hr => hs.imp (fun ⟨h0, h1, ⟨nn, h2⟩, ⟨S', h3⟩, h4⟩ => ⟨h0, h1.own hg (fun r e => (hr r e).2), ⟨nn, h2.own hg (fun r e => (hr r e).2)⟩, ⟨S', hI.own _ _ row _ h3 hg (fun r e => by have := (hr r e).1; omega)⟩, Dfr.own hg h4 (fun r e => (hr r e).1) hD⟩) id)
        ⟨⟨hA, hR, ⟨S, hL⟩, hD⟩, by simp [pvals]⟩
        ?a1 ?assign ?body ?done ?stop
      case assign =>
        intro l x V K hK
        gi_wp2
        exact hK
      case body =>
        rintro l pre x V ⟨⟨hA', hR', ⟨S', hL'⟩, hDf⟩, hpre⟩ hlt
        obtain ⟨gg, hgg⟩ : ∃ gg, ra = some ⟨gg, 0, none⟩ := by
          obtain ⟨ao, c', heq, _, _, _, hao⟩ := row_shape hR'.row
          cases heq
          exact hao (by omega)
        subst hgg
        have cw := row_cell hR'.row pre.length _ (uvs_get (List.getElem?_eq_getElem hlt))
        have hmap : pvals (pre ++ [x]) = pvals pre ++ [x.1] := by simp [pvals]
        have hpl : (pre ++ [x]).length = pre.length + 1 := by simp
        obtain ⟨rv, hrv⟩ : ∃ rv, R[pre.length] = rv := ⟨_, rfl⟩
        rw [hrv] at cw
        have htk : R.take (pre.length + 1) = R.take pre.length ++ [rv] := by rw [List.take_succ_eq_append_getElem hlt, hrv]
        have hmo : Tryz.prog.follows .mixedOrders = true := by kernel_rfl
        have c7 := hR'.b7.cell 0
        have c8 := hR'.b8.cell 0
        have c9 := hR'.b9.cell 0
        have f8 := hR'.b8.fz 0
        simp at c7 c8 c9
        have e2 : decide ((pre.length : Int) ≥ R.length) = false := decide_eq_false (by omega)
        have e2' : ¬ (pre.length : Int) ≥ R.length := by omega
        have e2'' : (pre.length : Int) < R.length := by omega
        by_cases hxe : x.1 = rv
        · have hpre' : Hid (pvals (pre ++ [x]) = R.take (pre ++ [x]).length) := by
            show _ = _
            rw [hpl, htk, hmap, hpre, hxe]
          subst hxe
          clear htk hmap hpre hrv
          have hxT := x.2
          obtain ⟨xv, hxv⟩ : ∃ xv, x.1 = xv := ⟨_, rfl⟩
          rw [hxv] at cw hxT ⊢
          clear hxv
          -- what is there, at a world V' of this round
          have hFS : ∀ V', Hid (WA V' w.heap.size (w.heap.size + 1) w3.heap.size (w3.heap.size + 1) (w3.heap.size + 1 + 1) (w3.heap.size + 1 + 1 + 1) #[.int .i64 x0, .int .i64 x1, .slice a n c, .int .i64 cc, .slice va nv vc] wb xb ci ∧ WR V' T7 (T7 + 1) (T7 + 1 + 1) W.heap.size (.slice (some ⟨gg, 0, none⟩) R.length rc) R (pre.length + 1) false ∧ (∃ S, L V' S) ∧ Dfr w3.heap.size ds V' ∧ KeepsFrom W0.heap.size V V' ∧ KW (fun k => G0 k ∨ k = T7 + 1 ∨ k = T7 + 1 + 1) V V') → V'.cell? ⟨w.heap.size, 4, none⟩ = some (.slice va nv vc) ∧ V'.cell? ⟨T7 + 1, 0, none⟩ = some (.int .i64 ((pre.length : Int) + 1)) ∧ V'.cell? ⟨w3.heap.size, 0, none⟩ = some (.pointer (some ⟨wb, 0, none⟩)) ∧ V'.cell? ⟨wb, 2, none⟩ = some (.pointer (some ⟨xb, 0, none⟩)) ∧ V'.cell? ⟨w3.heap.size + 1, 0, none⟩ = some (.int .i64 ci) ∧ V'.cell? ⟨T7 + 1 + 1, 0, none⟩ = some (.bool false) ∧ V'.frozen? ⟨T7 + 1 + 1, 0, none⟩ = false := fun V' h => by
            obtain ⟨q1, q2, ⟨S2, q3⟩, _⟩ := h.out
            exact ⟨q1.b1.cell 4, q2.b8.cell 0, q1.b3.cell 0, hI.cell _ _ q3, q1.b4.cell 0, q2.b9.cell 0, q2.b9.fz 0⟩
          have hdr : ∀ V' V2, Hid (WA V' w.heap.size (w.heap.size + 1) w3.heap.size (w3.heap.size + 1) (w3.heap.size + 1 + 1) (w3.heap.size + 1 + 1 + 1) #[.int .i64 x0, .int .i64 x1, .slice a n c, .int .i64 cc, .slice va nv vc] wb xb ci ∧ WR V' T7 (T7 + 1) (T7 + 1 + 1) W.heap.size (.slice (some ⟨gg, 0, none⟩) R.length rc) R (pre.length + 1) false ∧ (∃ S, L V' S) ∧ Dfr w3.heap.size ds V' ∧ KeepsFrom W0.heap.size V V' ∧ KW (fun k => G0 k ∨ k = T7 + 1 ∨ k = T7 + 1 + 1) V V') → V'.grownBy V2 none → Hid (WA V2 w.heap.size (w.heap.size + 1) w3.heap.size (w3.heap.size + 1) (w3.heap.size + 1 + 1) (w3.heap.size + 1 + 1 + 1) #[.int .i64 x0, .int .i64 x1, .slice a n c, .int .i64 cc, .slice va nv vc] wb xb ci ∧ WR V2 T7 (T7 + 1) (T7 + 1 + 1) W.heap.size (.slice (some ⟨gg, 0, none⟩) R.length rc) R (pre.length + 1) false ∧ (∃ S, L V2 S) ∧ Dfr w3.heap.size ds V2 ∧ KeepsFrom W0.heap.size V V2 ∧ KW (fun k => G0 k ∨ k = T7 + 1 ∨ k = T7 + 1 + 1) V V2) := fun V' V2 h hf => by
            obtain ⟨q1, q2, ⟨S2, q3⟩, q4, q5, q6⟩ := h.out
            exact ⟨q1.own hf (by simp), q2.own hf (by simp), ⟨S2, hI.own _ _ none _ q3 hf (by simp)⟩, q4.keeps ((KeepsOthers.of_grownBy hf (by simp)).from _), q5.trans ((KeepsOthers.of_grownBy hf (by simp)).from _), q6.trans (KW.kp (Kp.of hf))⟩
          have hca : ∀ V' V2, Hid (WA V' w.heap.size (w.heap.size + 1) w3.heap.size (w3.heap.size + 1) (w3.heap.size + 1 + 1) (w3.heap.size + 1 + 1 + 1) #[.int .i64 x0, .int .i64 x1, .slice a n c, .int .i64 cc, .slice va nv vc] wb xb ci ∧ WR V' T7 (T7 + 1) (T7 + 1 + 1) W.heap.size (.slice (some ⟨gg, 0, none⟩) R.length rc) R (pre.length + 1) false ∧ (∃ S, L V' S) ∧ Dfr w3.heap.size ds V' ∧ KeepsFrom W0.heap.size V V' ∧ KW (fun k => G0 k ∨ k = T7 + 1 ∨ k = T7 + 1 + 1) V V') → Hid (Kp G0 V' V2 ∧ ∃ S', L V2 S') → Hid (WA V2 w.heap.size (w.heap.size + 1) w3.heap.size (w3.heap.size + 1) (w3.heap.size + 1 + 1) (w3.heap.size + 1 + 1 + 1) #[.int .i64 x0, .int .i64 x1, .slice a n c, .int .i64 cc, .slice va nv vc] wb xb ci ∧ WR V2 T7 (T7 + 1) (T7 + 1 + 1) W.heap.size (.slice (some ⟨gg, 0, none⟩) R.length rc) R (pre.length + 1) false ∧ (∃ S, L V2 S) ∧ Dfr w3.heap.size ds V2 ∧ KeepsFrom W0.heap.size V V2 ∧ KW (fun k => G0 k ∨ k = T7 + 1 ∨ k = T7 + 1 + 1) V V2) := fun V' V2 h hk => by
            obtain ⟨q1, q2, ⟨S2, q3⟩, q4, q5, q6⟩ := h.out
            have hkf : ∀ B, w3.heap.size ≤ B → KeepsFrom B V' V2 := fun B hB => ⟨hk.out.1.size, fun k o hk' ho _ => by
              rw [hk.out.1.block k (Array.getElem?_eq_some_iff.1 ho).1 (fun hh => by have := (hGG k hh).2; omega)]
              exact ho⟩
            exact ⟨q1.kp hp hGG hk.out.1, q2.kp (N2 := w.heap.size + 1 + 1) (N3 := w3.heap.size) (by omega) (by omega) (by omega) (by omega) hGG hk.out.1, hk.out.2, q4.keeps (hkf _ (Nat.le_refl _)), q5.trans (hkf _ (by omega)), q6.trans (KW.kp (hk.out.1.mono (fun k hk => .inl (.inl hk))))⟩
          have hS1 : Hid (WA (V.setCell ⟨T7 + 1, 0, none⟩ (.int .i64 ((pre.length : Int) + 1))) w.heap.size (w.heap.size + 1) w3.heap.size (w3.heap.size + 1) (w3.heap.size + 1 + 1) (w3.heap.size + 1 + 1 + 1) #[.int .i64 x0, .int .i64 x1, .slice a n c, .int .i64 cc, .slice va nv vc] wb xb ci ∧ WR (V.setCell ⟨T7 + 1, 0, none⟩ (.int .i64 ((pre.length : Int) + 1))) T7 (T7 + 1) (T7 + 1 + 1) W.heap.size (.slice (some ⟨gg, 0, none⟩) R.length rc) R (pre.length + 1) false ∧ (∃ S, L (V.setCell ⟨T7 + 1, 0, none⟩ (.int .i64 ((pre.length : Int) + 1))) S) ∧ Dfr w3.heap.size ds (V.setCell ⟨T7 + 1, 0, none⟩ (.int .i64 ((pre.length : Int) + 1))) ∧ KeepsFrom W0.heap.size V (V.setCell ⟨T7 + 1, 0, none⟩ (.int .i64 ((pre.length : Int) + 1))) ∧ KW (fun k => G0 k ∨ k = T7 + 1 ∨ k = T7 + 1 + 1) V (V.setCell ⟨T7 + 1, 0, none⟩ (.int .i64 ((pre.length : Int) + 1)))) := by
            have hKs : Kp (fun k => k = T7 + 1) V (V.setCell ⟨T7 + 1, 0, none⟩ (.int .i64 ((pre.length : Int) + 1))) := (Kp.refl _ _).step (gb_setCell (gb_refl _ (some (T7 + 1))) _) (fun i hi => .inl (by simpa using hi.symm))
            exact ⟨hA'.set _ (by omega) (by omega) (by omega) (by omega) (by omega) (by omega), hR'.set8 (pre.length + 1) (by omega) (by omega), ⟨S', hI.own _ _ (some (T7 + 1)) _ hL' (gb_setCell (gb_refl _ (some (T7 + 1))) _) (fun r e => by cases e; omega)⟩, hDf.keeps ((KeepsOthers.setCell _ _ _).from _), (KeepsOthers.setCell _ _ _).from _, KW.kp (hKs.mono (fun k hk => .inl (.inr (.inl hk))))⟩
          have hend : ∀ V', Hid (WA V' w.heap.size (w.heap.size + 1) w3.heap.size (w3.heap.size + 1) (w3.heap.size + 1 + 1) (w3.heap.size + 1 + 1 + 1) #[.int .i64 x0, .int .i64 x1, .slice a n c, .int .i64 cc, .slice va nv vc] wb xb ci ∧ WR V' T7 (T7 + 1) (T7 + 1 + 1) W.heap.size (.slice (some ⟨gg, 0, none⟩) R.length rc) R (pre.length + 1) false ∧ (∃ S, L V' S) ∧ Dfr w3.heap.size ds V' ∧ KeepsFrom W0.heap.size V V' ∧ KW (fun k => G0 k ∨ k = T7 + 1 ∨ k = T7 + 1 + 1) V V') → KeepsFrom W0.heap.size V V' ∧ KW (fun k => G0 k ∨ k = T7 + 1 ∨ k = T7 + 1 + 1) V V' ∧ ((WA V' w.heap.size (w.heap.size + 1) w3.heap.size (w3.heap.size + 1) (w3.heap.size + 1 + 1) (w3.heap.size + 1 + 1 + 1) #[.int .i64 x0, .int .i64 x1, .slice a n c, .int .i64 cc, .slice va nv vc] wb xb ci ∧ WR V' T7 (T7 + 1) (T7 + 1 + 1) W.heap.size (.slice (some ⟨gg, 0, none⟩) R.length rc) R (pre ++ [x]).length false ∧ (∃ S, L V' S) ∧ Dfr w3.heap.size ds V') ∧ pvals (pre ++ [x]) = R.take (pre ++ [x]).length) := fun V' h => by
            obtain ⟨q1, q2, q3, q4, q5, q6⟩ := h.out
            exact ⟨q5, q6, ⟨q1, by rw [hpl]; exact q2, q3, q4⟩, hpre'.out⟩
          have ew : IntKind.i64.wrap ((pre.length : Int) + 1) = (pre.length : Int) + 1 := by rw [IntKind.wrap_i64]; omega
          obtain ⟨c14, _⟩ := hFS _ hS1
          clear hwk hA' hR' hL' hDf hD hA hR hL
          by_cases hv0 : nv = 0
          · subst hv0
            gi_wp2
            exact hend _ hS1
          · have hv0' : ¬ (nv : Int) = 0 := by omega
            obtain ⟨ix, hix⟩ : ∃ ix, (pre.length + 1) % nv = ix := ⟨_, rfl⟩
            have hixl : ix < nv := by rw [← hix]; exact Nat.mod_lt _ (by omega)
            have hrem : ((pre.length : Int) + 1).tmod (nv : Int) = (ix : Int) := by
              rw [← hix]
              show ((pre.length + 1 : Nat) : Int).tmod (nv : Int) = _
              exact (Int.ofNat_tmod _ _).symm
            obtain ⟨vb, vo, hva, z, hz⟩ := hV ix hixl
            subst hva
            gi_wp2
            clear cw c7 c8 c9 f8 e2 e2' e2'' c14 ew
            generalize (V.setCell ⟨T7 + 1, 0, none⟩ (.int .i64 ((pre.length : Int) + 1))) = U1 at *
            have hz1 : U1.cell? ⟨vb, vo + ix, none⟩ = some (.int .i64 z) := by
              obtain ⟨_, _, ⟨S2, q3⟩, _⟩ := hS1.out
              exact gb_cellN (hbelow _ _ q3) hz
            obtain ⟨d14, d8, _⟩ := hFS _ hS1
            have hil : (ix : Int) < nv := by omega
            have hw6z := hw6 z
            clear hix hV hz
            refine wpIn_mono (Q := fun e a' w' => e = Exit.normal ∧ a' = ({ tmps := #[Value.agg #[Value.int IntKind.i64 x0, Value.int IntKind.i64 x1, Value.slice a n c, Value.int IntKind.i64 cc, Value.slice (some { block := vb, off := vo }) nv vc], Value.pointer (some { block := w.heap.size, off := 0 }), Value.pointer (some { block := w.heap.size + 1, off := 0 }), Value.pointer (some { block := w3.heap.size, off := 0 }), Value.pointer (some { block := w3.heap.size + 1, off := 0 }), Value.func (Fn.func 71) #[] #[Value.pointer (some { block := w3.heap.size + 1 + 1, off := 0 }), Value.pointer (some { block := w3.heap.size + 1 + 1 + 1, off := 0 })], Value.int IntKind.i64 ((k : Nat) : Int), Value.pointer (some { block := T7, off := 0 }), Value.pointer (some { block := T7 + 1, off := 0 }), Value.pointer (some { block := T7 + 1 + 1, off := 0 }), Value.int IntKind.u64 ((xv : Nat) : Int), Value.pointer (some { block := w.heap.size, off := 0 }), Value.agg #[Value.int IntKind.i64 x0, Value.int IntKind.i64 x1], Value.pointer (some { block := w.heap.size, off := 2 }), Value.slice a n c, Value.pointer (some { block := wb, off := 0 }), Value.pointer (some { block := wb, off := 0 }), Value.bool false, Value.pointer (some { block := w.heap.size, off := 3 }), Value.int IntKind.i64 cc, Value.int IntKind.i64 ((ci : Nat) : Int), Value.pointer (some { block := wb, off := 0 }), Value.pointer (some { block := wb, off := 0 }), Value.pointer (some { block := wb, off := 2 }), Value.pointer (some { block := xb, off := 0 }), Value.int IntKind.i64 ((ci : Nat) : Int), Value.func (Fn.func 71) #[] #[Value.pointer (some { block := w3.heap.size + 1 + 1, off := 0 }), Value.pointer (some { block := w3.heap.size + 1 + 1 + 1, off := 0 })], Value.func (Fn.func 71) #[] #[Value.pointer (some { block := w3.heap.size + 1 + 1, off := 0 }), Value.pointer (some { block := w3.heap.size + 1 + 1 + 1, off := 0 })], Value.bool false, Value.int IntKind.i64 ((k : Nat) : Int), Value.bool true, u31, u32, Value.pointer (some { block := wb, off := 0 }), Value.int IntKind.i64 ((ci : Nat) : Int), Value.slice (some { block := gg, off := 0 }) R.length rc, Value.func (Fn.func 71) #[] #[Value.pointer (some { block := w3.heap.size + 1 + 1, off := 0 }), Value.pointer (some { block := w3.heap.size + 1 + 1 + 1, off := 0 })], Value.int IntKind.u64 ((xv : Nat) : Int), Value.bool false, Value.bool false, Value.int IntKind.i64 ((pre.length : Nat) : Int), Value.slice (some { block := gg, off := 0 }) R.length rc, Value.int IntKind.i64 ((R.length : Nat) : Int), Value.bool false, Value.bool false, Value.bool false, Value.int IntKind.u64 ((xv : Nat) : Int), Value.slice (some { block := gg, off := 0 }) R.length rc, Value.int IntKind.i64 ((pre.length : Nat) : Int), Value.pointer (some { block := gg, off := pre.length }), Value.int IntKind.u64 ((xv : Nat) : Int), Value.bool false, Value.bool false, Value.int IntKind.i64 ((pre.length : Nat) : Int), Value.int IntKind.i64 ((pre.length : Int) + 1), Value.pointer (some { block := w.heap.size, off := 4 }), Value.slice (some { block := vb, off := vo }) nv vc, Value.int IntKind.i64 ((nv : Nat) : Int), Value.bool false, Value.pointer (some { block := w.heap.size, off := 4 }), Value.slice (some { block := vb, off := vo }) nv vc, Value.int IntKind.i64 ((pre.length : Int) + 1), Value.pointer (some { block := w.heap.size, off := 4 }), Value.slice (some { block := vb, off := vo }) nv vc, Value.int IntKind.i64 ((nv : Nat) : Int), Value.int IntKind.i64 ((ix : Nat) : Int), Value.pointer (some { block := vb, off := vo + ix }), Value.int IntKind.i64 z, Value.int IntKind.i64 (z % 6), undef, undef, undef, undef, undef, undef, undef, undef, undef, undef, undef, undef, undef, undef, undef, undef, undef, undef, undef, undef, undef, undef, undef, undef, undef, undef, undef, undef, undef, undef, undef, undef, undef, undef, undef, u104, u105, u106, u107, u108, u109, u110, u111, undef], defers := [] } : Act) ∧ w' = U1.drew) ?reg ?rest
            case reg =>
              clear hFS hdr hca hend hS1 hpre' hbelow hGG hp hI
              gi_region_with_o (refine ⟨trivial, ?_⟩; gi_at_call 28; refine (CallsIn.inRound l (callsIn_wide.2 (hw6z _))).mono ?_; rintro y w' ⟨rfl, rfl⟩)
              all_goals exact ⟨rfl, rfl, rfl⟩
            case rest =>
              rintro e a' w' ⟨rfl, rfl, rfl⟩
              have hS2 := hdr _ _ hS1 (gb_drew (gb_refl U1 none))
              have hq : z % 6 = 0 ∨ z % 6 = 1 ∨ z % 6 = 2 ∨ z % 6 = 3 ∨ z % 6 = 4 ∨ z % 6 = 5 := by omega
              clear d14 d8 hz1 hrem hil hw6z hS1 hw6
              generalize U1.drew = U2 at *
              obtain ⟨_, d8, d3, dwb, d4, d9, df9⟩ := hFS _ hS2
              obtain ⟨q1, q2, ⟨S2, q3⟩, q4, q5, q6⟩ := hS2.out
              rcases hq with hq | hq | hq | hq | hq | hq
              · rw [hq]
                clear q1 q2 q3 q4 q5 q6
                gi_wp2
                exact hend _ hS2
              · rw [hq]
                have hcl := hI.leave U2 S2 xv q3 hxT
                gi_wp2_with (refine ⟨trivial, ?_⟩; gi_at_call 31; refine (CallsIn.inRound l (callsIn_wide.2 hcl)).mono ?_; rintro y U3 ⟨r, rfl, hk3⟩; (have hS3 := hca _ _ hS2 hk3); (obtain ⟨_, _, _, _, _, z9, _⟩ := hFS _ hS3))
                exact hend _ hS3
              · rw [hq]
                have hcl := hI.enter U2 S2 xv q3 hxT
                gi_wp2_with (refine ⟨trivial, ?_⟩; gi_at_call 32; refine (CallsIn.inRound l (callsIn_wide.2 hcl)).mono ?_; rintro y U3 ⟨r, rfl, hk3⟩; (have hS3 := hca _ _ hS2 hk3); (obtain ⟨_, _, _, _, _, z9, _⟩ := hFS _ hS3))
                exact hend _ hS3
              · rw [hq]
                have hcl := hI.hit U2 S2 xv q3 hxT
                gi_wp2_with (refine ⟨trivial, ?_⟩; gi_at_call 33; refine (CallsIn.inRound l (callsIn_wide.2 hcl)).mono ?_; rintro y U3 ⟨r, rfl, hk3⟩; (have hS3 := hca _ _ hS2 hk3); (obtain ⟨_, _, _, _, _, z9, _⟩ := hFS _ hS3))
                exact hend _ hS3
              · rw [hq]
                have hS3 := hdr _ _ hS2 (gb_drew (gb_refl U2 none))
                have hcl := (show ∃ S3, L U2.drew S3 from hS3.out.2.2.1)
                obtain ⟨S3, q33⟩ := hcl
                have h18 := hI.bal U2.drew S3 ci q33 hc3
                clear q1 q2 q3 q4 q5 q6 q33
                gi_wp2
                gi_region_with_o (refine ⟨trivial, ?_⟩; gi_at_call 18; refine (CallsIn.inRound l (callsIn_wide.2 h18)).mono ?_; rintro y U4 ⟨r, rfl, hk4⟩)
                all_goals
                  have hS4 := hca _ _ hS3 hk4
                  obtain ⟨_, _, _, _, _, z9, _⟩ := hFS _ hS4
                  gi_wp2
                  exact hend _ hS4
              · rw [hq]
                have hKs : Kp (fun k => k = T7 + 1 + 1) U2 (U2.setCell ⟨T7 + 1 + 1, 0, none⟩ (.bool true)) := (Kp.refl _ _).step (gb_setCell (gb_refl _ (some (T7 + 1 + 1))) _) (fun i hi => .inl (by simpa using hi.symm))
                have hF5 := (q1.set (k := T7 + 1 + 1) (.bool true) (by omega) (by omega) (by omega) (by omega) (by omega) (by omega))
                have hF6 := (q2.set9 true (by omega) (by omega))
                have hF7 := hI.own U2 (U2.setCell ⟨T7 + 1 + 1, 0, none⟩ (.bool true)) (some (T7 + 1 + 1)) S2 q3 (gb_setCell (gb_refl U2 (some (T7 + 1 + 1))) _) (fun r e => by cases e; omega)
                have hF8 := q4.keeps ((KeepsOthers.setCell U2 ⟨T7 + 1 + 1, 0, none⟩ (.bool true)).from _)
                have hF9 := q5.trans ((KeepsOthers.setCell U2 ⟨T7 + 1 + 1, 0, none⟩ (.bool true)).from _)
                have HF : Hid _ := And.intro hF9 (And.intro hF5 (And.intro hF6 (And.intro hF7 hF8)))
                clear hF5 hF6 hF7 hF8 hF9 q1 q2 q3 q4 q5 q6
                gi_wp2
                exact ⟨HF.out.1, .inl ⟨rfl, HF.out.2.1, ⟨_, HF.out.2.2.1⟩, ⟨_, HF.out.2.2.2.1⟩, HF.out.2.2.2.2⟩⟩
        · have hno : Hid (¬ pvals (pre ++ [x]) <+: R) := by
            intro hh
            have h1 := List.prefix_iff_eq_take.1 hh
            rw [hmap, hpre] at h1
            have h2 : (R.take pre.length ++ [x.1]).length = pre.length + 1 := by rw [List.length_append, List.length_take]; simp; omega
            rw [h2, htk] at h1
            have := List.append_cancel_left h1
            simp at this
            exact hxe this
          have hxe' : ¬ ((x.1 : Nat) : Int) = (rv : Int) := by omega
          have c2 := hA'.b2.cell 0
          have f2 := hA'.b2.fz 0
          simp at c2
          clear hwk hR' hL' hDf hD hA hR hL hI hpre hmap htk hxe hrv
          gi_wp2
          exact ⟨(KeepsOthers.setCell _ _ _).from _, .inr ⟨rfl, hno.out⟩⟩
      case done =>
        rintro D ys V hDz hS ⟨⟨hA', hR', ⟨S', hL'⟩, hDf⟩, hpre⟩ hK
        have hyl : ys.length = R.length := by
          have : (ys.map Subtype.val).length = ys.length := by simp
          rw [hS] at this
          omega
        rw [hyl] at hR'
        have c7 := hR'.b7.cell 0
        have c8 := hR'.b8.cell 0
        have c9 := hR'.b9.cell 0
        simp at c7 c8 c9
        have ek : IntKind.i64.wrap ((k : Int) + 1) = (k : Int) + 1 := by rw [IntKind.wrap_i64]; omega
        have hF : Hid (Dfr w3.heap.size ({ target := .collected D, args := #[] } :: ds) V ∧ WA V w.heap.size (w.heap.size + 1) w3.heap.size (w3.heap.size + 1) (w3.heap.size + 1 + 1) (w3.heap.size + 1 + 1 + 1) #[.int .i64 x0, .int .i64 x1, .slice a n c, .int .i64 cc, .slice va nv vc] wb xb ci ∧ ∃ S, L V S) := ⟨⟨⟨D, rfl, by omega, hK, fun d' hd' D' hD' => Nat.lt_of_lt_of_le (hD.lt d' hd' D' hD') hDz⟩, hDf⟩, hA', S', hL'⟩
        clear hwk hR' hA' hL' hDf hpre hK hS hD hA hR hL hI hV hw6 hres
        gi_wp2
        refine ⟨⟨k + 1, _, _, _, _, _, _, _, _, _, _, _, _, _, _, _, _, _, _, _, _, by omega, rfl, hF⟩, ?_⟩
        simp [intOf]
        omega
      case stop =>
        rintro D cd pre V hDz hS (⟨rfl, hA', ⟨nn, hR'⟩, ⟨S', hL'⟩, hDf⟩ | ⟨rfl, hno⟩) hK
        · have c9 := hR'.b9.cell 0
          simp at c9
          have ek : IntKind.i64.wrap ((k : Int) + 1) = (k : Int) + 1 := by rw [IntKind.wrap_i64]; omega
          have hF : Hid (Dfr w3.heap.size ({ target := .collected D, args := #[] } :: ds) V ∧ WA V w.heap.size (w.heap.size + 1) w3.heap.size (w3.heap.size + 1) (w3.heap.size + 1 + 1) (w3.heap.size + 1 + 1 + 1) #[.int .i64 x0, .int .i64 x1, .slice a n c, .int .i64 cc, .slice va nv vc] wb xb ci ∧ ∃ S, L V S) := ⟨⟨⟨D, rfl, by omega, hK, fun d' hd' D' hD' => Nat.lt_of_lt_of_le (hD.lt d' hd' D' hD') hDz⟩, hDf⟩, hA', S', hL'⟩
          clear hwk hR' hA' hL' hDf hK hS hD hA hR hL hI hV hw6 hres
          gi_wp2
          refine ⟨⟨k + 1, _, _, _, _, _, _, _, _, _, _, _, _, _, _, _, _, _, _, _, _, by omega, rfl, hF⟩, ?_⟩
          simp [intOf]
          omega
        · exact absurd hS hno
    · obtain rfl : k = 2 := by omega
      have e1 : decide (((2 : Nat) : Int) < 2) = false := by decide
      obtain ⟨hD, hA, S, hL⟩ := hSt.out
      have c2 := hA.b2.cell 0
      have f2 := hA.b2.fz 0
      simp at c2
      have hgw : Hid (w.grownBy W none) := hbelow W S hL
      clear hSt hef hI hL hV hw6
      gi_wp2_with (first | (refine ⟨trivial, ?_⟩; gi_at_call 17; refine (callsIn_wide.2 (wakes_17 _)).mono ?_; rintro y W1 ⟨rfl, hf1⟩; have d2 := gb_cellN hf1 c2; have g2 := (hA.b2.kept hf1 (by simp)).fz 0))
      refine dfr_leaves (N := w3.heap.size) (t2 := w.heap.size + 1) (by omega) (fun W h1 h2 => hres _ W rfl h1 h2) ds _ (hD.keeps ((KeepsOthers.of_grownBy hf1 (by simp)).trans (KeepsOthers.setCell _ _ _) |>.from _)) ((hA.b2.kept hf1 (by simp)).set 0 _) (gb_mine (gb_trans hgw.out hf1) (gb_setCell (gb_refl _ (some (w.heap.size + 1))) _) (by omega))
end Go.Proofs.YtohneboimmcocaaGreat

import Derived.Deep.LoopGhost
import Derived.Deep.CutRange
import Derived.Test.YtobegepebochkaaGreatDoorSPbt
import Derived.Test.YtobegepebochkaaGreatDoorSPbs
set_option linter.unusedVariables false
set_option linter.unusedSimpArgs false
namespace Go.Proofs.YtobegepebochkaaGreatDoor
open Go.RowKit Go.Maps
abbrev trO0 (p : String) : Oper := { dst := some 15, op := Op.move (Operand.tmp 0), type := 90, pos := p, after := #[], guard := none }
abbrev trO1 (p : String) : Oper := { dst := some 16, op := Op.nilCheck (Operand.tmp 15), type := 0, pos := p, after := #[{ on := 0, ground := Ground.data }], guard := none }
abbrev trO2 (p : String) : Oper := { dst := some 17, op := Op.fieldAddr 136 (Operand.tmp 16) 4, type := 0, pos := p, after := #[{ on := 1, ground := Ground.data }], guard := none }
abbrev trO3 (p : String) : Oper := { dst := some 18, op := Op.load 38 (Operand.tmp 17), type := 38, pos := p, after := #[{ on := 2, ground := Ground.data }], guard := none }
abbrev trO4 (p : String) : Oper := { dst := some 19, op := Op.move (Operand.tmp 0), type := 90, pos := p, after := #[], guard := none }
abbrev trO5 (p : String) : Oper := { dst := some 20, op := Op.nilCheck (Operand.tmp 19), type := 0, pos := p, after := #[{ on := 4, ground := Ground.data }], guard := none }
abbrev trO6 (p : String) : Oper := { dst := some 21, op := Op.fieldAddr 136 (Operand.tmp 20) 5, type := 0, pos := p, after := #[{ on := 5, ground := Ground.data }], guard := none }
abbrev trO7 (p : String) : Oper := { dst := some 22, op := Op.load 3 (Operand.tmp 21), type := 3, pos := p, after := #[{ on := 6, ground := Ground.data }], guard := none }
abbrev trO8 (p : String) : Oper := { dst := some 23, op := Op.binOp BinOp.sub 3 (Operand.tmp 22) (Operand.const (Value.int IntKind.i64 1)) 3, type := 3, pos := p, after := #[{ on := 7, ground := Ground.data }], guard := none }
abbrev trO9 (p : String) : Oper := { dst := some 24, op := Op.slice 38 (Operand.tmp 18) none (some (Operand.tmp 23)) none, type := 38, pos := p, after := #[{ on := 3, ground := Ground.data }, { on := 8, ground := Ground.data }], guard := none }
abbrev trO10 (p : String) : Oper := { dst := some 14, op := Op.move (Operand.tmp 27), type := 44, pos := p, after := #[{ on := 12, ground := Ground.data }], guard := none }
abbrev trO11 (p : String) : Oper := { dst := some 28, op := Op.extract (Operand.tmp 14) 0, type := 41, pos := p, after := #[{ on := 13, ground := Ground.data }], guard := none }
abbrev trO12 (p : String) : Oper := { dst := some 29, op := Op.extract (Operand.tmp 14) 1, type := 3, pos := p, after := #[{ on := 13, ground := Ground.data }, { on := 19, ground := Ground.gcOnly Departure.lateStores }], guard := none }
abbrev trO13 (p : String) : Oper := { dst := some 30, op := Op.extract (Operand.tmp 14) 2, type := 43, pos := p, after := #[{ on := 13, ground := Ground.data }, { on := 20, ground := Ground.gcOnly Departure.lateStores }], guard := none }
abbrev trO14 (p : String) : Oper := { dst := some 4, op := Op.assign (Operand.tmp 29), type := 3, pos := p, after := #[{ on := 15, ground := Ground.data }, { on := 19, ground := Ground.chain }, { on := 0, ground := Ground.phase }, { on := 1, ground := Ground.phase }, { on := 2, ground := Ground.phase }, { on := 3, ground := Ground.phase }, { on := 4, ground := Ground.phase }, { on := 5, ground := Ground.phase }, { on := 6, ground := Ground.phase }, { on := 7, ground := Ground.phase }, { on := 8, ground := Ground.phase }, { on := 9, ground := Ground.phase }, { on := 10, ground := Ground.phase }, { on := 11, ground := Ground.phase }, { on := 12, ground := Ground.phase }, { on := 13, ground := Ground.phase }, { on := 14, ground := Ground.phase }, { on := 15, ground := Ground.phase }, { on := 16, ground := Ground.textOnly Departure.lateStores }, { on := 17, ground := Ground.phase }, { on := 18, ground := Ground.phase }, { on := 19, ground := Ground.phase }], guard := none }
abbrev zA : Array Value := #[.int .i64 0, .slice none 0 0, .int .u64 0, .int .i64 0, .int .u64 0, .int .u64 0, .slice none 0 0, .bool false, .bool false, .slice none 0 0, .string ⟨#[]⟩]
abbrev zB : Array Value := #[.int .i64 0, .string ⟨#[]⟩, .int .i64 0]
theorem tkT {P : Program} {ops : Array Oper} {Q : Exit → Act → World → Prop} {md : Region.Mode} {S : World → Prop} (i : Nat) (oi : Oper) {v : Value} {fuel : Nat} {listed : Array Bool} {a : Act} {w : World} (hi : ops[i]? = some oi) (hy : ∀ w, S w → (execOp a.eval oi).run P w = .ok (.value v) w) (h : wpAnyH P md ops Q S fuel (listed.setIfInBounds i true) (a.put oi.dst v) w) (hw : Region.wanted oi (yielded ops a.tmps) = true := by rfl) (hs : Region.noSelect ops = true := by kernel_rfl) (hf : Region.free md ops listed i = true := by kernel_rfl) (hr : (Region.ready md ops listed).contains i = true := by kernel_rfl) (hQ : ∀ c a w, Q (.panic c) (a.put oi.dst v) w → Q (.panic c) a w := by exact fun _ _ _ h => h) (hS : S w := by first | trivial | assumption) : wpAnyH P md ops Q S (fuel + 1) listed a w :=
  wpAnyH_take hi hs hf hr hQ (Or.inl ⟨hw, hy⟩) hS h
theorem pZ {α : Type} : (∀ (l : List α) (i : Nat) (a : α), l.toArray.setIfInBounds i a = (l.set i a).toArray) ∧ (∀ (a b : α) (l : List α), (a :: l).set 0 b = b :: l) ∧ ∀ (a b : α) (l : List α) (i : Nat), (a :: l).set (i + 1) b = a :: l.set i b := ⟨fun _ _ _ => by simp, fun _ _ _ => rfl, fun _ _ _ _ => rfl⟩
theorem tail_A {P : Prop} {C R : World → Nat → Nat → Cmd → Int → Option Addr → Nat → Nat → Option Addr → Nat → Nat → Int → Bs → Int → Prop} (tree : (∀ W b s c n ka kn kc ma mn mc k t p, C W b s c n ka kn kc ma mn mc k t p → R W b s c n ka kn kc ma mn mc k t p) → P) (key : ∀ W b s c n ka kn kc ma mn mc k t p, C W b s c n ka kn kc ma mn mc k t p → R W b s c n ka kn kc ma mn mc k t p) : P := tree key
theorem tail_0 {P : Prop} {C R : World → Nat → Cmd → Int → Option Addr → Nat → Nat → Option Addr → Nat → Nat → Int → Bs → Int → Prop} (tree : (∀ W s c n ka kn kc ma mn mc k t p, C W s c n ka kn kc ma mn mc k t p → R W s c n ka kn kc ma mn mc k t p) → P) (key : ∀ W s c n ka kn kc ma mn mc k t p, C W s c n ka kn kc ma mn mc k t p → R W s c n ka kn kc ma mn mc k t p) : P := tree key
theorem tail_once {P : Prop} {C R : World → Nat → Nat → Nat → Cmd → Int → Option Addr → Nat → Nat → Option Addr → Nat → Nat → Int → Bs → Int → Prop} (tree : (∀ W5 b3 b5 sb c n ka kn kc ma mn mc k t p, C W5 b3 b5 sb c n ka kn kc ma mn mc k t p → R W5 b3 b5 sb c n ka kn kc ma mn mc k t p) → P) (key : ∀ W5 b3 b5 sb c n ka kn kc ma mn mc k t p, C W5 b3 b5 sb c n ka kn kc ma mn mc k t p → R W5 b3 b5 sb c n ka kn kc ma mn mc k t p) : P := tree key
theorem trimT_get {q : Bs} {i : Nat} {x : UInt8} (h : (trim q)[i]? = some x) : q[i]? = some x := by
  unfold trim at h
  split at h
  · rw [List.getElem?_dropLast] at h
    split at h
    · exact h
    · cases h
  · exact h
set_option maxRecDepth 100000 in
set_option maxHeartbeats 4000000 in
theorem read_136 (fb : Nat) : Rd136 fb := by
  rintro G w kv h hst hE hk ⟨q, hq⟩ ⟨g, m, cp, rfl⟩
  obtain ⟨hd, lf, ck, cd, cm, hx, -, -⟩ := h
  have hm : m = q.length + 1 := by
    obtain ⟨_, _, e, _⟩ := row_shape hx.kept
    injection e with _ e _
    rw [e, hq]; simp
  have hcp : m ≤ cp := by
    obtain ⟨_, _, e, _, h3, _⟩ := row_shape hx.kept
    injection e with _ e1 e2
    omega
  obtain ⟨hg0, hby⟩ := kept_by hx rfl
  have hql : q.length ≤ 2049 := by rw [hq] at hk; simp at hk; omega
  have hgf : g ≠ fb := fun e => row_box hx.kept hx.box (by omega) g rfl (congrArg some e)
  have g1 : w.grownBy (w.setCell ⟨fb, 5, none⟩ (.int .i64 (m : Int))) (some fb) := gb_setCell (gb_refl _ _) _
  have b1 : Box (w.setCell ⟨fb, 5, none⟩ (.int .i64 (m : Int))) 136 fb (fdA fb G (.slice (some ⟨g, 0, none⟩) m cp) (m : Int) lf ck cd cm) := hx.box.set 5 _
  have hby1 : ∀ i x, q[i]? = some x → (w.setCell ⟨fb, 5, none⟩ (.int .i64 (m : Int))).cell? ⟨g, 0 + i, none⟩ = some (b8 x) := by
    intro i x hi
    refine gb_cell g1 (hby i x ?_) (by simpa using hgf)
    rw [hq, List.getElem?_append_left (List.getElem?_eq_some_iff.1 hi).1]
    exact hi
  have hE1 : Er (w.setCell ⟨fb, 5, none⟩ (.int .i64 (m : Int))) := Er.setB hE (er_box hE hx.box)
  have hg1 : g < (w.setCell ⟨fb, 5, none⟩ (.int .i64 (m : Int))).heap.size := Nat.lt_of_lt_of_le hg0 g1.size
  have c4w : w.cell? ⟨fb, 4, none⟩ = some (.slice (some ⟨g, 0, none⟩) m cp) := hx.box.cell 4
  have c5w : w.cell? ⟨fb, 5, none⟩ = some (.int .i64 hd) := hx.box.cell 5
  have f5w := hx.box.fz 5
  have hsz := g1.size
  obtain ⟨tl, htl⟩ : ∃ tl, (trim q).length = tl := ⟨_, rfl⟩
  have d1 : IntKind.i64.wrap ((m : Int) - 1) = (q.length : Int) := by rw [IntKind.wrap_i64]; omega
  have d2 : q.length ≤ cp := by omega
  obtain ⟨ql, hqle⟩ : ∃ ql, q.length = ql := ⟨_, rfl⟩
  rw [hqle] at d1 d2
  have A : Aside (m = q.length + 1 ∧ q.length = ql ∧ (trim q).length = tl ∧ G.kept = q ++ [10]) := ⟨hm, hqle, htl, hq⟩
  clear hm hqle htl hq
  go_enter Tryz.func136, Tryz.ntmps136
  go_upto_region 2 with (fail)
  generalize w.setCell ⟨fb, 5, none⟩ (.int .i64 (m : Int)) = w1 at g1 b1 hby1 hE1 hg1 hsz ⊢
  obtain ⟨hm, hqle, htl, hq⟩ := A.out
  have c4 : w1.cell? ⟨fb, 4, none⟩ = some (.slice (some ⟨g, 0, none⟩) m cp) := b1.cell 4
  have c5 : w1.cell? ⟨fb, 5, none⟩ = some (.int .i64 (m : Int)) := b1.cell 5
  have h119 : ∀ W sb, w1.grownBy W none → W.cell? ⟨sb, 0, none⟩ = some (.int .u8 13) → Calls Tryz.prog 119 #[.slice (some ⟨g, 0, none⟩) ql cp, .slice (some ⟨sb, 0, none⟩) 1 1] W fun e w' => e = .returned (.slice (some ⟨g, 0, none⟩) tl cp) ∧ w' = W := by
    intro W sb hg hs
    have := trim_119 (w := W) (g := g) (o := 0) (c := cp) (sg := sb) (sc := 1) (l := q) (by omega) (by omega) (Nat.lt_of_lt_of_le hg1 hg.size) (fun i x hi => gb_cellN hg (hby1 i x hi)) hs
    rw [htl, hqle] at this
    exact this
  have h15 : ∀ W, w1.grownBy W none → Calls Tryz.prog 15 #[.slice (some ⟨g, 0, none⟩) tl cp] W fun e w' => ∃ c n ka kn kc ma mn mc k t p, e = .returned (.tuple #[.agg (cmA c (.slice ka kn kc) (.slice ma mn mc)), .int .i64 n, .agg #[.int .i64 k, sv t, .int .i64 p]]) ∧ w'.ownsRow W.heap.size 9 1 (.slice ka kn kc) c.keys.length (c.keys.map sv) ∧ w'.ownsRow W.heap.size 79 3 (.slice ma mn mc) c.mt.length (fcs c.mt) ∧ W.grownBy w' none ∧ LnC q c n k t p := by
    intro W hg
    refine line_both (hE1.kept hg) (.inr ⟨g, 0, cp, by rw [htl], ?_, Nat.lt_of_lt_of_le hg1 hg.size, fun i x hi => gb_cellN hg (hby1 i x (trimT_get hi))⟩)
    have := (trim_len q).2
    omega
  clear c4w c5w f5w hby hg0 hby1 hE1 hg1 hm hqle htl hq
  go_cut [3, 4, 5] from 14 to 30 (fun v3 v4 v5 wc => RdX w1 q v3 v4 v5 wc)
  case first =>
    apply tail_once (C := fun W5 b3 b5 sb c n ka kn kc ma mn mc k t p => w1.grownBy W5 none ∧ W5.ownsRow w1.heap.size 9 1 (.slice ka kn kc) c.keys.length (c.keys.map sv) ∧ W5.ownsRow w1.heap.size 79 3 (.slice ma mn mc) c.mt.length (fcs c.mt) ∧ Box W5 41 b3 zA ∧ Box W5 43 b5 zB ∧ w1.heap.size ≤ b3 ∧ w1.heap.size ≤ b5 ∧ LnC q c n k t p)
    intro key
    apply tail_once (C := fun W5 b3 b5 sb c n ka kn kc ma mn mc k t p => w1.grownBy W5 none ∧ W5.ownsRow w1.heap.size 9 1 (.slice ka kn kc) c.keys.length (c.keys.map sv) ∧ W5.ownsRow w1.heap.size 79 3 (.slice ma mn mc) c.mt.length (fcs c.mt) ∧ Box W5 41 b3 zA ∧ Box W5 43 b5 zB ∧ w1.heap.size ≤ b3 ∧ w1.heap.size ≤ b5 ∧ LnC q c n k t p)
    intro keyAB
    apply tail_A (C := fun W4 b3 sb c n ka kn kc ma mn mc k t p => w1.grownBy W4 none ∧ W4.ownsRow w1.heap.size 9 1 (.slice ka kn kc) c.keys.length (c.keys.map sv) ∧ W4.ownsRow w1.heap.size 79 3 (.slice ma mn mc) c.mt.length (fcs c.mt) ∧ Box W4 41 b3 zA ∧ w1.heap.size ≤ b3 ∧ LnC q c n k t p)
    intro keyA
    apply tail_A (C := fun W4 b5 sb c n ka kn kc ma mn mc k t p => w1.grownBy W4 none ∧ W4.ownsRow w1.heap.size 9 1 (.slice ka kn kc) c.keys.length (c.keys.map sv) ∧ W4.ownsRow w1.heap.size 79 3 (.slice ma mn mc) c.mt.length (fcs c.mt) ∧ Box W4 43 b5 zB ∧ w1.heap.size ≤ b5 ∧ LnC q c n k t p)
    intro keyB
    apply tail_0 (C := fun W3 sb c n ka kn kc ma mn mc k t p => w1.grownBy W3 none ∧ W3.ownsRow w1.heap.size 9 1 (.slice ka kn kc) c.keys.length (c.keys.map sv) ∧ W3.ownsRow w1.heap.size 79 3 (.slice ma mn mc) c.mt.length (fcs c.mt) ∧ LnC q c n k t p)
    intro key0
    refine wp_region_noPanic ?_
    refine wp_region_held_drew (S := fun W : World => w1.grownBy W none) (by kernel_rfl) (gb_drew (gb_refl _ none)) (fun hg => ?_)
    generalize w1.drew = W at hg ⊢
    refine tkT 0 (trO0 _) rfl (by intro W hSw; go_simp; (try (with_reducible rfl))) ?_
    try simp only [Act.put, pZ]
    refine tkT 1 (trO1 _) rfl (by intro W hSw; go_simp; (try (with_reducible rfl))) ?_
    try simp only [Act.put, pZ]
    refine tkT 2 (trO2 _) rfl (by intro W hSw; go_simp; (try (with_reducible rfl))) ?_
    try simp only [Act.put, pZ]
    refine tkT 3 (trO3 _) rfl (by intro W hSw; have e4 := gb_cellN hSw c4; go_simp; (try (with_reducible rfl))) ?_
    try simp only [Act.put, pZ]
    refine tkT 4 (trO4 _) rfl (by intro W hSw; go_simp; (try (with_reducible rfl))) ?_
    try simp only [Act.put, pZ]
    refine tkT 5 (trO5 _) rfl (by intro W hSw; go_simp; (try (with_reducible rfl))) ?_
    try simp only [Act.put, pZ]
    refine tkT 6 (trO6 _) rfl (by intro W hSw; go_simp; (try (with_reducible rfl))) ?_
    try simp only [Act.put, pZ]
    refine tkT 7 (trO7 _) rfl (by intro W hSw; have e5 := gb_cellN hSw c5; go_simp; (try (with_reducible rfl))) ?_
    try simp only [Act.put, pZ]
    refine tkT 8 (trO8 _) rfl (by intro W hSw; go_simp; (try (with_reducible rfl))) ?_
    try simp only [Act.put, pZ]
    refine tkT 9 (trO9 _) rfl (by intro W hSw; go_simp; (try (with_reducible rfl))) ?_
    try simp only [Act.put, pZ]
    refine wpAnyH_ready (rs := [10, 17, 18]) (by kernel_rfl) (by simp) ?_
    refine (AllReadyH.cons rfl (fun K hK => ?_) (AllReadyH.cons rfl (fun K hK => ?_) (AllReadyH.cons rfl (fun K hK => ?_) AllReadyH.nil)))
    · go_simp
      have gx := gb_alloc (gb_refl W none) (.cells #[.int .u8 13] 5)
      have hs : (W.alloc (.cells #[.int .u8 13] 5)).cell? ⟨W.heap.size, 0, none⟩ = some (.int .u8 13) := (Box.new W 5 _).cell 0
      generalize W.heap.size = sb at hs ⊢
      replace hg := gb_trans hg gx
      generalize W.alloc (.cells #[.int .u8 13] 5) = W1 at *
      clear gx W
      refine hK.out _ _ hg (fun hS => ?_)
      clear hK K hS
      try simp only [Act.put, pZ]
      refine wpAnyH_ready (rs := [11, 17, 18]) (by kernel_rfl) (by simp) ?_
      refine (AllReadyH.cons rfl (fun K hK => ?_) (AllReadyH.cons rfl (fun K hK => ?_) (AllReadyH.cons rfl (fun K hK => ?_) AllReadyH.nil)))
      · go_simp
        (with_reducible refine (h119 W1 sb hg hs).mono ?_)
        rintro e w2 ⟨rfl, rfl⟩
        clear hs
        refine hK.out _ _ hg (fun hS => ?_)
        clear hK K hS
        try simp only [Act.put, pZ]
        refine wpAnyH_ready (rs := [12, 17, 18]) (by kernel_rfl) (by simp) ?_
        refine (AllReadyH.cons rfl (fun K hK => ?_) (AllReadyH.cons rfl (fun K hK => ?_) (AllReadyH.cons rfl (fun K hK => ?_) AllReadyH.nil)))
        · go_simp
          (with_reducible refine (h15 w2 hg).mono ?_)
          rintro e W3 ⟨c, n, ka, kn, kc, ma, mn, mc, k, t, p, rfl, r1, r2, gx, hC⟩
          replace r1 := row_base r1 hg.size
          replace r2 := row_base r2 hg.size
          replace hg := gb_trans hg gx
          clear gx
          refine hK.out _ _ hg (fun hS => ?_)
          clear hK K hS w2
          try simp only [Act.put, pZ]
          exact key0 W3 sb c n ka kn kc ma mn mc k t p ⟨hg, r1, r2, hC⟩
        · go_simp
          have gx := gb_alloc (gb_refl w2 none) (.cells zA 41)
          have B3 : Box (w2.alloc (.cells zA 41)) 41 w2.heap.size zA := Box.new w2 41 _
          have l3 : w1.heap.size ≤ w2.heap.size := hg.size
          generalize w2.heap.size = b3 at B3 l3 ⊢
          replace hg := gb_trans hg gx
          generalize w2.alloc (.cells zA 41) = W3 at *
          clear gx w2
          refine hK.out _ _ hg (fun hS => ?_)
          clear hK K hS
          try simp only [Act.put, pZ]
          refine wpAnyH_ready (rs := [12, 18]) (by kernel_rfl) (by simp) ?_
          refine (AllReadyH.cons rfl (fun K hK => ?_) (AllReadyH.cons rfl (fun K hK => ?_) AllReadyH.nil))
          · go_simp
            (with_reducible refine (h15 W3 hg).mono ?_)
            rintro e W4 ⟨c, n, ka, kn, kc, ma, mn, mc, k, t, p, rfl, r1, r2, gx, hC⟩
            replace r1 := row_base r1 hg.size
            replace r2 := row_base r2 hg.size
            replace B3 := B3.kept gx (by simp)
            replace hg := gb_trans hg gx
            clear gx
            refine hK.out _ _ hg (fun hS => ?_)
            clear hK K hS W3
            try simp only [Act.put, pZ]
            exact keyA W4 b3 sb c n ka kn kc ma mn mc k t p ⟨hg, r1, r2, B3, l3, hC⟩
          · go_simp
            have gx := gb_alloc (gb_refl W3 none) (.cells zB 43)
            replace B3 := B3.kept gx (by simp)
            have B5 : Box (W3.alloc (.cells zB 43)) 43 W3.heap.size zB := Box.new W3 43 _
            have l5 : w1.heap.size ≤ W3.heap.size := hg.size
            generalize W3.heap.size = b5 at B5 l5 ⊢
            replace hg := gb_trans hg gx
            generalize W3.alloc (.cells zB 43) = W4 at *
            clear gx W3
            refine hK.out _ _ hg (fun hS => ?_)
            clear hK K hS
            try simp only [Act.put, pZ]
            refine wpAnyH_ready (rs := [12]) (by kernel_rfl) (by simp) ?_
            refine (AllReadyH.cons rfl (fun K hK => ?_) AllReadyH.nil)
            go_simp
            (with_reducible refine (h15 W4 hg).mono ?_)
            rintro e W5 ⟨c, n, ka, kn, kc, ma, mn, mc, k, t, p, rfl, r1, r2, gx, hC⟩
            replace r1 := row_base r1 hg.size
            replace r2 := row_base r2 hg.size
            replace B3 := B3.kept gx (by simp)
            replace B5 := B5.kept gx (by simp)
            replace hg := gb_trans hg gx
            clear gx
            refine hK.out _ _ hg (fun hS => ?_)
            clear hK K hS W4
            try simp only [Act.put, pZ]
            exact keyAB W5 b3 b5 sb c n ka kn kc ma mn mc k t p ⟨hg, r1, r2, B3, B5, l3, l5, hC⟩
        · go_simp
          have gx := gb_alloc (gb_refl w2 none) (.cells zB 43)
          have B5 : Box (w2.alloc (.cells zB 43)) 43 w2.heap.size zB := Box.new w2 43 _
          have l5 : w1.heap.size ≤ w2.heap.size := hg.size
          generalize w2.heap.size = b5 at B5 l5 ⊢
          replace hg := gb_trans hg gx
          generalize w2.alloc (.cells zB 43) = W3 at *
          clear gx w2
          refine hK.out _ _ hg (fun hS => ?_)
          clear hK K hS
          try simp only [Act.put, pZ]
          refine wpAnyH_ready (rs := [12, 17]) (by kernel_rfl) (by simp) ?_
          refine (AllReadyH.cons rfl (fun K hK => ?_) (AllReadyH.cons rfl (fun K hK => ?_) AllReadyH.nil))
          · go_simp
            (with_reducible refine (h15 W3 hg).mono ?_)
            rintro e W4 ⟨c, n, ka, kn, kc, ma, mn, mc, k, t, p, rfl, r1, r2, gx, hC⟩
            replace r1 := row_base r1 hg.size
            replace r2 := row_base r2 hg.size
            replace B5 := B5.kept gx (by simp)
            replace hg := gb_trans hg gx
            clear gx
            refine hK.out _ _ hg (fun hS => ?_)
            clear hK K hS W3
            try simp only [Act.put, pZ]
            exact keyB W4 b5 sb c n ka kn kc ma mn mc k t p ⟨hg, r1, r2, B5, l5, hC⟩
          · go_simp
            have gx := gb_alloc (gb_refl W3 none) (.cells zA 41)
            replace B5 := B5.kept gx (by simp)
            have B3 : Box (W3.alloc (.cells zA 41)) 41 W3.heap.size zA := Box.new W3 41 _
            have l3 : w1.heap.size ≤ W3.heap.size := hg.size
            generalize W3.heap.size = b3 at B3 l3 ⊢
            replace hg := gb_trans hg gx
            generalize W3.alloc (.cells zA 41) = W4 at *
            clear gx W3
            refine hK.out _ _ hg (fun hS => ?_)
            clear hK K hS
            try simp only [Act.put, pZ]
            refine wpAnyH_ready (rs := [12]) (by kernel_rfl) (by simp) ?_
            refine (AllReadyH.cons rfl (fun K hK => ?_) AllReadyH.nil)
            go_simp
            (with_reducible refine (h15 W4 hg).mono ?_)
            rintro e W5 ⟨c, n, ka, kn, kc, ma, mn, mc, k, t, p, rfl, r1, r2, gx, hC⟩
            replace r1 := row_base r1 hg.size
            replace r2 := row_base r2 hg.size
            replace B3 := B3.kept gx (by simp)
            replace B5 := B5.kept gx (by simp)
            replace hg := gb_trans hg gx
            clear gx
            refine hK.out _ _ hg (fun hS => ?_)
            clear hK K hS W4
            try simp only [Act.put, pZ]
            exact keyAB W5 b3 b5 sb c n ka kn kc ma mn mc k t p ⟨hg, r1, r2, B3, B5, l3, l5, hC⟩
      · go_simp
        have gx := gb_alloc (gb_refl W1 none) (.cells zA 41)
        replace hs := gb_cellN gx hs
        have B3 : Box (W1.alloc (.cells zA 41)) 41 W1.heap.size zA := Box.new W1 41 _
        have l3 : w1.heap.size ≤ W1.heap.size := hg.size
        generalize W1.heap.size = b3 at B3 l3 ⊢
        replace hg := gb_trans hg gx
        generalize W1.alloc (.cells zA 41) = W2 at *
        clear gx W1
        refine hK.out _ _ hg (fun hS => ?_)
        clear hK K hS
        try simp only [Act.put, pZ]
        refine wpAnyH_ready (rs := [11, 18]) (by kernel_rfl) (by simp) ?_
        refine (AllReadyH.cons rfl (fun K hK => ?_) (AllReadyH.cons rfl (fun K hK => ?_) AllReadyH.nil))
        · go_simp
          (with_reducible refine (h119 W2 sb hg hs).mono ?_)
          rintro e w2 ⟨rfl, rfl⟩
          clear hs
          refine hK.out _ _ hg (fun hS => ?_)
          clear hK K hS
          try simp only [Act.put, pZ]
          refine wpAnyH_ready (rs := [12, 18]) (by kernel_rfl) (by simp) ?_
          refine (AllReadyH.cons rfl (fun K hK => ?_) (AllReadyH.cons rfl (fun K hK => ?_) AllReadyH.nil))
          · go_simp
            (with_reducible refine (h15 w2 hg).mono ?_)
            rintro e W4 ⟨c, n, ka, kn, kc, ma, mn, mc, k, t, p, rfl, r1, r2, gx, hC⟩
            replace r1 := row_base r1 hg.size
            replace r2 := row_base r2 hg.size
            replace B3 := B3.kept gx (by simp)
            replace hg := gb_trans hg gx
            clear gx
            refine hK.out _ _ hg (fun hS => ?_)
            clear hK K hS w2
            try simp only [Act.put, pZ]
            exact keyA W4 b3 sb c n ka kn kc ma mn mc k t p ⟨hg, r1, r2, B3, l3, hC⟩
          · go_simp
            have gx := gb_alloc (gb_refl w2 none) (.cells zB 43)
            replace B3 := B3.kept gx (by simp)
            have B5 : Box (w2.alloc (.cells zB 43)) 43 w2.heap.size zB := Box.new w2 43 _
            have l5 : w1.heap.size ≤ w2.heap.size := hg.size
            generalize w2.heap.size = b5 at B5 l5 ⊢
            replace hg := gb_trans hg gx
            generalize w2.alloc (.cells zB 43) = W4 at *
            clear gx w2
            refine hK.out _ _ hg (fun hS => ?_)
            clear hK K hS
            try simp only [Act.put, pZ]
            refine wpAnyH_ready (rs := [12]) (by kernel_rfl) (by simp) ?_
            refine (AllReadyH.cons rfl (fun K hK => ?_) AllReadyH.nil)
            go_simp
            (with_reducible refine (h15 W4 hg).mono ?_)
            rintro e W5 ⟨c, n, ka, kn, kc, ma, mn, mc, k, t, p, rfl, r1, r2, gx, hC⟩
            replace r1 := row_base r1 hg.size
            replace r2 := row_base r2 hg.size
            replace B3 := B3.kept gx (by simp)
            replace B5 := B5.kept gx (by simp)
            replace hg := gb_trans hg gx
            clear gx
            refine hK.out _ _ hg (fun hS => ?_)
            clear hK K hS W4
            try simp only [Act.put, pZ]
            exact keyAB W5 b3 b5 sb c n ka kn kc ma mn mc k t p ⟨hg, r1, r2, B3, B5, l3, l5, hC⟩
        · go_simp
          have gx := gb_alloc (gb_refl W2 none) (.cells zB 43)
          replace hs := gb_cellN gx hs
          replace B3 := B3.kept gx (by simp)
          have B5 : Box (W2.alloc (.cells zB 43)) 43 W2.heap.size zB := Box.new W2 43 _
          have l5 : w1.heap.size ≤ W2.heap.size := hg.size
          generalize W2.heap.size = b5 at B5 l5 ⊢
          replace hg := gb_trans hg gx
          generalize W2.alloc (.cells zB 43) = W3 at *
          clear gx W2
          refine hK.out _ _ hg (fun hS => ?_)
          clear hK K hS
          try simp only [Act.put, pZ]
          refine wpAnyH_ready (rs := [11]) (by kernel_rfl) (by simp) ?_
          refine (AllReadyH.cons rfl (fun K hK => ?_) AllReadyH.nil)
          go_simp
          (with_reducible refine (h119 W3 sb hg hs).mono ?_)
          rintro e w2 ⟨rfl, rfl⟩
          clear hs
          refine hK.out _ _ hg (fun hS => ?_)
          clear hK K hS
          try simp only [Act.put, pZ]
          refine wpAnyH_ready (rs := [12]) (by kernel_rfl) (by simp) ?_
          refine (AllReadyH.cons rfl (fun K hK => ?_) AllReadyH.nil)
          go_simp
          (with_reducible refine (h15 w2 hg).mono ?_)
          rintro e W5 ⟨c, n, ka, kn, kc, ma, mn, mc, k, t, p, rfl, r1, r2, gx, hC⟩
          replace r1 := row_base r1 hg.size
          replace r2 := row_base r2 hg.size
          replace B3 := B3.kept gx (by simp)
          replace B5 := B5.kept gx (by simp)
          replace hg := gb_trans hg gx
          clear gx
          refine hK.out _ _ hg (fun hS => ?_)
          clear hK K hS w2
          try simp only [Act.put, pZ]
          exact keyAB W5 b3 b5 sb c n ka kn kc ma mn mc k t p ⟨hg, r1, r2, B3, B5, l3, l5, hC⟩
      · go_simp
        have gx := gb_alloc (gb_refl W1 none) (.cells zB 43)
        replace hs := gb_cellN gx hs
        have B5 : Box (W1.alloc (.cells zB 43)) 43 W1.heap.size zB := Box.new W1 43 _
        have l5 : w1.heap.size ≤ W1.heap.size := hg.size
        generalize W1.heap.size = b5 at B5 l5 ⊢
        replace hg := gb_trans hg gx
        generalize W1.alloc (.cells zB 43) = W2 at *
        clear gx W1
        refine hK.out _ _ hg (fun hS => ?_)
        clear hK K hS
        try simp only [Act.put, pZ]
        refine wpAnyH_ready (rs := [11, 17]) (by kernel_rfl) (by simp) ?_
        refine (AllReadyH.cons rfl (fun K hK => ?_) (AllReadyH.cons rfl (fun K hK => ?_) AllReadyH.nil))
        · go_simp
          (with_reducible refine (h119 W2 sb hg hs).mono ?_)
          rintro e w2 ⟨rfl, rfl⟩
          clear hs
          refine hK.out _ _ hg (fun hS => ?_)
          clear hK K hS
          try simp only [Act.put, pZ]
          refine wpAnyH_ready (rs := [12, 17]) (by kernel_rfl) (by simp) ?_
          refine (AllReadyH.cons rfl (fun K hK => ?_) (AllReadyH.cons rfl (fun K hK => ?_) AllReadyH.nil))
          · go_simp
            (with_reducible refine (h15 w2 hg).mono ?_)
            rintro e W4 ⟨c, n, ka, kn, kc, ma, mn, mc, k, t, p, rfl, r1, r2, gx, hC⟩
            replace r1 := row_base r1 hg.size
            replace r2 := row_base r2 hg.size
            replace B5 := B5.kept gx (by simp)
            replace hg := gb_trans hg gx
            clear gx
            refine hK.out _ _ hg (fun hS => ?_)
            clear hK K hS w2
            try simp only [Act.put, pZ]
            exact keyB W4 b5 sb c n ka kn kc ma mn mc k t p ⟨hg, r1, r2, B5, l5, hC⟩
          · go_simp
            have gx := gb_alloc (gb_refl w2 none) (.cells zA 41)
            replace B5 := B5.kept gx (by simp)
            have B3 : Box (w2.alloc (.cells zA 41)) 41 w2.heap.size zA := Box.new w2 41 _
            have l3 : w1.heap.size ≤ w2.heap.size := hg.size
            generalize w2.heap.size = b3 at B3 l3 ⊢
            replace hg := gb_trans hg gx
            generalize w2.alloc (.cells zA 41) = W4 at *
            clear gx w2
            refine hK.out _ _ hg (fun hS => ?_)
            clear hK K hS
            try simp only [Act.put, pZ]
            refine wpAnyH_ready (rs := [12]) (by kernel_rfl) (by simp) ?_
            refine (AllReadyH.cons rfl (fun K hK => ?_) AllReadyH.nil)
            go_simp
            (with_reducible refine (h15 W4 hg).mono ?_)
            rintro e W5 ⟨c, n, ka, kn, kc, ma, mn, mc, k, t, p, rfl, r1, r2, gx, hC⟩
            replace r1 := row_base r1 hg.size
            replace r2 := row_base r2 hg.size
            replace B3 := B3.kept gx (by simp)
            replace B5 := B5.kept gx (by simp)
            replace hg := gb_trans hg gx
            clear gx
            refine hK.out _ _ hg (fun hS => ?_)
            clear hK K hS W4
            try simp only [Act.put, pZ]
            exact keyAB W5 b3 b5 sb c n ka kn kc ma mn mc k t p ⟨hg, r1, r2, B3, B5, l3, l5, hC⟩
        · go_simp
          have gx := gb_alloc (gb_refl W2 none) (.cells zA 41)
          replace hs := gb_cellN gx hs
          replace B5 := B5.kept gx (by simp)
          have B3 : Box (W2.alloc (.cells zA 41)) 41 W2.heap.size zA := Box.new W2 41 _
          have l3 : w1.heap.size ≤ W2.heap.size := hg.size
          generalize W2.heap.size = b3 at B3 l3 ⊢
          replace hg := gb_trans hg gx
          generalize W2.alloc (.cells zA 41) = W3 at *
          clear gx W2
          refine hK.out _ _ hg (fun hS => ?_)
          clear hK K hS
          try simp only [Act.put, pZ]
          refine wpAnyH_ready (rs := [11]) (by kernel_rfl) (by simp) ?_
          refine (AllReadyH.cons rfl (fun K hK => ?_) AllReadyH.nil)
          go_simp
          (with_reducible refine (h119 W3 sb hg hs).mono ?_)
          rintro e w2 ⟨rfl, rfl⟩
          clear hs
          refine hK.out _ _ hg (fun hS => ?_)
          clear hK K hS
          try simp only [Act.put, pZ]
          refine wpAnyH_ready (rs := [12]) (by kernel_rfl) (by simp) ?_
          refine (AllReadyH.cons rfl (fun K hK => ?_) AllReadyH.nil)
          go_simp
          (with_reducible refine (h15 w2 hg).mono ?_)
          rintro e W5 ⟨c, n, ka, kn, kc, ma, mn, mc, k, t, p, rfl, r1, r2, gx, hC⟩
          replace r1 := row_base r1 hg.size
          replace r2 := row_base r2 hg.size
          replace B3 := B3.kept gx (by simp)
          replace B5 := B5.kept gx (by simp)
          replace hg := gb_trans hg gx
          clear gx
          refine hK.out _ _ hg (fun hS => ?_)
          clear hK K hS w2
          try simp only [Act.put, pZ]
          exact keyAB W5 b3 b5 sb c n ka kn kc ma mn mc k t p ⟨hg, r1, r2, B3, B5, l3, l5, hC⟩
    · go_simp
      have gx := gb_alloc (gb_refl W none) (.cells zA 41)
      have B3 : Box (W.alloc (.cells zA 41)) 41 W.heap.size zA := Box.new W 41 _
      have l3 : w1.heap.size ≤ W.heap.size := hg.size
      generalize W.heap.size = b3 at B3 l3 ⊢
      replace hg := gb_trans hg gx
      generalize W.alloc (.cells zA 41) = W1 at *
      clear gx W
      refine hK.out _ _ hg (fun hS => ?_)
      clear hK K hS
      try simp only [Act.put, pZ]
      refine wpAnyH_ready (rs := [10, 18]) (by kernel_rfl) (by simp) ?_
      refine (AllReadyH.cons rfl (fun K hK => ?_) (AllReadyH.cons rfl (fun K hK => ?_) AllReadyH.nil))
      · go_simp
        have gx := gb_alloc (gb_refl W1 none) (.cells #[.int .u8 13] 5)
        replace B3 := B3.kept gx (by simp)
        have hs : (W1.alloc (.cells #[.int .u8 13] 5)).cell? ⟨W1.heap.size, 0, none⟩ = some (.int .u8 13) := (Box.new W1 5 _).cell 0
        generalize W1.heap.size = sb at hs ⊢
        replace hg := gb_trans hg gx
        generalize W1.alloc (.cells #[.int .u8 13] 5) = W2 at *
        clear gx W1
        refine hK.out _ _ hg (fun hS => ?_)
        clear hK K hS
        try simp only [Act.put, pZ]
        refine wpAnyH_ready (rs := [11, 18]) (by kernel_rfl) (by simp) ?_
        refine (AllReadyH.cons rfl (fun K hK => ?_) (AllReadyH.cons rfl (fun K hK => ?_) AllReadyH.nil))
        · go_simp
          (with_reducible refine (h119 W2 sb hg hs).mono ?_)
          rintro e w2 ⟨rfl, rfl⟩
          clear hs
          refine hK.out _ _ hg (fun hS => ?_)
          clear hK K hS
          try simp only [Act.put, pZ]
          refine wpAnyH_ready (rs := [12, 18]) (by kernel_rfl) (by simp) ?_
          refine (AllReadyH.cons rfl (fun K hK => ?_) (AllReadyH.cons rfl (fun K hK => ?_) AllReadyH.nil))
          · go_simp
            (with_reducible refine (h15 w2 hg).mono ?_)
            rintro e W4 ⟨c, n, ka, kn, kc, ma, mn, mc, k, t, p, rfl, r1, r2, gx, hC⟩
            replace r1 := row_base r1 hg.size
            replace r2 := row_base r2 hg.size
            replace B3 := B3.kept gx (by simp)
            replace hg := gb_trans hg gx
            clear gx
            refine hK.out _ _ hg (fun hS => ?_)
            clear hK K hS w2
            try simp only [Act.put, pZ]
            exact keyA W4 b3 sb c n ka kn kc ma mn mc k t p ⟨hg, r1, r2, B3, l3, hC⟩
          · go_simp
            have gx := gb_alloc (gb_refl w2 none) (.cells zB 43)
            replace B3 := B3.kept gx (by simp)
            have B5 : Box (w2.alloc (.cells zB 43)) 43 w2.heap.size zB := Box.new w2 43 _
            have l5 : w1.heap.size ≤ w2.heap.size := hg.size
            generalize w2.heap.size = b5 at B5 l5 ⊢
            replace hg := gb_trans hg gx
            generalize w2.alloc (.cells zB 43) = W4 at *
            clear gx w2
            refine hK.out _ _ hg (fun hS => ?_)
            clear hK K hS
            try simp only [Act.put, pZ]
            refine wpAnyH_ready (rs := [12]) (by kernel_rfl) (by simp) ?_
            refine (AllReadyH.cons rfl (fun K hK => ?_) AllReadyH.nil)
            go_simp
            (with_reducible refine (h15 W4 hg).mono ?_)
            rintro e W5 ⟨c, n, ka, kn, kc, ma, mn, mc, k, t, p, rfl, r1, r2, gx, hC⟩
            replace r1 := row_base r1 hg.size
            replace r2 := row_base r2 hg.size
            replace B3 := B3.kept gx (by simp)
            replace B5 := B5.kept gx (by simp)
            replace hg := gb_trans hg gx
            clear gx
            refine hK.out _ _ hg (fun hS => ?_)
            clear hK K hS W4
            try simp only [Act.put, pZ]
            exact keyAB W5 b3 b5 sb c n ka kn kc ma mn mc k t p ⟨hg, r1, r2, B3, B5, l3, l5, hC⟩
        · go_simp
          have gx := gb_alloc (gb_refl W2 none) (.cells zB 43)
          replace hs := gb_cellN gx hs
          replace B3 := B3.kept gx (by simp)
          have B5 : Box (W2.alloc (.cells zB 43)) 43 W2.heap.size zB := Box.new W2 43 _
          have l5 : w1.heap.size ≤ W2.heap.size := hg.size
          generalize W2.heap.size = b5 at B5 l5 ⊢
          replace hg := gb_trans hg gx
          generalize W2.alloc (.cells zB 43) = W3 at *
          clear gx W2
          refine hK.out _ _ hg (fun hS => ?_)
          clear hK K hS
          try simp only [Act.put, pZ]
          refine wpAnyH_ready (rs := [11]) (by kernel_rfl) (by simp) ?_
          refine (AllReadyH.cons rfl (fun K hK => ?_) AllReadyH.nil)
          go_simp
          (with_reducible refine (h119 W3 sb hg hs).mono ?_)
          rintro e w2 ⟨rfl, rfl⟩
          clear hs
          refine hK.out _ _ hg (fun hS => ?_)
          clear hK K hS
          try simp only [Act.put, pZ]
          refine wpAnyH_ready (rs := [12]) (by kernel_rfl) (by simp) ?_
          refine (AllReadyH.cons rfl (fun K hK => ?_) AllReadyH.nil)
          go_simp
          (with_reducible refine (h15 w2 hg).mono ?_)
          rintro e W5 ⟨c, n, ka, kn, kc, ma, mn, mc, k, t, p, rfl, r1, r2, gx, hC⟩
          replace r1 := row_base r1 hg.size
          replace r2 := row_base r2 hg.size
          replace B3 := B3.kept gx (by simp)
          replace B5 := B5.kept gx (by simp)
          replace hg := gb_trans hg gx
          clear gx
          refine hK.out _ _ hg (fun hS => ?_)
          clear hK K hS w2
          try simp only [Act.put, pZ]
          exact keyAB W5 b3 b5 sb c n ka kn kc ma mn mc k t p ⟨hg, r1, r2, B3, B5, l3, l5, hC⟩
      · go_simp
        have gx := gb_alloc (gb_refl W1 none) (.cells zB 43)
        replace B3 := B3.kept gx (by simp)
        have B5 : Box (W1.alloc (.cells zB 43)) 43 W1.heap.size zB := Box.new W1 43 _
        have l5 : w1.heap.size ≤ W1.heap.size := hg.size
        generalize W1.heap.size = b5 at B5 l5 ⊢
        replace hg := gb_trans hg gx
        generalize W1.alloc (.cells zB 43) = W2 at *
        clear gx W1
        refine hK.out _ _ hg (fun hS => ?_)
        clear hK K hS
        try simp only [Act.put, pZ]
        refine wpAnyH_ready (rs := [10]) (by kernel_rfl) (by simp) ?_
        refine (AllReadyH.cons rfl (fun K hK => ?_) AllReadyH.nil)
        go_simp
        have gx := gb_alloc (gb_refl W2 none) (.cells #[.int .u8 13] 5)
        replace B3 := B3.kept gx (by simp)
        replace B5 := B5.kept gx (by simp)
        have hs : (W2.alloc (.cells #[.int .u8 13] 5)).cell? ⟨W2.heap.size, 0, none⟩ = some (.int .u8 13) := (Box.new W2 5 _).cell 0
        generalize W2.heap.size = sb at hs ⊢
        replace hg := gb_trans hg gx
        generalize W2.alloc (.cells #[.int .u8 13] 5) = W3 at *
        clear gx W2
        refine hK.out _ _ hg (fun hS => ?_)
        clear hK K hS
        try simp only [Act.put, pZ]
        refine wpAnyH_ready (rs := [11]) (by kernel_rfl) (by simp) ?_
        refine (AllReadyH.cons rfl (fun K hK => ?_) AllReadyH.nil)
        go_simp
        (with_reducible refine (h119 W3 sb hg hs).mono ?_)
        rintro e w2 ⟨rfl, rfl⟩
        clear hs
        refine hK.out _ _ hg (fun hS => ?_)
        clear hK K hS
        try simp only [Act.put, pZ]
        refine wpAnyH_ready (rs := [12]) (by kernel_rfl) (by simp) ?_
        refine (AllReadyH.cons rfl (fun K hK => ?_) AllReadyH.nil)
        go_simp
        (with_reducible refine (h15 w2 hg).mono ?_)
        rintro e W5 ⟨c, n, ka, kn, kc, ma, mn, mc, k, t, p, rfl, r1, r2, gx, hC⟩
        replace r1 := row_base r1 hg.size
        replace r2 := row_base r2 hg.size
        replace B3 := B3.kept gx (by simp)
        replace B5 := B5.kept gx (by simp)
        replace hg := gb_trans hg gx
        clear gx
        refine hK.out _ _ hg (fun hS => ?_)
        clear hK K hS w2
        try simp only [Act.put, pZ]
        exact keyAB W5 b3 b5 sb c n ka kn kc ma mn mc k t p ⟨hg, r1, r2, B3, B5, l3, l5, hC⟩
    · go_simp
      have gx := gb_alloc (gb_refl W none) (.cells zB 43)
      have B5 : Box (W.alloc (.cells zB 43)) 43 W.heap.size zB := Box.new W 43 _
      have l5 : w1.heap.size ≤ W.heap.size := hg.size
      generalize W.heap.size = b5 at B5 l5 ⊢
      replace hg := gb_trans hg gx
      generalize W.alloc (.cells zB 43) = W1 at *
      clear gx W
      refine hK.out _ _ hg (fun hS => ?_)
      clear hK K hS
      try simp only [Act.put, pZ]
      refine wpAnyH_ready (rs := [10, 17]) (by kernel_rfl) (by simp) ?_
      refine (AllReadyH.cons rfl (fun K hK => ?_) (AllReadyH.cons rfl (fun K hK => ?_) AllReadyH.nil))
      · go_simp
        have gx := gb_alloc (gb_refl W1 none) (.cells #[.int .u8 13] 5)
        replace B5 := B5.kept gx (by simp)
        have hs : (W1.alloc (.cells #[.int .u8 13] 5)).cell? ⟨W1.heap.size, 0, none⟩ = some (.int .u8 13) := (Box.new W1 5 _).cell 0
        generalize W1.heap.size = sb at hs ⊢
        replace hg := gb_trans hg gx
        generalize W1.alloc (.cells #[.int .u8 13] 5) = W2 at *
        clear gx W1
        refine hK.out _ _ hg (fun hS => ?_)
        clear hK K hS
        try simp only [Act.put, pZ]
        refine wpAnyH_ready (rs := [11, 17]) (by kernel_rfl) (by simp) ?_
        refine (AllReadyH.cons rfl (fun K hK => ?_) (AllReadyH.cons rfl (fun K hK => ?_) AllReadyH.nil))
        · go_simp
          (with_reducible refine (h119 W2 sb hg hs).mono ?_)
          rintro e w2 ⟨rfl, rfl⟩
          clear hs
          refine hK.out _ _ hg (fun hS => ?_)
          clear hK K hS
          try simp only [Act.put, pZ]
          refine wpAnyH_ready (rs := [12, 17]) (by kernel_rfl) (by simp) ?_
          refine (AllReadyH.cons rfl (fun K hK => ?_) (AllReadyH.cons rfl (fun K hK => ?_) AllReadyH.nil))
          · go_simp
            (with_reducible refine (h15 w2 hg).mono ?_)
            rintro e W4 ⟨c, n, ka, kn, kc, ma, mn, mc, k, t, p, rfl, r1, r2, gx, hC⟩
            replace r1 := row_base r1 hg.size
            replace r2 := row_base r2 hg.size
            replace B5 := B5.kept gx (by simp)
            replace hg := gb_trans hg gx
            clear gx
            refine hK.out _ _ hg (fun hS => ?_)
            clear hK K hS w2
            try simp only [Act.put, pZ]
            exact keyB W4 b5 sb c n ka kn kc ma mn mc k t p ⟨hg, r1, r2, B5, l5, hC⟩
          · go_simp
            have gx := gb_alloc (gb_refl w2 none) (.cells zA 41)
            replace B5 := B5.kept gx (by simp)
            have B3 : Box (w2.alloc (.cells zA 41)) 41 w2.heap.size zA := Box.new w2 41 _
            have l3 : w1.heap.size ≤ w2.heap.size := hg.size
            generalize w2.heap.size = b3 at B3 l3 ⊢
            replace hg := gb_trans hg gx
            generalize w2.alloc (.cells zA 41) = W4 at *
            clear gx w2
            refine hK.out _ _ hg (fun hS => ?_)
            clear hK K hS
            try simp only [Act.put, pZ]
            refine wpAnyH_ready (rs := [12]) (by kernel_rfl) (by simp) ?_
            refine (AllReadyH.cons rfl (fun K hK => ?_) AllReadyH.nil)
            go_simp
            (with_reducible refine (h15 W4 hg).mono ?_)
            rintro e W5 ⟨c, n, ka, kn, kc, ma, mn, mc, k, t, p, rfl, r1, r2, gx, hC⟩
            replace r1 := row_base r1 hg.size
            replace r2 := row_base r2 hg.size
            replace B3 := B3.kept gx (by simp)
            replace B5 := B5.kept gx (by simp)
            replace hg := gb_trans hg gx
            clear gx
            refine hK.out _ _ hg (fun hS => ?_)
            clear hK K hS W4
            try simp only [Act.put, pZ]
            exact keyAB W5 b3 b5 sb c n ka kn kc ma mn mc k t p ⟨hg, r1, r2, B3, B5, l3, l5, hC⟩
        · go_simp
          have gx := gb_alloc (gb_refl W2 none) (.cells zA 41)
          replace hs := gb_cellN gx hs
          replace B5 := B5.kept gx (by simp)
          have B3 : Box (W2.alloc (.cells zA 41)) 41 W2.heap.size zA := Box.new W2 41 _
          have l3 : w1.heap.size ≤ W2.heap.size := hg.size
          generalize W2.heap.size = b3 at B3 l3 ⊢
          replace hg := gb_trans hg gx
          generalize W2.alloc (.cells zA 41) = W3 at *
          clear gx W2
          refine hK.out _ _ hg (fun hS => ?_)
          clear hK K hS
          try simp only [Act.put, pZ]
          refine wpAnyH_ready (rs := [11]) (by kernel_rfl) (by simp) ?_
          refine (AllReadyH.cons rfl (fun K hK => ?_) AllReadyH.nil)
          go_simp
          (with_reducible refine (h119 W3 sb hg hs).mono ?_)
          rintro e w2 ⟨rfl, rfl⟩
          clear hs
          refine hK.out _ _ hg (fun hS => ?_)
          clear hK K hS
          try simp only [Act.put, pZ]
          refine wpAnyH_ready (rs := [12]) (by kernel_rfl) (by simp) ?_
          refine (AllReadyH.cons rfl (fun K hK => ?_) AllReadyH.nil)
          go_simp
          (with_reducible refine (h15 w2 hg).mono ?_)
          rintro e W5 ⟨c, n, ka, kn, kc, ma, mn, mc, k, t, p, rfl, r1, r2, gx, hC⟩
          replace r1 := row_base r1 hg.size
          replace r2 := row_base r2 hg.size
          replace B3 := B3.kept gx (by simp)
          replace B5 := B5.kept gx (by simp)
          replace hg := gb_trans hg gx
          clear gx
          refine hK.out _ _ hg (fun hS => ?_)
          clear hK K hS w2
          try simp only [Act.put, pZ]
          exact keyAB W5 b3 b5 sb c n ka kn kc ma mn mc k t p ⟨hg, r1, r2, B3, B5, l3, l5, hC⟩
      · go_simp
        have gx := gb_alloc (gb_refl W1 none) (.cells zA 41)
        replace B5 := B5.kept gx (by simp)
        have B3 : Box (W1.alloc (.cells zA 41)) 41 W1.heap.size zA := Box.new W1 41 _
        have l3 : w1.heap.size ≤ W1.heap.size := hg.size
        generalize W1.heap.size = b3 at B3 l3 ⊢
        replace hg := gb_trans hg gx
        generalize W1.alloc (.cells zA 41) = W2 at *
        clear gx W1
        refine hK.out _ _ hg (fun hS => ?_)
        clear hK K hS
        try simp only [Act.put, pZ]
        refine wpAnyH_ready (rs := [10]) (by kernel_rfl) (by simp) ?_
        refine (AllReadyH.cons rfl (fun K hK => ?_) AllReadyH.nil)
        go_simp
        have gx := gb_alloc (gb_refl W2 none) (.cells #[.int .u8 13] 5)
        replace B3 := B3.kept gx (by simp)
        replace B5 := B5.kept gx (by simp)
        have hs : (W2.alloc (.cells #[.int .u8 13] 5)).cell? ⟨W2.heap.size, 0, none⟩ = some (.int .u8 13) := (Box.new W2 5 _).cell 0
        generalize W2.heap.size = sb at hs ⊢
        replace hg := gb_trans hg gx
        generalize W2.alloc (.cells #[.int .u8 13] 5) = W3 at *
        clear gx W2
        refine hK.out _ _ hg (fun hS => ?_)
        clear hK K hS
        try simp only [Act.put, pZ]
        refine wpAnyH_ready (rs := [11]) (by kernel_rfl) (by simp) ?_
        refine (AllReadyH.cons rfl (fun K hK => ?_) AllReadyH.nil)
        go_simp
        (with_reducible refine (h119 W3 sb hg hs).mono ?_)
        rintro e w2 ⟨rfl, rfl⟩
        clear hs
        refine hK.out _ _ hg (fun hS => ?_)
        clear hK K hS
        try simp only [Act.put, pZ]
        refine wpAnyH_ready (rs := [12]) (by kernel_rfl) (by simp) ?_
        refine (AllReadyH.cons rfl (fun K hK => ?_) AllReadyH.nil)
        go_simp
        (with_reducible refine (h15 w2 hg).mono ?_)
        rintro e W5 ⟨c, n, ka, kn, kc, ma, mn, mc, k, t, p, rfl, r1, r2, gx, hC⟩
        replace r1 := row_base r1 hg.size
        replace r2 := row_base r2 hg.size
        replace B3 := B3.kept gx (by simp)
        replace B5 := B5.kept gx (by simp)
        replace hg := gb_trans hg gx
        clear gx
        refine hK.out _ _ hg (fun hS => ?_)
        clear hK K hS w2
        try simp only [Act.put, pZ]
        exact keyAB W5 b3 b5 sb c n ka kn kc ma mn mc k t p ⟨hg, r1, r2, B3, B5, l3, l5, hC⟩
    · rintro W3 sb c n ka kn kc ma mn mc k t p ⟨hg, r1, r2, hC⟩
      refine tkT 13 (trO10 _) rfl (by intro W hSw; go_simp; (try (with_reducible rfl))) ?_
      try simp only [Act.put, pZ]
      refine tkT 14 (trO11 _) rfl (by intro W hSw; go_simp; (try (with_reducible rfl))) ?_
      try simp only [Act.put, pZ]
      refine tkT 15 (trO12 _) rfl (by intro W hSw; go_simp; (try (with_reducible rfl))) ?_
      try simp only [Act.put, pZ]
      refine tkT 16 (trO13 _) rfl (by intro W hSw; go_simp; (try (with_reducible rfl))) ?_
      try simp only [Act.put, pZ]
      refine wpAnyH_ready (rs := [17, 18]) (by kernel_rfl) (by simp) ?_
      refine (AllReadyH.cons rfl (fun K hK => ?_) (AllReadyH.cons rfl (fun K hK => ?_) AllReadyH.nil))
      · go_simp
        have gx := gb_alloc (gb_refl W3 none) (.cells zA 41)
        replace r1 := row_kept r1 gx (by simp)
        replace r2 := row_kept r2 gx (by simp)
        have B3 : Box (W3.alloc (.cells zA 41)) 41 W3.heap.size zA := Box.new W3 41 _
        have l3 : w1.heap.size ≤ W3.heap.size := hg.size
        generalize W3.heap.size = b3 at B3 l3 ⊢
        replace hg := gb_trans hg gx
        generalize W3.alloc (.cells zA 41) = W4 at *
        clear gx W3
        refine hK.out _ _ hg (fun hS => ?_)
        clear hK K hS
        try simp only [Act.put, pZ]
        refine wpAnyH_ready (rs := [18]) (by kernel_rfl) (by simp) ?_
        refine (AllReadyH.cons rfl (fun K hK => ?_) AllReadyH.nil)
        go_simp
        have gx := gb_alloc (gb_refl W4 none) (.cells zB 43)
        replace r1 := row_kept r1 gx (by simp)
        replace r2 := row_kept r2 gx (by simp)
        replace B3 := B3.kept gx (by simp)
        have B5 : Box (W4.alloc (.cells zB 43)) 43 W4.heap.size zB := Box.new W4 43 _
        have l5 : w1.heap.size ≤ W4.heap.size := hg.size
        generalize W4.heap.size = b5 at B5 l5 ⊢
        replace hg := gb_trans hg gx
        generalize W4.alloc (.cells zB 43) = W5 at *
        clear gx W4
        refine hK.out _ _ hg (fun hS => ?_)
        clear hK K hS
        try simp only [Act.put, pZ]
        exact key W5 b3 b5 sb c n ka kn kc ma mn mc k t p ⟨hg, r1, r2, B3, B5, l3, l5, hC⟩
      · go_simp
        have gx := gb_alloc (gb_refl W3 none) (.cells zB 43)
        replace r1 := row_kept r1 gx (by simp)
        replace r2 := row_kept r2 gx (by simp)
        have B5 : Box (W3.alloc (.cells zB 43)) 43 W3.heap.size zB := Box.new W3 43 _
        have l5 : w1.heap.size ≤ W3.heap.size := hg.size
        generalize W3.heap.size = b5 at B5 l5 ⊢
        replace hg := gb_trans hg gx
        generalize W3.alloc (.cells zB 43) = W4 at *
        clear gx W3
        refine hK.out _ _ hg (fun hS => ?_)
        clear hK K hS
        try simp only [Act.put, pZ]
        refine wpAnyH_ready (rs := [17]) (by kernel_rfl) (by simp) ?_
        refine (AllReadyH.cons rfl (fun K hK => ?_) AllReadyH.nil)
        go_simp
        have gx := gb_alloc (gb_refl W4 none) (.cells zA 41)
        replace r1 := row_kept r1 gx (by simp)
        replace r2 := row_kept r2 gx (by simp)
        replace B5 := B5.kept gx (by simp)
        have B3 : Box (W4.alloc (.cells zA 41)) 41 W4.heap.size zA := Box.new W4 41 _
        have l3 : w1.heap.size ≤ W4.heap.size := hg.size
        generalize W4.heap.size = b3 at B3 l3 ⊢
        replace hg := gb_trans hg gx
        generalize W4.alloc (.cells zA 41) = W5 at *
        clear gx W4
        refine hK.out _ _ hg (fun hS => ?_)
        clear hK K hS
        try simp only [Act.put, pZ]
        exact key W5 b3 b5 sb c n ka kn kc ma mn mc k t p ⟨hg, r1, r2, B3, B5, l3, l5, hC⟩
    · rintro W4 b5 sb c n ka kn kc ma mn mc k t p ⟨hg, r1, r2, B5, l5, hC⟩
      refine tkT 13 (trO10 _) rfl (by intro W hSw; go_simp; (try (with_reducible rfl))) ?_
      try simp only [Act.put, pZ]
      refine tkT 14 (trO11 _) rfl (by intro W hSw; go_simp; (try (with_reducible rfl))) ?_
      try simp only [Act.put, pZ]
      refine tkT 15 (trO12 _) rfl (by intro W hSw; go_simp; (try (with_reducible rfl))) ?_
      try simp only [Act.put, pZ]
      refine tkT 16 (trO13 _) rfl (by intro W hSw; go_simp; (try (with_reducible rfl))) ?_
      try simp only [Act.put, pZ]
      refine wpAnyH_ready (rs := [17]) (by kernel_rfl) (by simp) ?_
      refine (AllReadyH.cons rfl (fun K hK => ?_) AllReadyH.nil)
      go_simp
      have gx := gb_alloc (gb_refl W4 none) (.cells zA 41)
      replace r1 := row_kept r1 gx (by simp)
      replace r2 := row_kept r2 gx (by simp)
      replace B5 := B5.kept gx (by simp)
      have B3 : Box (W4.alloc (.cells zA 41)) 41 W4.heap.size zA := Box.new W4 41 _
      have l3 : w1.heap.size ≤ W4.heap.size := hg.size
      generalize W4.heap.size = b3 at B3 l3 ⊢
      replace hg := gb_trans hg gx
      generalize W4.alloc (.cells zA 41) = W5 at *
      clear gx W4
      refine hK.out _ _ hg (fun hS => ?_)
      clear hK K hS
      try simp only [Act.put, pZ]
      exact key W5 b3 b5 sb c n ka kn kc ma mn mc k t p ⟨hg, r1, r2, B3, B5, l3, l5, hC⟩
    · rintro W4 b3 sb c n ka kn kc ma mn mc k t p ⟨hg, r1, r2, B3, l3, hC⟩
      refine tkT 13 (trO10 _) rfl (by intro W hSw; go_simp; (try (with_reducible rfl))) ?_
      try simp only [Act.put, pZ]
      refine tkT 14 (trO11 _) rfl (by intro W hSw; go_simp; (try (with_reducible rfl))) ?_
      try simp only [Act.put, pZ]
      refine tkT 15 (trO12 _) rfl (by intro W hSw; go_simp; (try (with_reducible rfl))) ?_
      try simp only [Act.put, pZ]
      refine tkT 16 (trO13 _) rfl (by intro W hSw; go_simp; (try (with_reducible rfl))) ?_
      try simp only [Act.put, pZ]
      refine wpAnyH_ready (rs := [18]) (by kernel_rfl) (by simp) ?_
      refine (AllReadyH.cons rfl (fun K hK => ?_) AllReadyH.nil)
      go_simp
      have gx := gb_alloc (gb_refl W4 none) (.cells zB 43)
      replace r1 := row_kept r1 gx (by simp)
      replace r2 := row_kept r2 gx (by simp)
      replace B3 := B3.kept gx (by simp)
      have B5 : Box (W4.alloc (.cells zB 43)) 43 W4.heap.size zB := Box.new W4 43 _
      have l5 : w1.heap.size ≤ W4.heap.size := hg.size
      generalize W4.heap.size = b5 at B5 l5 ⊢
      replace hg := gb_trans hg gx
      generalize W4.alloc (.cells zB 43) = W5 at *
      clear gx W4
      refine hK.out _ _ hg (fun hS => ?_)
      clear hK K hS
      try simp only [Act.put, pZ]
      exact key W5 b3 b5 sb c n ka kn kc ma mn mc k t p ⟨hg, r1, r2, B3, B5, l3, l5, hC⟩
    · rintro W5 b3 b5 sb c n ka kn kc ma mn mc k t p ⟨hg, r1, r2, B3, B5, l3, l5, hC⟩
      refine tkT 13 (trO10 _) rfl (by intro W hSw; go_simp; (try (with_reducible rfl))) ?_
      try simp only [Act.put, pZ]
      refine tkT 14 (trO11 _) rfl (by intro W hSw; go_simp; (try (with_reducible rfl))) ?_
      try simp only [Act.put, pZ]
      refine tkT 15 (trO12 _) rfl (by intro W hSw; go_simp; (try (with_reducible rfl))) ?_
      try simp only [Act.put, pZ]
      refine tkT 16 (trO13 _) rfl (by intro W hSw; go_simp; (try (with_reducible rfl))) ?_
      try simp only [Act.put, pZ]
      exact key W5 b3 b5 sb c n ka kn kc ma mn mc k t p ⟨hg, r1, r2, B3, B5, l3, l5, hC⟩
    · rintro W5 b3 b5 sb c n ka kn kc ma mn mc k t p ⟨hg, r1, r2, B3, B5, l3, l5, hC⟩
      have hne : b3 ≠ b5 := ne_of_type B3 B5 (by decide)
      have dc0 : W5.cell? ⟨b3, 0, none⟩ = some (.int .i64 0) := B3.cell 0
      have df0 := B3.fz 0
      have dc1 : W5.cell? ⟨b3, 1, none⟩ = some (.slice none 0 0) := B3.cell 1
      have df1 := B3.fz 1
      have dc2 : W5.cell? ⟨b3, 2, none⟩ = some (.int .u64 0) := B3.cell 2
      have df2 := B3.fz 2
      have dc3 : W5.cell? ⟨b3, 3, none⟩ = some (.int .i64 0) := B3.cell 3
      have df3 := B3.fz 3
      have dc4 : W5.cell? ⟨b3, 4, none⟩ = some (.int .u64 0) := B3.cell 4
      have df4 := B3.fz 4
      have dc5 : W5.cell? ⟨b3, 5, none⟩ = some (.int .u64 0) := B3.cell 5
      have df5 := B3.fz 5
      have dc6 : W5.cell? ⟨b3, 6, none⟩ = some (.slice none 0 0) := B3.cell 6
      have df6 := B3.fz 6
      have dc7 : W5.cell? ⟨b3, 7, none⟩ = some (.bool false) := B3.cell 7
      have df7 := B3.fz 7
      have dc8 : W5.cell? ⟨b3, 8, none⟩ = some (.bool false) := B3.cell 8
      have df8 := B3.fz 8
      have dc9 : W5.cell? ⟨b3, 9, none⟩ = some (.slice none 0 0) := B3.cell 9
      have df9 := B3.fz 9
      have dc10 : W5.cell? ⟨b3, 10, none⟩ = some (.string ⟨#[]⟩) := B3.cell 10
      have df10 := B3.fz 10
      obtain ⟨z1, gz1⟩ := box11 (v0 := .int .i64 c.verb) (v1 := .slice ka kn kc) (v2 := .int .u64 c.flags) (v3 := .int .i64 c.exp) (v4 := .int .u64 c.tok) (v5 := .int .u64 c.del) (v6 := .slice none 0 0) (v7 := .bool c.nr) (v8 := .bool false) (v9 := .slice ma mn mc) (v10 := .string ⟨c.what.toArray⟩) B3
      have z2 := B5.kept gz1 (fun e => by injection e with e; omega)
      have q1 := row_kept r1 gz1 (row_box r1 B3 (by decide))
      have q2 := row_kept r2 gz1 (row_box r2 B3 (by decide))
      have hg1 := gb_mine hg gz1 l3
      refine wpAnyH_ready (rs := [19]) (by kernel_rfl) (by simp) ?_
      refine (AllReadyH.cons rfl (fun K hK => ?_) AllReadyH.nil)
      go_simp
      clear dc0 df0 dc1 df1 dc2 df2 dc3 df3 dc4 df4 dc5 df5 dc6 df6 dc7 df7 dc8 df8 dc9 df9 dc10 df10
      generalize ((((((((((W5.setCell ⟨b3, 0, none⟩ (.int .i64 c.verb)).setCell ⟨b3, 1, none⟩ (.slice ka kn kc)).setCell ⟨b3, 2, none⟩ (.int .u64 c.flags)).setCell ⟨b3, 3, none⟩ (.int .i64 c.exp)).setCell ⟨b3, 4, none⟩ (.int .u64 c.tok)).setCell ⟨b3, 5, none⟩ (.int .u64 c.del)).setCell ⟨b3, 6, none⟩ (.slice none 0 0)).setCell ⟨b3, 7, none⟩ (.bool c.nr)).setCell ⟨b3, 8, none⟩ (.bool false)).setCell ⟨b3, 9, none⟩ (.slice ma mn mc)).setCell ⟨b3, 10, none⟩ (.string ⟨c.what.toArray⟩) = S1 at z1 gz1 z2 q1 q2 hg1 ⊢
      refine hK.out _ _ hg1 (fun hS => ?_)
      clear hK K hS hg r1 r2 B3 B5 gz1
      try simp only [Act.put, pZ]
      refine tkT 20 (trO14 _) rfl (by intro W hSw; go_simp; (try (with_reducible rfl))) ?_
      try simp only [Act.put, pZ]
      have dc0 : S1.cell? ⟨b5, 0, none⟩ = some (.int .i64 0) := z2.cell 0
      have df0 := z2.fz 0
      have dc1 : S1.cell? ⟨b5, 1, none⟩ = some (.string ⟨#[]⟩) := z2.cell 1
      have df1 := z2.fz 1
      have dc2 : S1.cell? ⟨b5, 2, none⟩ = some (.int .i64 0) := z2.cell 2
      have df2 := z2.fz 2
      obtain ⟨y2, gz2⟩ := box3 (v0 := .int .i64 k) (v1 := .string ⟨t.toArray⟩) (v2 := .int .i64 p) z2
      have y1 := z1.kept gz2 (fun e => by injection e with e; omega)
      have p1 := row_kept q1 gz2 (row_box q1 z2 (by decide))
      have p2 := row_kept q2 gz2 (row_box q2 z2 (by decide))
      have hg2 := gb_mine hg1 gz2 l5
      refine wpAnyH_ready (rs := [21]) (by kernel_rfl) (by simp) ?_
      refine (AllReadyH.cons rfl (fun K hK => ?_) AllReadyH.nil)
      go_simp
      clear dc0 df0 dc1 df1 dc2 df2
      generalize ((S1.setCell ⟨b5, 0, none⟩ (.int .i64 k)).setCell ⟨b5, 1, none⟩ (.string ⟨t.toArray⟩)).setCell ⟨b5, 2, none⟩ (.int .i64 p) = S2 at y1 y2 gz2 p1 p2 hg2 ⊢
      refine hK.out _ _ hg2 (fun hS => ?_)
      clear hK K hS
      try simp only [Act.put, pZ]
      refine wpAnyH_done (by kernel_rfl) ?_ _
      refine NoPanic.normal ?_
      go_wp2
      go_meet
      exact ⟨b3, b5, c, n, ka, kn, kc, ma, mn, mc, k, t, p, rfl, rfl, rfl, l3, l5, hg2, y1, y2, p1, p2, hC⟩
  case rest =>
    obtain ⟨b3, b5, c, n, ka, kn, kc, ma, mn, mc, k, t, p, rfl, rfl, rfl, l3, l5, hg, B3, B5, r1, r2, hC⟩ := hcut
    have bF := b1.kept hg (by simp)
    have hfb := b1.lt
    have e0 : wc.cell? ⟨b3, 0, none⟩ = some (.int .i64 c.verb) := B3.cell 0
    have e1 : wc.cell? ⟨b3, 1, none⟩ = some (.slice ka kn kc) := B3.cell 1
    have e2 : wc.cell? ⟨b3, 2, none⟩ = some (.int .u64 c.flags) := B3.cell 2
    have e3 : wc.cell? ⟨b3, 3, none⟩ = some (.int .i64 c.exp) := B3.cell 3
    have e4 : wc.cell? ⟨b3, 4, none⟩ = some (.int .u64 c.tok) := B3.cell 4
    have e5 : wc.cell? ⟨b3, 5, none⟩ = some (.int .u64 c.del) := B3.cell 5
    have e6 : wc.cell? ⟨b3, 6, none⟩ = some (.slice none 0 0) := B3.cell 6
    have e7 : wc.cell? ⟨b3, 7, none⟩ = some (.bool c.nr) := B3.cell 7
    have e8 : wc.cell? ⟨b3, 8, none⟩ = some (.bool false) := B3.cell 8
    have e9 : wc.cell? ⟨b3, 9, none⟩ = some (.slice ma mn mc) := B3.cell 9
    have e10 : wc.cell? ⟨b3, 10, none⟩ = some (.string ⟨c.what.toArray⟩) := B3.cell 10
    have x0 : wc.cell? ⟨b5, 0, none⟩ = some (.int .i64 k) := B5.cell 0
    have x1 : wc.cell? ⟨b5, 1, none⟩ = some (.string ⟨t.toArray⟩) := B5.cell 1
    have x2 : wc.cell? ⟨b5, 2, none⟩ = some (.int .i64 p) := B5.cell 2
    have gG : w.grownBy wc (some fb) := gb_trans g1 (gb_none _ hg)
    have n5 : b5 ≠ fb := by omega
    obtain ⟨hm, hqle, htl, hq⟩ := A.out
    have R : Aside (LnC q c n k t p ∧ wc.ownsRow w1.heap.size 9 1 (.slice ka kn kc) c.keys.length (c.keys.map sv) ∧ wc.ownsRow w1.heap.size 79 3 (.slice ma mn mc) c.mt.length (fcs c.mt) ∧ G.kept = q ++ [10] ∧ m = q.length + 1 ∧ w.heap.size ≤ w1.heap.size) := ⟨hC, r1, r2, hq, hm, hsz⟩
    clear hC r1 r2 hq hm hsz h119 h15 htl d1 d2 hqle hql hcp hE
    go_upto_region 4 with (refine atS86 fb 7 rfl rfl ?_; go_must (refine store86 rfl _ _ rfl 136 fb 7 _ bF (by simp) rfl _ rfl rfl (by simp [Value.oneCell']) ?_); intro W hb hgW; (simp only [sets_7] at hb))
    obtain ⟨hC, r1, r2, hq, hm, hsz⟩ := R.out
    replace gG := gb_trans gG hgW
    replace B5 := B5.kept hgW (fun e => by injection e with e; exact n5 e)
    replace r1 := row_kept r1 hgW (row_box r1 bF (by omega))
    replace r2 := row_kept r2 hgW (row_box r2 bF (by omega))
    clear e0 e1 e2 e3 e4 e5 e6 e7 e8 e9 e10 x0 x1 x2 B3 bF b1 c4 c5 hg R hgW
    have x0 : W.cell? ⟨b5, 0, none⟩ = some (.int .i64 k) := B5.cell 0
    have x2 : W.cell? ⟨b5, 2, none⟩ = some (.int .i64 p) := B5.cell 2
    have y0 : W.cell? ⟨fb, 0, none⟩ = some (.int .i64 G.limit) := hb.cell 0
    have hkl : G.kept.length = m := by rw [hq, hm]; simp
    simp only [Act.put]
    rcases hC with ⟨hl, rfl, rfl, rfl⟩ | ⟨hl, rfl, rfl⟩
    · have hrd := rd_ok hq hl
      clear hl hq
      by_cases c1 : n < 0
      · rw [if_pos c1] at hrd
        go_quiet (fail)
        have gV := gb_drewN (gb_refl W none) nq
        generalize W.drewN nq = V at gV ⊢
        replace hb := hb.kept gV (by simp)
        replace B5 := B5.kept gV (by simp)
        replace r1 := row_kept r1 gV (by simp)
        replace r2 := row_kept r2 gV (by simp)
        replace gG := gb_trans gG (gb_none _ gV)
        clear x0 x2 y0 gV
        have x0 : V.cell? ⟨b5, 0, none⟩ = some (.int .i64 0) := B5.cell 0
        have x2 : V.cell? ⟨b5, 2, none⟩ = some (.int .i64 0) := B5.cell 2
        have y0 : V.cell? ⟨fb, 0, none⟩ = some (.int .i64 G.limit) := hb.cell 0
        have hE := rd_done (F' := { G with head := G.kept.length, s := stpC c false }) hx gG hb r1 r2 hsz rfl (.inl ⟨rfl, rfl⟩) hrd (fun e => by have e' : G.st = 1 ∨ G.st = 2 ∨ G.st = 3 := e; omega) (fun e => by have e' : G.st = 1 ∨ G.st = 4 := e; omega)
        have t1 : decide (n < 0) = true := decide_eq_true c1
        clear hrd r1 r2 hx hkl hst hm
        go_wp2
        go_ret
        exact hE
      · obtain ⟨N, rfl⟩ := Int.eq_ofNat_of_zero_le (Int.not_lt.1 c1)
        rw [if_neg c1, Int.toNat_natCast] at hrd
        by_cases c2 : (G.limit : Int) < (N : Int)
        · rw [if_pos c2] at hrd
          go_quiet (fail)
          have gV := gb_drewN (gb_refl W none) nq
          generalize W.drewN nq = V at gV ⊢
          replace hb := hb.kept gV (by simp)
          replace B5 := B5.kept gV (by simp)
          replace r1 := row_kept r1 gV (by simp)
          replace r2 := row_kept r2 gV (by simp)
          replace gG := gb_trans gG (gb_none _ gV)
          clear x0 x2 y0 gV
          have x0 : V.cell? ⟨b5, 0, none⟩ = some (.int .i64 0) := B5.cell 0
          have x2 : V.cell? ⟨b5, 2, none⟩ = some (.int .i64 0) := B5.cell 2
          have y0 : V.cell? ⟨fb, 0, none⟩ = some (.int .i64 G.limit) := hb.cell 0
          have bS : Box (V.setCell ⟨fb, 15, none⟩ (.bool true)) 136 fb (fdA fb { G with s := stpC c true } (.slice (some ⟨g, 0, none⟩) m cp) (m : Int) lf (.slice ka kn kc) (.slice none 0 0) (.slice ma mn mc)) := hb.set 15 _
          have z15 := hb.fz 15
          have d15 : V.cell? ⟨fb, 15, none⟩ = some (.bool false) := hb.cell 15
          have gS : V.grownBy (V.setCell ⟨fb, 15, none⟩ (.bool true)) (some fb) := gb_setCell (gb_refl _ _) _
          have h138 := pass_138 bS (stpC c true) (ka := ka) (kn := kn) (kc := kc) (da := none) (dn := 0) (dc := 0) (ma := ma) (mn := mn) (mc := mc) N
          have hE : ∀ w9, Box w9 136 fb (fdA fb (Fd.pass { G with s := stpC c true } (stpC c true) N) (.slice none 0 0) (m : Int) N (.slice ka kn kc) (.slice none 0 0) (.slice ma mn mc)) → (V.setCell ⟨fb, 15, none⟩ (.bool true)).grownBy w9 (some fb) → RdF G w fb (.slice (some ⟨g, 0, none⟩) m cp) (.returned (.bool false)) w9 := by
            intro w9 b9 g9
            have g8 := gb_trans gS g9
            exact rd_done (F' := G.pass (stpC c true) N) hx (gb_trans gG g8) b9 (row_kept r1 g8 (row_box r1 hb (by decide))) (row_kept r2 g8 (row_box r2 hb (by decide))) hsz rfl (.inr ⟨rfl, rfl⟩) hrd (fun e => by simp [Fd.pass] at e) (fun e => rfl)
          have t1 : decide ((N : Int) < 0) = false := decide_eq_false c1
          have t2 : decide ((G.limit : Int) < (N : Int)) = true := decide_eq_true c2
          clear hrd r1 r2 hx hkl hst hm
          go_wp2_with (first | (refine atL86 fb 7 rfl rfl ?_; go_must (refine load86 rfl _ rfl 136 fb 7 _ bS rfl (stpL (stpC c true) (.slice ka kn kc) (.slice none 0 0) (.slice ma mn mc)) rfl (fun j v hv => by rcases j with _ | _ | _ | _ | _ | _ | _ | _ | _ | _ | _ | _ | _ | _ | _ | _ | j <;> simp [stpC, stpW, cmd0] at hv ⊢ <;> exact hv) ?_)) | (go_at_call 138; go_must ((with_reducible refine h138.mono ?_); rintro e w9 ⟨rfl, b9, g9⟩)))
          go_ret
          exact hE _ b9 g9
        · rw [if_neg c2] at hrd
          go_quiet (fail)
          have gV := gb_drewN (gb_refl W none) nq
          generalize W.drewN nq = V at gV ⊢
          replace hb := hb.kept gV (by simp)
          replace B5 := B5.kept gV (by simp)
          replace r1 := row_kept r1 gV (by simp)
          replace r2 := row_kept r2 gV (by simp)
          replace gG := gb_trans gG (gb_none _ gV)
          clear x0 x2 y0 gV
          have x0 : V.cell? ⟨b5, 0, none⟩ = some (.int .i64 0) := B5.cell 0
          have x2 : V.cell? ⟨b5, 2, none⟩ = some (.int .i64 0) := B5.cell 2
          have y0 : V.cell? ⟨fb, 0, none⟩ = some (.int .i64 G.limit) := hb.cell 0
          have h157 := await_157 (F := { G with head := G.kept.length, s := stpC c false }) hb N
          have hE : ∀ w9, Box w9 136 fb (fdA fb (Fd.await { G with head := G.kept.length, s := stpC c false } N) (.slice (some ⟨g, 0, none⟩) m cp) (m : Int) N (.slice ka kn kc) (.slice none 0 0) (.slice ma mn mc)) → V.grownBy w9 (some fb) → RdF G w fb (.slice (some ⟨g, 0, none⟩) m cp) (.returned (.bool false)) w9 := by
            intro w9 b9 g9
            exact rd_done (F' := Fd.await { G with head := G.kept.length, s := stpC c false } N) hx (gb_trans gG g9) b9 (row_kept r1 g9 (row_box r1 hb (by decide))) (row_kept r2 g9 (row_box r2 hb (by decide))) hsz rfl (.inl ⟨rfl, rfl⟩) hrd (fun e => by show (m : Int) = (G.kept.length : Int); rw [hkl]) (fun e => rfl)
          have t1 : decide ((N : Int) < 0) = false := decide_eq_false c1
          have t2 : decide ((G.limit : Int) < (N : Int)) = false := decide_eq_false c2
          clear hrd r1 r2 hx hkl hst hm
          go_wp2_with (go_at_call 157; go_must ((with_reducible refine h157.mono ?_); rintro e w9 ⟨rfl, b9, g9⟩))
          go_ret
          exact hE _ b9 g9
    · have hrd := rd_no hq hl
      have hk0 : k ≠ 0 := (lineS_no hl).2
      have hk1 : decide (k = 0) = false := decide_eq_false hk0
      have hk2 : (k == 0) = false := by simpa using hk0
      have hk3 : (k != 0) = true := by simpa using hk0
      clear hl hq
      by_cases c2 : (G.limit : Int) < p
      · rw [if_pos (.inr c2)] at hrd
        have t1 : decide (p ≤ (G.limit : Int)) = false := decide_eq_false (by omega)
        go_quiet (fail)
        have gV := gb_drewN (gb_refl W none) nq
        generalize W.drewN nq = V at gV ⊢
        replace hb := hb.kept gV (by simp)
        replace B5 := B5.kept gV (by simp)
        replace r1 := row_kept r1 gV (by simp)
        replace r2 := row_kept r2 gV (by simp)
        replace gG := gb_trans gG (gb_none _ gV)
        clear x0 x2 y0 gV
        have x0 : V.cell? ⟨b5, 0, none⟩ = some (.int .i64 k) := B5.cell 0
        have x2 : V.cell? ⟨b5, 2, none⟩ = some (.int .i64 p) := B5.cell 2
        have y0 : V.cell? ⟨fb, 0, none⟩ = some (.int .i64 G.limit) := hb.cell 0
        have hE := rd_done (F' := { G with head := G.kept.length, s := stpW k t p }) hx gG hb r1 r2 hsz rfl (.inl ⟨rfl, rfl⟩) hrd (fun e => by have e' : G.st = 1 ∨ G.st = 2 ∨ G.st = 3 := e; omega) (fun e => by have e' : G.st = 1 ∨ G.st = 4 := e; omega)
        clear hrd r1 r2 hx hkl hst hm
        go_wp2
        go_ret
        exact hE
      · have t1 : decide (p ≤ (G.limit : Int)) = true := decide_eq_true (by omega)
        by_cases c1 : p < 0
        · rw [if_pos (.inl c1)] at hrd
          have t2 : decide (p < 0) = true := decide_eq_true c1
          go_quiet (fail)
          have gV := gb_drewN (gb_refl W none) nq
          generalize W.drewN nq = V at gV ⊢
          replace hb := hb.kept gV (by simp)
          replace B5 := B5.kept gV (by simp)
          replace r1 := row_kept r1 gV (by simp)
          replace r2 := row_kept r2 gV (by simp)
          replace gG := gb_trans gG (gb_none _ gV)
          clear x0 x2 y0 gV
          have x0 : V.cell? ⟨b5, 0, none⟩ = some (.int .i64 k) := B5.cell 0
          have x2 : V.cell? ⟨b5, 2, none⟩ = some (.int .i64 p) := B5.cell 2
          have y0 : V.cell? ⟨fb, 0, none⟩ = some (.int .i64 G.limit) := hb.cell 0
          have hE := rd_done (F' := { G with head := G.kept.length, s := stpW k t p }) hx gG hb r1 r2 hsz rfl (.inl ⟨rfl, rfl⟩) hrd (fun e => by have e' : G.st = 1 ∨ G.st = 2 ∨ G.st = 3 := e; omega) (fun e => by have e' : G.st = 1 ∨ G.st = 4 := e; omega)
          clear hrd r1 r2 hx hkl hst hm
          go_wp2
          go_ret
          exact hE
        · rw [if_neg (by omega)] at hrd
          obtain ⟨N, rfl⟩ := Int.eq_ofNat_of_zero_le (Int.not_lt.1 c1)
          rw [Int.toNat_natCast] at hrd
          have t2 : decide ((N : Int) < 0) = false := decide_eq_false c1
          have t3 : N ≤ G.limit := by omega
          go_quiet (fail)
          have gV := gb_drewN (gb_refl W none) nq
          generalize W.drewN nq = V at gV ⊢
          replace hb := hb.kept gV (by simp)
          replace B5 := B5.kept gV (by simp)
          replace r1 := row_kept r1 gV (by simp)
          replace r2 := row_kept r2 gV (by simp)
          replace gG := gb_trans gG (gb_none _ gV)
          clear x0 x2 y0 gV
          have x0 : V.cell? ⟨b5, 0, none⟩ = some (.int .i64 k) := B5.cell 0
          have x2 : V.cell? ⟨b5, 2, none⟩ = some (.int .i64 (N : Int)) := B5.cell 2
          have y0 : V.cell? ⟨fb, 0, none⟩ = some (.int .i64 G.limit) := hb.cell 0
          have h138 := pass_138 (F := { G with s := stpW k t N }) hb (stpW k t N) (ka := ka) (kn := kn) (kc := kc) (da := none) (dn := 0) (dc := 0) (ma := ma) (mn := mn) (mc := mc) N
          have hE : ∀ w9, Box w9 136 fb (fdA fb (Fd.pass { G with s := stpW k t N } (stpW k t N) N) (.slice none 0 0) (m : Int) N (.slice ka kn kc) (.slice none 0 0) (.slice ma mn mc)) → V.grownBy w9 (some fb) → RdF G w fb (.slice (some ⟨g, 0, none⟩) m cp) (.returned (.bool false)) w9 := by
            intro w9 b9 g9
            exact rd_done (F' := G.pass (stpW k t N) N) hx (gb_trans gG g9) b9 (row_kept r1 g9 (row_box r1 hb (by decide))) (row_kept r2 g9 (row_box r2 hb (by decide))) hsz rfl (.inr ⟨rfl, rfl⟩) hrd (fun e => by simp [Fd.pass] at e) (fun e => rfl)
          clear hrd r1 r2 hx hkl hst hm
          go_wp2_with (first | (refine atL86 fb 7 rfl rfl ?_; go_must (refine load86 rfl _ rfl 136 fb 7 _ hb rfl (stpL (stpW k t N) (.slice ka kn kc) (.slice none 0 0) (.slice ma mn mc)) rfl (fun j v hv => by rcases j with _ | _ | _ | _ | _ | _ | _ | _ | _ | _ | _ | _ | _ | _ | _ | _ | j <;> simp [stpC, stpW, cmd0] at hv ⊢ <;> exact hv) ?_)) | (go_at_call 138; go_must ((with_reducible refine h138.mono ?_); rintro e w9 ⟨rfl, b9, g9⟩)))
          go_ret
          exact hE _ b9 g9
end Go.Proofs.YtobegepebochkaaGreatDoor

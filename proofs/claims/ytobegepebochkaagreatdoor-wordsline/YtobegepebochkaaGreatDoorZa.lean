import Derived.Test.YtobegepebochkaaGreatDoorZw
import Derived.ArgAppend
import Derived.Deep.RegionLaw
/-
  Rows of rows, whatever their elements: what append leaves, lists kept beside copies, lists that are grown.
-/
namespace Go.Proofs.YtobegepebochkaaGreatDoor
open Go.RowKit
set_option linter.unusedVariables false
set_option linter.unusedSimpArgs false

/-- The type sl of rows whose elements, of type el, have sz cells. -/
structure Ty (sl el : TypeId) (ti : TypeInfo) (zv : Value) (sz bs : Nat) : Prop where
  u : Tryz.prog.underlying sl = some (.slice el)
  i : Tryz.prog.info? el = some ti
  z : ti.zero = some zv
  s : ti.size = sz
  b : ti.bytes = bs
  zs : zv.cells.size = sz
  pos : 0 < sz
  le : bs ≤ 1000

theorem some_ne2 {a b : Nat} (h : a ≠ b) : some a ≠ some b := fun e => h (Option.some.inj e)
theorem row_ge {w : World} {B : Nat} {e : TypeId} {s : Nat} {v : Value} {n : Nat} {xs : List Value} (h : w.ownsRow B e s v n xs) {j : Nat} (hj : v.ownBlock = some j) : B ≤ j ∧ j < w.heap.size := World.ownsRow.lt h j hj
theorem gb_of_kp {w a b : World} {G : Nat → Prop} (h : w.grownBy a none) (k : Kp G a b) (hG : ∀ j, G j → w.heap.size ≤ j) : w.grownBy b none :=
  (((Kp.of (F := fun _ => False) h).trans k (fun _ h => h) (fun j hj => .inr (hG j hj)))).grown (fun _ h => h.elim)

/-- What append of m elements leaves of a row's value v. -/
def Psh (w w' : World) (v : Value) (n m : Nat) (v' : Value) : Prop :=
  (∃ g cap, v = .slice (some ⟨g, 0, none⟩) n cap ∧ n + m ≤ cap ∧ v' = .slice (some ⟨g, 0, none⟩) (n + m) cap ∧ w.grownBy w' (some g)) ∨
  (∃ g cap, v' = .slice (some ⟨g, 0, none⟩) (n + m) cap ∧ w.heap.size ≤ g ∧ w.grownBy w' none)

theorem psh_trans {w w1 w' : World} {v v' : Value} {n m : Nat} (h1 : ∀ r, w.grownBy w1 r) (h : Psh w1 w' v n m v') : Psh w w' v n m v' := by
  rcases h with ⟨g, cap, a1, a2, a3, a4⟩ | ⟨g, cap, a1, a2, a3⟩
  · exact .inl ⟨g, cap, a1, a2, a3, gb_trans (h1 _) a4⟩
  · exact .inr ⟨g, cap, a1, Nat.le_trans (h1 none).size a2, gb_trans (h1 _) a3⟩
/-- Only the row's own block turns. -/
theorem Psh.gb {w w' : World} {v v' : Value} {n m : Nat} (h : Psh w w' v n m v') : w.grownBy w' v.ownBlock := by
  rcases h with ⟨g, cap, rfl, _, _, h⟩ | ⟨g, cap, _, _, h⟩
  · exact h
  · exact gb_none _ h
theorem Psh.at' {w w' : World} {v v' : Value} {n m g : Nat} (h : Psh w w' v n m v') (hg : v'.ownBlock = some g) : v.ownBlock = some g ∨ w.heap.size ≤ g := by
  rcases h with ⟨g1, cap, rfl, _, rfl, _⟩ | ⟨g1, cap, rfl, h1, _⟩
  · exact .inl (by simpa [Value.ownBlock] using hg)
  · simp [Value.ownBlock] at hg; exact .inr (by omega)
theorem mul_bd {n bs : Nat} (hn : n ≤ 100000000000) (hb : bs ≤ 1000) : n * bs ≤ 140737488355328 := Nat.le_trans (Nat.mul_le_mul hn hb) (by omega)

section
variable {sl el : TypeId} {ti : TypeInfo} {z : Value} {sz bs : Nat}
theorem run_psh (T : Ty sl el ti z sz bs) (w : World) (ty : TypeId) (v : Value) (n : Nat) (xs : List Value) (hown : w.ownsRow 0 el sz v n xs) (ad : Addr) (m c : Nat) (news : List Value) (hl : news.length = m * sz) (hnews : ∀ j u, news[j]? = some u → w.cell? (ad.add j) = some u) (h1 : ∀ u ∈ news, u.oneCell' = true) (hm : 0 < m) (hn : n + m ≤ 1000000000) :
    ∃ v' w', (Builtin.append_ #[sl, sl] ty #[v, .slice (some ad) m c]).run Tryz.prog w = .ok v' w' ∧ w'.ownsRow 0 el sz v' (n + m) (xs ++ news) ∧ Psh w w' v n m v' := by
  have hbd : (n + m) * bs ≤ 140737488355328 := mul_bd (by omega) T.le
  rcases hown.2 with ⟨rfl, h0⟩ | ⟨g, cap, cur, rfl, h2, h3, h4, h5, h6, h7⟩
  · subst h0
    obtain ⟨g, cap, w', hr, a1, a2, a3, _⟩ := run_append_lies (P := Tryz.prog) w sl ty 0 el ti _ sz bs T.u T.i T.z T.s T.b T.zs T.pos _ 0 xs hown ad m c news hl hnews h1 hm (by unfold maxLen; omega) hbd (Nat.zero_le _) _ rfl
    refine ⟨_, w', hr, a1, .inr ⟨g, cap, rfl, ?_, a2⟩⟩
    rcases a3 with a3 | a3
    · simp [Value.ownBlock] at a3
    · omega
  · by_cases hf : n + m ≤ cap
    · obtain ⟨w', hr, a1, a2⟩ := run_append_fits (P := Tryz.prog) w 0 sl ty el ti sz T.u T.i T.s g n cap xs hown ad m c news hl hnews h1 hf
      exact ⟨_, w', hr, a1, .inl ⟨g, cap, rfl, hf, rfl, a2⟩⟩
    · obtain ⟨v', w', hr, a1, a2⟩ := run_append_arg_grows (P := Tryz.prog) w sl ty el ti _ sz bs T.u T.i T.z T.s T.b T.zs T.pos ⟨g, 0, none⟩ n cap xs hown.1 (fun j u hj => hown.cells rfl j u hj) ad m c news hl hnews (by omega) (by unfold maxLen; omega) hbd
      obtain ⟨g', cap', rfl, hb, _⟩ := a1.form (by omega)
      exact ⟨_, w', hr, row_base a1 (Nat.zero_le _), .inr ⟨g', cap', rfl, hb, a2⟩⟩
theorem run_psh0 (T : Ty sl el ti z sz bs) (w : World) (ty : TypeId) (B : Nat) (v : Value) (n : Nat) (xs : List Value) (hown : w.ownsRow B el sz v n xs) (u : Value) (hu : (∃ a c, u = .slice a 0 c)) :
    (Builtin.append_ #[sl, sl] ty #[v, u]).run Tryz.prog w = .ok v w := by
  obtain ⟨a, c, rfl⟩ := hu
  rcases a with _ | a
  · exact run_append_owned_none (P := Tryz.prog) (w := w) B sl ty el ti sz T.u T.i _ _ _ hown
  · obtain ⟨ao, cp, rfl, hn, _⟩ := row_shape hown
    have hfc := run_firstCells_some (P := Tryz.prog) w ti.size 0 a 0 c [] (by simp) (by simp)
    rcases ao with _ | ao
    · obtain ⟨rfl, rfl⟩ := hn rfl
      simp [Builtin.append_, run_underlying T.u, sizeOf, typeInfo, T.i, Builtin.lenOf, hfc, storeCells]
    · simp [Builtin.append_, run_underlying T.u, sizeOf, typeInfo, T.i, Builtin.lenOf, hfc, storeCells]
      intro h
      omega

variable {w : World} {ops : Array Oper} {rest : List Oper} {o : Oper} {a : Act} {Q : Exit → Act → World → Prop}
/-- append(l, x) in a plain region. -/
theorem pushG (T : Ty sl el ti z sz bs) (hgd : o.guard = none) (s x : Operand) (ho : o.op = .call { callee := .builtin .append, args := #[s, x], argTypes := #[sl, sl] })
    (v : Value) (n : Nat) (xs : List Value) (hs : a.eval s = v) (hown : w.ownsRow 0 el sz v n xs) (us : List Value) (hul : us.length = sz) (hu : ∀ u ∈ us, u.oneCell' = true) (hx : a.eval x = .slice (some ⟨w.heap.size, 0, none⟩) 1 1) (hn : n ≤ 100000000)
    (h : ∀ v' w', w'.ownsRow 0 el sz v' (n + 1) (xs ++ us) → Psh w w' v n 1 v' → wpList Tryz.prog ops Q rest (a.put o.dst v') w') : wpList Tryz.prog ops Q (o :: rest) a (w.alloc (.cells us.toArray el)) := by
  refine wpList_plain hgd fun K hK => ?_
  obtain ⟨v', w', hr, a1, a2⟩ := run_psh T (w.alloc (.cells us.toArray el)) o.type v n xs (World.ownsRow.alloc hown _) ⟨w.heap.size, 0, none⟩ 1 1 us (by omega) (World.news_of_block (cs := us.toArray) (t := el) (fr := (0, 0)) (heap_alloc_new w _)) hu (by omega) (by omega)
  unfold Oper.wp
  simp [execOp, ho, resolve, invoke, builtin, hs, hx, hr, Result.andThen]
  exact hK _ _ (h v' w' a1 (psh_trans (fun r => World.grownBy_alloc w _ r) a2))
/-- The same of a row of the call's own, above B. -/
theorem pushB (T : Ty sl el ti z sz bs) (hgd : o.guard = none) (s x : Operand) (ho : o.op = .call { callee := .builtin .append, args := #[s, x], argTypes := #[sl, sl] })
    (B : Nat) (v : Value) (n : Nat) (xs : List Value) (hs : a.eval s = v) (hown : w.ownsRow B el sz v n xs) (us : List Value) (hul : us.length = sz) (hu : ∀ u ∈ us, u.oneCell' = true) (hx : a.eval x = .slice (some ⟨w.heap.size, 0, none⟩) 1 1) (hn : n ≤ 100000000) (hB : B ≤ w.heap.size)
    (h : ∀ g cap w', w'.ownsRow B el sz (.slice (some ⟨g, 0, none⟩) (n + 1) cap) (n + 1) (xs ++ us) → w.grownBy w' v.ownBlock → (v.ownBlock = some g ∨ w.heap.size ≤ g) → wpList Tryz.prog ops Q rest (a.put o.dst (.slice (some ⟨g, 0, none⟩) (n + 1) cap)) w') : wpList Tryz.prog ops Q (o :: rest) a (w.alloc (.cells us.toArray el)) :=
  wpList_pushN hgd s x sl ho el ti z sz bs T.u T.i T.z T.s T.b T.zs T.pos T.le B v n xs hs hown us hul hu hx (by omega) hB h
/-- append(l, m...) in a region that draws. -/
theorem step_more {K : Act → World → Prop} {E : Prop} (T : Ty sl el ti z sz bs) (hgd : o.guard = none) (s x : Operand)
    (ho : o.op = .call { callee := .builtin .append, args := #[s, x], argTypes := #[sl, sl] }) (v : Value) (n : Nat) (xs : List Value) (hs : a.eval s = v) (hown : w.ownsRow 0 el sz v n xs) (ad : Addr) (m c : Nat) (news : List Value) (hx : a.eval x = .slice (some ad) m c) (hl : news.length = m * sz) (hnews : ∀ j u, news[j]? = some u → w.cell? (ad.add j) = some u) (h1 : ∀ u ∈ news, u.oneCell' = true) (hm : 0 < m) (hn : n + m ≤ 1000000000)
    (h : ∀ g c w', w'.ownsRow 0 el sz (.slice (some ⟨g, 0, none⟩) (n + m) c) (n + m) (xs ++ news) → Psh w w' v n m (.slice (some ⟨g, 0, none⟩) (n + m) c) → K (a.put o.dst (.slice (some ⟨g, 0, none⟩) (n + m) c)) w') :
    if Region.wanted o (yielded ops a.tmps) = true then Oper.wp Tryz.prog o a w K Q else E := by
  have hw : Region.wanted o (yielded ops a.tmps) = true := by simp [Region.wanted, hgd]
  rw [if_pos hw]
  obtain ⟨v', w', hr, a1, a2⟩ := run_psh T w o.type v n xs hown ad m c news hl hnews h1 hm hn
  obtain ⟨g', c', rfl, _, _⟩ := a1.form (by omega)
  unfold Oper.wp
  simp [execOp, ho, resolve, invoke, builtin, hs, hx, hr, Result.andThen]
  exact h g' c' w' a1 a2
/-- append([]T{}, l...) in a region that draws: a copy of its own. -/
theorem step_copy {K : Act → World → Prop} {D : Prop} {xs : List Value} {n : Nat} {v : Value} {g0 : Nat} (T : Ty sl el ti z sz bs) (hgd : o.guard = none) (s x : Operand)
    (ho : o.op = .call { callee := .builtin .append, args := #[s, x], argTypes := #[sl, sl] }) (hs : a.eval s = .slice (some ⟨g0, 0, none⟩) 0 0) (B : Nat) (hown0 : w.ownsRow B el sz (.slice (some ⟨g0, 0, none⟩) 0 0) 0 []) (hrow : w.ownsRow 0 el sz v n xs) (h1c : ∀ u ∈ xs, u.oneCell' = true) (hx : a.eval x = v) (hl : n ≤ 1000000) (hB : B ≤ w.heap.size)
    (h : ∀ g c w', w'.ownsRow B el sz (.slice (some ⟨g, 0, none⟩) n c) n xs → w.grownBy w' (some g0) → (g0 = g ∨ g = w.heap.size) → K (a.put o.dst (.slice (some ⟨g, 0, none⟩) n c)) w') :
    if Region.wanted o (yielded ops a.tmps) = true then Oper.wp Tryz.prog o a w K Q else D := by
  by_cases h0 : n = 0
  · subst h0
    have hxs : xs = [] := List.length_eq_zero_iff.1 (by rw [hrow.1]; omega)
    subst hxs
    have hw : Region.wanted o (yielded ops a.tmps) = true := by simp [Region.wanted, hgd]
    rw [if_pos hw]
    obtain ⟨ao, cp, hdv, _⟩ := row_shape hrow
    have hrun := run_psh0 T w o.type B _ 0 [] hown0 v ⟨ao, cp, hdv⟩
    unfold Oper.wp
    simp [execOp, ho, resolve, invoke, builtin, hs, hx, hrun, Result.andThen]
    exact h g0 0 _ hown0 (gb_refl _ _) (.inl rfl)
  · obtain ⟨ao, cp, hdv, _, _, _, hpos⟩ := row_shape hrow
    obtain ⟨g, rfl⟩ := hpos (by omega)
    subst hdv
    refine step_append_lies _ hgd s x sl ho B el ti _ sz bs T.u T.i T.z T.s T.b T.zs T.pos (.slice (some ⟨g0, 0, none⟩) 0 0) 0 [] hs hown0 ⟨g, 0, none⟩ n cp xs hx hrow.1 (fun j u hj => ?_) h1c (by omega) (by unfold maxLen; omega) (mul_bd (by omega) T.le) hB w.heap.size rfl ?_
    · rw [Addr.add_mid, Nat.zero_add]; exact row_cell hrow j u hj
    · intro g2 cap2 w' h1 h2 h3 _
      have h4 := h g2 cap2 w' (by simpa using h1) (by simpa [Value.ownBlock] using h2) (h3.imp (fun e => by simpa [Value.ownBlock] using e) id)
      simpa using h4
/-- append of one element in a region that draws, of a row above B. -/
theorem step_push {K : Act → World → Prop} {D : Prop} {w5 : World} (T : Ty sl el ti z sz bs) (hgd : o.guard = none) (s x : Operand) (ho : o.op = .call { callee := .builtin .append, args := #[s, x], argTypes := #[sl, sl] })
    (B : Nat) (v : Value) (n : Nat) (xs : List Value) (hs : a.eval s = v) (us : List Value) (hul : us.length = sz) (hu : ∀ u ∈ us, u.oneCell' = true) (hw : w = w5.alloc (.cells us.toArray el)) (hown : w5.ownsRow B el sz v n xs) (hx : a.eval x = .slice (some ⟨w5.heap.size, 0, none⟩) 1 1) (hn : n ≤ 100000000) (hB : B ≤ w5.heap.size)
    (h : ∀ g cap w', w'.ownsRow B el sz (.slice (some ⟨g, 0, none⟩) (n + 1) cap) (n + 1) (xs ++ us) → w5.grownBy w' v.ownBlock → (v.ownBlock = some g ∨ w5.heap.size ≤ g) → K (a.put o.dst (.slice (some ⟨g, 0, none⟩) (n + 1) cap)) w') :
    if Region.wanted o (yielded ops a.tmps) = true then Oper.wp Tryz.prog o a w K Q else D := by
  subst hw
  refine step_append_lies _ hgd s x sl ho B el ti _ sz bs T.u T.i T.z T.s T.b T.zs T.pos v n xs hs (World.ownsRow.alloc hown _) ⟨w5.heap.size, 0, none⟩ 1 1 us hx (by omega) (World.news_of_block (cs := us.toArray) (t := el) (fr := (0, 0)) (heap_alloc_new w5 _)) hu (by omega) (by unfold maxLen; omega) (mul_bd (by omega) T.le) (by simp; omega) (w5.heap.size + 1) (by simp) ?_
  intro g7 c7 w7 hown7 hgr7 hat7 hlt7
  exact h g7 c7 w7 hown7 (gb_trans (gb_alloc (gb_refl _ _) _) hgr7) (hat7.imp id (fun e => by omega))
end
end Go.Proofs.YtobegepebochkaaGreatDoor
/-
  Lists that are kept beside copies (Kd), and lists that are grown (Cl), whatever their elements.
-/
namespace Go.Proofs.YtobegepebochkaaGreatDoor
open Go.RowKit
set_option linter.unusedVariables false
set_option linter.unusedSimpArgs false

def vsL (V : Nat → Value) (K : Nat) : List Value := (List.range K).map V
theorem vsL_succ (V : Nat → Value) (K : Nat) : vsL V (K + 1) = vsL V K ++ [V K] := by unfold vsL; rw [List.range_succ, List.map_append]; rfl
theorem vsL_upd (V : Nat → Value) (K : Nat) (v : Value) : vsL (upd V K v) (K + 1) = vsL V K ++ [v] := by
  rw [vsL_succ, upd_same]
  congr 1
  unfold vsL
  apply List.map_congr_left
  intro i hi
  rw [List.mem_range] at hi
  exact upd_other _ _ (by omega)
theorem vsL_get (V : Nat → Value) {K i : Nat} (h : i < K) : (vsL V K)[i]? = some (V i) := by unfold vsL; simp [h]

/-- KV lists V and copies W of the first KW of them, each reads D; FB their blocks. -/
structure Kd (w : World) (FB : Nat → Prop) (eO eI : TypeId) (s : Nat) (hv wv : Value) (KV KW : Nat) (V W : Nat → Value) (N : Nat → Nat) (D : Nat → List Value) : Prop where
  hr : w.ownsRow 0 eO 1 hv KV (vsL V KV)
  wr : w.ownsRow 0 eO 1 wv KW (vsL W KW)
  hw : ∀ g, hv.ownBlock = some g → wv.ownBlock ≠ some g
  vs : ∀ i, i < KV → w.ownsRow 0 eI s (V i) (N i) (D i)
  ws : ∀ i, i < KW → w.ownsRow 0 eI s (W i) (N i) (D i)
  vv : ∀ i j g, i < KV → j < KV → i ≠ j → (V i).ownBlock = some g → (V j).ownBlock ≠ some g
  vw : ∀ i j g, i < KV → j < KW → (V i).ownBlock = some g → (W j).ownBlock ≠ some g
  oc : ∀ i, i < KV → ∀ u ∈ D i, u.oneCell' = true
  dl : ∀ i, i < KV → N i ≤ 1000000
  fh : ∀ g, hv.ownBlock = some g → FB g
  fw : ∀ g, wv.ownBlock = some g → FB g
  fv : ∀ i g, i < KV → (V i).ownBlock = some g → FB g
  fc : ∀ i g, i < KW → (W i).ownBlock = some g → FB g
  ft : ∀ k, FB k → ∃ cur, w.heap[k]? = some (.cells cur eO (0, 0)) ∨ w.heap[k]? = some (.cells cur eI (0, 0))
  ne : eO ≠ eI
  kw : KW ≤ KV
section
variable {w w' w2 : World} {FB : Nat → Prop} {eO eI : TypeId} {s : Nat} {hv wv : Value} {KV KW : Nat} {V W : Nat → Value} {N : Nat → Nat} {D : Nat → List Value}
theorem Kd.fl (h : Kd w FB eO eI s hv wv KV KW V W N D) : ∀ k, FB k → k < w.heap.size := fun k hk => by
  obtain ⟨c, h1 | h1⟩ := h.ft k hk <;> exact lt_of_block h1
theorem Kd.same (h : Kd w FB eO eI s hv wv KV KW V W N D) (hf : ∀ k, FB k → w'.heap[k]? = w.heap[k]?) : Kd w' FB eO eI s hv wv KV KW V W N D :=
  ⟨row_same h.hr (fun k hk => hf k (h.fh k hk)), row_same h.wr (fun k hk => hf k (h.fw k hk)), h.hw, fun i hi => row_same (h.vs i hi) (fun k hk => hf k (h.fv i k hi hk)), fun i hi => row_same (h.ws i hi) (fun k hk => hf k (h.fc i k hi hk)), h.vv, h.vw, h.oc, h.dl, h.fh, h.fw, h.fv, h.fc, fun k hk => by rw [hf k hk]; exact h.ft k hk, h.ne, h.kw⟩
theorem Kd.kept {row : Option Nat} (h : Kd w FB eO eI s hv wv KV KW V W N D) (hf : w.grownBy w' row) (hn : ∀ k, FB k → some k ≠ row) : Kd w' FB eO eI s hv wv KV KW V W N D :=
  h.same (fun k hk => hf.block k (h.fl k hk) (hn k hk))
theorem Kd.kept0 (h : Kd w FB eO eI s hv wv KV KW V W N D) (hf : w.grownBy w' none) : Kd w' FB eO eI s hv wv KV KW V W N D := h.kept hf (by simp)
/-- A block of another type is none of its blocks. -/
theorem Kd.not {b : Nat} {t : TypeId} {vs : Array Value} {z : Nat × Nat} (h : Kd w FB eO eI s hv wv KV KW V W N D) (hb : w.heap[b]? = some (.cells vs t z)) (h1 : t ≠ eO) (h2 : t ≠ eI) : ¬ FB b := fun hk => by
  obtain ⟨c, h3 | h3⟩ := h.ft b hk
  · exact ne_of_type hb h3 h1 rfl
  · exact ne_of_type hb h3 h2 rfl
theorem Kd.nil (w : World) {eO eI : TypeId} (s : Nat) (hne : eO ≠ eI) : Kd w (fun _ => False) eO eI s (.slice none 0 0) (.slice none 0 0) 0 0 (fun _ => .slice none 0 0) (fun _ => .slice none 0 0) (fun _ => 0) (fun _ => []) :=
  ⟨⟨rfl, .inl ⟨rfl, rfl⟩⟩, ⟨rfl, .inl ⟨rfl, rfl⟩⟩, by simp [Value.ownBlock], fun i hi => by omega, fun i hi => by omega, fun i j g hi => by omega, fun i j g hi => by omega, fun i hi => by omega, fun i hi => by omega, by simp [Value.ownBlock], by simp [Value.ownBlock], fun i g hi => by omega, fun i g hi => by omega, fun k h => h.elim, hne, Nat.le_refl _⟩
theorem Kd.nv (h : Kd w FB eO eI s hv wv KV KW V W N D) {v u : Value} {n m : Nat} {xs ys : List Value} (h1 : w.ownsRow 0 eO 1 v n xs) (h2 : w.ownsRow 0 eI s u m ys) {g : Nat} (hg : u.ownBlock = some g) : v.ownBlock ≠ some g := fun e => by
  obtain ⟨c1, q1⟩ := row_block h1 g e
  obtain ⟨c2, q2⟩ := row_block h2 g hg
  exact ne_of_type q1 q2 h.ne rfl
theorem Kd.pushV (h : Kd w FB eO eI s hv wv KV KW V W N D) {hv' v : Value} {n : Nat} {xs : List Value} (hvr : w.ownsRow 0 eI s v n xs) (hvF : ∀ g, v.ownBlock = some g → ¬ FB g) (hn : n ≤ 1000000) (hoc : ∀ u ∈ xs, u.oneCell' = true)
    (hown : w2.ownsRow 0 eO 1 hv' (KV + 1) (vsL V KV ++ [v])) (hg : w.grownBy w2 hv.ownBlock) (hat : ∀ g, hv'.ownBlock = some g → hv.ownBlock = some g ∨ w.heap.size ≤ g) :
    Kd w2 (fun k => (FB k ∧ hv.ownBlock ≠ some k) ∨ v.ownBlock = some k ∨ hv'.ownBlock = some k) eO eI s hv' wv (KV + 1) KW (upd V KV v) W (upd N KV n) (upd D KV xs) := by
  have kI : ∀ {v : Value} {m : Nat} {ys : List Value}, w.ownsRow 0 eI s v m ys → w2.ownsRow 0 eI s v m ys := fun hr => row_kept hr hg (fun k hk e => h.nv h.hr hr hk e.symm)
  have hlt : ∀ g, v.ownBlock = some g → g < w.heap.size := fun g hg => (row_ge hvr hg).2
  have hkw := h.kw
  refine ⟨by rw [vsL_upd]; exact hown, row_kept h.wr hg (fun k hk e => h.hw k e.symm hk), fun g hg2 e => ?_, fun i hi => ?_, fun i hi => ?_, fun i j g hi hj hij hg2 => ?_, fun i j g hi hj hg2 => ?_, fun i hi => ?_, fun i hi => ?_, fun g hg2 => .inr (.inr hg2), fun g hg2 => .inl ⟨h.fw g hg2, fun e => h.hw g e hg2⟩, fun i g hi hg2 => ?_, fun i g hi hg2 => .inl ⟨h.fc i g hi hg2, h.nv h.hr (h.ws i hi) hg2⟩, ?_, h.ne, by omega⟩
  · rcases hat g hg2 with h1 | h1
    · exact h.hw g h1 e
    · have := (row_ge h.wr e).2; omega
  · by_cases e : i = KV
    · subst e; rw [upd_same, upd_same, upd_same]; exact kI hvr
    · rw [upd_other _ _ e, upd_other _ _ e, upd_other _ _ e]; exact kI (h.vs i (by omega))
  · rw [upd_other _ _ (by omega), upd_other _ _ (by omega)]; exact kI (h.ws i hi)
  · by_cases ei : i = KV
    · subst ei
      rw [upd_same] at hg2
      rw [upd_other _ _ (by omega)]
      exact fun e => hvF g hg2 (h.fv j g (by omega) e)
    · rw [upd_other _ _ ei] at hg2
      by_cases ej : j = KV
      · subst ej; rw [upd_same]; exact fun e => hvF g e (h.fv i g (by omega) hg2)
      · rw [upd_other _ _ ej]; exact h.vv i j g (by omega) (by omega) hij hg2
  · by_cases ei : i = KV
    · subst ei; rw [upd_same] at hg2; exact fun e => hvF g hg2 (h.fc j g (by omega) e)
    · rw [upd_other _ _ ei] at hg2; exact h.vw i j g (by omega) (by omega) hg2
  · by_cases e : i = KV
    · subst e; rw [upd_same]; exact hoc
    · rw [upd_other _ _ e]; exact h.oc i (by omega)
  · by_cases e : i = KV
    · subst e; rw [upd_same]; exact hn
    · rw [upd_other _ _ e]; exact h.dl i (by omega)
  · by_cases e : i = KV
    · subst e; rw [upd_same] at hg2; exact .inr (.inl hg2)
    · rw [upd_other _ _ e] at hg2; exact .inl ⟨h.fv i g (by omega) hg2, h.nv h.hr (h.vs i (by omega)) hg2⟩
  · rintro k (⟨hk, e⟩ | hk | hk)
    · have h1 := hg.block k (h.fl k hk) (fun e2 => e e2.symm)
      rw [h1]; exact h.ft k hk
    · obtain ⟨c, hc⟩ := row_block (kI hvr) k hk; exact ⟨c, .inr hc⟩
    · obtain ⟨c, hc⟩ := row_block hown k hk; exact ⟨c, .inl hc⟩
theorem Kd.pushW (h : Kd w FB eO eI s hv wv KV KW V W N D) (hKW : KW < KV) {wv' v : Value} (hvr : w.ownsRow 0 eI s v (N KW) (D KW)) (hvF : ∀ g, v.ownBlock = some g → ¬ FB g)
    (hown : w2.ownsRow 0 eO 1 wv' (KW + 1) (vsL W KW ++ [v])) (hg : w.grownBy w2 wv.ownBlock) (hat : ∀ g, wv'.ownBlock = some g → wv.ownBlock = some g ∨ w.heap.size ≤ g) :
    Kd w2 (fun k => (FB k ∧ wv.ownBlock ≠ some k) ∨ v.ownBlock = some k ∨ wv'.ownBlock = some k) eO eI s hv wv' KV (KW + 1) V (upd W KW v) N D := by
  have kI : ∀ {v : Value} {m : Nat} {ys : List Value}, w.ownsRow 0 eI s v m ys → w2.ownsRow 0 eI s v m ys := fun hr => row_kept hr hg (fun k hk e => h.nv h.wr hr hk e.symm)
  refine ⟨row_kept h.hr hg (fun k hk e => h.hw k hk e.symm), by rw [vsL_upd]; exact hown, fun g hg2 e => ?_, fun i hi => kI (h.vs i hi), fun i hi => ?_, h.vv, fun i j g hi hj hg2 => ?_, h.oc, h.dl, fun g hg2 => .inl ⟨h.fh g hg2, h.hw g hg2⟩, fun g hg2 => .inr (.inr hg2), fun i g hi hg2 => .inl ⟨h.fv i g hi hg2, h.nv h.wr (h.vs i hi) hg2⟩, fun i g hi hg2 => ?_, ?_, h.ne, by omega⟩
  · rcases hat g e with h1 | h1
    · exact h.hw g hg2 h1
    · have := (row_ge h.hr hg2).2; omega
  · by_cases e : i = KW
    · subst e; rw [upd_same]; exact kI hvr
    · rw [upd_other _ _ e]; exact kI (h.ws i (by omega))
  · by_cases ej : j = KW
    · subst ej; rw [upd_same]; exact fun e => hvF g e (h.fv i g hi hg2)
    · rw [upd_other _ _ ej]; exact h.vw i j g hi (by omega) hg2
  · by_cases e : i = KW
    · subst e; rw [upd_same] at hg2; exact .inr (.inl hg2)
    · rw [upd_other _ _ e] at hg2; exact .inl ⟨h.fc i g (by omega) hg2, h.nv h.wr (h.ws i (by omega)) hg2⟩
  · rintro k (⟨hk, e⟩ | hk | hk)
    · have h1 := hg.block k (h.fl k hk) (fun e2 => e e2.symm)
      rw [h1]; exact h.ft k hk
    · obtain ⟨c, hc⟩ := row_block (kI hvr) k hk; exact ⟨c, .inr hc⟩
    · obtain ⟨c, hc⟩ := row_block hown k hk; exact ⟨c, .inl hc⟩
end

/-! Lists that are grown. -/
theorem rng_take {f : Nat → List Value} {s : Nat} (h : ∀ i, (f i).length = s) : ∀ {n m : Nat}, m ≤ n → (rng n f).take (m * s) = rng m f
  | 0, m, hm => by obtain rfl : m = 0 := by omega
                   simp [rng]
  | n + 1, m, hm => by
    rcases Nat.lt_or_ge n m with h1 | h1
    · obtain rfl : m = n + 1 := by omega
      exact List.take_of_length_le (by rw [rng_len h]; exact Nat.le_refl _)
    · rw [rng_succ, List.take_append_of_le_length (by rw [rng_len h]; exact Nat.mul_le_mul_right s h1)]
      exact rng_take h h1
theorem rng_rep {f : Nat → List Value} {v : Value} {n : Nat} (h : ∀ k, n ≤ k → f k = [v]) : ∀ m, rng n f ++ List.replicate m v = rng (n + m) f
  | 0 => by simp
  | m + 1 => by rw [List.replicate_succ', ← List.append_assoc, rng_rep h m, ← Nat.add_assoc, rng_succ, h (n + m) (by omega)]
/-- append onto a row turns no block of another type. -/
theorem Psh.box {w w' : World} {v v' : Value} {n m b : Nat} {e t : TypeId} {s : Nat} {xs : List Value} {vs : Array Value} (h : Psh w w' v n m v') (hr : w.ownsRow 0 e s v n xs) (hb : Box w t b vs) (hne : e ≠ t) : Box w' t b vs :=
  hb.kept h.gb (fun e2 => by obtain ⟨c, hc⟩ := row_block hr b e2.symm; exact ne_of_type hc hb hne rfl)
theorem own_form {w : World} {B : Nat} {e : TypeId} {s : Nat} {v : Value} {n : Nat} {xs : List Value} (h : w.ownsRow B e s v n xs) {g : Nat} (hg : v.ownBlock = some g) : ∃ c, v = .slice (some ⟨g, 0, none⟩) n c := by
  rcases h.2 with ⟨rfl, _⟩ | ⟨g', c, cur, rfl, _⟩
  · simp [Value.ownBlock] at hg
  · simp [Value.ownBlock] at hg; subst hg; exact ⟨c, rfl⟩
theorem same_cap {w : World} {B B' : Nat} {e e' : TypeId} {s g n c m c' : Nat} {xs ys : List Value} (hs : 0 < s) (h1 : w.ownsRow B e s (.slice (some ⟨g, 0, none⟩) n c) n xs) (h2 : w.ownsRow B' e' s (.slice (some ⟨g, 0, none⟩) m c') m ys) : c = c' := by
  rcases h1.2 with ⟨q, _⟩ | ⟨g1, c1, cur1, q1, _, r1, _, _, s1, _⟩
  · simp at q
  · rcases h2.2 with ⟨q, _⟩ | ⟨g2, c2, cur2, q2, _, r2, _, _, s2, _⟩
    · simp at q
    · simp at q1 q2
      obtain ⟨rfl, rfl⟩ := q1
      obtain ⟨rfl, rfl⟩ := q2
      rw [r1] at r2
      simp at r2
      obtain ⟨rfl, _⟩ := r2
      have : c * s = c' * s := by omega
      exact Nat.eq_of_mul_eq_mul_right hs this
/-- A shorter row in the block of a longer one that has just been written. -/
theorem row_inner {w w' : World} {e : TypeId} {s : Nat} {v : Value} {g n cap N m : Nat} {xs ys zs : List Value} (hs : 0 < s) (h1 : w.ownsRow 0 e s (.slice (some ⟨g, 0, none⟩) n cap) n xs) (h2 : w.ownsRow 0 e s v m ys) (hg : v.ownBlock = some g) (h3 : w'.ownsRow 0 e s (.slice (some ⟨g, 0, none⟩) N cap) N zs) (hm : m ≤ N) : w'.ownsRow 0 e s v m (zs.take (m * s)) := by
  obtain ⟨c, rfl⟩ := own_form h2 hg
  obtain rfl := same_cap hs h1 h2
  exact row_take h3 hm

/-- K lists V, of which KO have been grown by p (O) and KM by q (M); mk i k: what place k of list i is to hold. -/
structure Cl (w : World) (B0 : Nat) (FB : Nat → Prop) (eO eI : TypeId) (s p q : Nat) (mk : Nat → Nat → List Value) (hv ov mv : Value) (K KO KM : Nat) (V O M : Nat → Value) (L : Nat → Nat) (R : Nat → List Value) : Prop where
  hr : w.ownsRow 0 eO 1 hv K (vsL V K)
  orow : w.ownsRow B0 eO 1 ov KO (vsL O KO)
  mrow : w.ownsRow B0 eO 1 mv KM (vsL M KM)
  om : ∀ g, ov.ownBlock = some g → mv.ownBlock ≠ some g
  hl : ∀ g, hv.ownBlock = some g → g < B0
  vs : ∀ i, i < K → w.ownsRow 0 eI s (V i) (L i) (R i)
  os : ∀ i, i < KO → w.ownsRow 0 eI s (O i) (L i + p) (rng (L i + p) (mk i))
  ms : ∀ i, i < KM → w.ownsRow 0 eI s (M i) (L i + q) (rng (L i + q) (mk i))
  vv : ∀ i j g, i < K → j < K → i ≠ j → (V i).ownBlock = some g → (V j).ownBlock ≠ some g
  vl : ∀ i g, i < K → (V i).ownBlock = some g → g < B0
  oc : ∀ i g, i < KO → (O i).ownBlock = some g → (V i).ownBlock = some g ∨ B0 ≤ g
  mc : ∀ i g, i < KM → (M i).ownBlock = some g → (V i).ownBlock = some g ∨ B0 ≤ g
  fv : ∀ i g, i < K → (V i).ownBlock = some g → FB g
  hB : B0 ≤ w.heap.size
  hL : ∀ i, i < K → L i ≤ 1000000
  ko : KO ≤ K
  km : KM ≤ K
  ne : eO ≠ eI
  sp : 0 < s
  mkl : ∀ i k, (mk i k).length = s
section
variable {w w' : World} {B0 : Nat} {FB : Nat → Prop} {eO eI : TypeId} {s p q : Nat} {mk : Nat → Nat → List Value} {hv ov mv : Value} {K KO KM : Nat} {V O M : Nat → Value} {L : Nat → Nat} {R : Nat → List Value}
theorem Cl.same {row : Option Nat} (h : Cl w B0 FB eO eI s p q mk hv ov mv K KO KM V O M L R) (hf : w.grownBy w' row) (hn : ∀ k c, row = some k → w.heap[k]? ≠ some (.cells c eO (0, 0)) ∧ w.heap[k]? ≠ some (.cells c eI (0, 0))) : Cl w' B0 FB eO eI s p q mk hv ov mv K KO KM V O M L R := by
  have k1 : ∀ {B : Nat} {e : TypeId} {t : Nat} {v : Value} {m : Nat} {ys : List Value}, w.ownsRow B e t v m ys → (e = eO ∨ e = eI) → w'.ownsRow B e t v m ys := fun hr he => row_kept hr hf (fun k hk e => by
    obtain ⟨c, hc⟩ := row_block hr k hk
    rcases he with rfl | rfl
    · exact (hn k c e.symm).1 hc
    · exact (hn k c e.symm).2 hc)
  exact ⟨k1 h.hr (.inl rfl), k1 h.orow (.inl rfl), k1 h.mrow (.inl rfl), h.om, h.hl, fun i hi => k1 (h.vs i hi) (.inr rfl), fun i hi => k1 (h.os i hi) (.inr rfl), fun i hi => k1 (h.ms i hi) (.inr rfl), h.vv, h.vl, h.oc, h.mc, h.fv, Nat.le_trans h.hB hf.size, h.hL, h.ko, h.km, h.ne, h.sp, h.mkl⟩
theorem Cl.kept0 (h : Cl w B0 FB eO eI s p q mk hv ov mv K KO KM V O M L R) (hf : w.grownBy w' none) : Cl w' B0 FB eO eI s p q mk hv ov mv K KO KM V O M L R := h.same hf (by simp)
/-- A write into a block of another type. -/
theorem Cl.far {b : Nat} {t : TypeId} {vs : Array Value} {z : Nat × Nat} (h : Cl w B0 FB eO eI s p q mk hv ov mv K KO KM V O M L R) (hb : w.heap[b]? = some (.cells vs t z)) (h1 : t ≠ eO) (h2 : t ≠ eI) (hf : w.grownBy w' (some b)) : Cl w' B0 FB eO eI s p q mk hv ov mv K KO KM V O M L R :=
  h.same hf (fun k c e => by
    have e2 := Option.some.inj e; subst e2
    exact ⟨fun e3 => ne_of_type hb e3 h1 rfl, fun e3 => ne_of_type hb e3 h2 rfl⟩)
/-- What the lists read may be said otherwise. -/
theorem Cl.read (h : Cl w B0 FB eO eI s p q mk hv ov mv K KO KM V O M L R) {R' : Nat → List Value} (hR : ∀ i, i < K → R i = R' i) : Cl w B0 FB eO eI s p q mk hv ov mv K KO KM V O M L R' :=
  ⟨h.hr, h.orow, h.mrow, h.om, h.hl, fun i hi => by rw [← hR i hi]; exact h.vs i hi, h.os, h.ms, h.vv, h.vl, h.oc, h.mc, h.fv, h.hB, h.hL, h.ko, h.km, h.ne, h.sp, h.mkl⟩

/-- A list that is being grown out of list i. -/
def Ap (B0 : Nat) (KO KM : Nat) (V O M : Nat → Value) (i : Nat) (lv : Value) : Prop :=
  ∀ g, lv.ownBlock = some g → (V i).ownBlock = some g ∨ (∀ j, j < KO → (O j).ownBlock ≠ some g) ∧ (∀ j, j < KM → (M j).ownBlock ≠ some g) ∧ B0 ≤ g

theorem Cl.push (h : Cl w B0 FB eO eI s p q mk hv ov mv K KO KM V O M L (fun i => rng (L i) (mk i))) {i k m : Nat} {lv lv' : Value} (hi : i < K) (hl : w.ownsRow 0 eI s lv (L i + k) (rng (L i + k) (mk i))) (hap : Ap B0 KO KM V O M i lv) (hp : Psh w w' lv (L i + k) m lv') (hl' : w'.ownsRow 0 eI s lv' (L i + k + m) (rng (L i + k + m) (mk i))) (h16 : i < KO → p ≤ k + m) (hKM : KM ≤ i) :
    Cl w' B0 FB eO eI s p q mk hv ov mv K KO KM V O M L (fun i => rng (L i) (mk i)) ∧ Ap B0 KO KM V O M i lv' ∧ ∃ row, w.grownBy w' row ∧ ∀ g, row = some g → FB g ∨ B0 ≤ g := by
  rcases hp with ⟨g, cap, rfl, hc, rfl, hg⟩ | ⟨g, cap, rfl, hge, hg⟩
  · obtain ⟨c0, hc0⟩ := row_block hl g rfl
    have t90 : ∀ {B m : Nat} {v : Value} {ys : List Value}, w.ownsRow B eO 1 v m ys → ∀ k, v.ownBlock = some k → some k ≠ some g := fun hr k hk e => by
      obtain ⟨c1, hc1⟩ := row_block hr k hk
      exact ne_of_type hc1 hc0 h.ne (Option.some.inj e)
    have hvi : ∀ j, j < K → (V j).ownBlock = some g → j = i := fun j hj e => by
      rcases hap g rfl with h1 | ⟨_, _, h1⟩
      · apply Classical.byContradiction
        intro hne
        exact h.vv j i g hj hi hne e h1
      · have := h.vl j g hj e; omega
    refine ⟨⟨row_kept h.hr hg (t90 h.hr), row_kept h.orow hg (t90 h.orow), row_kept h.mrow hg (t90 h.mrow), h.om, h.hl, fun j hj => ?_, fun j hj => ?_, fun j hj => ?_, h.vv, h.vl, h.oc, h.mc, h.fv, Nat.le_trans h.hB hg.size, h.hL, h.ko, h.km, h.ne, h.sp, h.mkl⟩, hap, some g, hg, ?_⟩
    · by_cases e : (V j).ownBlock = some g
      · obtain rfl := hvi j hj e
        have h9 := row_inner h.sp hl (h.vs j hj) e hl' (by omega)
        rw [rng_take (h.mkl j) (by omega)] at h9
        exact h9
      · exact row_kept (h.vs j hj) hg (fun q hq e2 => e (by rw [hq]; exact e2))
    · by_cases e : (O j).ownBlock = some g
      · have hji : j = i := by
          rcases hap g rfl with h1 | ⟨h1, _, _⟩
          · rcases h.oc j g hj e with h2 | h2
            · exact hvi j (Nat.lt_of_lt_of_le hj h.ko) h2
            · have := h.vl i g hi h1; omega
          · exact absurd e (h1 j hj)
        subst hji
        have h3 := h16 hj
        have h9 := row_inner h.sp hl (h.os j hj) e hl' (by omega)
        rw [rng_take (h.mkl j) (by omega)] at h9
        exact h9
      · exact row_kept (h.os j hj) hg (fun q hq e2 => e (by rw [hq]; exact e2))
    · refine row_kept (h.ms j hj) hg (fun q hq e2 => ?_)
      have e : (M j).ownBlock = some g := by rw [hq]; exact e2
      rcases hap g rfl with h1 | ⟨_, h1, _⟩
      · rcases h.mc j g hj e with h2 | h2
        · have := hvi j (Nat.lt_of_lt_of_le hj h.km) h2; omega
        · have := h.vl i g hi h1; omega
      · exact h1 j hj e
    · intro q hq
      have hq2 := Option.some.inj hq
      subst hq2
      rcases hap g rfl with h1 | ⟨_, _, h1⟩
      · exact .inl (h.fv i g hi h1)
      · exact .inr h1
  · refine ⟨h.kept0 hg, fun q hq => ?_, none, hg, by simp⟩
    have hq2 : g = q := by simpa [Value.ownBlock] using hq
    subst hq2
    refine .inr ⟨fun j hj e => ?_, fun j hj e => ?_, Nat.le_trans h.hB hge⟩
    · have := (row_ge (h.os j hj) e).2; omega
    · have := (row_ge (h.ms j hj) e).2; omega

/-- Something is written into list i. -/
theorem Cl.write (h : Cl w B0 FB eO eI s p q mk hv ov mv K 0 0 V O M L R) {i g c : Nat} {R' : List Value} (hi : i < K) (hv2 : V i = .slice (some ⟨g, 0, none⟩) (L i) c) (hg : w.grownBy w' (some g)) (hown : w'.ownsRow 0 eI s (.slice (some ⟨g, 0, none⟩) (L i) c) (L i) R') :
    Cl w' B0 FB eO eI s p q mk hv ov mv K 0 0 V O M L (upd R i R') := by
  have hVi := h.vs i hi
  rw [hv2] at hVi
  obtain ⟨c0, hc0⟩ := row_block hVi g rfl
  have t90 : ∀ {B m : Nat} {v : Value} {ys : List Value}, w.ownsRow B eO 1 v m ys → ∀ k, v.ownBlock = some k → some k ≠ some g := fun hr k hk e => by
    obtain ⟨c1, hc1⟩ := row_block hr k hk
    exact ne_of_type hc1 hc0 h.ne (Option.some.inj e)
  refine ⟨row_kept h.hr hg (t90 h.hr), row_kept h.orow hg (t90 h.orow), row_kept h.mrow hg (t90 h.mrow), h.om, h.hl, fun j hj => ?_, fun j hj => by omega, fun j hj => by omega, h.vv, h.vl, h.oc, h.mc, h.fv, Nat.le_trans h.hB hg.size, h.hL, h.ko, h.km, h.ne, h.sp, h.mkl⟩
  by_cases e : j = i
  · subst e
    rw [upd_same, hv2]
    exact hown
  · rw [upd_other _ _ e]
    refine row_kept (h.vs j hj) hg (fun q hq e2 => h.vv j i q hj hi e hq ?_)
    rw [hv2, Option.some.inj e2]; rfl

/-- What has been grown out of list i is kept. -/
theorem Cl.one {w7 : World} {lv ov' : Value} {i : Nat} (h : Cl w B0 FB eO eI s p q mk hv ov mv K i KM V O M L R) (hi : i < K) (hl : w.ownsRow 0 eI s lv (L i + p) (rng (L i + p) (mk i))) (hap : Ap B0 i KM V O M i lv) (hown : w7.ownsRow B0 eO 1 ov' (i + 1) (vsL O i ++ [lv])) (hg : w.grownBy w7 ov.ownBlock) (hat : ∀ g, ov'.ownBlock = some g → ov.ownBlock = some g ∨ w.heap.size ≤ g) :
    Cl w7 B0 FB eO eI s p q mk hv ov' mv K (i + 1) KM V (upd O i lv) M L R ∧ Kp (fun k => B0 ≤ k) w w7 := by
  have hB := h.hB
  have ho0 : ∀ g, ov.ownBlock = some g → B0 ≤ g := fun g e => (row_ge h.orow e).1
  have keep : ∀ {B : Nat} {e : TypeId} {t : Nat} {v : Value} {m : Nat} {ys : List Value}, w.ownsRow B e t v m ys → (e ≠ eO ∨ ∀ g, v.ownBlock = some g → ov.ownBlock ≠ some g) → w7.ownsRow B e t v m ys := fun hr hd => by
    refine row_kept hr hg (fun k hk e2 => ?_)
    rcases hd with hd | hd
    · obtain ⟨c1, hc1⟩ := row_block hr k hk
      obtain ⟨c2, hc2⟩ := row_block h.orow k e2.symm
      exact ne_of_type hc1 hc2 hd rfl
    · exact hd k hk e2.symm
  refine ⟨⟨keep h.hr (.inr fun g hg2 e => by have := h.hl g hg2; have := ho0 g e; omega), by rw [vsL_upd]; exact hown, keep h.mrow (.inr fun g hg2 e => h.om g e hg2), ?_, h.hl, fun j hj => keep (h.vs j hj) (.inl h.ne.symm), fun j hj => ?_, fun j hj => keep (h.ms j hj) (.inl h.ne.symm), h.vv, h.vl, fun j g hj hg2 => ?_, h.mc, h.fv, ?_, h.hL, hi, h.km, h.ne, h.sp, h.mkl⟩, ?_⟩
  · intro g hg2 e
    rcases hat g hg2 with h1 | h1
    · exact h.om g h1 e
    · have := (row_ge h.mrow e).2; omega
  · by_cases e : j = i
    · subst e; rw [upd_same]; exact keep hl (.inl h.ne.symm)
    · rw [upd_other _ _ e]; exact keep (h.os j (by omega)) (.inl h.ne.symm)
  · by_cases e : j = i
    · subst e; rw [upd_same] at hg2
      exact (hap g hg2).imp id (fun h => h.2.2)
    · rw [upd_other _ _ e] at hg2; exact h.oc j g (by omega) hg2
  · have := hg.size; omega
  · exact (Kp.refl _ w).step hg (fun g e => .inl (ho0 g e))
theorem Cl.many {w7 : World} {lv mv' : Value} {i : Nat} (h : Cl w B0 FB eO eI s p q mk hv ov mv K KO i V O M L R) (hi : i < K) (hl : w.ownsRow 0 eI s lv (L i + q) (rng (L i + q) (mk i))) (hap : Ap B0 KO i V O M i lv) (hown : w7.ownsRow B0 eO 1 mv' (i + 1) (vsL M i ++ [lv])) (hg : w.grownBy w7 mv.ownBlock) (hat : ∀ g, mv'.ownBlock = some g → mv.ownBlock = some g ∨ w.heap.size ≤ g) :
    Cl w7 B0 FB eO eI s p q mk hv ov mv' K KO (i + 1) V O (upd M i lv) L R ∧ Kp (fun k => B0 ≤ k) w w7 := by
  have hB := h.hB
  have ho0 : ∀ g, mv.ownBlock = some g → B0 ≤ g := fun g e => (row_ge h.mrow e).1
  have keep : ∀ {B : Nat} {e : TypeId} {t : Nat} {v : Value} {m : Nat} {ys : List Value}, w.ownsRow B e t v m ys → (e ≠ eO ∨ ∀ g, v.ownBlock = some g → mv.ownBlock ≠ some g) → w7.ownsRow B e t v m ys := fun hr hd => by
    refine row_kept hr hg (fun k hk e2 => ?_)
    rcases hd with hd | hd
    · obtain ⟨c1, hc1⟩ := row_block hr k hk
      obtain ⟨c2, hc2⟩ := row_block h.mrow k e2.symm
      exact ne_of_type hc1 hc2 hd rfl
    · exact hd k hk e2.symm
  refine ⟨⟨keep h.hr (.inr fun g hg2 e => by have := h.hl g hg2; have := ho0 g e; omega), keep h.orow (.inr fun g hg2 e => h.om g hg2 e), by rw [vsL_upd]; exact hown, ?_, h.hl, fun j hj => keep (h.vs j hj) (.inl h.ne.symm), fun j hj => keep (h.os j hj) (.inl h.ne.symm), fun j hj => ?_, h.vv, h.vl, h.oc, fun j g hj hg2 => ?_, h.fv, ?_, h.hL, h.ko, hi, h.ne, h.sp, h.mkl⟩, ?_⟩
  · intro g hg2 e
    rcases hat g e with h1 | h1
    · exact h.om g hg2 h1
    · have := (row_ge h.orow hg2).2; omega
  · by_cases e : j = i
    · subst e; rw [upd_same]; exact keep hl (.inl h.ne.symm)
    · rw [upd_other _ _ e]; exact keep (h.ms j (by omega)) (.inl h.ne.symm)
  · by_cases e : j = i
    · subst e; rw [upd_same] at hg2
      exact (hap g hg2).imp id (fun h => h.2.2)
    · rw [upd_other _ _ e] at hg2; exact h.mc j g (by omega) hg2
  · have := hg.size; omega
  · exact (Kp.refl _ w).step hg (fun g e => .inl (ho0 g e))
end
theorem Kd.cl {w : World} {FB : Nat → Prop} {eO eI : TypeId} {s : Nat} {hv wv : Value} {KV KW : Nat} {V W : Nat → Value} {N : Nat → Nat} {D : Nat → List Value} (h : Kd w FB eO eI s hv wv KV KW V W N D) (p q : Nat) (mk : Nat → Nat → List Value) (hs : 0 < s) (hmk : ∀ i k, (mk i k).length = s) (O M : Nat → Value) : Cl w w.heap.size FB eO eI s p q mk hv (.slice none 0 0) (.slice none 0 0) KV 0 0 V O M N D :=
  ⟨h.hr, ⟨rfl, .inl ⟨rfl, rfl⟩⟩, ⟨rfl, .inl ⟨rfl, rfl⟩⟩, by simp [Value.ownBlock], fun g e => h.fl g (h.fh g e), h.vs, fun i hi => by omega, fun i hi => by omega, h.vv, fun i g hi e => h.fl g (h.fv i g hi e), fun i g hi => by omega, fun i g hi => by omega, h.fv, Nat.le_refl _, h.dl, Nat.zero_le _, Nat.zero_le _, h.ne, hs, hmk⟩
end Go.Proofs.YtobegepebochkaaGreatDoor
/-
  A Book of lists of bytes and of lists of texts: Full, Bytes, Texts.
-/
namespace Go.Proofs.YtobegepebochkaaGreatDoor
open Go.RowKit
set_option linter.unusedVariables false
set_option linter.unusedSimpArgs false

theorem ty_of {sl el : TypeId} {z : Value} {sz bs : Nat} (hu : Tryz.prog.underlying sl = some (.slice el)) (hi : (Tryz.prog.info? el).map (fun i => (i.zero, i.size, i.bytes)) = some (some z, sz, bs)) (hz : z.cells.size = sz) (h0 : 0 < sz) (hb : bs ≤ 1000) : ∃ ti, Ty sl el ti z sz bs := by
  obtain ⟨i0, hi0, hz0, hz1, hz2⟩ := info_parts hi
  exact ⟨i0, hu, hi0, hz0, hz1, hz2, hz, h0, hb⟩
theorem ty_38 : ∃ ti, Ty 38 5 ti (.int .u8 0) 1 1 := ty_of Tryz.underlying38 (by kernel_rfl) rfl (by omega) (by omega)
theorem ty_22 : ∃ ti, Ty 22 38 ti (.slice none 0 0) 1 24 := ty_of Tryz.underlying22 (by kernel_rfl) rfl (by omega) (by omega)
theorem ty_36 : ∃ ti, Ty 36 9 ti (.string ⟨#[]⟩) 1 16 := ty_of Tryz.underlying36 (by kernel_rfl) rfl (by omega) (by omega)
theorem ty_25 : ∃ ti, Ty 25 36 ti (.slice none 0 0) 1 24 := ty_of Tryz.underlying25 (by kernel_rfl) rfl (by omega) (by omega)
def nilS : Value := .slice none 0 0
/-- A Book with lists of bytes, of texts and of steps alone. -/
def bkA (b0 b1 b2 b3 t0 t1 t2 t3 s0 s1 s2 : Value) (n : Int) : Array Value := #[b0, b1, b2, b3, nilS, nilS, nilS, nilS, t0, t1, t2, t3, nilS, nilS, nilS, nilS, nilS, nilS, nilS, nilS, nilS, nilS, s0, s1, s2, nilS, .int .i64 n]
section
variable {w : World} {bb : Nat} {b0 b1 b2 b3 t0 t1 t2 t3 s0 s1 s2 : Value} {n : Int} {F : Nat → Prop} {K : Nat} {V W : Nat → Value} {N : Nat → Nat} {D : Nat → List Value}
theorem full_65 (h : Box w 31 bb (bkA b0 b1 b2 b3 t0 t1 t2 t3 s0 s1 s2 n)) : Calls Tryz.prog 65 #[.pointer (some ⟨bb, 0, none⟩)] w fun y w' => y = .returned (.bool (decide (200000 < n))) ∧ w' = w := by
  have c : w.cell? ⟨bb, 26, none⟩ = some (.int .i64 n) := h.cell 26
  go_enter Tryz.func65, Tryz.ntmps65
  go_wp2
  go_ret
  exact ⟨by simp, rfl⟩

theorem full_20 (h : Box w 31 bb (bkA b0 b1 b2 b3 t0 t1 t2 t3 s0 s1 s2 n)) (hn : 200000 < n) (v : Value) : Calls Tryz.prog 20 #[.pointer (some ⟨bb, 0, none⟩), v] w fun y w' => y = .returned (.tuple #[]) ∧ w' = w := by
  have h63 := full_65 h
  rw [decide_eq_true hn] at h63
  go_enter Tryz.func20, Tryz.ntmps20
  go_wp2_with (first | (go_at_call 65; go_must (refine h63.mono ?_); rintro y w1 ⟨rfl, hw1⟩; have hw2 := hw1.symm; subst hw2) | fail)
  exact bodyPost_ret (v := .tuple #[]) (results_none Tryz.results20 _ _ _) rfl ⟨rfl, rfl⟩

set_option maxRecDepth 100000 in
set_option maxHeartbeats 16000000 in
theorem keep_20 (h : Box w 31 bb (bkA b0 b1 b2 b3 t0 t1 t2 t3 s0 s1 s2 n)) (hd : Kd w F 38 5 1 b0 b1 K K V W N D) (hnb : 0 ≤ n ∧ n ≤ 200000) (hK : K < 10000000) {vao : Option Addr} {vcp m : Nat} {xs : List Value} (hv0 : w.ownsRow 0 5 1 (.slice vao m vcp) m xs) (hoc : ∀ u ∈ xs, u.oneCell' = true) (hxl : m ≤ 1000000) (hvF : ∀ g, (Value.slice vao m vcp).ownBlock = some g → ¬ F g) :
    Calls Tryz.prog 20 #[.pointer (some ⟨bb, 0, none⟩), .slice vao m vcp] w fun y w' => y = .returned (.tuple #[]) ∧ Kp (fun k => k = bb ∨ F k) w w' ∧ ∃ q0 q1 F' V' W', Box w' 31 bb (bkA q0 q1 b2 b3 t0 t1 t2 t3 s0 s1 s2 (n + m + 1)) ∧ Kd w' F' 38 5 1 q0 q1 (K + 1) (K + 1) V' W' (upd N K m) (upd D K xs) ∧ ∀ k, F' k → F k ∨ (Value.slice vao m vcp).ownBlock = some k ∨ w.heap.size ≤ k := by
  have h63 := full_65 h
  rw [decide_eq_false (show ¬ 200000 < n by omega)] at h63
  obtain ⟨tO, TO⟩ := ty_22
  obtain ⟨tI, TI⟩ := ty_38
  obtain ⟨hao, hcp, hdh, _, _, _, _⟩ := row_shape hd.hr
  subst hdh
  obtain ⟨wao, wcp, hdw, _, _, _, _⟩ := row_shape hd.wr
  subst hdw
  have c26 : w.cell? ⟨bb, 26, none⟩ = some (.int .i64 n) := h.cell 26
  have f26 := h.fz 26
  have hwn : IntKind.i64.wrap (n + m) = n + m := by rw [IntKind.wrap_i64]; omega
  have hwn2 : IntKind.i64.wrap (n + m + 1) = n + m + 1 := by rw [IntKind.wrap_i64]; omega
  have hbF : ¬ F bb := hd.not h (by decide) (by decide)
  have hg1 : w.grownBy (w.setCell ⟨bb, 26, none⟩ (.int .i64 (n + m + 1))) (some bb) := gb_setCell (gb_refl _ _) _
  have hb1 : Box (w.setCell ⟨bb, 26, none⟩ (.int .i64 (n + m + 1))) 31 bb (bkA (.slice hao K hcp) (.slice wao K wcp) b2 b3 t0 t1 t2 t3 s0 s1 s2 (n + m + 1)) := h.set 26 _
  have hbk : ∀ k, F k → some k ≠ some bb := fun k hk e => hbF (by have := Option.some.inj e; subst this; exact hk)
  have hd1 := hd.kept hg1 hbk
  have hv1 := row_kept hv0 hg1 (fun k hk e => by obtain ⟨c, hc⟩ := row_block hv0 k hk; exact ne_of_type hc h (by decide) (Option.some.inj e))
  have hr1 := hd1.hr
  have c12 : (w.setCell ⟨bb, 26, none⟩ (.int .i64 (n + m + 1))).cell? ⟨bb, 0, none⟩ = some (.slice hao K hcp) := hb1.cell 0
  have hK1 : Kp (fun k => k = bb ∨ F k) w (w.setCell ⟨bb, 26, none⟩ (.int .i64 (n + m + 1))) := (Kp.refl _ w).step hg1 (fun j hj => by injection hj with hj; subst hj; exact .inl (.inl rfl))
  have hfl := hd.fl
  have hfh := hd.fh
  have hfw := hd.fw
  have hvlt : ∀ g, (Value.slice vao m vcp).ownBlock = some g → g < w.heap.size := fun g hg => (row_ge hv0 hg).2
  clear hd
  go_enter Tryz.func20, Tryz.ntmps20
  go_wp2_with (first | (go_at_call 65; go_must (refine h63.mono ?_); rintro y w1 ⟨rfl, hw1⟩; have hw2 := hw1.symm; subst hw2) | (at_builtin; go_must (refine pushB TO rfl _ _ rfl 0 _ K _ (by rfl) hr1 [.slice vao m vcp] rfl (by simp [Value.oneCell']) (by rw [show (w.setCell ⟨bb, 26, none⟩ (.int .i64 (n + m + 1))).heap.size = w.heap.size by simp]; rfl) (by omega) (Nat.zero_le _) ?_)) | fail)
  intro g2 cap2 w2 hrow2 hgb2 hat2
  have hd2 := hd1.pushV hv1 hvF hxl hoc hrow2 hgb2 (fun g hg => by simp [Value.ownBlock] at hg; subst hg; exact hat2.imp id (fun e => by simpa using e))
  have hb2 := hb1.kept hgb2 (fun e => hbF (hfh _ e.symm))
  have f12 := hb2.fz 0
  have k12 : w2.cell? ⟨bb, 0, none⟩ = some (.slice hao K hcp) := hb2.cell 0
  have hg3 : w2.grownBy (w2.setCell ⟨bb, 0, none⟩ (.slice (some ⟨g2, 0, none⟩) (K + 1) cap2)) (some bb) := gb_setCell (gb_refl _ _) _
  have hb3 : Box (w2.setCell ⟨bb, 0, none⟩ (.slice (some ⟨g2, 0, none⟩) (K + 1) cap2)) 31 bb (bkA (.slice (some ⟨g2, 0, none⟩) (K + 1) cap2) (.slice wao K wcp) b2 b3 t0 t1 t2 t3 s0 s1 s2 (n + m + 1)) := hb2.set 0 _
  have hs12 : w.heap.size ≤ w2.heap.size := Nat.le_trans hg1.size hgb2.size
  have hd3 := hd2.kept hg3 (fun k hk e => hd2.not hb2 (by decide) (by decide) (by have := Option.some.inj e; subst this; exact hk))
  have hK3 : Kp (fun k => k = bb ∨ F k) w (w2.setCell ⟨bb, 0, none⟩ (.slice (some ⟨g2, 0, none⟩) (K + 1) cap2)) := (hK1.step hgb2 (fun j hj => .inl (.inr (hfh j hj)))).step hg3 (fun j hj => by injection hj with hj; subst hj; exact .inl (.inl rfl))
  have hF3 : ∀ k, ((F k ∧ (Value.slice hao K hcp).ownBlock ≠ some k) ∨ (Value.slice vao m vcp).ownBlock = some k ∨ (Value.slice (some ⟨g2, 0, none⟩) (K + 1) cap2).ownBlock = some k) → F k ∨ (Value.slice vao m vcp).ownBlock = some k ∨ w.heap.size ≤ k := by
    rintro k (⟨hk, _⟩ | hk | hk)
    · exact .inl hk
    · exact .inr (.inl hk)
    · simp [Value.ownBlock] at hk
      subst hk
      rcases hat2 with e | e
      · exact .inl (hfh _ e)
      · exact .inr (.inr e)
  have hv3 := hd3.vs K (by omega)
  rw [upd_same, upd_same, upd_same] at hv3
  have hw3 := hd3.wr
  generalize hFF : (fun k => (F k ∧ (Value.slice hao K hcp).ownBlock ≠ some k) ∨ (Value.slice vao m vcp).ownBlock = some k ∨ (Value.slice (some ⟨g2, 0, none⟩) (K + 1) cap2).ownBlock = some k) = F3 at hd3
  have hF4 : ∀ k, F3 k → F k ∨ (Value.slice vao m vcp).ownBlock = some k ∨ w.heap.size ≤ k := fun k hk => hF3 k (by rw [← hFF] at hk; exact hk)
  clear hrow2 hgb2 hat2 hb2 hb1 hr1 hg1 hg3 c12 c26 f26 h63 hK1 hd2 hd1 hv1 hF3 hFF
  go_wp2
  clear f12 k12
  generalize hX : w2.setCell ⟨bb, 0, none⟩ (.slice (some ⟨g2, 0, none⟩) (K + 1) cap2) = X at *
  have k13 : X.cell? ⟨bb, 1, none⟩ = some (.slice wao K wcp) := hb3.cell 1
  have k13a := fun o => gb_cellN (World.grownBy_alloc X o none) k13
  have hbl := hb3.lt
  have hE0 : ∀ Y : World, Y.heap.size = X.heap.size → (Y.alloc (.cells #[] 5)).ownsRow X.heap.size 5 1 (.slice (some ⟨X.heap.size, 0, none⟩) 0 0) 0 [] := fun Y hY => ⟨rfl, .inr ⟨X.heap.size, 0, #[], rfl, Nat.le_refl _, by rw [← hY]; exact heap_alloc_new Y _, Nat.le_refl _, by unfold maxLen; omega, rfl, rfl⟩⟩
  have hXw := hK3.size
  have HV : Hid (X.ownsRow 0 5 1 (.slice vao m vcp) m xs) := hv3
  have HW : Hid (X.ownsRow 0 38 1 (.slice wao K wcp) K (vsL W K)) := hw3
  have HB : Hid (Box X 31 bb (bkA (.slice (some ⟨g2, 0, none⟩) (K + 1) cap2) (.slice wao K wcp) b2 b3 t0 t1 t2 t3 s0 s1 s2 (n + m + 1))) := hb3
  have HD : Hid _ := hd3
  have HK3 : Hid _ := hK3
  clear hd3 hv3 hw3 hb3 hX hK3
  go_region_law ((first | (refine step_copy TI (xs := xs) (n := m) (v := .slice vao m vcp) (g0 := X.heap.size) (by rfl) (.tmp 32) (.tmp 33) (by rfl) (by rfl) X.heap.size (hE0 _ (by rfl)) (World.ownsRow.alloc (show World.ownsRow _ 0 5 1 _ _ _ from HV.out) _) hoc (by rfl) hxl (by simp) ?_; intro gC cC w5 hown5 hgr5 hat5; have hg5 : X.grownBy w5 (some X.heap.size) := gb_trans (by first | exact gb_drew (gb_alloc (gb_refl _ _) _) | exact gb_alloc (gb_drew (gb_refl _ _)) _) hgr5; have b5 := HB.out.kept hg5 (some_ne2 (by omega)); have m13 : w5.cell? ⟨bb, 1, none⟩ = some (.slice wao K wcp) := b5.cell 1; have m13a := (fun o => gb_cellN (World.grownBy_alloc w5 o none) m13); have hwr5 := row_kept HW.out hg5 (fun j hj e => (by have := (row_ge HW.out hj).2; have := Option.some.inj e; omega))) | (refine step_push TO (w5 := w5) (by rfl) (.tmp 31) (.tmp 35) (by rfl) 0 (.slice wao K wcp) K _ (by rfl) [.slice (some ⟨gC, 0, none⟩) m cC] rfl (by simp [Value.oneCell']) (by rfl) hwr5 (by rfl) (by omega) (Nat.zero_le _) ?_; intro g7 c7 w7 hown7 hg7 hat7; have b7 := b5.kept hg7 (fun e => hbF (hfw _ e.symm)); have m7 : w7.cell? ⟨bb, 1, none⟩ = some (.slice wao K wcp) := b7.cell 1; have f7 : w7.frozen? ⟨bb, 1, none⟩ = false := b7.fz 1)))
  all_goals
    have h5s := hg5.size
    have hC := row_ge hown5 (j := gC) rfl
    have hd5 := HD.out.kept hg5 (fun k hk e => by have := HD.out.fl k hk; have := Option.some.inj e; omega)
    have hd7 := hd5.pushW (by omega) (v := .slice (some ⟨gC, 0, none⟩) m cC) (by rw [upd_same, upd_same]; exact row_base hown5 (Nat.zero_le _)) (fun g hg hk => by have := HD.out.fl g hk; simp [Value.ownBlock] at hg; omega) hown7 hg7 (fun g hg => by simp [Value.ownBlock] at hg; subst hg; exact hat7)
    have hgs : w7.grownBy (w7.setCell ⟨bb, 1, none⟩ (.slice (some ⟨g7, 0, none⟩) (K + 1) c7)) (some bb) := gb_setCell (gb_refl _ _) _
    have hpost : Kp (fun k => k = bb ∨ F k) w (w7.setCell ⟨bb, 1, none⟩ (.slice (some ⟨g7, 0, none⟩) (K + 1) c7)) ∧ ∃ q0 q1 F' V' W', Box (w7.setCell ⟨bb, 1, none⟩ (.slice (some ⟨g7, 0, none⟩) (K + 1) c7)) 31 bb (bkA q0 q1 b2 b3 t0 t1 t2 t3 s0 s1 s2 (n + m + 1)) ∧ Kd (w7.setCell ⟨bb, 1, none⟩ (.slice (some ⟨g7, 0, none⟩) (K + 1) c7)) F' 38 5 1 q0 q1 (K + 1) (K + 1) V' W' (upd N K m) (upd D K xs) ∧ ∀ k, F' k → F k ∨ (Value.slice vao m vcp).ownBlock = some k ∨ w.heap.size ≤ k := by
      refine ⟨((HK3.out.step hg5 (fun j hj => by have := Option.some.inj hj; exact .inr (by omega))).step hg7 (fun j hj => .inl (.inr (hfw j hj)))).step hgs (fun j hj => .inl (.inl (Option.some.inj hj).symm)), .slice (some ⟨g2, 0, none⟩) (K + 1) cap2, .slice (some ⟨g7, 0, none⟩) (K + 1) c7, _, _, _, b7.set 1 _, hd7.kept hgs (fun k hk e => hd7.not b7 (by decide) (by decide) (by have := Option.some.inj e; subst this; exact hk)), ?_⟩
      rintro k (⟨hk, _⟩ | hk | hk)
      · exact hF4 k hk
      · simp [Value.ownBlock] at hk; exact .inr (.inr (by omega))
      · simp [Value.ownBlock] at hk
        subst hk
        rcases hat7 with e | e
        · exact .inl (hfw _ e)
        · exact .inr (.inr (by omega))
    have HP : Hid _ := hpost
    clear hpost hown5 hown7 hgr5 hg5 hg7 b5 b7 m13 m13a HV HW HB HD HK3 hat5 hat7 hwr5 hd5 hd7 hgs
    go_wp2
    go_end0
    exact ⟨rfl, HP.out⟩

theorem full_19 (h : Box w 31 bb (bkA b0 b1 b2 b3 t0 t1 t2 t3 s0 s1 s2 n)) (hn : 200000 < n) (v : Value) : Calls Tryz.prog 19 #[.pointer (some ⟨bb, 0, none⟩), v] w fun y w' => y = .returned (.tuple #[]) ∧ w' = w := by
  have h63 := full_65 h
  rw [decide_eq_true hn] at h63
  go_enter Tryz.func19, Tryz.ntmps19
  go_wp2_with (first | (go_at_call 65; go_must (refine h63.mono ?_); rintro y w1 ⟨rfl, hw1⟩; have hw2 := hw1.symm; subst hw2) | fail)
  exact bodyPost_ret (v := .tuple #[]) (results_none Tryz.results19 _ _ _) rfl ⟨rfl, rfl⟩

set_option maxRecDepth 100000 in
set_option maxHeartbeats 16000000 in
theorem keep_19 (h : Box w 31 bb (bkA b0 b1 b2 b3 t0 t1 t2 t3 s0 s1 s2 n)) (hd : Kd w F 36 9 1 t0 t1 K K V W N D) (hnb : 0 ≤ n ∧ n ≤ 200000) (hK : K < 10000000) {vao : Option Addr} {vcp m : Nat} {xs : List Value} (hv0 : w.ownsRow 0 9 1 (.slice vao m vcp) m xs) (hoc : ∀ u ∈ xs, u.oneCell' = true) (hxl : m ≤ 1000000) (hvF : ∀ g, (Value.slice vao m vcp).ownBlock = some g → ¬ F g) :
    Calls Tryz.prog 19 #[.pointer (some ⟨bb, 0, none⟩), .slice vao m vcp] w fun y w' => y = .returned (.tuple #[]) ∧ Kp (fun k => k = bb ∨ F k) w w' ∧ ∃ q0 q1 F' V' W', Box w' 31 bb (bkA b0 b1 b2 b3 q0 q1 t2 t3 s0 s1 s2 (n + m + 1)) ∧ Kd w' F' 36 9 1 q0 q1 (K + 1) (K + 1) V' W' (upd N K m) (upd D K xs) ∧ ∀ k, F' k → F k ∨ (Value.slice vao m vcp).ownBlock = some k ∨ w.heap.size ≤ k := by
  have h63 := full_65 h
  rw [decide_eq_false (show ¬ 200000 < n by omega)] at h63
  obtain ⟨tO, TO⟩ := ty_25
  obtain ⟨tI, TI⟩ := ty_36
  obtain ⟨hao, hcp, hdh, _, _, _, _⟩ := row_shape hd.hr
  subst hdh
  obtain ⟨wao, wcp, hdw, _, _, _, _⟩ := row_shape hd.wr
  subst hdw
  have c26 : w.cell? ⟨bb, 26, none⟩ = some (.int .i64 n) := h.cell 26
  have f26 := h.fz 26
  have hwn : IntKind.i64.wrap (n + m) = n + m := by rw [IntKind.wrap_i64]; omega
  have hwn2 : IntKind.i64.wrap (n + m + 1) = n + m + 1 := by rw [IntKind.wrap_i64]; omega
  have hbF : ¬ F bb := hd.not h (by decide) (by decide)
  have hg1 : w.grownBy (w.setCell ⟨bb, 26, none⟩ (.int .i64 (n + m + 1))) (some bb) := gb_setCell (gb_refl _ _) _
  have hb1 : Box (w.setCell ⟨bb, 26, none⟩ (.int .i64 (n + m + 1))) 31 bb (bkA b0 b1 b2 b3 (.slice hao K hcp) (.slice wao K wcp) t2 t3 s0 s1 s2 (n + m + 1)) := h.set 26 _
  have hbk : ∀ k, F k → some k ≠ some bb := fun k hk e => hbF (by have := Option.some.inj e; subst this; exact hk)
  have hd1 := hd.kept hg1 hbk
  have hv1 := row_kept hv0 hg1 (fun k hk e => by obtain ⟨c, hc⟩ := row_block hv0 k hk; exact ne_of_type hc h (by decide) (Option.some.inj e))
  have hr1 := hd1.hr
  have c12 : (w.setCell ⟨bb, 26, none⟩ (.int .i64 (n + m + 1))).cell? ⟨bb, 8, none⟩ = some (.slice hao K hcp) := hb1.cell 8
  have hK1 : Kp (fun k => k = bb ∨ F k) w (w.setCell ⟨bb, 26, none⟩ (.int .i64 (n + m + 1))) := (Kp.refl _ w).step hg1 (fun j hj => by injection hj with hj; subst hj; exact .inl (.inl rfl))
  have hfl := hd.fl
  have hfh := hd.fh
  have hfw := hd.fw
  have hvlt : ∀ g, (Value.slice vao m vcp).ownBlock = some g → g < w.heap.size := fun g hg => (row_ge hv0 hg).2
  clear hd
  go_enter Tryz.func19, Tryz.ntmps19
  go_wp2_with (first | (go_at_call 65; go_must (refine h63.mono ?_); rintro y w1 ⟨rfl, hw1⟩; have hw2 := hw1.symm; subst hw2) | (at_builtin; go_must (refine pushB TO rfl _ _ rfl 0 _ K _ (by rfl) hr1 [.slice vao m vcp] rfl (by simp [Value.oneCell']) (by rw [show (w.setCell ⟨bb, 26, none⟩ (.int .i64 (n + m + 1))).heap.size = w.heap.size by simp]; rfl) (by omega) (Nat.zero_le _) ?_)) | fail)
  intro g2 cap2 w2 hrow2 hgb2 hat2
  have hd2 := hd1.pushV hv1 hvF hxl hoc hrow2 hgb2 (fun g hg => by simp [Value.ownBlock] at hg; subst hg; exact hat2.imp id (fun e => by simpa using e))
  have hb2 := hb1.kept hgb2 (fun e => hbF (hfh _ e.symm))
  have f12 := hb2.fz 8
  have k12 : w2.cell? ⟨bb, 8, none⟩ = some (.slice hao K hcp) := hb2.cell 8
  have hg3 : w2.grownBy (w2.setCell ⟨bb, 8, none⟩ (.slice (some ⟨g2, 0, none⟩) (K + 1) cap2)) (some bb) := gb_setCell (gb_refl _ _) _
  have hb3 : Box (w2.setCell ⟨bb, 8, none⟩ (.slice (some ⟨g2, 0, none⟩) (K + 1) cap2)) 31 bb (bkA b0 b1 b2 b3 (.slice (some ⟨g2, 0, none⟩) (K + 1) cap2) (.slice wao K wcp) t2 t3 s0 s1 s2 (n + m + 1)) := hb2.set 8 _
  have hs12 : w.heap.size ≤ w2.heap.size := Nat.le_trans hg1.size hgb2.size
  have hd3 := hd2.kept hg3 (fun k hk e => hd2.not hb2 (by decide) (by decide) (by have := Option.some.inj e; subst this; exact hk))
  have hK3 : Kp (fun k => k = bb ∨ F k) w (w2.setCell ⟨bb, 8, none⟩ (.slice (some ⟨g2, 0, none⟩) (K + 1) cap2)) := (hK1.step hgb2 (fun j hj => .inl (.inr (hfh j hj)))).step hg3 (fun j hj => by injection hj with hj; subst hj; exact .inl (.inl rfl))
  have hF3 : ∀ k, ((F k ∧ (Value.slice hao K hcp).ownBlock ≠ some k) ∨ (Value.slice vao m vcp).ownBlock = some k ∨ (Value.slice (some ⟨g2, 0, none⟩) (K + 1) cap2).ownBlock = some k) → F k ∨ (Value.slice vao m vcp).ownBlock = some k ∨ w.heap.size ≤ k := by
    rintro k (⟨hk, _⟩ | hk | hk)
    · exact .inl hk
    · exact .inr (.inl hk)
    · simp [Value.ownBlock] at hk
      subst hk
      rcases hat2 with e | e
      · exact .inl (hfh _ e)
      · exact .inr (.inr e)
  have hv3 := hd3.vs K (by omega)
  rw [upd_same, upd_same, upd_same] at hv3
  have hw3 := hd3.wr
  generalize hFF : (fun k => (F k ∧ (Value.slice hao K hcp).ownBlock ≠ some k) ∨ (Value.slice vao m vcp).ownBlock = some k ∨ (Value.slice (some ⟨g2, 0, none⟩) (K + 1) cap2).ownBlock = some k) = F3 at hd3
  have hF4 : ∀ k, F3 k → F k ∨ (Value.slice vao m vcp).ownBlock = some k ∨ w.heap.size ≤ k := fun k hk => hF3 k (by rw [← hFF] at hk; exact hk)
  clear hrow2 hgb2 hat2 hb2 hb1 hr1 hg1 hg3 c12 c26 f26 h63 hK1 hd2 hd1 hv1 hF3 hFF
  go_wp2
  clear f12 k12
  generalize hX : w2.setCell ⟨bb, 8, none⟩ (.slice (some ⟨g2, 0, none⟩) (K + 1) cap2) = X at *
  have k13 : X.cell? ⟨bb, 9, none⟩ = some (.slice wao K wcp) := hb3.cell 9
  have k13a := fun o => gb_cellN (World.grownBy_alloc X o none) k13
  have hbl := hb3.lt
  have hE0 : ∀ Y : World, Y.heap.size = X.heap.size → (Y.alloc (.cells #[] 9)).ownsRow X.heap.size 9 1 (.slice (some ⟨X.heap.size, 0, none⟩) 0 0) 0 [] := fun Y hY => ⟨rfl, .inr ⟨X.heap.size, 0, #[], rfl, Nat.le_refl _, by rw [← hY]; exact heap_alloc_new Y _, Nat.le_refl _, by unfold maxLen; omega, rfl, rfl⟩⟩
  have hXw := hK3.size
  have HV : Hid (X.ownsRow 0 9 1 (.slice vao m vcp) m xs) := hv3
  have HW : Hid (X.ownsRow 0 36 1 (.slice wao K wcp) K (vsL W K)) := hw3
  have HB : Hid (Box X 31 bb (bkA b0 b1 b2 b3 (.slice (some ⟨g2, 0, none⟩) (K + 1) cap2) (.slice wao K wcp) t2 t3 s0 s1 s2 (n + m + 1))) := hb3
  have HD : Hid _ := hd3
  have HK3 : Hid _ := hK3
  clear hd3 hv3 hw3 hb3 hX hK3
  go_region_law ((first | (refine step_copy TI (xs := xs) (n := m) (v := .slice vao m vcp) (g0 := X.heap.size) (by rfl) (.tmp 32) (.tmp 33) (by rfl) (by rfl) X.heap.size (hE0 _ (by rfl)) (World.ownsRow.alloc (show World.ownsRow _ 0 9 1 _ _ _ from HV.out) _) hoc (by rfl) hxl (by simp) ?_; intro gC cC w5 hown5 hgr5 hat5; have hg5 : X.grownBy w5 (some X.heap.size) := gb_trans (by first | exact gb_drew (gb_alloc (gb_refl _ _) _) | exact gb_alloc (gb_drew (gb_refl _ _)) _) hgr5; have b5 := HB.out.kept hg5 (some_ne2 (by omega)); have m13 : w5.cell? ⟨bb, 9, none⟩ = some (.slice wao K wcp) := b5.cell 9; have m13a := (fun o => gb_cellN (World.grownBy_alloc w5 o none) m13); have hwr5 := row_kept HW.out hg5 (fun j hj e => (by have := (row_ge HW.out hj).2; have := Option.some.inj e; omega))) | (refine step_push TO (w5 := w5) (by rfl) (.tmp 31) (.tmp 35) (by rfl) 0 (.slice wao K wcp) K _ (by rfl) [.slice (some ⟨gC, 0, none⟩) m cC] rfl (by simp [Value.oneCell']) (by rfl) hwr5 (by rfl) (by omega) (Nat.zero_le _) ?_; intro g7 c7 w7 hown7 hg7 hat7; have b7 := b5.kept hg7 (fun e => hbF (hfw _ e.symm)); have m7 : w7.cell? ⟨bb, 9, none⟩ = some (.slice wao K wcp) := b7.cell 9; have f7 : w7.frozen? ⟨bb, 9, none⟩ = false := b7.fz 9)))
  all_goals
    have h5s := hg5.size
    have hC := row_ge hown5 (j := gC) rfl
    have hd5 := HD.out.kept hg5 (fun k hk e => by have := HD.out.fl k hk; have := Option.some.inj e; omega)
    have hd7 := hd5.pushW (by omega) (v := .slice (some ⟨gC, 0, none⟩) m cC) (by rw [upd_same, upd_same]; exact row_base hown5 (Nat.zero_le _)) (fun g hg hk => by have := HD.out.fl g hk; simp [Value.ownBlock] at hg; omega) hown7 hg7 (fun g hg => by simp [Value.ownBlock] at hg; subst hg; exact hat7)
    have hgs : w7.grownBy (w7.setCell ⟨bb, 9, none⟩ (.slice (some ⟨g7, 0, none⟩) (K + 1) c7)) (some bb) := gb_setCell (gb_refl _ _) _
    have hpost : Kp (fun k => k = bb ∨ F k) w (w7.setCell ⟨bb, 9, none⟩ (.slice (some ⟨g7, 0, none⟩) (K + 1) c7)) ∧ ∃ q0 q1 F' V' W', Box (w7.setCell ⟨bb, 9, none⟩ (.slice (some ⟨g7, 0, none⟩) (K + 1) c7)) 31 bb (bkA b0 b1 b2 b3 q0 q1 t2 t3 s0 s1 s2 (n + m + 1)) ∧ Kd (w7.setCell ⟨bb, 9, none⟩ (.slice (some ⟨g7, 0, none⟩) (K + 1) c7)) F' 36 9 1 q0 q1 (K + 1) (K + 1) V' W' (upd N K m) (upd D K xs) ∧ ∀ k, F' k → F k ∨ (Value.slice vao m vcp).ownBlock = some k ∨ w.heap.size ≤ k := by
      refine ⟨((HK3.out.step hg5 (fun j hj => by have := Option.some.inj hj; exact .inr (by omega))).step hg7 (fun j hj => .inl (.inr (hfw j hj)))).step hgs (fun j hj => .inl (.inl (Option.some.inj hj).symm)), .slice (some ⟨g2, 0, none⟩) (K + 1) cap2, .slice (some ⟨g7, 0, none⟩) (K + 1) c7, _, _, _, b7.set 9 _, hd7.kept hgs (fun k hk e => hd7.not b7 (by decide) (by decide) (by have := Option.some.inj e; subst this; exact hk)), ?_⟩
      rintro k (⟨hk, _⟩ | hk | hk)
      · exact hF4 k hk
      · simp [Value.ownBlock] at hk; exact .inr (.inr (by omega))
      · simp [Value.ownBlock] at hk
        subst hk
        rcases hat7 with e | e
        · exact .inl (hfw _ e)
        · exact .inr (.inr (by omega))
    have HP : Hid _ := hpost
    clear hpost hown5 hown7 hgr5 hg5 hg7 b5 b7 m13 m13a HV HW HB HD HK3 hat5 hat7 hwr5 hd5 hd7 hgs
    go_wp2
    go_end0
    exact ⟨rfl, HP.out⟩
end
end Go.Proofs.YtobegepebochkaaGreatDoor
/-
  A Book: what is empty in it; Stands.
-/
namespace Go.Proofs.YtobegepebochkaaGreatDoor
open Go.RowKit
set_option linter.unusedVariables false
set_option linter.unusedSimpArgs false

section
variable {w : World} {bb : Nat} {b0 b1 b2 b3 t0 t1 t2 t3 s0 s1 s2 : Value} {n : Int}
theorem look_109 (w : World) : Calls Tryz.prog 109 #[.pointer (some ⟨bb, 0, none⟩), .slice none 0 0] w fun y w' => y = .returned (.bool true) ∧ w' = w := by
  go_enter Tryz.func109, Tryz.ntmps109
  go_wp2
  go_loopw [5] (fun v wr => v = .int .i64 0 ∧ wr = w) (fun _ _ => 0)
  case atStart => exact ⟨rfl, rfl⟩
  case round =>
    obtain ⟨rfl, rfl⟩ := hrel
    go_wp2
    go_ret
    exact ⟨rfl, rfl⟩
set_option maxRecDepth 100000 in
set_option maxHeartbeats 4000000 in
theorem close_68 (h : Box w 31 bb (bkA b0 b1 b2 b3 t0 t1 t2 t3 s0 s1 s2 n)) : Calls Tryz.prog 68 #[.pointer (some ⟨bb, 0, none⟩)] w fun y w' => y = .returned (.bool true) ∧ w' = w := by
  have c0 : w.cell? ⟨bb, 4, none⟩ = some (.slice none 0 0) := h.cell 4
  have c1 : w.cell? ⟨bb, 6, none⟩ = some (.slice none 0 0) := h.cell 6
  have c2 : w.cell? ⟨bb, 7, none⟩ = some (.slice none 0 0) := h.cell 7
  have hl := look_109 (bb := bb) w
  clear h
  go_enter Tryz.func68, Tryz.ntmps68
  go_wp2
  go_loopw [3] (fun v wr => v = .int .i64 0 ∧ wr = w) (fun _ _ => 0)
  case atStart => exact ⟨rfl, rfl⟩
  case round =>
    obtain ⟨rfl, hwr⟩ := hrel
    subst hwr
    go_wp2
    go_loopw [5] (fun v wq => v = .int .i64 0 ∧ wq = wr) (fun _ _ => 0)
    case atStart => exact ⟨rfl, rfl⟩
    case round =>
      obtain ⟨rfl, hwq⟩ := hrel
      subst hwq
      go_wp2_with (first | (go_at_call 109; go_must (refine hl.mono ?_); rintro y w7 ⟨rfl, hw7⟩; subst hw7) | fail)
      go_loopw [8] (fun v wz => v = .int .i64 0 ∧ wz = w7) (fun _ _ => 0)
      case atStart => exact ⟨rfl, rfl⟩
      case round =>
        obtain ⟨rfl, hwz⟩ := hrel
        subst hwz
        go_wp2_with (first | (go_at_call 109; go_must (refine hl.mono ?_); rintro y w7 ⟨rfl, hw7⟩; subst hw7) | fail)
        go_ret
        exact ⟨rfl, rfl⟩
theorem look_112 (w : World) : Calls Tryz.prog 112 #[.pointer (some ⟨bb, 0, none⟩), .slice none 0 0] w fun y w' => y = .returned (.bool true) ∧ w' = w := by
  go_enter Tryz.func112, Tryz.ntmps112
  go_wp2
  go_loopw [5] (fun v wr => v = .int .i64 0 ∧ wr = w) (fun _ _ => 0)
  case atStart => exact ⟨rfl, rfl⟩
  case round =>
    obtain ⟨rfl, rfl⟩ := hrel
    go_wp2
    go_ret
    exact ⟨rfl, rfl⟩
set_option maxRecDepth 100000 in
set_option maxHeartbeats 4000000 in
theorem close_70 (h : Box w 31 bb (bkA b0 b1 b2 b3 t0 t1 t2 t3 s0 s1 s2 n)) : Calls Tryz.prog 70 #[.pointer (some ⟨bb, 0, none⟩)] w fun y w' => y = .returned (.bool true) ∧ w' = w := by
  have c0 : w.cell? ⟨bb, 12, none⟩ = some (.slice none 0 0) := h.cell 12
  have c1 : w.cell? ⟨bb, 14, none⟩ = some (.slice none 0 0) := h.cell 14
  have c2 : w.cell? ⟨bb, 15, none⟩ = some (.slice none 0 0) := h.cell 15
  have hl := look_112 (bb := bb) w
  clear h
  go_enter Tryz.func70, Tryz.ntmps70
  go_wp2
  go_loopw [3] (fun v wr => v = .int .i64 0 ∧ wr = w) (fun _ _ => 0)
  case atStart => exact ⟨rfl, rfl⟩
  case round =>
    obtain ⟨rfl, hwr⟩ := hrel
    subst hwr
    go_wp2
    go_loopw [5] (fun v wq => v = .int .i64 0 ∧ wq = wr) (fun _ _ => 0)
    case atStart => exact ⟨rfl, rfl⟩
    case round =>
      obtain ⟨rfl, hwq⟩ := hrel
      subst hwq
      go_wp2_with (first | (go_at_call 112; go_must (refine hl.mono ?_); rintro y w7 ⟨rfl, hw7⟩; subst hw7) | fail)
      go_loopw [8] (fun v wz => v = .int .i64 0 ∧ wz = w7) (fun _ _ => 0)
      case atStart => exact ⟨rfl, rfl⟩
      case round =>
        obtain ⟨rfl, hwz⟩ := hrel
        subst hwz
        go_wp2_with (first | (go_at_call 112; go_must (refine hl.mono ?_); rintro y w7 ⟨rfl, hw7⟩; subst hw7) | fail)
        go_ret
        exact ⟨rfl, rfl⟩
theorem look_113 (w : World) : Calls Tryz.prog 113 #[.pointer (some ⟨bb, 0, none⟩), .slice none 0 0] w fun y w' => y = .returned (.bool true) ∧ w' = w := by
  go_enter Tryz.func113, Tryz.ntmps113
  go_wp2
  go_loopw [5] (fun v wr => v = .int .i64 0 ∧ wr = w) (fun _ _ => 0)
  case atStart => exact ⟨rfl, rfl⟩
  case round =>
    obtain ⟨rfl, rfl⟩ := hrel
    go_wp2
    go_ret
    exact ⟨rfl, rfl⟩
set_option maxRecDepth 100000 in
set_option maxHeartbeats 4000000 in
theorem close_71 (h : Box w 31 bb (bkA b0 b1 b2 b3 t0 t1 t2 t3 s0 s1 s2 n)) : Calls Tryz.prog 71 #[.pointer (some ⟨bb, 0, none⟩)] w fun y w' => y = .returned (.bool true) ∧ w' = w := by
  have c0 : w.cell? ⟨bb, 16, none⟩ = some (.slice none 0 0) := h.cell 16
  have c1 : w.cell? ⟨bb, 17, none⟩ = some (.slice none 0 0) := h.cell 17
  have c2 : w.cell? ⟨bb, 18, none⟩ = some (.slice none 0 0) := h.cell 18
  have hl := look_113 (bb := bb) w
  clear h
  go_enter Tryz.func71, Tryz.ntmps71
  go_wp2
  go_loopw [3] (fun v wr => v = .int .i64 0 ∧ wr = w) (fun _ _ => 0)
  case atStart => exact ⟨rfl, rfl⟩
  case round =>
    obtain ⟨rfl, hwr⟩ := hrel
    subst hwr
    go_wp2
    go_loopw [5] (fun v wq => v = .int .i64 0 ∧ wq = wr) (fun _ _ => 0)
    case atStart => exact ⟨rfl, rfl⟩
    case round =>
      obtain ⟨rfl, hwq⟩ := hrel
      subst hwq
      go_wp2_with (first | (go_at_call 113; go_must (refine hl.mono ?_); rintro y w7 ⟨rfl, hw7⟩; subst hw7) | fail)
      go_loopw [8] (fun v wz => v = .int .i64 0 ∧ wz = w7) (fun _ _ => 0)
      case atStart => exact ⟨rfl, rfl⟩
      case round =>
        obtain ⟨rfl, hwz⟩ := hrel
        subst hwz
        go_wp2_with (first | (go_at_call 113; go_must (refine hl.mono ?_); rintro y w7 ⟨rfl, hw7⟩; subst hw7) | fail)
        go_ret
        exact ⟨rfl, rfl⟩
theorem look_114 (w : World) : Calls Tryz.prog 114 #[.pointer (some ⟨bb, 0, none⟩), .slice none 0 0] w fun y w' => y = .returned (.bool true) ∧ w' = w := by
  go_enter Tryz.func114, Tryz.ntmps114
  go_wp2
  go_loopw [5] (fun v wr => v = .int .i64 0 ∧ wr = w) (fun _ _ => 0)
  case atStart => exact ⟨rfl, rfl⟩
  case round =>
    obtain ⟨rfl, rfl⟩ := hrel
    go_wp2
    go_ret
    exact ⟨rfl, rfl⟩
set_option maxRecDepth 100000 in
set_option maxHeartbeats 4000000 in
theorem close_72 (h : Box w 31 bb (bkA b0 b1 b2 b3 t0 t1 t2 t3 s0 s1 s2 n)) : Calls Tryz.prog 72 #[.pointer (some ⟨bb, 0, none⟩)] w fun y w' => y = .returned (.bool true) ∧ w' = w := by
  have c0 : w.cell? ⟨bb, 19, none⟩ = some (.slice none 0 0) := h.cell 19
  have c1 : w.cell? ⟨bb, 20, none⟩ = some (.slice none 0 0) := h.cell 20
  have c2 : w.cell? ⟨bb, 21, none⟩ = some (.slice none 0 0) := h.cell 21
  have hl := look_114 (bb := bb) w
  clear h
  go_enter Tryz.func72, Tryz.ntmps72
  go_wp2
  go_loopw [3] (fun v wr => v = .int .i64 0 ∧ wr = w) (fun _ _ => 0)
  case atStart => exact ⟨rfl, rfl⟩
  case round =>
    obtain ⟨rfl, hwr⟩ := hrel
    subst hwr
    go_wp2
    go_loopw [5] (fun v wq => v = .int .i64 0 ∧ wq = wr) (fun _ _ => 0)
    case atStart => exact ⟨rfl, rfl⟩
    case round =>
      obtain ⟨rfl, hwq⟩ := hrel
      subst hwq
      go_wp2_with (first | (go_at_call 114; go_must (refine hl.mono ?_); rintro y w7 ⟨rfl, hw7⟩; subst hw7) | fail)
      go_loopw [8] (fun v wz => v = .int .i64 0 ∧ wz = w7) (fun _ _ => 0)
      case atStart => exact ⟨rfl, rfl⟩
      case round =>
        obtain ⟨rfl, hwz⟩ := hrel
        subst hwz
        go_wp2_with (first | (go_at_call 114; go_must (refine hl.mono ?_); rintro y w7 ⟨rfl, hw7⟩; subst hw7) | fail)
        go_ret
        exact ⟨rfl, rfl⟩
theorem look_115 (w : World) : Calls Tryz.prog 115 #[.pointer (some ⟨bb, 0, none⟩), .slice none 0 0] w fun y w' => y = .returned (.bool true) ∧ w' = w := by
  go_enter Tryz.func115, Tryz.ntmps115
  go_wp2
  go_loopw [5] (fun v wr => v = .int .i64 0 ∧ wr = w) (fun _ _ => 0)
  case atStart => exact ⟨rfl, rfl⟩
  case round =>
    obtain ⟨rfl, rfl⟩ := hrel
    go_wp2
    go_ret
    exact ⟨rfl, rfl⟩
set_option maxRecDepth 100000 in
set_option maxHeartbeats 4000000 in
theorem close_73 (h : Box w 31 bb (bkA b0 b1 b2 b3 t0 t1 t2 t3 nilS nilS nilS n)) : Calls Tryz.prog 73 #[.pointer (some ⟨bb, 0, none⟩)] w fun y w' => y = .returned (.bool true) ∧ w' = w := by
  have c0 : w.cell? ⟨bb, 22, none⟩ = some (.slice none 0 0) := h.cell 22
  have c1 : w.cell? ⟨bb, 23, none⟩ = some (.slice none 0 0) := h.cell 23
  have c2 : w.cell? ⟨bb, 24, none⟩ = some (.slice none 0 0) := h.cell 24
  have hl := look_115 (bb := bb) w
  clear h
  go_enter Tryz.func73, Tryz.ntmps73
  go_wp2
  go_loopw [3] (fun v wr => v = .int .i64 0 ∧ wr = w) (fun _ _ => 0)
  case atStart => exact ⟨rfl, rfl⟩
  case round =>
    obtain ⟨rfl, hwr⟩ := hrel
    subst hwr
    go_wp2
    go_loopw [5] (fun v wq => v = .int .i64 0 ∧ wq = wr) (fun _ _ => 0)
    case atStart => exact ⟨rfl, rfl⟩
    case round =>
      obtain ⟨rfl, hwq⟩ := hrel
      subst hwq
      go_wp2_with (first | (go_at_call 115; go_must (refine hl.mono ?_); rintro y w7 ⟨rfl, hw7⟩; subst hw7) | fail)
      go_loopw [8] (fun v wz => v = .int .i64 0 ∧ wz = w7) (fun _ _ => 0)
      case atStart => exact ⟨rfl, rfl⟩
      case round =>
        obtain ⟨rfl, hwz⟩ := hrel
        subst hwz
        go_wp2_with (first | (go_at_call 115; go_must (refine hl.mono ?_); rintro y w7 ⟨rfl, hw7⟩; subst hw7) | fail)
        go_ret
        exact ⟨rfl, rfl⟩
end
end Go.Proofs.YtobegepebochkaaGreatDoor

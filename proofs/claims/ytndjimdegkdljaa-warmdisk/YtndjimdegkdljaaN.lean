import Derived.Test.YtndjimdegkdljaaM
/-
  The document's disk in memory; its names.
-/
namespace Go.Proofs.Ytndjimdegkdljaa
open Go.RowKit Go.MapKept
set_option linter.unusedVariables false
set_option linter.unusedSimpArgs false
attribute [local go_sem] Oper.semAt_some

section
variable {sl el : TypeId} {ti : TypeInfo} {z : Value} {sz bs : Nat} {w : World} {ops : Array Oper} {rest : List Oper} {o : Oper} {a : Act} {Q : Exit → Act → World → Prop}
/-- append([]T{}, l...) in a plain region. -/
theorem copyG {xs : List Value} {n : Nat} {v : Value} {g0 : Nat} (T : Ty sl el ti z sz bs) (hgd : o.guard = none) (s x : Operand)
    (ho : o.op = .call { callee := .builtin .append, args := #[s, x], argTypes := #[sl, sl] }) (hs : a.eval s = .slice (some ⟨g0, 0, none⟩) 0 0) (B : Nat) (hown0 : w.ownsRow B el sz (.slice (some ⟨g0, 0, none⟩) 0 0) 0 []) (hrow : w.ownsRow 0 el sz v n xs) (h1c : ∀ u ∈ xs, u.oneCell' = true) (hx : a.eval x = v) (hn : n ≤ 1000000) (hB : B ≤ w.heap.size)
    (h : ∀ g c w', w'.ownsRow B el sz (.slice (some ⟨g, 0, none⟩) n c) n xs → w.grownBy w' (some g0) → (g0 = g ∨ g = w.heap.size) → wpList Try.prog ops Q rest (a.put o.dst (.slice (some ⟨g, 0, none⟩) n c)) w') : wpList Try.prog ops Q (o :: rest) a w := by
  refine wpList_plain hgd fun K hK => ?_
  have := step_copy (ops := ops) (K := K) (D := True) (Q := Q) T hgd s x ho hs B hown0 hrow h1c hx hn hB (fun g c w' a1 a2 a3 => hK _ _ (h g c w' a1 a2 a3))
  rwa [if_pos (by simp [Region.wanted, hgd])] at this
end

/-- Where the document's disk lies. -/
structure Rl where
  d : Nat
  fv : Value
  sf : Value
  cv : Value
  pl : Value
  rb : Nat → Value
  col : Nat → Nat
abbrev dkR (r : Rl) (M : Md) : Array Value := #[.int .i64 M.space, r.fv, r.sf, r.cv, .int .i64 (M.acts : Int), r.pl, .bool M.dark]
abbrev rchL (c : Ch) : List Value := [sv c.fr, sv c.nw, .int .i64 (c.f : Int)]
abbrev fltL (f : Flt) : List Value := [.int .i64 f.step, .int .i64 f.kind, .int .i64 f.part]
def Md.file (M : Md) (k : Nat) : Bs × Nat := M.files[k]?.getD ([], 0)
abbrev flsL (r : Rl) (M : Md) (k : Nat) : List Value := [r.rb k, .int .i64 ((M.file k).2 : Int)]
structure RR (w : World) (r : Rl) (M : Md) : Prop where
  box : Box w 80 r.d (dkR r M)
  fl : w.ownsRow 0 98 2 r.fv M.files.length (rng M.files.length (flsL r M))
  fr : ∀ k, k < M.files.length → w.ownsRow 0 5 1 (r.rb k) (M.file k).1.length ((M.file k).1.map b8)
  sf : ∃ L, NmV w 0 r.sf L ∧ Rep L M.safe ∧ L.length + M.ch.length ≤ M.acts
  ch : w.ownsRow 0 137 3 r.cv M.ch.length (M.ch.flatMap rchL)
  pl : ∃ P : List Flt, w.ownsRow 0 117 3 r.pl P.length (P.flatMap fltL) ∧ P.length ≤ 1000 ∧ ∀ i, M.plan i = P.find? (fun f => f.step = i)
  cd : r.col r.d = 1
  cf : ∀ b, r.fv.ownBlock = some b → r.col b = 2
  cs : ∀ b, r.sf.ownBlock = some b → r.col b = 3
  cc : ∀ b, r.cv.ownBlock = some b → r.col b = 4
  cp : ∀ b, r.pl.ownBlock = some b → r.col b = 5
  cr : ∀ k b, k < M.files.length → (r.rb k).ownBlock = some b → r.col b = 10 + k
  lt : ∀ b, r.col b ≠ 0 → b < w.heap.size
  ok : M.Ok
theorem RR.keep {w w' : World} {r : Rl} {M : Md} (h : RR w r M) (hk : ∀ b, r.col b ≠ 0 → w'.heap[b]? = w.heap[b]?) (hs : w.heap.size ≤ w'.heap.size) : RR w' r M where
  box := (hk r.d (by rw [h.cd]; decide)).trans h.box
  fl := row_same h.fl (fun b hb => hk b (by rw [h.cf b hb]; decide))
  fr := fun k hl => row_same (h.fr k hl) (fun b hb => hk b (by rw [h.cr k b hl hb]; omega))
  sf := by
    obtain ⟨L, h1, h2⟩ := h.sf
    exact ⟨L, row_same h1 (fun b hb => hk b (by rw [h.cs b hb]; decide)), h2⟩
  ch := row_same h.ch (fun b hb => hk b (by rw [h.cc b hb]; decide))
  pl := by
    obtain ⟨P, h1, h2⟩ := h.pl
    exact ⟨P, row_same h1 (fun b hb => hk b (by rw [h.cp b hb]; decide)), h2⟩
  cd := h.cd
  cf := h.cf
  cs := h.cs
  cc := h.cc
  cp := h.cp
  cr := h.cr
  lt := fun b hb => Nat.lt_of_lt_of_le (h.lt b hb) hs
  ok := h.ok
theorem RR.gb {w w' : World} {r : Rl} {M : Md} (h : RR w r M) (hg : w.grownBy w' none) : RR w' r M := h.keep (fun b hb => hg.block b (h.lt b hb) (by simp)) hg.size
theorem RR.kp {w w' : World} {r : Rl} {M : Md} (h : RR w r M) {F : Nat → Prop} (hg : Kp F w w') (hF : ∀ b, r.col b ≠ 0 → ¬ F b) : RR w' r M := h.keep (fun b hb => hg.block b (h.lt b hb) (hF b hb)) hg.size
/-- What a call does to memory. -/
structure Afr (w w' : World) (p p' : Rl) : Prop where
  kp : Kp (fun b => p.col b ≠ 0) w w'
  d : p'.d = p.d
  col : ∀ b, b < w.heap.size → p'.col b ≠ 0 → p.col b ≠ 0
theorem Afr.refl (w : World) (p : Rl) : Afr w w p p := ⟨Kp.refl _ _, rfl, fun _ _ h => h⟩
theorem Afr.trans {w w1 w2 : World} {p p1 p2 : Rl} (h : Afr w w1 p p1) (k : Afr w1 w2 p1 p2) : Afr w w2 p p2 := by
  refine ⟨h.kp.trans k.kp (fun _ h => h) (fun b hb => ?_), k.d.trans h.d, fun b hb hc => h.col b hb (k.col b (Nat.lt_of_lt_of_le hb h.kp.size) hc)⟩
  rcases Nat.lt_or_ge b w.heap.size with hl | hl
  · exact .inl (h.col b hl hb)
  · exact .inr hl
theorem Afr.of {w w' : World} {p : Rl} (h : w.grownBy w' none) : Afr w w' p p := ⟨Kp.of h, rfl, fun _ _ h => h⟩

theorem flat_get {α : Type} (f : α → List Value) (n : Nat) (hf : ∀ x, (f x).length = n) : ∀ {L : List α} {i : Nat} {p : α} (j : Nat), L[i]? = some p → j < n → (L.flatMap f)[i * n + j]? = (f p)[j]?
  | [], i, p, j, h, _ => by simp at h
  | q :: L, 0, p, j, h, hj => by
    simp at h
    subst h
    rw [List.flatMap_cons, List.getElem?_append_left (by rw [hf]; omega)]
    congr 1
    omega
  | q :: L, i + 1, p, j, h, hj => by
    have h' : L[i]? = some p := by simpa using h
    rw [List.flatMap_cons, List.getElem?_append_right (by rw [hf, Nat.add_mul]; omega), ← flat_get f n hf j h' hj]
    congr 1
    rw [hf, Nat.add_mul]
    omega
theorem one_flat {α : Type} (f : α → List Value) (hf : ∀ x, ∀ u ∈ f x, u.oneCell' = true) (L : List α) : ∀ u ∈ L.flatMap f, u.oneCell' = true := by
  intro u hu
  obtain ⟨x, -, hx⟩ := List.mem_flatMap.1 hu
  exact hf x u hx
theorem nm_one (p : Bs × Nat) : ∀ u ∈ nmL p, u.oneCell' = true := by
  intro u hu
  simp only [List.mem_cons, List.not_mem_nil, or_false] at hu
  rcases hu with rfl | rfl <;> rfl
theorem row_up {w : World} {B B' : Nat} {e : TypeId} {s : Nat} {v : Value} {n : Nat} {xs : List Value} (h : w.ownsRow B e s v n xs) (hb : ∀ b, v.ownBlock = some b → B' ≤ b) : w.ownsRow B' e s v n xs := by
  obtain ⟨h1, h2⟩ := h
  refine ⟨h1, ?_⟩
  rcases h2 with h2 | ⟨g, cap, cur, e1, h3, h4⟩
  · exact .inl h2
  · exact .inr ⟨g, cap, cur, e1, hb g (by rw [e1]; rfl), h4⟩
theorem rch_len (c : Ch) : (rchL c).length = 3 := rfl
set_option maxRecDepth 100000 in
set_option maxHeartbeats 8000000 in
theorem after_49 {w : World} {r : Rl} {M : Md} (h : RR w r M) (n : Int) (h0 : 0 ≤ n) (hn : n ≤ M.ch.length) :
    Calls Try.prog 49 #[pv r.d, .int .i64 n] w fun e w' => ∃ v L, e = .returned v ∧ NmV w' w.heap.size v L ∧ Rep L (after M.safe (M.ch.take n.toNat)) ∧ L.length ≤ M.acts ∧ w.grownBy w' none := by
  obtain ⟨N, rfl⟩ : ∃ N : Nat, n = (N : Int) := ⟨n.toNat, by omega⟩
  obtain ⟨L0, hL0, hR0, hl0⟩ := h.sf
  have hna := h.ok.na
  obtain ⟨cao, ccp, ec, -, -, hccp, hcpos⟩ := row_shape h.ch
  have hbox := h.box
  obtain ⟨t77, T77⟩ := ty77
  have c2 : w.cell? ⟨r.d, 2, none⟩ = some r.sf := hbox.cell 2
  have c3 : w.cell? ⟨r.d, 3, none⟩ = some r.cv := hbox.cell 3
  have c2a := gb_cellN (World.grownBy_alloc w (.cells #[] 133) none) c2
  have hE0 : (w.alloc (.cells #[] 133)).ownsRow w.heap.size 133 2 (.slice (some ⟨w.heap.size, 0, none⟩) 0 0) 0 [] := ⟨rfl, .inr ⟨w.heap.size, 0, #[], rfl, Nat.le_refl _, heap_alloc_new w _, Nat.le_refl _, by unfold maxLen; omega, rfl, rfl⟩⟩
  have hone := one_flat nmL nm_one L0
  have hrow : (w.alloc (.cells #[] 133)).ownsRow 0 133 2 r.sf L0.length (L0.flatMap nmL) := World.ownsRow.alloc hL0 _
  rw [ec] at c3
  have HR := Lib.hid h
  obtain ⟨nc, hnc⟩ : ∃ nc, M.ch.length = nc := ⟨_, rfl⟩
  rw [hnc] at c3 hcpos hn hl0
  have HN := Lib.hid (And.intro hnc (And.intro ec (And.intro hL0 hR0)))
  clear h hbox hnc ec hL0 hR0
  go_enter Try.func49, Try.ntmps49
  go_upto_region 2 with (at_builtin; go_must (refine copyG T77 rfl _ _ rfl (by rfl) w.heap.size hE0 hrow hone (by rfl) (by omega) (by simp) ?_); intro g1' cp1 w1 hown1 hg1 hat1)
  have g1 : w.grownBy w1 none := gb_mine (gb_alloc (gb_refl w none) _) hg1 (Nat.le_refl _)
  obtain ⟨hnc, ec, hL0, hR0⟩ := HN.out
  have HI : Hid (NmV w1 0 (.slice (some ⟨g1', 0, none⟩) L0.length cp1) L0 ∧ Rep L0 (after M.safe (M.ch.take 0)) ∧ w.heap.size ≤ g1') := by
    refine ⟨row_base hown1 (Nat.zero_le _), hR0, ?_⟩
    exact (row_ge hown1 rfl).1
  clear hown1 hg1 hat1 hE0 hrow hone c2 c2a hL0 hR0
  go_wp2_with fail
  go_loopw [5, 6] (fun x5 x6 wr => ∃ (i : Nat) (L : List (Bs × Nat)), i ≤ N ∧ x6 = .int .i64 (i : Int) ∧ NmV wr 0 x5 L ∧ Rep L (after M.safe (M.ch.take i)) ∧ L.length ≤ L0.length + i ∧ (∀ b, x5.ownBlock = some b → w.heap.size ≤ b) ∧ w.grownBy wr none) (fun _ x6 _ => N - (intOf x6).toNat)
  case atStart => exact ⟨0, L0, by omega, rfl, HI.out.1, HI.out.2.1, by omega, fun b hb => by simp [Value.ownBlock] at hb; subst hb; exact HI.out.2.2, g1⟩
  case round =>
    obtain ⟨i, L, hi, rfl, hV, hRp, hll, hbl, hg⟩ := hrel
    clear HI
    have s3 := gb_cellN hg c3
    by_cases hlt : i < N
    · obtain ⟨c, hc⟩ : ∃ c, M.ch[i]? = some c := ⟨_, List.getElem?_eq_getElem (by rw [hnc]; omega)⟩
      obtain ⟨gc, rfl⟩ := hcpos (by omega)
      have hcr := HR.out.ch
      rw [ec, hnc] at hcr
      obtain ⟨fr, hfr⟩ : ∃ fr, c.fr = fr := ⟨_, rfl⟩
      obtain ⟨nw, hnw⟩ : ∃ nw, c.nw = nw := ⟨_, rfl⟩
      obtain ⟨cf, hcf⟩ : ∃ cf, c.f = cf := ⟨_, rfl⟩
      have q0 : wr.cell? ⟨gc, i * 3, none⟩ = some (sv fr) := gb_cellN hg (row_cell hcr (i * 3 + 0) _ (by rw [flat_get rchL 3 rch_len 0 hc (by omega), ← hfr]; rfl))
      have q1 : wr.cell? ⟨gc, i * 3 + 1, none⟩ = some (sv nw) := gb_cellN hg (row_cell hcr (i * 3 + 1) _ (by rw [flat_get rchL 3 rch_len 1 hc (by omega), ← hnw]; rfl))
      have q2 : wr.cell? ⟨gc, i * 3 + 2, none⟩ = some (.int .i64 (cf : Int)) := gb_cellN hg (row_cell hcr (i * 3 + 2) _ (by rw [flat_get rchL 3 rch_len 2 hc (by omega), ← hcf]; rfl))
      have d1 : decide ((i : Int) < (N : Int)) = true := by simp; omega
      have d1' : (i : Int) < (N : Int) := by omega
      have d2 : decide ((i : Int) < (nc : Int)) = true := by simp; omega
      have d2' : (i : Int) < (nc : Int) := by omega
      have hw1 : IntKind.i64.wrap ((i : Int) + 1) = (i : Int) + 1 := by rw [IntKind.wrap_i64]; omega
      obtain ⟨a5, c5, e5, -⟩ := row_shape hV
      subst e5
      clear hcr
      go_upto_region 6 with fail
      have g2 := gb_alloc (gb_refl wr none) (.cells #[sv fr, sv nw, .int .i64 (cf : Int)] 137)
      have b2 := Box.new wr 137 #[sv fr, sv nw, .int .i64 (cf : Int)]
      have hV2 : NmV (wr.alloc (.cells #[sv fr, sv nw, .int .i64 (cf : Int)] 137)) 0 (.slice a5 L.length c5) L := row_kept hV g2 (by simp)
      have hz2 : (wr.alloc (.cells #[sv fr, sv nw, .int .i64 (cf : Int)] 137)).heap.size = wr.heap.size + 1 := by simp
      obtain ⟨W2, hW2⟩ : ∃ W2, wr.alloc (.cells #[sv fr, sv nw, .int .i64 (cf : Int)] 137) = W2 := ⟨_, rfl⟩
      rw [hW2] at g2 b2 hV2 hz2
      have h78 := without_78 hV2 (by omega) fr
      have t0 : W2.cell? ⟨wr.heap.size, 0, none⟩ = some (sv fr) := b2.cell 0
      have HV := Lib.hid (And.intro hRp (And.intro hll (And.intro hc (And.intro hfr (And.intro hnw hcf)))))
      have hW2' : wr.alloc (.cells #[.string ⟨fr.toArray⟩, .string ⟨nw.toArray⟩, .int .i64 (cf : Int)] 137) = W2 := hW2
      rw [hW2']
      clear hV hV2 hRp hfr hnw hcf hW2 hW2' q0 q1 q2 s3
      go_upto_region 7 with (go_at_call 78; go_must (refine h78.mono ?_); rintro e w3 ⟨v3, rfl, hN3, g3⟩)
      clear h78
      have b3 := b2.kept g3 (by simp)
      have t1 : w3.cell? ⟨wr.heap.size, 1, none⟩ = some (sv nw) := b3.cell 1
      have t2 : w3.cell? ⟨wr.heap.size, 2, none⟩ = some (.int .i64 (cf : Int)) := b3.cell 2
      have G3 := gb_trans hg (gb_trans g2 g3)
      have hll3 : (L.filter (fun p => p.1 ≠ fr)).length ≤ L.length := List.length_filter_le _ _
      have hWr := hg.size
      by_cases hne : nw = []
      · subst hne
        have HN3 := Lib.hid hN3
        clear hN3
        go_wp2_with fail
        obtain ⟨hRp, hll, hc, hfr, hnw, hcf⟩ := HV.out
        refine ⟨⟨i + 1, L.filter (fun p => p.1 ≠ fr), by omega, by first | rfl | simp, row_base HN3.out (Nat.zero_le _), ?_, by omega, fun b hb => by have := (row_ge HN3.out hb).1; omega, G3⟩, by simp [intOf]; omega⟩
        have := hRp.app c hnw
        rw [hfr] at this
        rw [List.take_add_one, hc, Option.toList_some, after_snoc]
        exact this
      · have e1 : List.isEmpty nw = false := by simpa using hne
        obtain ⟨L3, hL3⟩ : ∃ L3, L.filter (fun p => p.1 ≠ fr) = L3 := ⟨_, rfl⟩
        rw [hL3] at hN3 hll3
        obtain ⟨a3, c3', e3, -⟩ := row_shape hN3
        subst e3
        have h78 := fun (W : World) (gW : w3.grownBy W none) => without_78 (row_kept hN3 gW (by simp)) (by omega) nw
        obtain ⟨L4, hL4⟩ : ∃ L4, L3.filter (fun p => p.1 ≠ nw) = L4 := ⟨_, rfl⟩
        have hl4 : L4.length ≤ L3.length := by rw [← hL4]; exact List.length_filter_le _ _
        simp only [hL4] at h78
        have HL4 := Lib.hid hL4
        clear hL4
        have hk1 : ∀ u ∈ [sv nw, .int .i64 (cf : Int)], u.oneCell' = true := by
          intro u hu
          simp only [List.mem_cons, List.not_mem_nil, or_false] at hu
          rcases hu with rfl | rfl <;> rfl
        go_upto_region 8 with fail
        have bx : Box ((w3.alloc (.cells #[sv nw, .int .i64 (cf : Int)] 133)).drew) 133 w3.heap.size #[sv nw, .int .i64 (cf : Int)] := Box.new w3 133 _
        have t1a := fun o => gb_cellN (World.grownBy_alloc w3 o none) t1
        have t2a := fun o => gb_cellN (World.grownBy_alloc w3 o none) t2
        go_region_law ((first
          | (go_simp; go_at_call 78; go_must (with_reducible refine (h78 _ (by first | exact gb_drew (gb_refl _ _) | exact gb_alloc (gb_drew (gb_refl _ _)) _ | exact gb_drew (gb_alloc (gb_refl _ _) _))).mono ?_); rintro e w4 ⟨v4, rfl, hN4, g4⟩; have G4 : w3.grownBy w4 none := gb_trans (by first | exact gb_drew (gb_refl _ _) | exact gb_alloc (gb_drew (gb_refl _ _)) _ | exact gb_drew (gb_alloc (gb_refl _ _) _)) g4; have hB4 : ∀ b, v4.ownBlock = some b → w3.heap.size ≤ b := (fun b hb => Nat.le_trans (by first | exact Nat.le_refl _ | simp) (row_ge hN4 hb).1); have t1b := gb_cellN g4 (by first | exact t1 | exact t1a _); have t2b := gb_cellN g4 (by first | exact t2 | exact t2a _); have t1c := (fun o => gb_cellN (World.grownBy_alloc w4 o none) t1b); have t2c := (fun o => gb_cellN (World.grownBy_alloc w4 o none) t2b); have hZ4 : w3.heap.size ≤ w4.heap.size := Nat.le_trans (by first | exact Nat.le_refl _ | simp) g4.size)
          | (refine step_push T77 (w5 := w4) (by rfl) (.tmp 45) (.tmp 51) (by rfl) 0 v4 L4.length (L4.flatMap nmL) (by rfl) [sv nw, .int .i64 (cf : Int)] rfl hk1 (by rfl) (row_base hN4 (Nat.zero_le _)) (by rfl) (by omega) (Nat.zero_le _) ?_; intro g7 c7 w7 hown7 hg7 hat7; have hpp : w3.heap.size ≤ g7 := (by rcases hat7 with h | h; exact Nat.le_trans (by first | exact Nat.le_refl _ | simp) (row_ge hN4 h).1; omega); have hgg : w4.grownBy w7 v4.ownBlock := hg7)
          | (refine step_more T77 (by rfl) (.tmp 45) (.tmp 51) (by rfl) v4 L4.length (L4.flatMap nmL) (by rfl) (row_base hN4 (Nat.zero_le _)) ⟨w3.heap.size, 0, none⟩ 1 1 [sv nw, .int .i64 (cf : Int)] (by rfl) (by rfl) (fun j u hj => by rw [Addr.add_mid, Nat.zero_add, (Box.kept bx g4 (by simp)).cell j]; simpa using hj) hk1 (by omega) (by omega) ?_; intro g7 c7 w7 hown7 hps7; have hpp : w3.heap.size ≤ g7 := (by rcases hps7.at' (g := g7) rfl with h | h; exact Nat.le_trans (by first | exact Nat.le_refl _ | simp) (row_ge hN4 h).1; omega); have hgg : w4.grownBy w7 v4.ownBlock := hps7.gb)))
        all_goals
          go_wp2_with fail
          obtain ⟨hRp, hll, hc, hfr, hnw, hcf⟩ := HV.out
          have hRn := hRp.app' c (by rw [hnw]; exact hne)
          rw [hfr, hnw, hcf, hL3, HL4.out] at hRn
          have GF : w.grownBy w7 none := gb_far (gb_trans G3 G4) hgg (fun j hj => hB4 j hj) G3.size
          refine ⟨⟨i + 1, L4 ++ [(nw, cf)], by omega, by first | rfl | simp, ?_, ?_, by rw [List.length_append]; simp; omega, fun b hb => by simp [Value.ownBlock] at hb; subst hb; have := G3.size; omega, GF⟩, by simp [intOf]; omega⟩
          · unfold NmV
            rw [List.length_append, List.flatMap_append, List.flatMap_singleton]
            exact hown7
          · rw [List.take_add_one, hc, Option.toList_some, after_snoc]
            exact hRn
    · obtain rfl : i = N := by omega
      have d1 : decide ((i : Int) < (i : Int)) = false := by simp
      have HF : Hid (NmV wr w.heap.size u5 L ∧ Rep L (after M.safe (M.ch.take i)) ∧ L.length ≤ M.acts) := ⟨row_up hV hbl, hRp, by omega⟩
      clear hV hRp
      go_wp2_with fail
      go_ret
      exact ⟨_, L, rfl, HF.out.1, by rw [Int.toNat_natCast]; exact HF.out.2.1, HF.out.2.2, hg⟩
end Go.Proofs.Ytndjimdegkdljaa

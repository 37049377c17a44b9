import Derived.Test.YtobegepebochkaaGreatDoorVPaf
import Derived.Test.YtobegepebochkaaGreatDoorVPag
set_option linter.unusedVariables false
set_option linter.unusedSimpArgs false
namespace Go.Proofs.YtobegepebochkaaGreatDoor
open Go.RowKit Go.Shelf
def oC (w : World) (B : Nat) (e : TypeId) (s : Nat) (v : Value) (n : Nat) (xs : List Value) : Prop :=
  xs.length = n * s ∧ ((v = .slice none 0 0 ∧ n = 0) ∨ ∃ g cap cur fz, v = .slice (some ⟨g, 0, none⟩) n cap ∧ B ≤ g ∧ w.heap[g]? = some (.cells cur e fz) ∧ (fz.2 = 0 ∨ cur.size ≤ fz.1) ∧ n ≤ cap ∧ cap ≤ maxLen ∧ cur.size = cap * s ∧ cur.toList.take (n * s) = xs)
section
variable {w w' : World} {B B' : Nat} {e : TypeId} {s : Nat} {v : Value} {n : Nat} {xs : List Value}
theorem oC_of (h : w.ownsRow B e s v n xs) : oC w B e s v n xs := by
  refine ⟨h.1, ?_⟩
  rcases h.2 with h1 | ⟨g, c, cur, h1, h2, h3, h4⟩
  · exact .inl h1
  · exact .inr ⟨g, c, cur, _, h1, h2, h3, .inl rfl, h4⟩
theorem row_blockC (h : oC w B e s v n xs) : ∀ k, v.ownBlock = some k → ∃ cur : Array Value × (Nat × Nat), w.heap[k]? = some (.cells cur.1 e cur.2) := by
  intro k hk
  rcases h.2 with ⟨rfl, rfl⟩ | ⟨g, c, cur, fz, rfl, h2, h3, h4⟩
  · simp [Value.ownBlock] at hk
  · simp [Value.ownBlock] at hk; subst hk; exact ⟨(cur, fz), h3⟩
theorem row_shapeC (h : oC w B e s v n xs) : ∃ ao c, v = .slice ao n c ∧ (ao = none → n = 0 ∧ c = 0) ∧ n ≤ c ∧ c ≤ maxLen ∧ (0 < n → ∃ g, ao = some ⟨g, 0, none⟩) := by
  rcases h.2 with ⟨rfl, rfl⟩ | ⟨g, c, cur, fz, rfl, h2, h3, hf, h4, h5, h6⟩
  · exact ⟨none, 0, rfl, fun _ => ⟨rfl, rfl⟩, Nat.le_refl _, by unfold maxLen; omega, fun h => by omega⟩
  · exact ⟨_, c, rfl, fun h => by simp at h, h4, h5, fun _ => ⟨g, rfl⟩⟩
theorem row_sameC (h1 : oC w B e s v n xs) (hf : ∀ k, v.ownBlock = some k → w'.heap[k]? = w.heap[k]?) : oC w' B e s v n xs := by
  refine ⟨h1.1, ?_⟩
  rcases h1.2 with h3 | ⟨g, c, cur, fz, rfl, h4, h5, h6⟩
  · exact .inl h3
  · exact .inr ⟨g, c, cur, fz, rfl, h4, by rw [hf g rfl]; exact h5, h6⟩
theorem row_geC (h : oC w B e s v n xs) {j : Nat} (hj : v.ownBlock = some j) : B ≤ j ∧ j < w.heap.size := by
  rcases h.2 with ⟨rfl, rfl⟩ | ⟨g, c, cur, fz, rfl, h2, h3, h4⟩
  · simp [Value.ownBlock] at hj
  · simp [Value.ownBlock] at hj; subst hj; exact ⟨h2, lt_of_block h3⟩
theorem row_keptC (h1 : oC w B e s v n xs) {row : Option Nat} (hf : w.grownBy w' row) (hn : ∀ k, v.ownBlock = some k → some k ≠ row) : oC w' B e s v n xs :=
  row_sameC h1 fun k hk => hf.block k (row_geC h1 hk).2 (hn k hk)
theorem row_baseC (h : oC w B e s v n xs) (hB : B' ≤ B) : oC w B' e s v n xs := by
  refine ⟨h.1, ?_⟩
  rcases h.2 with h1 | ⟨g, c, cur, fz, h1, h2, h3⟩
  · exact .inl h1
  · exact .inr ⟨g, c, cur, fz, h1, Nat.le_trans hB h2, h3⟩
theorem row_liftC (h : oC w 0 e s v n xs) (hg : ∀ j, v.ownBlock = some j → B ≤ j) : oC w B e s v n xs := by
  refine ⟨h.1, ?_⟩
  rcases h.2 with h1 | ⟨g, c, cur, fz, rfl, h2, h3⟩
  · exact .inl h1
  · exact .inr ⟨g, c, cur, fz, rfl, hg g rfl, h3⟩
theorem oC_alloc (h : oC w B e s v n xs) (o : Obj) : oC (w.alloc o) B e s v n xs := row_keptC h (World.grownBy_alloc w o none) (by simp)
theorem own_formC (h : oC w B e s v n xs) {g : Nat} (hg : v.ownBlock = some g) : ∃ c, v = .slice (some ⟨g, 0, none⟩) n c := by
  rcases h.2 with ⟨rfl, _⟩ | ⟨g', c, cur, fz, rfl, _⟩
  · simp [Value.ownBlock] at hg
  · simp [Value.ownBlock] at hg; subst hg; exact ⟨c, rfl⟩
end
section
variable {w w' : World} {B B' : Nat} {e e' : TypeId} {s g n c m c' : Nat} {xs ys zs : List Value}
theorem row_someC (h : oC w B e s (.slice (some ⟨g, 0, none⟩) n c) n xs) : ∃ cur fz, B ≤ g ∧ w.heap[g]? = some (.cells cur e fz) ∧ (fz.2 = 0 ∨ cur.size ≤ fz.1) ∧ n ≤ c ∧ c ≤ maxLen ∧ cur.size = c * s ∧ cur.toList.take (n * s) = xs := by
  rcases h.2 with ⟨h1, _⟩ | ⟨g', c', cur, fz, h1, h2, h3, h4, h5, h6, h7, h8⟩
  · simp at h1
  · simp at h1
    obtain ⟨rfl, rfl⟩ := h1
    exact ⟨cur, fz, h2, h3, h4, h5, h6, h7, h8⟩
theorem row_cellC (h : oC w B e s (.slice (some ⟨g, 0, none⟩) n c) n xs) (i : Nat) (u : Value) (hu : xs[i]? = some u) : w.cell? ⟨g, i, none⟩ = some u := by
  obtain ⟨cur, fz, h2, h3, h4, h5, h6, h7, h8⟩ := row_someC h
  rw [← h8, List.getElem?_take] at hu
  split at hu
  · obtain ⟨lo, hi⟩ := fz
    rw [cell_of_row w g i cur e _ h3]
    simpa using hu
  · cases hu
theorem row_fzC (h : oC w B e s (.slice (some ⟨g, 0, none⟩) n c) n xs) {k : Nat} (hk : k < n * s) : w.frozen? ⟨g, k, none⟩ = false := by
  obtain ⟨cur, ⟨lo, hi⟩, h2, h3, h4, h5, h6, h7, h8⟩ := row_someC h
  have hms : n * s ≤ c * s := Nat.mul_le_mul_right s h5
  simp only [World.frozen?, h3, Bool.and_eq_false_iff, decide_eq_false_iff_not]
  simp only at h4
  omega
theorem row_takeC (h : oC w B e s (.slice (some ⟨g, 0, none⟩) n c) n xs) (hm : m ≤ n) : oC w B e s (.slice (some ⟨g, 0, none⟩) m c) m (xs.take (m * s)) := by
  have hms : m * s ≤ n * s := Nat.mul_le_mul_right s hm
  refine ⟨by rw [List.length_take, h.1]; omega, ?_⟩
  obtain ⟨cur, fz, h2, h3, h4, h5, h6, h7, h8⟩ := row_someC h
  refine .inr ⟨g, c, cur, fz, rfl, h2, h3, h4, by omega, h6, h7, ?_⟩
  rw [← h8, List.take_take]
  congr 1; omega
theorem row_setC (h : oC w B e s (.slice (some ⟨g, 0, none⟩) n c) n xs) (i : Nat) (v : Value) : oC (w.setCell ⟨g, i, none⟩ v) B e s (.slice (some ⟨g, 0, none⟩) n c) n (xs.set i v) := by
  refine ⟨by simpa using h.1, ?_⟩
  obtain ⟨cur, fz, h2, h3, h4, h5, h6, h7, h8⟩ := row_someC h
  rw [setCell_eq_setRow w g i cur e fz v h3]
  refine .inr ⟨g, c, _, fz, rfl, h2, setRow_heap w g cur _ e _ h3, by simpa using h4, h5, h6, by simpa using h7, ?_⟩
  rw [← h8]
  simp [List.take_set]
theorem same_capC (hs : 0 < s) (h1 : oC w B e s (.slice (some ⟨g, 0, none⟩) n c) n xs) (h2 : oC w B' e' s (.slice (some ⟨g, 0, none⟩) m c') m ys) : c = c' := by
  obtain ⟨cur, fz, _, r1, _, _, _, s1, _⟩ := row_someC h1
  obtain ⟨cur2, fz2, _, r2, _, _, _, s2, _⟩ := row_someC h2
  rw [r1] at r2
  simp at r2
  obtain ⟨rfl, _⟩ := r2
  have : c * s = c' * s := by omega
  exact Nat.eq_of_mul_eq_mul_right hs this
theorem row_innerC {v : Value} {cap N : Nat} (hs : 0 < s) (h1 : oC w 0 e s (.slice (some ⟨g, 0, none⟩) n cap) n xs) (h2 : oC w 0 e s v m ys) (hg : v.ownBlock = some g) (h3 : oC w' 0 e s (.slice (some ⟨g, 0, none⟩) N cap) N zs) (hm : m ≤ N) : oC w' 0 e s v m (zs.take (m * s)) := by
  obtain ⟨c, rfl⟩ := own_formC h2 hg
  obtain rfl := same_capC hs h1 h2
  exact row_takeC h3 hm
end
theorem Psh.boxC {w w' : World} {v v' : Value} {n m b : Nat} {e t : TypeId} {s : Nat} {xs : List Value} {vs : Array Value} (h : Psh w w' v n m v') (hr : oC w 0 e s v n xs) (hb : Box w t b vs) (hne : e ≠ t) : Box w' t b vs :=
  hb.kept h.gb (fun e2 => by obtain ⟨c, hc⟩ := row_blockC hr b e2.symm; exact ne_of_type hc hb hne rfl)
theorem OwC.oC {w : World} {B : Nat} {v : Value} {l : Bs} (h : OwC w B v l) : oC w B 5 1 v l.length (l.map b8) := by
  refine ⟨by simp, ?_⟩
  rcases h with ⟨rfl, rfl⟩ | ⟨g, cap, cur, fz, rfl, h1, h2, h3, h4, h5, h6, h7⟩
  · exact .inl ⟨rfl, rfl⟩
  · exact .inr ⟨g, cap, cur, fz, rfl, h1, h2, h3, h4, h5, by omega, by simpa using h7⟩
theorem ck_oC {w : World} {B n : Nat} {v : Value} {l : Bs} {X : Nat → Prop} (h : oC w B 5 1 v n (l.map b8)) (hX : ∀ k, v.ownBlock = some k → ¬ X k) : Ck w X v l := by
  have hn : l.length = n := by have := h.1; simpa using this
  subst hn
  have ho : OwC w B v l := by
    rcases h.2 with ⟨rfl, h0⟩ | ⟨g, cap, cur, fz, rfl, h1, h2, h3, h4, h5, h6, h7⟩
    · exact .inl ⟨rfl, List.length_eq_zero_iff.1 h0⟩
    · exact .inr ⟨g, cap, cur, fz, rfl, h1, h2, h3, h4, h5, by omega, by simpa using h7⟩
  exact ho.ck hX
section
variable {sl el : TypeId} {ti : TypeInfo} {z : Value} {sz bs : Nat}
theorem run_pshC (T : Ty sl el ti z sz bs) (w : World) (ty : TypeId) (v : Value) (n : Nat) (xs : List Value) (hown : oC w 0 el sz v n xs) (ad : Addr) (m c : Nat) (news : List Value) (hl : news.length = m * sz) (hnews : ∀ j u, news[j]? = some u → w.cell? (ad.add j) = some u) (h1 : ∀ u ∈ news, u.oneCell' = true) (hm : 0 < m) (hn : n + m ≤ 1000000000) :
    ∃ v' w', (Builtin.append_ #[sl, sl] ty #[v, .slice (some ad) m c]).run Tryz.prog w = .ok v' w' ∧ oC w' 0 el sz v' (n + m) (xs ++ news) ∧ Psh w w' v n m v' ∧ ∃ g' c', v' = .slice (some ⟨g', 0, none⟩) (n + m) c' := by
  have hts := T.s
  subst hts
  have hbd : (n + m) * bs ≤ 140737488355328 := mul_bd (by omega) T.le
  have hlen : (xs ++ news).length = (n + m) * ti.size := by rw [List.length_append, hown.1, hl, Nat.add_mul]
  rcases id hown.2 with ⟨rfl, h0⟩ | ⟨g, cap, cur, fz, rfl, h2, h3, h4, h5, h6, h7, h8⟩
  · obtain ⟨v', w', hr, a1, a2⟩ := run_psh T w ty (.slice none 0 0) n xs ⟨hown.1, .inl ⟨rfl, h0⟩⟩ ad m c news hl hnews h1 hm hn
    obtain ⟨g', cap', rfl, hb, _⟩ := a1.form (by omega)
    exact ⟨_, w', hr, oC_of a1, a2, g', cap', rfl⟩
  · by_cases hf : n + m ≤ cap
    · have hfc := run_firstCells_some (P := Tryz.prog) w ti.size m ad m c news hl hnews
      have hfit : n * ti.size + news.length ≤ cur.size := by rw [hl, h7, ← Nat.add_mul]; exact Nat.mul_le_mul_right _ hf
      have hst := storeC Tryz.prog g (n * ti.size) el fz news 0 cur w h3 h4 (by simpa using hfit) h1
      simp only [Nat.add_zero] at hst
      refine ⟨.slice (some ⟨g, 0, none⟩) (n + m) cap, w.setRow g (cur.toList.take (n * ti.size) ++ news ++ cur.toList.drop (n * ti.size + news.length)).toArray, ?_, ⟨hlen, .inr ⟨g, cap, _, fz, rfl, h2, setRow_heap w g cur _ el _ h3, ?_, hf, h6, ?_, ?_⟩⟩, .inl ⟨g, cap, rfl, hf, rfl, ⟨rfl, rfl, rfl, by simp, fun k _ hk => setRow_other w g k _ (fun e => hk (by simp [e]))⟩⟩, g, cap, rfl⟩
      · simp [Builtin.append_, run_underlying T.u, sizeOf, typeInfo, T.i, Builtin.lenOf, hf, hfc, Addr.add_lit, hst]
      · rcases h4 with h4 | h4
        · exact .inl h4
        · right
          simp only [List.size_toArray, List.length_append, List.length_take, List.length_drop, Array.length_toList]
          omega
      · simp only [List.size_toArray, List.length_append, List.length_take, List.length_drop, Array.length_toList]
        omega
      · rw [h8, ← hlen]
        exact List.take_left
    · obtain ⟨v', w', hr, a1, a2⟩ := run_append_arg_grows (P := Tryz.prog) w sl ty el ti _ ti.size bs T.u T.i T.z T.s T.b T.zs T.pos ⟨g, 0, none⟩ n cap xs hown.1 (fun j u hj => by rw [Addr.add_mid, Nat.zero_add]; exact row_cellC hown j u hj) ad m c news hl hnews (by omega) (by unfold maxLen; omega) hbd
      obtain ⟨g', cap', rfl, hb, _⟩ := a1.form (by omega)
      exact ⟨_, w', hr, oC_of (row_base a1 (Nat.zero_le _)), .inr ⟨g', cap', rfl, hb, a2⟩, g', cap', rfl⟩
variable {w : World} {ops : Array Oper} {rest : List Oper} {o : Oper} {a : Act} {Q : Exit → Act → World → Prop}
theorem pushGC (T : Ty sl el ti z sz bs) (hgd : o.guard = none) (s x : Operand) (ho : o.op = .call { callee := .builtin .append, args := #[s, x], argTypes := #[sl, sl] })
    (v : Value) (n : Nat) (xs : List Value) (hs : a.eval s = v) (hown : oC w 0 el sz v n xs) (us : List Value) (hul : us.length = sz) (hu : ∀ u ∈ us, u.oneCell' = true) (hx : a.eval x = .slice (some ⟨w.heap.size, 0, none⟩) 1 1) (hn : n ≤ 100000000)
    (h : ∀ v' w', oC w' 0 el sz v' (n + 1) (xs ++ us) → Psh w w' v n 1 v' → wpList Tryz.prog ops Q rest (a.put o.dst v') w') : wpList Tryz.prog ops Q (o :: rest) a (w.alloc (.cells us.toArray el)) := by
  refine wpList_plain hgd fun K hK => ?_
  obtain ⟨v', w', hr, a1, a2, _⟩ := run_pshC T (w.alloc (.cells us.toArray el)) o.type v n xs (oC_alloc hown _) ⟨w.heap.size, 0, none⟩ 1 1 us (by omega) (World.news_of_block (cs := us.toArray) (t := el) (fr := (0, 0)) (heap_alloc_new w _)) hu (by omega) (by omega)
  unfold Oper.wp
  simp [execOp, ho, resolve, invoke, builtin, hs, hx, hr, Result.andThen]
  exact hK _ _ (h v' w' a1 (psh_trans (fun r => World.grownBy_alloc w _ r) a2))
theorem psh_lift {w' : World} {B n m : Nat} {v : Value} {g c : Nat} {xs ys : List Value} (hown : oC w B el sz v n xs) (hB : B ≤ w.heap.size) (a1 : oC w' 0 el sz (.slice (some ⟨g, 0, none⟩) (n + m) c) (n + m) ys) (a2 : Psh w w' v n m (.slice (some ⟨g, 0, none⟩) (n + m) c)) : oC w' B el sz (.slice (some ⟨g, 0, none⟩) (n + m) c) (n + m) ys :=
  row_liftC a1 (fun j hj => by
    rcases a2.at' hj with h | h
    · exact (row_geC hown h).1
    · exact Nat.le_trans hB h)
theorem pushBC (T : Ty sl el ti z sz bs) (hgd : o.guard = none) (s x : Operand) (ho : o.op = .call { callee := .builtin .append, args := #[s, x], argTypes := #[sl, sl] })
    (B : Nat) (v : Value) (n : Nat) (xs : List Value) (hs : a.eval s = v) (hown : oC w B el sz v n xs) (us : List Value) (hul : us.length = sz) (hu : ∀ u ∈ us, u.oneCell' = true) (hx : a.eval x = .slice (some ⟨w.heap.size, 0, none⟩) 1 1) (hn : n ≤ 100000000) (hB : B ≤ w.heap.size)
    (h : ∀ g cap w', oC w' B el sz (.slice (some ⟨g, 0, none⟩) (n + 1) cap) (n + 1) (xs ++ us) → w.grownBy w' v.ownBlock → (v.ownBlock = some g ∨ w.heap.size ≤ g) → wpList Tryz.prog ops Q rest (a.put o.dst (.slice (some ⟨g, 0, none⟩) (n + 1) cap)) w') : wpList Tryz.prog ops Q (o :: rest) a (w.alloc (.cells us.toArray el)) := by
  refine wpList_plain hgd fun K hK => ?_
  obtain ⟨v', w', hr, a1, a2, g', c', rfl⟩ := run_pshC T (w.alloc (.cells us.toArray el)) o.type v n xs (oC_alloc (row_baseC hown (Nat.zero_le _)) _) ⟨w.heap.size, 0, none⟩ 1 1 us (by omega) (World.news_of_block (cs := us.toArray) (t := el) (fr := (0, 0)) (heap_alloc_new w _)) hu (by omega) (by omega)
  have a3 := psh_trans (fun r => World.grownBy_alloc w _ r) a2
  unfold Oper.wp
  simp [execOp, ho, resolve, invoke, builtin, hs, hx, hr, Result.andThen]
  exact hK _ _ (h g' c' w' (psh_lift hown hB a1 a3) a3.gb (a3.at' rfl))
theorem step_moreC {K : Act → World → Prop} {E : Prop} (T : Ty sl el ti z sz bs) (hgd : o.guard = none) (s x : Operand)
    (ho : o.op = .call { callee := .builtin .append, args := #[s, x], argTypes := #[sl, sl] }) (v : Value) (n : Nat) (xs : List Value) (hs : a.eval s = v) (hown : oC w 0 el sz v n xs) (ad : Addr) (m c : Nat) (news : List Value) (hx : a.eval x = .slice (some ad) m c) (hl : news.length = m * sz) (hnews : ∀ j u, news[j]? = some u → w.cell? (ad.add j) = some u) (h1 : ∀ u ∈ news, u.oneCell' = true) (hm : 0 < m) (hn : n + m ≤ 1000000000)
    (h : ∀ g c w', oC w' 0 el sz (.slice (some ⟨g, 0, none⟩) (n + m) c) (n + m) (xs ++ news) → Psh w w' v n m (.slice (some ⟨g, 0, none⟩) (n + m) c) → K (a.put o.dst (.slice (some ⟨g, 0, none⟩) (n + m) c)) w') :
    if Region.wanted o (yielded ops a.tmps) = true then Oper.wp Tryz.prog o a w K Q else E := by
  have hw : Region.wanted o (yielded ops a.tmps) = true := by simp [Region.wanted, hgd]
  rw [if_pos hw]
  obtain ⟨v', w', hr, a1, a2, g', c', rfl⟩ := run_pshC T w o.type v n xs hown ad m c news hl hnews h1 hm hn
  unfold Oper.wp
  simp [execOp, ho, resolve, invoke, builtin, hs, hx, hr, Result.andThen]
  exact h g' c' w' a1 a2
theorem step_copyC {K : Act → World → Prop} {D : Prop} {xs : List Value} {n : Nat} {v : Value} {g0 : Nat} (T : Ty sl el ti z sz bs) (hgd : o.guard = none) (s x : Operand)
    (ho : o.op = .call { callee := .builtin .append, args := #[s, x], argTypes := #[sl, sl] }) (hs : a.eval s = .slice (some ⟨g0, 0, none⟩) 0 0) (B : Nat) (hown0 : w.ownsRow B el sz (.slice (some ⟨g0, 0, none⟩) 0 0) 0 []) (hrow : oC w 0 el sz v n xs) (h1c : ∀ u ∈ xs, u.oneCell' = true) (hx : a.eval x = v) (hl : n ≤ 1000000) (hB : B ≤ w.heap.size)
    (h : ∀ g c w', oC w' B el sz (.slice (some ⟨g, 0, none⟩) n c) n xs → w.grownBy w' (some g0) → (g0 = g ∨ g = w.heap.size) → K (a.put o.dst (.slice (some ⟨g, 0, none⟩) n c)) w') :
    if Region.wanted o (yielded ops a.tmps) = true then Oper.wp Tryz.prog o a w K Q else D := by
  by_cases h0 : n = 0
  · subst h0
    have hxs : xs = [] := List.length_eq_zero_iff.1 (by rw [hrow.1]; omega)
    subst hxs
    have hw : Region.wanted o (yielded ops a.tmps) = true := by simp [Region.wanted, hgd]
    rw [if_pos hw]
    obtain ⟨ao, cp, hdv, _⟩ := row_shapeC hrow
    have hrun := run_psh0 T w o.type B _ 0 [] hown0 v ⟨ao, cp, hdv⟩
    unfold Oper.wp
    simp [execOp, ho, resolve, invoke, builtin, hs, hx, hrun, Result.andThen]
    exact h g0 0 _ (oC_of hown0) (gb_refl _ _) (.inl rfl)
  · obtain ⟨ao, cp, hdv, _, _, _, hpos⟩ := row_shapeC hrow
    obtain ⟨g, rfl⟩ := hpos (by omega)
    subst hdv
    refine step_append_lies _ hgd s x sl ho B el ti _ sz bs T.u T.i T.z T.s T.b T.zs T.pos (.slice (some ⟨g0, 0, none⟩) 0 0) 0 [] hs hown0 ⟨g, 0, none⟩ n cp xs hx hrow.1 (fun j u hj => ?_) h1c (by omega) (by unfold maxLen; omega) (mul_bd (by omega) T.le) hB w.heap.size rfl ?_
    · rw [Addr.add_mid, Nat.zero_add]; exact row_cellC hrow j u hj
    · intro g2 cap2 w' h1 h2 h3 _
      have h4 := h g2 cap2 w' (oC_of (by simpa using h1)) (by simpa [Value.ownBlock] using h2) (h3.imp (fun e => by simpa [Value.ownBlock] using e) id)
      simpa using h4
theorem step_pushC {K : Act → World → Prop} {D : Prop} {w5 : World} (T : Ty sl el ti z sz bs) (hgd : o.guard = none) (s x : Operand) (ho : o.op = .call { callee := .builtin .append, args := #[s, x], argTypes := #[sl, sl] })
    (B : Nat) (v : Value) (n : Nat) (xs : List Value) (hs : a.eval s = v) (us : List Value) (hul : us.length = sz) (hu : ∀ u ∈ us, u.oneCell' = true) (hw : w = w5.alloc (.cells us.toArray el)) (hown : oC w5 B el sz v n xs) (hx : a.eval x = .slice (some ⟨w5.heap.size, 0, none⟩) 1 1) (hn : n ≤ 100000000) (hB : B ≤ w5.heap.size)
    (h : ∀ g cap w', oC w' B el sz (.slice (some ⟨g, 0, none⟩) (n + 1) cap) (n + 1) (xs ++ us) → w5.grownBy w' v.ownBlock → (v.ownBlock = some g ∨ w5.heap.size ≤ g) → K (a.put o.dst (.slice (some ⟨g, 0, none⟩) (n + 1) cap)) w') :
    if Region.wanted o (yielded ops a.tmps) = true then Oper.wp Tryz.prog o a w K Q else D := by
  subst hw
  refine step_moreC T hgd s x ho v n xs hs (oC_alloc (row_baseC hown (Nat.zero_le _)) _) ⟨w5.heap.size, 0, none⟩ 1 1 us hx (by omega) (World.news_of_block (cs := us.toArray) (t := el) (fr := (0, 0)) (heap_alloc_new w5 _)) hu (by omega) (by omega) ?_
  intro g c w' a1 a2
  have a3 := psh_trans (fun r => World.grownBy_alloc w5 _ r) a2
  exact h g c w' (psh_lift hown hB a1 a3) a3.gb (a3.at' rfl)
end
end Go.Proofs.YtobegepebochkaaGreatDoor

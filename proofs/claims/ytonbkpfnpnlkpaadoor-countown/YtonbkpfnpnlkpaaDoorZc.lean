/-
  A Book of lists of handles: Handles.
-/
import Derived.Test.YtonbkpfnpnlkpaaDoorZb
import Derived.Deep.RegionLaw
namespace Go.Proofs.YtonbkpfnpnlkpaaDoor
open Go.RowKit
set_option linter.unusedVariables false
set_option linter.unusedSimpArgs false

theorem some_ne2 {a b : Nat} (h : a ≠ b) : some a ≠ some b := fun e => h (Option.some.inj e)
section
variable {w : World} {bb : Nat} {FB : Nat → Prop} {hv wv : Value} {n : Int} {K : Nat} {V W : Nat → Value} {D : Nat → List Int}
/-- What Handles leaves. -/
def BkPost (w : World) (bb : Nat) (FB : Nat → Prop) (K : Nat) (v : Value) (w' : World) : Prop :=
  Kp FB w w' ∧ (∀ (k : Nat) (cur : Array Value), w.heap[k]? = some (Obj.cells cur 3 (0, 0)) → w'.heap[k]? = w.heap[k]?) ∧ ∃ FB' hv' wv' n' K' V' W' D', Bk w' bb FB' hv' wv' n' K' V' W' D' ∧ K' ≤ K + 1 ∧ ∀ k, FB' k → FB k ∨ v.ownBlock = some k ∨ w.heap.size ≤ k

theorem bk_full (h : Bk w bb FB hv wv n K V W D) (hn : 200000 < n) (v : Value) : Calls Tryd.prog 30 #[.pointer (some ⟨bb, 0, none⟩), v] w fun y w' => y = .returned (.tuple #[]) ∧ BkPost w bb FB K v w' := by
  have h63 := full_47 h.box
  rw [decide_eq_true hn] at h63
  have hpost : BkPost w bb FB K v w := ⟨Kp.refl _ _, fun _ _ _ => rfl, FB, hv, wv, n, K, V, W, D, h, by omega, fun k hk => .inl hk⟩
  go_enter Tryd.func30, Tryd.ntmps30
  go_wp2_with (first | (go_at_call 47; go_must (refine h63.mono ?_); rintro y w1 ⟨rfl, hw1⟩; have hw2 := hw1.symm; subst hw2) | fail)
  exact bodyPost_ret (v := .tuple #[]) (results_none Tryd.results30 _ _ _) rfl ⟨rfl, hpost⟩

theorem bk_more {X w5 w7 : World} {hao wao vao : Option Addr} {hcp wcp vcp g2 cap2 gC cC g7 c7 : Nat} {xs : List Int} (h : Bk w bb FB (.slice hao K hcp) (.slice wao K wcp) n K V W D) (hn : ¬ 200000 < n) (hv0 : w.ownsRow 0 3 1 (.slice vao xs.length vcp) xs.length (hvals xs)) (hxl : xs.length ≤ 10003) (hvF : ∀ g, (Value.slice vao xs.length vcp).ownBlock = some g → ¬ FB g)
    (hK3 : Kp FB w X) (h89X : ∀ (k : Nat) (cur : Array Value), w.heap[k]? = some (Obj.cells cur 3 (0, 0)) → X.heap[k]? = w.heap[k]?) (hb3 : Box X 72 bb (bkA (.slice (some ⟨g2, 0, none⟩) (K + 1) cap2) (.slice wao K wcp) nilS nilS (n + xs.length + 1))) (hrow3 : X.ownsRow 0 40 1 (.slice (some ⟨g2, 0, none⟩) (K + 1) cap2) (K + 1) (vsL V K ++ [.slice vao xs.length vcp])) (hw3 : X.ownsRow 0 40 1 (.slice wao K wcp) K (vsL W K)) (hv3 : X.ownsRow 0 3 1 (.slice vao xs.length vcp) xs.length (hvals xs))
    (hvs3 : ∀ i, i < K → X.ownsRow 0 3 1 (V i) (D i).length (hvals (D i))) (hws3 : ∀ i, i < K → X.ownsRow 0 3 1 (W i) (D i).length (hvals (D i))) (hg2new : (Value.slice hao K hcp).ownBlock = some g2 ∨ w.heap.size ≤ g2) (hg2w : (Value.slice wao K wcp).ownBlock ≠ some g2)
    (hg5 : X.grownBy w5 (some X.heap.size)) (hown5 : w5.ownsRow X.heap.size 3 1 (.slice (some ⟨gC, 0, none⟩) xs.length cC) xs.length (hvals xs)) (hg7 : w5.grownBy w7 (Value.slice wao K wcp).ownBlock) (hown7 : w7.ownsRow 0 40 1 (.slice (some ⟨g7, 0, none⟩) (K + 1) c7) (K + 1) (vsL W K ++ [.slice (some ⟨gC, 0, none⟩) xs.length cC])) (hat7 : (Value.slice wao K wcp).ownBlock = some g7 ∨ w5.heap.size ≤ g7) :
    BkPost w bb FB K (.slice vao xs.length vcp) (w7.setCell ⟨bb, 5, none⟩ (.slice (some ⟨g7, 0, none⟩) (K + 1) c7)) := by
  have b5 := hb3.kept hg5 (some_ne2 (by have := hb3.lt; omega))
  have hwb : ∀ g, (Value.slice wao K wcp).ownBlock = some g → bb ≠ g := fun g hg e => by obtain ⟨c, h1⟩ := row_block hw3 g hg; exact ne_of_type hb3 h1 (by decide) e
  have b7 := b5.kept hg7 (fun e => hwb _ e.symm rfl)
  have hgs : w7.grownBy (w7.setCell ⟨bb, 5, none⟩ (.slice (some ⟨g7, 0, none⟩) (K + 1) c7)) (some bb) := gb_setCell (gb_refl _ _) _
  have hXw := hK3.size
  have h5s := hg5.size
  have h7s := hg7.size
  have keepX : ∀ {e : TypeId} {s : Nat} {v : Value} {m : Nat} {ys : List Value}, X.ownsRow 0 e s v m ys → (∀ g, v.ownBlock = some g → bb ≠ g ∧ (Value.slice wao K wcp).ownBlock ≠ some g) → (w7.setCell ⟨bb, 5, none⟩ (.slice (some ⟨g7, 0, none⟩) (K + 1) c7)).ownsRow 0 e s v m ys := fun hr hd =>
    row_kept (row_kept (row_kept hr hg5 (fun j hj e => by have := (own_lo hr hj).2; have := Option.some.inj e; omega)) hg7 (fun j hj e => (hd j hj).2 e.symm)) hgs (fun j hj e => (hd j hj).1 (Option.some.inj e).symm)
  have h89 : ∀ {v : Value} {m : Nat} {ys : List Value}, X.ownsRow 0 3 1 v m ys → (∀ g, v.ownBlock = some g → bb ≠ g ∧ (Value.slice wao K wcp).ownBlock ≠ some g) := fun hr g hg => by
    obtain ⟨c, h1⟩ := row_block hr g hg
    refine ⟨fun e => ne_of_type hb3 h1 (by decide) e, fun e => ?_⟩
    obtain ⟨c2, h2⟩ := row_block hw3 g e
    exact ne_of_type h2 h1 (by decide) rfl
  have hC := (own_lo hown5 (j := gC) rfl)
  obtain ⟨cC0, hcC0⟩ := row_block hown5 gC rfl
  have hCw : (Value.slice wao K wcp).ownBlock ≠ some gC := fun e => by have := (own_lo hw3 e).2; omega
  have hCb : bb ≠ gC := by have := hb3.lt; omega
  have hcopy := row_kept (row_kept (row_base hown5 (Nat.zero_le _)) hg7 (fun j hj e => by simp [Value.ownBlock] at hj; subst hj; exact hCw e.symm)) hgs (fun j hj e => by simp [Value.ownBlock] at hj; subst hj; exact hCb (Option.some.inj e).symm)
  obtain ⟨c70, hc70⟩ := row_block hown7 g7 rfl
  have h7b : bb ≠ g7 := ne_of_type b7 hc70 (by decide)
  obtain ⟨c20, hc20⟩ := row_block hrow3 g2 rfl
  have h2b : bb ≠ g2 := ne_of_type hb3 hc20 (by decide)
  have hg2lt := lt_of_block hc20
  have hvlt : ∀ g, (Value.slice vao xs.length vcp).ownBlock = some g → g < w.heap.size := fun g hg => (own_lo hv0 hg).2
  have hKZ : Kp FB w (w7.setCell ⟨bb, 5, none⟩ (.slice (some ⟨g7, 0, none⟩) (K + 1) c7)) := ((hK3.step hg5 (fun j hj => by injection hj with hj; subst hj; exact .inr hXw)).step hg7 (fun j hj => .inl (h.fw j hj))).step hgs (fun j hj => by injection hj with hj; subst hj; exact .inl h.fb)
  have hZs : w7.heap.size ≤ (w7.setCell ⟨bb, 5, none⟩ (.slice (some ⟨g7, 0, none⟩) (K + 1) c7)).heap.size := hgs.size
  have h89Z : ∀ (k : Nat) (cur : Array Value), w.heap[k]? = some (Obj.cells cur 3 (0, 0)) → (w7.setCell ⟨bb, 5, none⟩ (.slice (some ⟨g7, 0, none⟩) (K + 1) c7)).heap[k]? = w.heap[k]? := fun k cur hk => by
    have hX := h89X k cur hk
    have hlt := lt_of_block hk
    have hXk := hX.trans hk
    have e5 := hg5.block k (by omega) (fun e => by have := Option.some.inj e; omega)
    have e7 := hg7.block k (by omega) (fun e => by obtain ⟨c2, h2⟩ := row_block hw3 k e.symm; exact ne_of_type h2 hXk (by decide) rfl)
    have es := hgs.block k (by omega) (fun e => ne_of_type hb3 hXk (by decide) (Option.some.inj e).symm)
    rw [es, e7, e5, hX]
  refine ⟨hKZ, h89Z, fun k => FB k ∨ (Value.slice vao xs.length vcp).ownBlock = some k ∨ k = g2 ∨ k = gC ∨ k = g7, .slice (some ⟨g2, 0, none⟩) (K + 1) cap2, .slice (some ⟨g7, 0, none⟩) (K + 1) c7, n + xs.length + 1, K + 1, upd V K (.slice vao xs.length vcp), upd W K (.slice (some ⟨gC, 0, none⟩) xs.length cC), upd D K xs, ⟨b7.set 5 _, ?_, ?_, ?_, ?_, ?_, ?_, ?_, ?_, .inl h.fb, ?_, ?_, ?_, ?_, ?_, ?_⟩, Nat.le_refl _, ?_⟩
  · rw [vsL_upd]
    exact keepX hrow3 (fun g hg => by simp [Value.ownBlock] at hg; subst hg; exact ⟨h2b, hg2w⟩)
  · rw [vsL_upd]
    exact row_kept hown7 hgs (fun j hj e => by simp [Value.ownBlock] at hj; subst hj; exact h7b (Option.some.inj e).symm)
  · intro g hg e
    simp [Value.ownBlock] at hg e
    subst hg
    subst e
    rcases hat7 with h1 | h1
    · exact hg2w h1
    · omega
  · intro i hi
    by_cases e : i = K
    · subst e; rw [upd_same, upd_same]; exact keepX hv3 (h89 hv3)
    · rw [upd_other _ _ e, upd_other _ _ e]; exact keepX (hvs3 i (by omega)) (h89 (hvs3 i (by omega)))
  · intro i hi
    by_cases e : i = K
    · subst e; rw [upd_same, upd_same]; exact hcopy
    · rw [upd_other _ _ e, upd_other _ _ e]; exact keepX (hws3 i (by omega)) (h89 (hws3 i (by omega)))
  · intro i j g hi hj hij hg
    by_cases ei : i = K
    · subst ei
      rw [upd_same] at hg
      rw [upd_other _ _ (by omega)]
      exact fun e => hvF g hg (h.fv j g (by omega) e)
    · rw [upd_other _ _ ei] at hg
      by_cases ej : j = K
      · subst ej; rw [upd_same]; exact fun e => hvF g e (h.fv i g (by omega) hg)
      · rw [upd_other _ _ ej]; exact h.vv i j g (by omega) (by omega) hij hg
  · intro i j g hi hj hg
    have hgl : g < X.heap.size := by
      by_cases ei : i = K
      · subst ei; rw [upd_same] at hg; have := hvlt g hg; omega
      · rw [upd_other _ _ ei] at hg; have := h.fl g (h.fv i g (by omega) hg); omega
    by_cases ej : j = K
    · subst ej; rw [upd_same]
      intro e
      simp [Value.ownBlock] at e
      omega
    · rw [upd_other _ _ ej]
      by_cases ei : i = K
      · subst ei; rw [upd_same] at hg; exact fun e => hvF g hg (h.fc j g (by omega) e)
      · rw [upd_other _ _ ei] at hg; exact h.vw i j g (by omega) (by omega) hg
  · intro i hi
    by_cases e : i = K
    · subst e; rw [upd_same]; exact hxl
    · rw [upd_other _ _ e]; exact h.dl i (by omega)
  · intro g hg; simp [Value.ownBlock] at hg; exact .inr (.inr (.inl hg.symm))
  · intro g hg; simp [Value.ownBlock] at hg; exact .inr (.inr (.inr (.inr hg.symm)))
  · intro i g hi hg
    by_cases e : i = K
    · subst e; rw [upd_same] at hg; exact .inr (.inl hg)
    · rw [upd_other _ _ e] at hg; exact .inl (h.fv i g (by omega) hg)
  · intro i g hi hg
    by_cases e : i = K
    · subst e; rw [upd_same] at hg; simp [Value.ownBlock] at hg; exact .inr (.inr (.inr (.inl hg.symm)))
    · rw [upd_other _ _ e] at hg; exact .inl (h.fc i g (by omega) hg)
  · rintro k (hk | hk | rfl | rfl | rfl)
    · have := h.fl k hk; have := hKZ.size; omega
    · have := hvlt k hk; have := hKZ.size; omega
    · omega
    · have := hC.2; omega
    · have := lt_of_block hc70; omega
  · have := h.nb; constructor <;> omega
  · rintro k (hk | hk | rfl | rfl | rfl)
    · exact .inl hk
    · exact .inr (.inl hk)
    · rcases hg2new with h1 | h1
      · exact .inl (h.fh _ h1)
      · exact .inr (.inr h1)
    · exact .inr (.inr (by omega))
    · rcases hat7 with h1 | h1
      · exact .inl (h.fw _ h1)
      · exact .inr (.inr (by omega))

set_option maxRecDepth 100000 in
set_option maxHeartbeats 16000000 in
theorem bk_keep (h : Bk w bb FB hv wv n K V W D) (hn : ¬ 200000 < n) (hK : K < 5000) {vao : Option Addr} {vcp : Nat} {xs : List Int} (hv0 : w.ownsRow 0 3 1 (.slice vao xs.length vcp) xs.length (hvals xs)) (hxl : xs.length ≤ 10003) (hvF : ∀ g, (Value.slice vao xs.length vcp).ownBlock = some g → ¬ FB g) :
    Calls Tryd.prog 30 #[.pointer (some ⟨bb, 0, none⟩), .slice vao xs.length vcp] w fun y w' => y = .returned (.tuple #[]) ∧ BkPost w bb FB K (.slice vao xs.length vcp) w' := by
  have h63 := full_47 h.box
  rw [decide_eq_false hn] at h63
  obtain ⟨hao, hcp, hdh, _, _, _, _⟩ := row_shape h.hr
  subst hdh
  obtain ⟨wao, wcp, hdw, _, _, _, _⟩ := row_shape h.wr
  subst hdw
  have hnb := h.nb
  have c26 : w.cell? ⟨bb, 26, none⟩ = some (.int .i64 n) := h.box.cell 26
  have f26 := h.box.fz 26
  have hwn : IntKind.i64.wrap (n + xs.length) = n + xs.length := by rw [IntKind.wrap_i64]; omega
  have hwn2 : IntKind.i64.wrap (n + xs.length + 1) = n + xs.length + 1 := by rw [IntKind.wrap_i64]; omega
  have hg1 : w.grownBy (w.setCell ⟨bb, 26, none⟩ (.int .i64 (n + xs.length + 1))) (some bb) := gb_setCell (gb_refl _ _) _
  have hb1 : Box (w.setCell ⟨bb, 26, none⟩ (.int .i64 (n + xs.length + 1))) 72 bb (bkA (.slice hao K hcp) (.slice wao K wcp) nilS nilS (n + xs.length + 1)) := h.box.set 26 _
  have hhb : ∀ g, (Value.slice hao K hcp).ownBlock = some g → bb ≠ g := fun g hg e => by obtain ⟨c, h1⟩ := row_block h.hr g hg; exact ne_of_type h.box h1 (by decide) e
  have hwb : ∀ g, (Value.slice wao K wcp).ownBlock = some g → bb ≠ g := fun g hg e => by obtain ⟨c, h1⟩ := row_block h.wr g hg; exact ne_of_type h.box h1 (by decide) e
  have hvb : ∀ g, (Value.slice vao xs.length vcp).ownBlock = some g → bb ≠ g := fun g hg e => by obtain ⟨c, h1⟩ := row_block hv0 g hg; exact ne_of_type h.box h1 (by decide) e
  have hr1 := row_kept h.hr hg1 (fun j hj e => hhb j hj (Option.some.inj e).symm)
  have c12 : (w.setCell ⟨bb, 26, none⟩ (.int .i64 (n + xs.length + 1))).cell? ⟨bb, 4, none⟩ = some (.slice hao K hcp) := hb1.cell 4
  have hK1 : Kp FB w (w.setCell ⟨bb, 26, none⟩ (.int .i64 (n + xs.length + 1))) := (Kp.refl FB w).step hg1 (fun j hj => by injection hj with hj; subst hj; exact .inl h.fb)
  go_enter Tryd.func30, Tryd.ntmps30
  go_wp2_with (first | (go_at_call 47; go_must (refine h63.mono ?_); rintro y w1 ⟨rfl, hw1⟩; have hw2 := hw1.symm; subst hw2) | (at_builtin; go_must (refine push40 rfl _ _ rfl 0 _ K _ (by rfl) hr1 vao xs.length vcp (by rw [show (w.setCell ⟨bb, 26, none⟩ (.int .i64 (n + xs.length + 1))).heap.size = w.heap.size by simp]; rfl) (by omega) (Nat.zero_le _) ?_)) | fail)
  intro g2 cap2 w2 hrow2 hgb2 hat2
  have hb2 := hb1.kept hgb2 (fun e => hhb _ e.symm rfl)
  have f12 := hb2.fz 4
  have k12 : w2.cell? ⟨bb, 4, none⟩ = some (.slice hao K hcp) := hb2.cell 4
  have hg3 : w2.grownBy (w2.setCell ⟨bb, 4, none⟩ (.slice (some ⟨g2, 0, none⟩) (K + 1) cap2)) (some bb) := gb_setCell (gb_refl _ _) _
  have hb3 : Box (w2.setCell ⟨bb, 4, none⟩ (.slice (some ⟨g2, 0, none⟩) (K + 1) cap2)) 72 bb (bkA (.slice (some ⟨g2, 0, none⟩) (K + 1) cap2) (.slice wao K wcp) nilS nilS (n + xs.length + 1)) := hb2.set 4 _
  have hK3 : Kp FB w (w2.setCell ⟨bb, 4, none⟩ (.slice (some ⟨g2, 0, none⟩) (K + 1) cap2)) := (hK1.step hgb2 (fun j hj => .inl (h.fh j hj))).step hg3 (fun j hj => by injection hj with hj; subst hj; exact .inl h.fb)
  obtain ⟨cu2, hcu2⟩ := row_block hrow2 g2 rfl
  have hne2 : bb ≠ g2 := ne_of_type hb2 hcu2 (by decide)
  have hrow3 := row_kept hrow2 hg3 (fun j hj e => by simp [Value.ownBlock] at hj; subst hj; exact hne2 (Option.some.inj e).symm)
  have keep3 : ∀ {e : TypeId} {s : Nat} {v : Value} {m : Nat} {ys : List Value}, w.ownsRow 0 e s v m ys → (∀ g, v.ownBlock = some g → bb ≠ g ∧ (Value.slice hao K hcp).ownBlock ≠ some g) → (w2.setCell ⟨bb, 4, none⟩ (.slice (some ⟨g2, 0, none⟩) (K + 1) cap2)).ownsRow 0 e s v m ys := fun hr hd =>
    row_kept (row_kept (row_kept hr hg1 (fun j hj e => (hd j hj).1 (Option.some.inj e).symm)) hgb2 (fun j hj e => (hd j hj).2 e.symm)) hg3 (fun j hj e => (hd j hj).1 (Option.some.inj e).symm)
  have h89 : ∀ {v : Value} {m : Nat} {ys : List Value}, w.ownsRow 0 3 1 v m ys → (∀ g, v.ownBlock = some g → bb ≠ g ∧ (Value.slice hao K hcp).ownBlock ≠ some g) := fun hr g hg => by
    obtain ⟨c, h1⟩ := row_block hr g hg
    refine ⟨fun e => ne_of_type h.box h1 (by decide) e, fun e => ?_⟩
    obtain ⟨c2, h2⟩ := row_block h.hr g e
    exact ne_of_type h2 h1 (by decide) rfl
  have hw3 := keep3 h.wr (fun g hg => ⟨hwb g hg, fun e => h.hw g e hg⟩)
  have hv3 := keep3 hv0 (h89 hv0)
  have hvs3 := fun i hi => keep3 (h.vs i hi) (h89 (h.vs i hi))
  have hws3 := fun i hi => keep3 (h.ws i hi) (h89 (h.ws i hi))
  have hg2new : (Value.slice hao K hcp).ownBlock = some g2 ∨ w.heap.size ≤ g2 := by simpa using hat2
  have hg2w : (Value.slice wao K wcp).ownBlock ≠ some g2 := fun e => by
    rcases hg2new with h1 | h1
    · exact h.hw g2 h1 e
    · have := (own_lo h.wr e).2; omega
  have h89X : ∀ (k : Nat) (cur : Array Value), w.heap[k]? = some (Obj.cells cur 3 (0, 0)) → (w2.setCell ⟨bb, 4, none⟩ (.slice (some ⟨g2, 0, none⟩) (K + 1) cap2)).heap[k]? = w.heap[k]? := fun k cur hk => by
    have hlt := lt_of_block hk
    have hbk : bb ≠ k := ne_of_type h.box hk (by decide)
    have e1 := hg1.block k hlt (fun e => hbk (Option.some.inj e).symm)
    have e2 := hgb2.block k (Nat.lt_of_lt_of_le hlt hg1.size) (fun e => by obtain ⟨c2, h2⟩ := row_block h.hr k e.symm; exact ne_of_type h2 hk (by decide) rfl)
    have e3 := hg3.block k (Nat.lt_of_lt_of_le (Nat.lt_of_lt_of_le hlt hg1.size) hgb2.size) (fun e => hbk (Option.some.inj e).symm)
    rw [e3, e2, e1]
  clear hrow2 hgb2 hat2 hb2 hb1 hr1 hg1 hg3 c12 c26 f26 keep3 h89 hcu2 h63 hK1
  go_wp2
  clear f12 k12
  generalize w2.setCell ⟨bb, 4, none⟩ (.slice (some ⟨g2, 0, none⟩) (K + 1) cap2) = X at *
  obtain ⟨i0, hi0, hz0, hz1, hz2⟩ := info_parts Tryd.info40
  have k13 : X.cell? ⟨bb, 5, none⟩ = some (.slice wao K wcp) := hb3.cell 5
  have k13a := fun o => gb_cellN (World.grownBy_alloc X o none) k13
  have hbl := hb3.lt
  have hE0 : ∀ Y : World, Y.heap.size = X.heap.size → (Y.alloc (.cells #[] 3)).ownsRow X.heap.size 3 1 (.slice (some ⟨X.heap.size, 0, none⟩) 0 0) 0 [] := fun Y hY => ⟨rfl, .inr ⟨X.heap.size, 0, #[], rfl, Nat.le_refl _, by rw [← hY]; exact heap_alloc_new Y _, Nat.le_refl _, by unfold maxLen; omega, rfl, rfl⟩⟩
  have HV : Hid (X.ownsRow 0 3 1 (.slice vao xs.length vcp) xs.length (hvals xs)) := hv3
  have HW : Hid (X.ownsRow 0 40 1 (.slice wao K wcp) K (vsL W K)) := hw3
  have HB : Hid (Box X 72 bb (bkA (.slice (some ⟨g2, 0, none⟩) (K + 1) cap2) (.slice wao K wcp) nilS nilS (n + xs.length + 1))) := hb3
  go_region_law ((first | (refine step_copy3 (xs := xs) (v := .slice vao xs.length vcp) (g0 := X.heap.size) (by rfl) (.tmp 32) (.tmp 33) (by rfl) (by rfl) X.heap.size (hE0 _ (by rfl)) (World.ownsRow.alloc (show World.ownsRow _ 0 3 1 _ _ _ from HV.out) _) (by rfl) (by omega) (by simp) ?_; intro gC cC w5 hown5 hgr5 hat5; have hg5 : X.grownBy w5 (some X.heap.size) := gb_trans (by first | exact gb_drew (gb_alloc (gb_refl _ _) _) | exact gb_alloc (gb_drew (gb_refl _ _)) _) hgr5; have b5 := HB.out.kept hg5 (some_ne2 (by omega)); have m13 : w5.cell? ⟨bb, 5, none⟩ = some (.slice wao K wcp) := b5.cell 5; have m13a := (fun o => gb_cellN (World.grownBy_alloc w5 o none) m13); have hwr5 := row_kept HW.out hg5 (fun j hj e => (by have := (own_lo HW.out hj).2; have := Option.some.inj e; omega))) | (refine step_append_lies _ (by rfl) (.tmp 31) (.tmp 35) _ (by rfl) 0 40 i0 _ 1 24 Tryd.underlying65 hi0 hz0 hz1 hz2 rfl (by omega) (.slice wao K wcp) K _ (by rfl) (World.ownsRow.alloc (w := w5) hwr5 _) ⟨w5.heap.size, 0, none⟩ 1 1 [.slice (some ⟨gC, 0, none⟩) xs.length cC] (by rfl) (by rfl) (World.news_of_block (cs := #[.slice (some ⟨gC, 0, none⟩) xs.length cC]) (t := 40) (fr := (0, 0)) (heap_alloc_new w5 _)) (by simp [Value.oneCell']) (by omega) (by unfold maxLen; omega) (by omega) (Nat.zero_le _) (w5.heap.size + 1) (by simp) ?_; intro g7 c7 w7 hown7 hgr7 hat7 hlt7; have hg7 : w5.grownBy w7 (Value.slice wao K wcp).ownBlock := gb_trans (gb_alloc (gb_refl _ _) _) hgr7; have b7 := b5.kept hg7 (fun e => hwb _ e.symm rfl); have m7 : w7.cell? ⟨bb, 5, none⟩ = some (.slice wao K wcp) := b7.cell 5; have f7 : w7.frozen? ⟨bb, 5, none⟩ = false := b7.fz 5)))
  all_goals
    have hpost := bk_more h (by omega) hv0 hxl hvF hK3 h89X hb3 hrow3 hw3 hv3 hvs3 hws3 hg2new hg2w hg5 hown5 hg7 hown7 (hat7.imp id (fun e => by omega))
    clear hown5 hown7 hgr5 hgr7 hg5 hg7 b5 b7 m13 m13a m7 f7 HV HW HB hat5 hat7 hwr5 hK3 h89X hb3 hrow3 hw3 hv3 hvs3 hws3
    go_wp2
    go_end0
    exact ⟨rfl, hpost⟩
end

end Go.Proofs.YtonbkpfnpnlkpaaDoor

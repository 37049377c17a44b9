import Derived.Test.YtohneboimmcocaaGreatKa
import Derived.Test.YtohneboimmcocaaGreatKb
/-
  LruWalks: the function that Walk gives, as an iterator.
-/
namespace Go.Proofs.YtohneboimmcocaaGreat
open Go.RowKit Go.Shelf
set_option linter.unusedVariables false
attribute [local go_sem] Oper.semAt_some

/-- What a round keeps: all cells but those of G. -/
structure KW (G : Nat → Prop) (W W' : World) : Prop where
  size : W.heap.size ≤ W'.heap.size
  same : ∀ k o, ¬ G k → W.heap[k]? = some o → o.isCells = true → W'.heap[k]? = some o
theorem KW.refl (G : Nat → Prop) (W : World) : KW G W W := ⟨Nat.le_refl _, fun _ _ _ h _ => h⟩
theorem KW.trans {G : Nat → Prop} {A B C : World} (h : KW G A B) (k : KW G B C) : KW G A C := ⟨Nat.le_trans h.size k.size, fun i o hi ho hc => k.same i o hi (h.same i o hi ho hc) hc⟩
theorem KW.kp {G : Nat → Prop} {A B : World} (h : Kp G A B) : KW G A B := ⟨h.size, fun k o hk ho _ => by rw [h.block k (Array.getElem?_eq_some_iff.1 ho).1 hk]; exact ho⟩
theorem KW.put {G : Nat → Prop} (W : World) (l : Nat) (o o' : Obj) (ho : W.heap[l]? = some o) (h1 : o.isCells = false) : KW G W (W.putObj l o') := by
  have hg := grownBy_putObj' W l o'
  refine ⟨hg.size, fun k p hk hp hc => ?_⟩
  by_cases e : k = l
  · subst e
    rw [ho] at hp
    cases hp
    rw [h1] at hc
    cases hc
  · rw [hg.block k (Array.getElem?_eq_some_iff.1 hp).1 (by simpa using e)]
    exact hp

section
variable {w : World} {xb sb qb gl gc : Nat} {F : Nat → Prop} {B : Bl} {b c d e f g : Int} {A : Ab} {m : List Int} {T : List Nat} {cls : Nat → Nat} {S : Lm} {hot warm : Nat}
theorem walk_29 (xb : Nat) (ci : Int) (w : World) : Calls Tryz.prog 29 #[.pointer (some ⟨xb, 0, none⟩), .int .i64 ci] w fun y w' => y = .returned (.func (.func 71) #[] #[.pointer (some ⟨w.heap.size, 0, none⟩), .pointer (some ⟨w.heap.size + 1, 0, none⟩)]) ∧ w' = (w.alloc (.cells #[.pointer (some ⟨xb, 0, none⟩)] 41)).alloc (.cells #[.int .i64 ci] 3) := by
  go_enter Tryz.func29, Tryz.ntmps29
  go_wp2
  go_ret
  exact ⟨by simp, rfl⟩
set_option maxRecDepth 100000 in
set_option maxHeartbeats 4000000 in
theorem walk_stops (h : LE w xb sb qb gl gc F B b c d e f g A m T cls S hot warm) (hT : T.length ≤ 300) {ci : Nat} (hc : ci < A.n) {Bl Bc : Nat} (hBl : Bl < w.heap.size) (hBc : Bc < w.heap.size) (c1 : w.cell? ⟨Bl, 0, none⟩ = some (.pointer (some ⟨xb, 0, none⟩))) (c2 : w.cell? ⟨Bc, 0, none⟩ = some (.int .i64 ci)) {G : Nat → Prop} (hG : ∀ k, G k → k < w.heap.size) (n : Nat) (hn : 1 ≤ n) :
    SeqStopsK Fence.wide n Tryz.prog 71 #[.pointer (some ⟨Bl, 0, none⟩), .pointer (some ⟨Bc, 0, none⟩)] (fun x : { H : Nat // H ∈ T } => #[Value.int .u64 (x.1 : Nat)]) (KW G) (fun ys => ys.map Subtype.val = rowN S.X ci) (fun pre => pre.map Subtype.val <+: rowN S.X ci) (rowN S.X ci).length w := fun l J Jx W hW hJ hJx hY h0 => by
  obtain ⟨bs, hL0⟩ := h.ex
  have hLW := (hL0.lb.below hW).lq
  have d1 := (hW.cell (p := ⟨Bl, 0, none⟩) hBl).trans c1
  have d2 := (hW.cell (p := ⟨Bc, 0, none⟩) hBc).trans c2
  have hmem : ∀ x, x ∈ rowN S.X ci → x ∈ T := fun x hx => by
    simp only [rowN, List.mem_append, List.mem_reverse] at hx
    rcases hx with (hx | hx) | hx <;> exact (hL0.mem hx).1
  have hlen : (rowN S.X ci).length ≤ 5000 := by
    have h1 := h.len hT ci 0
    have h2 := h.len hT ci 1
    have h3 := h.len hT ci 2
    simp only [rowN, List.length_append, List.length_reverse]
    omega
  have ha1 := World.grownBy_alloc W (.cells #[.pointer (some ⟨xb, 0, none⟩)] 41) none
  have ha2 := World.grownBy_alloc (W.alloc (.cells #[.pointer (some ⟨xb, 0, none⟩)] 41)) (.cells #[.int .i64 ci] 3) none
  have h72 := collect_72 (hLW.kept0 (gb_trans ha1 ha2)) hc (Bl := W.heap.size) (Bc := W.heap.size + 1) (by simp; omega) (by simp) (((Box.new W 41 #[.pointer (some ⟨xb, 0, none⟩)]).kept ha2 (by simp)).cell 0) (by have q := (Box.new (W.alloc (.cells #[.pointer (some ⟨xb, 0, none⟩)] 41)) 3 #[.int .i64 (ci : Int)]).cell 0; rw [World.size_alloc] at q; exact q) hlen
  have hJ0 := hJ _ _ _ none h0 (gb_trans ha1 ha2) (by simp)
  have hsz := hW.size
  have hz2 : ((W.alloc (.cells #[.pointer (some ⟨xb, 0, none⟩)] 41)).alloc (.cells #[.int .i64 ci] 3)).heap.size = W.heap.size + 1 + 1 := by simp
  obtain ⟨W1, hW1⟩ : ∃ W1, (W.alloc (.cells #[.pointer (some ⟨xb, 0, none⟩)] 41)).alloc (.cells #[.int .i64 ci] 3) = W1 := ⟨_, rfl⟩
  have h73 := (row_73 xb ci W).mono (R' := fun y w' => y = .returned (.func (.func 116) #[] #[.pointer (some ⟨W.heap.size, 0, none⟩), .pointer (some ⟨W.heap.size + 1, 0, none⟩)]) ∧ w' = W1) (by
    rintro y w' ⟨rfl, rfl⟩
    exact ⟨rfl, hW1⟩)
  rw [hW1] at h72 hJ0 hz2
  obtain ⟨R, hRE⟩ : ∃ R, rowN S.X ci = R := ⟨_, rfl⟩
  rw [hRE] at h72 hmem hlen hY ⊢
  clear h hL0 hLW hRE ha1 ha2 hW1 c1 c2
  refine callsIn_of_wp Tryz.func71 rfl trivial ?_ rfl
  simp only [Tryz.ntmps71, List.size_toArray, List.length_cons, List.length_nil, Nat.reduceAdd, Nat.reduceSub, Array.replicate_succ, Array.replicate_zero, List.push_toArray, List.append_toArray, List.nil_append, List.cons_append]
  gi_wp2_with (first | (refine ⟨trivial, ?_⟩; gi_at_call 73; refine (callsIn_wide.2 h73).mono ?_; rintro y w' ⟨rfl, rfl⟩) | (refine ⟨trivial, ?_⟩; gi_at_call 72; refine (callsIn_wide.2 h72).mono ?_; rintro y w2 ⟨v, rfl, hr, hg⟩; (obtain ⟨ra, rc, rfl, _, _, _, hra⟩ := row_shape hr)))
  have hJ2 := hJ _ _ _ none hJ0 hg (by simp)
  have hcell : ∀ j (hj : j < R.length), ∃ gg x, ra = some ⟨gg, 0, none⟩ ∧ R[j] = x ∧ x ∈ T ∧ ∀ V, KW G w2 V → V.cell? ⟨gg, j, none⟩ = some (.int .u64 ((x : Nat) : Int)) := fun j hj => by
    obtain ⟨gg, rfl⟩ := hra (by omega)
    refine ⟨gg, R[j], rfl, rfl, hmem _ (List.getElem_mem hj), fun V hV => ?_⟩
    have hx := row_cell hr j _ (uvs_get (List.getElem?_eq_getElem hj))
    obtain ⟨cur, hb⟩ := row_block hr gg rfl
    have hlo := (hr.lt gg rfl).1
    have := hV.same gg _ (fun hh => by have := hG gg hh; omega) hb rfl
    simp only [World.cell?] at hx ⊢
    rw [this]
    rw [hb] at hx
    exact hx
  have hJG : ∀ zs V1 V2, J zs V1 → V1.grownBy V2 none → J zs V2 := fun zs V1 V2 h1 h2 => hJ zs V1 V2 none h1 h2 (by simp)
  clear hr hra h72 h73 hJ0
  obtain ⟨ln, hln⟩ : ∃ ln, R.length = ln := ⟨_, rfl⟩
  rw [hln] at hlen hY ⊢
  gi_loopw [11] (fun iv wr => ∃ k : Nat, k ≤ ln ∧ iv = .int .i64 k ∧ KW G w2 wr ∧ ∃ ys : List { H : Nat // H ∈ T }, ys.map Subtype.val = R.take k ∧ J ys wr) (fun iv _ => ln - (intOf iv).toNat)
  case atStart => exact ⟨0, by omega, rfl, KW.refl _ _, [], by simp, hJ2⟩
  case round =>
    obtain ⟨k, hk, rfl, hK, ys, hys, hJs⟩ := hrel
    by_cases hlt : k < ln
    · have e1 : decide ((k : Int) < ln) = true := decide_eq_true (by omega)
      have e2 : (k : Int) < ln := by omega
      obtain ⟨gg, x, rfl, hx, hxT, hcx⟩ := hcell k (by omega)
      have cx := hcx _ hK
      have hyl : ys.length = k := by
        have : (ys.map Subtype.val).length = ys.length := by simp
        rw [hys, List.length_take] at this
        omega
      obtain ⟨fn, tmps, assign, body, hy, hR⟩ := hY ys ⟨x, hxT⟩ wr hJs (by omega)
      have HT : Hid ((ys ++ [(⟨x, hxT⟩ : { H : Nat // H ∈ T })]).map Subtype.val = R.take (k + 1)) := by
        show _ = _
        rw [List.map_append, hys, List.take_succ_eq_append_getElem (by omega)]
        simp [hx]
      have HP : Hid ((ys ++ [(⟨x, hxT⟩ : { H : Nat // H ∈ T })]).map Subtype.val <+: R) := by
        show _ <+: _
        rw [HT.out]
        exact List.take_prefix _ _
      clear hcell hcx hys hx
      gi_wp2
      refine hR.mono ?_
      rintro e W3 (⟨rfl, hJ3, hk3⟩ | ⟨rfl, hJx3⟩)
      · have hK4 := hK.trans hk3
        clear hR hy
        gi_wp2
        go_roundw
        case rel => exact ⟨k + 1, by omega, by go_num, hK4, _, HT.out, hJ3⟩
        case measure => simp [intOf]; omega
      · gi_wp2
        refine bodyPost_ret (results_none rfl _ _ _) rfl ?_
        exact ⟨⟨_, rfl⟩, .inr ⟨_, HP.out, hJx3⟩⟩
    · obtain rfl : k = ln := by omega
      have e1 : decide ((k : Int) < k) = false := decide_eq_false (by omega)
      rw [← hln, List.take_length] at hys
      clear hcell hY
      gi_wp2
      go_end0
      exact ⟨⟨_, rfl⟩, .inl ⟨ys, hys, hJs⟩⟩
end
end Go.Proofs.YtohneboimmcocaaGreat

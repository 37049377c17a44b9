import Derived.Test.YtjkdflnnpdionaaGreatMj
import Derived.Test.YtjkdflnnpdionaaGreatMo
import Derived.Test.YtjkdflnnpdionaaGreatMl
import Derived.Test.YtjkdflnnpdionaaGreatMk
import Derived.Great.BuildSlice
import Derived.Deep.Cut
/-
  wakes.
-/
namespace Go.Proofs.YtjkdflnnpdionaaGreat
open Go.RowKit
set_option linter.unusedVariables false

theorem wk_good : GoodF 200 (limOf 256) 64 := ⟨by decide, by decide, by decide, by decide, by decide, by decide, by decide⟩
theorem wk_cfg : Cfg 4096 3 200 64 256 := ⟨⟨12, by decide, by decide, by decide⟩, by decide, by decide, wk_good, by decide, by decide, by decide⟩
theorem wk_cls : Cls 200 (limOf 256) 64 3 := by
  refine ⟨by decide, by decide, ?_⟩
  intro j hj
  have : j = 0 ∨ j = 1 := by omega
  rcases this with rfl | rfl <;> decide
theorem wk_refd : Refd ((4096 : Nat) : Int) ((3 : Nat) : Int) ((200 : Nat) : Int) ((64 : Nat) : Int) ((256 : Nat) : Int) 0 := by
  refine .inr ⟨⟨⟨12, by decide, by decide, by decide⟩, by decide, by decide, by decide, by decide, by decide, by decide, by decide, by decide, by decide⟩, .inr ⟨3, ⟨by decide, ?_⟩, .inr ⟨by decide, rfl⟩⟩⟩
  exact wk_cls

def wkA : Ab := A0 4096 3 3 (chain 200 (limOf 256) 64)
def wkB : Ab := (wkA.owned 2).taken 2 0 0
def wkC : Ab := wkB.taken 2 0 1
def wkD : Ab := wkC.given 0 0 1
theorem wk_invA : Inv wkA := inv_new wk_cfg (by decide) wk_cls
theorem wk_h1 : (wkA.owned 2).hdl 0 0 = 1 := by decide +kernel
theorem wk_l1 : ((wkA.owned 2).row 2).getLast? = some ((wkA.owned 2).num 0 0) := by decide +kernel
theorem wk_l2 : (wkB.row 2).getLast? = some (wkB.num 0 1) := by decide +kernel
theorem wk_h2 : wkB.hdl 0 1 = 33 := by decide +kernel
theorem wk_l3 : (wkD.row 2).getLast? = some (wkD.num 0 0) := by decide +kernel
theorem wk_h3 : wkD.hdl 0 0 = 4294967297 := by decide +kernel
theorem wk_n : wkA.n = 3 ∧ (wkA.owned 2).n = 3 ∧ wkB.n = 3 ∧ wkC.n = 3 ∧ wkD.n = 3 := by decide +kernel
theorem wk_np : wkA.np = 0 ∧ wkA.m = 3 ∧ (wkA.owned 2).np = 1 ∧ wkB.np = 1 ∧ wkC.np = 1 ∧ wkD.np = 1 := by decide +kernel
theorem wk_own : (wkA.owned 2).own 0 = 2 ∧ wkB.own 0 = 2 ∧ wkC.own 0 = 2 ∧ wkD.own 0 = 2 := by decide +kernel
theorem wk_each : (wkA.owned 2).each 2 = 16 ∧ wkB.each 2 = 16 ∧ wkC.each 2 = 16 ∧ wkD.each 2 = 16 := by decide +kernel
theorem wk_tkn : (wkA.owned 2).tkn 0 0 = false ∧ wkB.tkn 0 1 = false ∧ wkC.tkn 0 0 = true ∧ wkD.tkn 0 0 = false := by decide +kernel
theorem wk_gen : wkC.gen 0 0 = 0 := by decide +kernel
theorem wk_h0 : wkC.hdl 0 0 = 1 := by decide +kernel
theorem wk_row : wkA.row 2 = [] := rfl
theorem wk_invO : Inv (wkA.owned 2) := wk_invA.own (by rw [wk_n.1]; decide) (by rw [wk_np.1, wk_np.2.1]; decide)
theorem wk_invB : Inv wkB := wk_invO.take (by rw [wk_n.2.1]; decide) (by rw [wk_np.2.2.1]; decide) wk_own.1 (by rw [wk_each.1]; decide) wk_tkn.1 wk_l1
theorem wk_invC : Inv wkC := wk_invB.take (by rw [wk_n.2.2.1]; decide) (by rw [wk_np.2.2.2.1]; decide) wk_own.2.1 (by rw [wk_each.2.1]; decide) wk_tkn.2.1 wk_l2
theorem wk_invD : Inv wkD := wk_invC.give (by decide) (by rw [wk_np.2.2.2.2.1]; decide) (by rw [wk_own.2.2.1, wk_each.2.2.1]; decide) wk_tkn.2.2.1

section
variable {w : World} {sb : Nat} {F : Nat → Prop} {B : Bl} {b c d e f g : Int} {zs : List Int}
theorem wk_take1 (h : IsS w sb F B b c d e f g wkA zs) : Calls Tryz.prog 69 #[.pointer (some ⟨sb, 0, none⟩), .int .i64 2] w fun y w' => y = .returned (.tuple #[.int .u64 1, .int .i64 0]) ∧ Kp F w w' ∧ ∃ F' B' zs', IsS w' sb F' B' b c d e f g wkB zs' ∧ ∀ k, F' k → F k ∨ w.heap.size ≤ k := by
  have := take_page h wk_invA (i := 2) (by rw [wk_n.1]; decide) wk_row (by rw [wk_np.1, wk_np.2.1]; decide)
  rw [wk_np.1, wk_h1] at this
  refine this.mono ?_
  rintro y w' ⟨rfl, hK, F', B', hS, hF⟩
  exact ⟨rfl, hK, F', B', _, hS, hF⟩
theorem wk_take2 (h : IsS w sb F B b c d e f g wkB zs) : Calls Tryz.prog 69 #[.pointer (some ⟨sb, 0, none⟩), .int .i64 2] w fun y w' => y = .returned (.tuple #[.int .u64 33, .int .i64 0]) ∧ Kp F w w' ∧ ∃ B' zs', IsS w' sb F B' b c d e f g wkC zs' := by
  have := take_row h wk_invB.fit (i := 2) (p := 0) (k := 1) (by rw [wk_n.2.2.1]; decide) (by rw [wk_np.2.2.2.1]; decide) wk_own.2.1 (by rw [wk_each.2.1]; decide) wk_tkn.2.1 wk_l2
  rw [wk_h2] at this
  refine this.mono ?_
  rintro y w' ⟨rfl, ⟨B', _, hS⟩, hK⟩
  exact ⟨rfl, hK, B', _, hS⟩
theorem wk_give (h : IsS w sb F B b c d e f g wkC zs) : Calls Tryz.prog 122 #[.pointer (some ⟨sb, 0, none⟩), .int .u64 1] w fun y w' => y = .returned (.int .i64 0) ∧ Kp F w w' ∧ ∃ F' B' zs', IsS w' sb F' B' b c d e f g wkD zs' ∧ ∀ k, F' k → F k ∨ w.heap.size ≤ k := by
  have := give_yes h wk_invC (H := 1) (p := 0) (k := 0) ⟨by rw [wk_np.2.2.2.2.1]; decide, by rw [wk_own.2.2.1, wk_each.2.2.1]; decide, wk_tkn.2.2.1, wk_h0.symm⟩ 1 (by show 1 = _; rw [wk_gen])
  refine this.mono ?_
  rintro y w' ⟨rfl, hK, F', B', hS, hF⟩
  exact ⟨rfl, hK, F', B', _, hS, hF⟩
theorem wk_take3 (h : IsS w sb F B b c d e f g wkD zs) : Calls Tryz.prog 69 #[.pointer (some ⟨sb, 0, none⟩), .int .i64 2] w fun y w' => y = .returned (.tuple #[.int .u64 4294967297, .int .i64 0]) ∧ Kp F w w' := by
  have := take_row h wk_invD.fit (i := 2) (p := 0) (k := 0) (by rw [wk_n.2.2.2.2]; decide) (by rw [wk_np.2.2.2.2.2]; decide) wk_own.2.2.2 (by rw [wk_each.2.2.2]; decide) wk_tkn.2.2.2 wk_l3
  rw [wk_h3] at this
  refine this.mono ?_
  rintro y w' ⟨rfl, ⟨B', _, hS⟩, hK⟩
  exact ⟨rfl, hK⟩
end

end Go.Proofs.YtjkdflnnpdionaaGreat
/-
  Both Sets take; the document's queue: New, Lay.
-/
namespace Go.Proofs.YtjkdflnnpdionaaGreat
open Go.RowKit
set_option linter.unusedVariables false

theorem q_cfg : Cfg 4096 4 200 64 256 := ⟨⟨12, by decide, by decide, by decide⟩, by decide, by decide, wk_good, by decide, by decide, by decide⟩
theorem q_refd : Refd ((4096 : Nat) : Int) ((4 : Nat) : Int) ((200 : Nat) : Int) ((64 : Nat) : Int) ((256 : Nat) : Int) 0 := by
  refine .inr ⟨⟨⟨12, by decide, by decide, by decide⟩, by decide, by decide, by decide, by decide, by decide, by decide, by decide, by decide, by decide⟩, .inr ⟨3, ⟨by decide, ?_⟩, .inr ⟨by decide, rfl⟩⟩⟩
  exact wk_cls
def qA : Ab := A0 4096 4 3 (chain 200 (limOf 256) 64)
theorem q_invA : Inv qA := inv_new q_cfg (by decide) wk_cls
def qR : Rb := R0 4096 4 3 (chain 200 (limOf 256) 64)
theorem qR_fit : RFit qR := by
  have hz := q_invA.toSzs
  refine ⟨by decide, by decide, by decide, by decide, fun i => by show 0 < 4294967296; omega, fun i hi => by simp [qR, R0] at hi, by decide, fun i hi => hz.lo i hi, fun i hi => ?_, by decide, fun i hi => by show ([] : List Nat).length ≤ _; simp⟩
  have := hz.hi i hi
  exact Nat.le_trans this (by decide)
theorem rep_new (ps m n : Nat) (sz : Nat → Nat) : Rep (A0 ps m n sz) (R0 ps m n sz) :=
  ⟨rfl, rfl, rfl, rfl, fun p hp => rfl, fun i hi => absurd hi (Nat.not_lt_zero _), fun i j hi => absurd hi (Nat.not_lt_zero _), fun p k hp => absurd hp (Nat.not_lt_zero _), fun c hc i hi => absurd hi (by show i ∉ ([] : List Nat); simp), fun c hc => rfl, Nat.zero_le _⟩
theorem q_rep : Rep qA qR := rep_new _ _ _ _
theorem q_fil : Fil qA qA 0 0 0 := Fil.zero q_invA rfl (fun _ => rfl) (by show 0 < 3; omega)
theorem q_each : qA.each 0 = 64 := by decide +kernel
theorem q_sz : qA.sz 0 = 64 := by decide +kernel
theorem q_plN {i : Nat} (h : i < 256) : plN qA 0 i = 64 * i := by
  unfold plN
  rw [q_each, q_sz]
  show i / 64 * 4096 + _ = _
  omega
theorem q_hN {i : Nat} (h : i < 256) : hN qA 0 i = 8 * i + 1 := by
  unfold hN
  rw [q_plN h]
  omega

section
variable {w : World} {sb : Nat} {F : Nat → Prop} {B : Bl} {b c d e f g : Int} {A A0 : Ab} {zs : List Int}

theorem fil_take2 {k i fr : Nat} (hF : Fil A0 A k i fr) (hk : k < A.n) (hi : i < A.m * A.each k) :
    ∃ A' fr', Fil A0 A' k (i + 1) fr' ∧
      (∀ w sb F B b c d e f g zs, IsS w sb F B b c d e f g A zs → Calls Tryz.prog 69 #[.pointer (some ⟨sb, 0, none⟩), .int .i64 k] w fun y w' => y = .returned (.tuple #[.int .u64 (hN A0 k i), .int .i64 0]) ∧ Kp F w w' ∧ ∃ F' B', IsS w' sb F' B' b c d e f g A' (headZ zs (plN A0 k i) 0) ∧ ∀ k, F' k → F k ∨ w.heap.size ≤ k) ∧
      (∀ w rb G Q c d e R, IsR w rb G Q c d e R → RFit R → Rep A R → Calls Tryz.prog 70 #[.pointer (some ⟨rb, 0, none⟩), .int .i64 k] w fun y w' => y = .returned (.tuple #[.int .u64 (hN A0 k i), .int .i64 0]) ∧ Kp G w w' ∧ ∃ G' Q' R', IsR w' rb G' Q' c d e R' ∧ RFit R' ∧ Rep A' R' ∧ ∀ k, G' k → G k ∨ w.heap.size ≤ k) := by
  have hc := hF.cnt
  have he := hF.frl
  by_cases hfr : fr = 0
  · subst hfr
    have hi' : i = A.np * A.each k := by omega
    have hnp : A.np < A.m := by
      rcases Nat.lt_or_ge A.np A.m with h1 | h1
      · exact h1
      · have := Nat.mul_le_mul_right (A.each k) h1
        omega
    have hr0 : A.row k = [] := by rw [hF.row]; simp
    have hIo := hF.inv.own hk hnp
    have hrl : ((A.owned k).row k).getLast? = some ((A.owned k).num A.np 0) := by
      rw [owned_row, if_pos rfl, hr0, List.nil_append, nums_last A k (by omega), owned_num2]
    have hIt := hIo.take (c := k) (p := A.np) (k := 0) (by rw [owned_n]; exact hk) (by rw [owned_np]; omega) (by rw [owned_own, if_pos rfl]) (by rw [owned_each]; omega) (by rw [owned_tkn, if_pos rfl]) hrl
    obtain ⟨d1, d2⟩ := divmod (A.each k) A.np 0 (by omega)
    rw [Nat.add_zero] at d1 d2
    have hpl : (A.owned k).place A.np 0 = plN A0 k i := by
      unfold Ab.place plN
      rw [owned_ps, owned_sz, owned_own, if_pos rfl, hi', ← hF.each k, ← hF.ps, ← hF.sz, d1, d2]
    have hh : (A.owned k).hdl A.np 0 = hN A0 k i := by
      unfold Ab.hdl hN
      rw [owned_gen, if_pos rfl, ← hpl]
      unfold Ab.num
      simp
    refine ⟨_, _, hF.page hk hIt, fun w sb F B b c d e f g zs h => ?_, fun w rb G Q c d e R h hR hrep => ?_⟩
    · have := take_page h hF.inv hk hr0 hnp
      rw [hh, hpl, owned_gen, if_pos rfl] at this
      exact this
    · have hrr : R.row k = [] := by
        have h1 := hrep.row k hk
        rw [hr0] at h1
        exact List.map_eq_nil_iff.1 h1
      have hee : R.ps / R.sz k = A.each k := by unfold Ab.each; rw [hrep.ps, hrep.sz]
      have hNb : R.N + R.ps / R.sz k ≤ 16777216 := by
        have h1 := hrep.nb
        have h2 : A.each k ≤ A.ps / 64 := by unfold Ab.each; exact Nat.div_le_div_left (hF.inv.lo k hk) (by omega)
        have h3 : (A.np + 1) * (A.ps / 64) ≤ 1024 * 16384 := by
          refine Nat.mul_le_mul (by have := hF.inv.mm; omega) ?_
          have := hR.ps
          rw [hrep.ps] at this
          omega
        rw [Nat.add_mul, Nat.one_mul] at h3
        rw [hee]; omega
      have h1 := hrep.paged hF.inv hk hnp
      have hNlt : R.N < (R.page k A.np).N := by rw [(page_facts R k A.np).1, hee]; omega
      have hplR : (R.page k A.np).pl R.N = (A.owned k).place A.np 0 := by
        have := (page_new R k A.np 0 (by rw [hee]; omega)).1
        rw [Nat.add_zero] at this
        rw [this, hrep.ps, hrep.sz]
        unfold Ab.place
        rw [owned_ps, owned_sz, owned_own, if_pos rfl]
      have hof := h1.of hIo.fit.toFit1 hNlt (p := A.np) (k := 0) (by rw [owned_np]; omega) (by rw [owned_each, owned_own, if_pos rfl]; omega) hplR
      have h2 := h1.took hIo.fit.toFit1 (c := k) (p := A.np) (k := 0) (by rw [owned_n]; exact hk) (by rw [owned_np]; omega) (by rw [owned_own, if_pos rfl]) (by rw [owned_each]; omega) hNlt hplR
      have := rtake_page h hR (i := k) (p := A.np) (by rw [hrep.n]; exact hk) hrr (by rw [hrep.m]; exact hnp) (by rw [hrep.ow _ hnp, if_neg (by omega)]; decide) (fun q hq => by rw [hrep.ow q (by omega), if_pos hq]; omega) hNb (by rw [hee]; omega)
      rw [hof.2.2.2, hh] at this
      refine this.mono ?_
      rintro y w' ⟨rfl, hK, F', Q', hS, hF'⟩
      exact ⟨rfl, hK, F', Q', _, hS, took_fit (page_fit hR (by rw [hrep.n]; exact hk) (by rw [hrep.m]; exact hnp) hNb (by rw [hrr]; simp; omega)) k R.N, h2, hF'⟩
  · have hnp : 0 < A.np := by
      rcases Nat.eq_zero_or_pos A.np with e1 | e1
      · rw [e1] at hc; simp at hc; omega
      · exact e1
    obtain ⟨q, hq⟩ : ∃ q, A.np = q + 1 := ⟨A.np - 1, by omega⟩
    have hq1 : A.np - 1 = q := by omega
    have hmul : A.np * A.each k = q * A.each k + A.each k := by rw [hq, Nat.add_mul, Nat.one_mul]
    have hi' : i = q * A.each k + (A.each k - fr) := by omega
    obtain ⟨d1, d2⟩ := divmod (A.each k) q (A.each k - fr) (by omega)
    have hoq := hF.own q (by omega)
    have htq : A.tkn q (A.each k - fr) = false := by
      rw [hF.tkn q _ (by omega) (by omega)]; simp; omega
    have hrl : (A.row k).getLast? = some (A.num q (A.each k - fr)) := by
      rw [hF.row, if_neg hfr, hq1]; exact rowF_last A k q _ (by omega)
    have hIt := hF.inv.take hk (p := q) (k := A.each k - fr) (by omega) hoq (by omega) htq hrl
    have hpl : A.place q (A.each k - fr) = plN A0 k i := by
      unfold Ab.place plN
      rw [hoq, hi', ← hF.each k, ← hF.ps, ← hF.sz, d1, d2]
    have hh : A.hdl q (A.each k - fr) = hN A0 k i := by
      unfold Ab.hdl hN
      rw [hF.gen q _ (by omega), ← hpl]
      unfold Ab.num
      simp
    have hft := hF.taken hk (by omega) (by rw [hq1]; exact hIt)
    rw [hq1] at hft
    refine ⟨_, _, hft, fun w sb F B b c d e f g zs h => ?_, fun w rb G Q c d e R h hR hrep => ?_⟩
    · have := take_row h hF.inv.fit hk (p := q) (k := A.each k - fr) (by omega) hoq (by omega) htq hrl
      rw [hh, hpl, hF.gen q _ (by omega)] at this
      refine this.mono ?_
      rintro y w' ⟨rfl, ⟨B', _, hS⟩, hK⟩
      exact ⟨rfl, hK, F, B', hS, fun k hk => .inl hk⟩
    · obtain ⟨x, n1, hx, hplx, hlen, hlast⟩ := hrep.last hF.inv.fit.toFit1 hk (p := q) (k := A.each k - fr) (by omega) hoq (by omega) hrl
      have hof := hrep.of hF.inv.fit.toFit1 hx (p := q) (k := A.each k - fr) (by omega) (by rw [hoq]; omega) hplx
      have h2 := hrep.took hF.inv.fit.toFit1 hk (p := q) (k := A.each k - fr) (by omega) hoq (by omega) hx hplx
      have := rtake_row h hR (i := k) (by rw [hrep.n]; exact hk) hlen hlast hx
      rw [hof.2.2.2, hh] at this
      refine this.mono ?_
      rintro y w' ⟨rfl, hK, Q', hS⟩
      exact ⟨rfl, hK, G, Q', _, hS, took_fit hR k x, h2, fun k hk => .inl hk⟩
end

def uvs (xs : List Nat) : List Value := xs.map fun (n : Nat) => Value.int .u64 (n : Int)
theorem uvs_app (xs : List Nat) (h : Nat) : uvs (xs ++ [h]) = uvs xs ++ [.int .u64 (h : Int)] := by simp [uvs]
theorem uvs_get {xs : List Nat} {i h : Nat} (e : xs[i]? = some h) : (uvs xs)[i]? = some (.int .u64 (h : Int)) := by simp [uvs, e]
theorem Tryz.info26 : (Tryz.prog.info? 26).map (fun i => (i.zero, i.size, i.bytes)) = some (some (.int .u64 0), 1, 8) := by kernel_rfl
section
variable {w : World} {ops : Array Oper} {rest : List Oper} {o : Oper} {a : Act} {Q : Exit → Act → World → Prop}
theorem push26 (hgd : o.guard = none) (s x : Operand) (ho : o.op = .call { callee := .builtin .append, args := #[s, x], argTypes := #[45, 45] })
    (B : Nat) (v : Value) (n : Nat) (xs : List Value) (hs : a.eval s = v) (hown : w.ownsRow B 26 1 v n xs) (u : Int) (hx : a.eval x = .slice (some ⟨w.heap.size, 0, none⟩) 1 1) (hn : n ≤ 100000000000) (hB : B ≤ w.heap.size)
    (h : ∀ g cap w', w'.ownsRow B 26 1 (.slice (some ⟨g, 0, none⟩) (n + 1) cap) (n + 1) (xs ++ [.int .u64 u]) → w.grownBy w' v.ownBlock → (v.ownBlock = some g ∨ w.heap.size ≤ g) → wpList Tryz.prog ops Q rest (a.put o.dst (.slice (some ⟨g, 0, none⟩) (n + 1) cap)) w') : wpList Tryz.prog ops Q (o :: rest) a (w.alloc (.cells #[.int .u64 u] 26)) := by
  obtain ⟨i0, hi, hz0, hz1, hz2⟩ := info_parts Tryz.info26
  exact wpList_pushN hgd s x 45 ho 26 i0 _ 1 8 Tryz.underlying45 hi hz0 hz1 hz2 rfl (by omega) (by omega) B v n xs hs hown [.int .u64 u] rfl (by simp [Value.oneCell']) hx hn hB h
end

set_option maxRecDepth 100000 in
set_option maxHeartbeats 1000000 in
/-- at, of a handle that the list lacks. -/
theorem rat_no {w : World} {a : Option Addr} {cp : Nat} {xs : List Nat} {H : Nat} (h : w.ownsRow 0 26 1 (.slice a xs.length cp) xs.length (uvs xs)) (hl : xs.length ≤ 1099511627776) (hno : H ∉ xs) :
    Calls Tryz.prog 80 #[.slice a xs.length cp, .int .u64 H] w fun y w' => y = .returned (.int .i64 (-1)) ∧ w = w' := by
  obtain ⟨ao, cc, hcv, _, _, _, hao⟩ := row_shape h
  simp at hcv
  obtain ⟨rfl, rfl⟩ := hcv
  have hcell : ∀ k, (hk : k < xs.length) → ∃ gg v, a = some ⟨gg, 0, none⟩ ∧ w.cell? ⟨gg, k, none⟩ = some (.int .u64 ((v : Nat) : Int)) ∧ v ≠ H := fun k hk => by
    obtain ⟨gg, rfl⟩ := hao (by omega)
    refine ⟨gg, xs[k], rfl, row_cell h _ _ (uvs_get (by simp [hk])), fun e => hno (e ▸ List.getElem_mem hk)⟩
  clear h hao hno
  generalize xs.length = n at *
  go_enter Tryz.func80, Tryz.ntmps80
  go_wp2
  go_loopw [5] (fun iv wr => ∃ (k : Nat), iv = .int .i64 k ∧ k ≤ n ∧ wr = w) (fun iv _ => n - (intOf iv).toNat)
  case atStart => exact ⟨0, rfl, by omega, rfl⟩
  case round =>
    obtain ⟨k, rfl, hk, rfl⟩ := hrel
    by_cases hk2 : k < n
    · obtain ⟨gg, v, rfl, hc, hv⟩ := hcell k hk2
      have hkz : (k : Int) < (n : Int) := by omega
      have hd : decide ((k : Int) < n) = true := by simpa using hkz
      have hne2 : decide (((v : Nat) : Int) = (H : Int)) = false := by simp; omega
      have hne3 : ((v : Int) == (H : Int)) = false := by simp; omega
      clear hcell
      go_wp2
      go_roundw
      case rel => exact ⟨k + 1, by go_num, by omega, trivial⟩
      case measure => simp [intOf]; omega
    · obtain rfl : k = n := by omega
      clear hcell
      go_wp2
      go_ret
      exact ⟨rfl, rfl⟩
end Go.Proofs.YtjkdflnnpdionaaGreat
/-
  The document's queue: New, Lay; the program's New; the law's small ones.
-/
namespace Go.Proofs.YtjkdflnnpdionaaGreat
open Go.RowKit Go.Great
set_option linter.unusedVariables false

theorem num_any (n : Int) (w : World) : Calls Tryz.prog 16 #[.int .i64 n] w fun e w' => e = .returned (.int .i64 n) ∧ w = w' := by
  go_enter Tryz.func16, Tryz.ntmps16
  go_wp2
  go_ret
  exact ⟨rfl, rfl⟩
theorem tmod_add (i n : Int) (h : 0 < n) : (i.tmod n + n) % n = i % n := by
  rw [Int.add_emod_right, Int.tmod_eq_emod]
  split
  · simp
  · have : ((n.natAbs : Nat) : Int) = n := by omega
    rw [this, Int.sub_emod_right, Int.emod_emod]
theorem within_any (i n : Int) (h1 : 1 ≤ n) (h2 : n ≤ 1099511627776) (w : World) : Calls Tryz.prog 18 #[.int .i64 i, .int .i64 n] w fun e w' => e = .returned (.int .i64 (i % n)) ∧ w = w' := by
  obtain ⟨r, hr⟩ : ∃ r, i.tmod n = r := ⟨_, rfl⟩
  have h3 : -n < r := by rw [← hr]; exact Int.lt_tmod_of_pos _ (by omega)
  have h4 : r < n := by rw [← hr]; exact Int.tmod_lt_of_pos _ (by omega)
  have h5 : Hid ((r + n) % n = i % n) := by rw [← hr]; exact tmod_add i n (by omega)
  go_enter Tryz.func18, Tryz.ntmps18
  go_wp2
  go_ret
  refine ⟨?_, rfl⟩
  rw [← h5.out]
  rfl

set_option maxRecDepth 100000 in
set_option maxHeartbeats 1000000 in
/-- The document's Lay of a handle that is new. -/
theorem rlay_new {w : World} {lb rb : Nat} {lv lsv : Value} {xs : List Nat} {H : Nat} (hb : Box w 123 lb #[.pointer (some ⟨rb, 0, none⟩), lv, lsv]) (hr : w.ownsRow 0 26 1 lv xs.length (uvs xs)) (hl : xs.length ≤ 1000000) (hno : H ∉ xs) :
    Calls Tryz.prog 71 #[.pointer (some ⟨lb, 0, none⟩), .int .u64 H] w fun y w' => y = .returned (.tuple #[]) ∧ Kp (fun k => k = lb ∨ lv.ownBlock = some k) w w' ∧ ∃ lv', Box w' 123 lb #[.pointer (some ⟨rb, 0, none⟩), lv', lsv] ∧ w'.ownsRow 0 26 1 lv' (xs.length + 1) (uvs (xs ++ [H])) ∧ (∀ k, lv'.ownBlock = some k → lv.ownBlock = some k ∨ w.heap.size ≤ k) := by
  obtain ⟨ao, cc, rfl, _, _, _, _⟩ := row_shape hr
  have hat := rat_no hr (by omega) hno
  have c1 := hb.cell 1
  simp at c1
  have hne : ∀ k, (Value.slice ao xs.length cc).ownBlock = some k → lb ≠ k := fun k hk e => by
    obtain ⟨cur, hc⟩ := row_block hr k hk
    exact ne_of_type hb hc (by decide) e
  have hlt := hb.lt
  obtain ⟨n, hn⟩ : ∃ n, xs.length = n := ⟨_, rfl⟩
  rw [hn] at hb hr hat c1 hne hl ⊢
  have HR : Hid (uvs (xs ++ [H]) = uvs xs ++ [.int .u64 (H : Int)]) := uvs_app xs H
  generalize uvs (xs ++ [H]) = us2 at *
  generalize uvs xs = us at *
  clear hno hn
  go_enter Tryz.func71, Tryz.ntmps71
  go_wp2_with (first | (go_at_call 80; go_must (refine hat.mono ?_); rintro y w' ⟨rfl, rfl⟩; (have ca : ∀ o, (w.alloc o).cell? ⟨lb, 1, none⟩ = some (.slice ao n cc) := fun o => gb_cellN (World.grownBy_alloc w o none) c1)) | (at_builtin; go_must (refine push26 rfl _ _ rfl 0 (.slice ao n cc) n us (by rfl) hr (H : Int) (by rfl) (by omega) (Nat.zero_le _) ?_); intro g1 cap1 w4 ho4 hg4 hat4; (have hb4 : Hid (Box w4 123 lb #[.pointer (some ⟨rb, 0, none⟩), .slice ao n cc, lsv]) := hb.kept hg4 (fun e => hne _ e.symm rfl)); (have e1 := hb4.out.cell 1); simp at e1; (have z1 := hb4.out.fz 1)) | fail)
  go_end0
  refine ⟨rfl, ?_, .slice (some ⟨g1, 0, none⟩) (n + 1) cap1, hb4.out.set 1 _, ?_, fun k hk => ?_⟩
  · refine ((Kp.refl _ _).step hg4 (fun i hi => .inl (.inr hi))).step (gb_setCell (gb_refl _ (some lb)) _) (fun i hi => .inl (.inl (by simpa using hi.symm)))
  · rw [HR.out]
    refine row_kept ho4 (gb_setCell (gb_refl _ (some lb)) _) ?_
    obtain ⟨cur, hc⟩ := row_block ho4 g1 rfl
    have hne4 : g1 ≠ lb := ne_of_type hc hb4.out (by decide)
    simp [Value.ownBlock, hne4]
  · simp [Value.ownBlock] at hk
    subst hk
    exact hat4

def nil9 : Array Value := #[.slice none 0 0, .slice none 0 0, .slice none 0 0, .slice none 0 0, .slice none 0 0, .slice none 0 0, .slice none 0 0, .slice none 0 0, .slice none 0 0]
theorem run_make92 (w : World) : (Instr.makeSlice 121 (.int .i64 9) (.int .i64 9)).run Tryz.prog w = .ok (.slice (some ⟨w.heap.size, 0, none⟩) 9 9) (w.alloc (.cells nil9 45)) := by
  obtain ⟨i0, hi, hz0, hz1, hz2⟩ := info_parts (show (Tryz.prog.info? 45).map (fun i => (i.zero, i.size, i.bytes)) = some (some (.slice none 0 0), 1, 24) by kernel_rfl)
  have := run_make (P := Tryz.prog) w 121 45 i0 (.slice none 0 0) Tryz.underlying121 hi hz0 .i64 .i64 9 9 (by omega) (by omega) (by rw [hz2]; omega) (by omega)
  rw [this, hz1]
  have e : (madeCells (Value.slice none 0 0).cells (Int.toNat 9 * 1)) = nil9 := by kernel_rfl
  rw [e]
  rfl
set_option maxRecDepth 100000 in
set_option maxHeartbeats 1000000 in
theorem rnew6 {w : World} {rb : Nat} {F : Nat → Prop} {Q : Rl} {c d e : Int} {R : Rb} (h : IsR w rb F Q c d e R) (hR : RFit R) (h3 : R.n = 3) : Calls Tryz.prog 58 #[.pointer (some ⟨rb, 0, none⟩)] w fun y w' => ∃ (lb lsb : Nat), y = .returned (.pointer (some ⟨lb, 0, none⟩)) ∧ w.grownBy w' none ∧ w.heap.size ≤ lb ∧ Box w' 123 lb #[.pointer (some ⟨rb, 0, none⟩), .slice none 0 0, .slice (some ⟨lsb, 0, none⟩) 9 9] ∧ w.heap.size ≤ lsb ∧ lsb ≠ lb ∧ Box w' 45 lsb nil9 := by
  obtain ⟨sb, sc, ob, oc, vb, vc, hsv, hov, hrv⟩ := h.shapes hR.n0 hR.m0
  have c5 := h.sc 5
  simp [rset, hsv] at c5
  rw [h3] at c5
  have hmk := run_make92 w
  have hfW := World.grownBy_alloc w (.cells nil9 45) none
  have hbn := Box.new w 45 nil9
  have hs1 : Hid ((w.alloc (.cells nil9 45)).heap.size = w.heap.size + 1) := (by simp : (w.alloc (.cells nil9 45)).heap.size = w.heap.size + 1)
  generalize w.alloc (.cells nil9 45) = W at *
  clear h hR hsv hov hrv h3
  go_enter Tryz.func58, Tryz.ntmps58
  go_wp2
  go_ret
  have hs2 := hs1.out
  exact ⟨W.heap.size, w.heap.size, rfl, gb_trans hfW (World.grownBy_alloc _ _ _), by omega, Box.new _ _ _, by omega, by omega, hbn.kept (World.grownBy_alloc _ _ none) (by simp)⟩

def L0 : Ls := ⟨fun _ _ => 0, fun _ _ => 0, fun _ _ => 0⟩
theorem run_make86 (w : World) : (Instr.makeSlice 115 (.int .i64 3) (.int .i64 3)).run Tryz.prog w = .ok (.slice (some ⟨w.heap.size, 0, none⟩) 3 3) (w.alloc (.cells (rng 3 (lsC L0)).toArray 260)) := by
  obtain ⟨i0, hi, hz0, hz1, hz2⟩ := info_parts (show (Tryz.prog.info? 260).map (fun i => (i.zero, i.size, i.bytes)) = some (some (.agg #[.int .u64 0, .int .u64 0, .int .i64 0, .int .u64 0, .int .u64 0, .int .i64 0, .int .u64 0, .int .u64 0, .int .i64 0]), 9, 72) by kernel_rfl)
  have := run_make (P := Tryz.prog) w 115 260 i0 (.agg #[.int .u64 0, .int .u64 0, .int .i64 0, .int .u64 0, .int .u64 0, .int .i64 0, .int .u64 0, .int .u64 0, .int .i64 0]) Tryz.underlying115 hi hz0 .i64 .i64 3 3 (by omega) (by omega) (by rw [hz2]; omega) (by omega)
  rw [this, hz1]
  have e : (madeCells (Value.agg #[.int .u64 0, .int .u64 0, .int .i64 0, .int .u64 0, .int .u64 0, .int .i64 0, .int .u64 0, .int .u64 0, .int .i64 0]).cells (Int.toNat 3 * 9)) = (rng 3 (lsC L0)).toArray := by kernel_rfl
  rw [e]
  rfl

set_option maxRecDepth 100000 in
set_option maxHeartbeats 1000000 in
/-- The program's New. -/
theorem qnew_ok {w : World} {sb : Nat} {F : Nat → Prop} {B : Bl} {b c d e f g : Int} {A : Ab} {zs : List Int} (h : IsS w sb F B b c d e f g A zs) (hI : Inv A) (h3 : A.n = 3) :
    Calls Tryz.prog 14 #[.pointer (some ⟨sb, 0, none⟩)] w fun y w' => ∃ qb gl gc, y = .returned (.tuple #[.pointer (some ⟨qb, 0, none⟩), .int .i64 0]) ∧ w.grownBy w' none ∧ w.heap.size ≤ qb ∧ w.heap.size ≤ gl ∧ QM w' sb qb gl gc F B b c d e f g A zs [] (fun _ => ⟨0, 0, 0, 0, 0, 0, 0, 0, 0, 0, 0, [], []⟩) (fun _ => 0) (fun _ => 0) (fun _ => 0) L0 := by
  have hcl := classes_20 h hI.toSzs
  rw [h3] at hcl
  have hmk := run_make86 w
  have hlt := h.lt
  have hfz : (w.alloc (.cells (rng 3 (lsC L0)).toArray 260)).heap[w.heap.size]? = some (.cells (rng 3 (lsC L0)).toArray 260 (0, 0)) := heap_alloc_new w _
  have hs1 : (w.alloc (.cells (rng 3 (lsC L0)).toArray 260)).heap.size = w.heap.size + 1 := by simp
  have hf1 := World.grownBy_alloc w (.cells (rng 3 (lsC L0)).toArray 260) none
  generalize w.alloc (.cells (rng 3 (lsC L0)).toArray 260) = W at *
  have hfin : Hid (∀ W2, W.grownBy W2 none → Box W2 118 W.heap.size #[.pointer (some ⟨sb, 0, none⟩), .slice (some ⟨w.heap.size, 0, none⟩) 3 3] → QM W2 sb W.heap.size w.heap.size 3 F B b c d e f g A zs [] (fun _ => ⟨0, 0, 0, 0, 0, 0, 0, 0, 0, 0, 0, [], []⟩) (fun _ => 0) (fun _ => 0) (fun _ => 0) L0) := fun W2 hf2 hb => by
    refine ⟨h.kept0 (gb_trans hf1 hf2), hI, by rw [h3]; exact hb, ?_, fun hF => ?_, fun hF => ?_, fun H hH => by simp at hH, fun H hH => by simp at hH⟩
    · rw [h3]
      have hbl : W2.heap[w.heap.size]? = some (.cells (rng 3 (lsC L0)).toArray 260 (0, 0)) := by
        rw [hf2.block _ (by omega) (by simp)]; exact hfz
      refine ⟨by rw [rng_len (lsC_len L0)], .inr ⟨w.heap.size, 3, _, rfl, Nat.zero_le _, hbl, by omega, by unfold maxLen; omega, ?_, ?_⟩⟩
      · simp [rng_len (lsC_len L0)]
      · have : (rng 3 (lsC L0)).length = 27 := by rw [rng_len (lsC_len L0)]
        simp [List.take_of_length_le, this]
    · have := hlt _ hF; omega
    · have := hlt _ hF; omega
  clear h hlt h3
  go_enter Tryz.func14, Tryz.ntmps14
  go_wp2_with (first | (go_at_call 62; go_must (refine hcl.mono ?_); rintro y w' ⟨rfl, rfl⟩) | fail)
  go_ret2
  have hq := hfin.out _ (World.grownBy_alloc _ _ _) (Box.new _ _ _)
  rw [hs1] at hq
  exact ⟨w.heap.size + 1, w.heap.size, 3, rfl, gb_trans hf1 (World.grownBy_alloc _ _ _), by omega, by omega, hq⟩
theorem qnew_nil (w : World) : Calls Tryz.prog 14 #[.pointer none] w fun y w' => y = .returned (.tuple #[.pointer none, .int .i64 1]) ∧ w = w' := by
  go_enter Tryz.func14, Tryz.ntmps14
  go_wp2
  go_ret2
  exact ⟨rfl, rfl⟩

set_option maxRecDepth 100000 in
theorem setup_any (w : World) : Calls Tryz.prog 55 #[] w fun y w' => y = .returned (.tuple #[.agg #[.int .i64 4096, .int .i64 4, .int .i64 200, .int .i64 64, .int .i64 256, .int .i64 0, .int .i64 0], .agg #[.int .i64 4096, .int .i64 4, .int .i64 200, .int .i64 64, .int .i64 256]]) ∧ w.grownBy w' none := by
  have h1 := Box.new w 105 #[.int .i64 4096, .int .i64 4, .int .i64 200, .int .i64 64, .int .i64 256, .int .i64 0, .int .i64 0]
  have f1 := World.grownBy_alloc w (.cells #[.int .i64 4096, .int .i64 4, .int .i64 200, .int .i64 64, .int .i64 256, .int .i64 0, .int .i64 0] 105) none
  have hs : (w.alloc (.cells #[.int .i64 4096, .int .i64 4, .int .i64 200, .int .i64 64, .int .i64 256, .int .i64 0, .int .i64 0] 105)).heap.size = w.heap.size + 1 := by simp
  go_enter Tryz.func55, Tryz.ntmps55
  go_wp2
  generalize w.alloc (.cells #[.int .i64 4096, .int .i64 4, .int .i64 200, .int .i64 64, .int .i64 256, .int .i64 0, .int .i64 0] 105) = W at *
  have h2 := Box.new W 107 #[.int .i64 4096, .int .i64 4, .int .i64 200, .int .i64 64, .int .i64 256]
  have f2 := World.grownBy_alloc W (.cells #[.int .i64 4096, .int .i64 4, .int .i64 200, .int .i64 64, .int .i64 256] 107) none
  have h12 := h1.kept f2 (by simp)
  rw [hs] at h2
  generalize W.alloc (.cells #[.int .i64 4096, .int .i64 4, .int .i64 200, .int .i64 64, .int .i64 256] 107) = V at *
  have a0 := h12.cell 0
  have a1 := h12.cell 1
  have a2 := h12.cell 2
  have a3 := h12.cell 3
  have a4 := h12.cell 4
  have a5 := h12.cell 5
  have a6 := h12.cell 6
  have b0 := h2.cell 0
  have b1 := h2.cell 1
  have b2 := h2.cell 2
  have b3 := h2.cell 3
  have b4 := h2.cell 4
  simp at a0 a1 a2 a3 a4 a5 a6 b0 b1 b2 b3 b4
  exact bodyPost_ret (v := .tuple #[.agg #[.int .i64 4096, .int .i64 4, .int .i64 200, .int .i64 64, .int .i64 256, .int .i64 0, .int .i64 0], .agg #[.int .i64 4096, .int .i64 4, .int .i64 200, .int .i64 64, .int .i64 256]]) (by simp [results, Tryz.results55, go_sem, a0, a1, a2, a3, a4, a5, a6, b0, b1, b2, b3, b4]) rfl ⟨rfl, gb_trans f1 f2⟩
end Go.Proofs.YtjkdflnnpdionaaGreat

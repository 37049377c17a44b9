import Derived.Test.YtohneboimmcocaaGreatZj
import Derived.Test.YtohneboimmcocaaGreatSx
/-
  Both Sets take; the document's queue: New, Lay.
-/
namespace Go.Proofs.YtohneboimmcocaaGreat
open Go.RowKit
set_option linter.unusedVariables false

theorem q_cfg : Cfg 4096 4 200 64 256 := ⟨⟨12, by decide, by decide, by decide⟩, by decide, by decide, wk_good, by decide, by decide, by decide⟩
theorem q_refd : Refd ((4096 : Nat) : Int) ((4 : Nat) : Int) ((200 : Nat) : Int) ((64 : Nat) : Int) ((256 : Nat) : Int) 0 := by
  refine .inr ⟨⟨⟨12, by decide, by decide, by decide⟩, by decide, by decide, by decide, by decide, by decide, by decide, by decide, by decide, by decide⟩, .inr ⟨3, ⟨by decide, ?_⟩, .inr ⟨by decide, rfl⟩⟩⟩
  exact wk_cls
def qA : Ab := A0 4096 4 3 (chain 200 (limOf 256) 64)
theorem q_invA : Inv qA := inv_new q_cfg (by decide) wk_cls
def qR : Rb := R0 4096 4 3 (chain 200 (limOf 256) 64)
theorem qR_fit : RFit qR := by
  have hz := q_invA.toSzs
  refine ⟨by decide, by decide, by decide, by decide, fun i => by show 0 < 4294967296; omega, fun i hi => by simp [qR, R0] at hi, by decide, fun i hi => hz.lo i hi, fun i hi => ?_, by decide, fun i hi => by show ([] : List Nat).length ≤ _; simp⟩
  have := hz.hi i hi
  exact Nat.le_trans this (by decide)
theorem rep_new (ps m n : Nat) (sz : Nat → Nat) : Rep (A0 ps m n sz) (R0 ps m n sz) :=
  ⟨rfl, rfl, rfl, rfl, fun p hp => rfl, fun i hi => absurd hi (Nat.not_lt_zero _), fun i j hi => absurd hi (Nat.not_lt_zero _), fun p k hp => absurd hp (Nat.not_lt_zero _), fun c hc i hi => absurd hi (by show i ∉ ([] : List Nat); simp), fun c hc => rfl, Nat.zero_le _⟩
theorem q_rep : Rep qA qR := rep_new _ _ _ _
theorem q_fil : Fil qA qA 0 0 0 := Fil.zero q_invA rfl (fun _ => rfl) (by show 0 < 3; omega)
theorem q_each : qA.each 0 = 64 := by decide +kernel
theorem q_sz : qA.sz 0 = 64 := by decide +kernel
theorem q_plN {i : Nat} (h : i < 256) : plN qA 0 i = 64 * i := by
  unfold plN
  rw [q_each, q_sz]
  show i / 64 * 4096 + _ = _
  omega
theorem q_hN {i : Nat} (h : i < 256) : hN qA 0 i = 8 * i + 1 := by
  unfold hN
  rw [q_plN h]
  omega

section
variable {w : World} {sb : Nat} {F : Nat → Prop} {B : Bl} {b c d e f g : Int} {A A0 : Ab} {zs : List Int}

theorem fil_take2 {k i fr : Nat} (hF : Fil A0 A k i fr) (hk : k < A.n) (hi : i < A.m * A.each k) :
    ∃ A' fr', Fil A0 A' k (i + 1) fr' ∧
      (∀ w sb F B b c d e f g zs, IsS w sb F B b c d e f g A zs → Calls Tryz.prog 88 #[.pointer (some ⟨sb, 0, none⟩), .int .i64 k] w fun y w' => y = .returned (.tuple #[.int .u64 (hN A0 k i), .int .i64 0]) ∧ Kp F w w' ∧ ∃ F' B', IsS w' sb F' B' b c d e f g A' (headZ zs (plN A0 k i) 0) ∧ ∀ k, F' k → F k ∨ w.heap.size ≤ k) ∧
      (∀ w rb G Q c d e R, IsR w rb G Q c d e R → RFit R → Rep A R → Calls Tryz.prog 89 #[.pointer (some ⟨rb, 0, none⟩), .int .i64 k] w fun y w' => y = .returned (.tuple #[.int .u64 (hN A0 k i), .int .i64 0]) ∧ Kp G w w' ∧ ∃ G' Q' R', IsR w' rb G' Q' c d e R' ∧ RFit R' ∧ Rep A' R' ∧ ∀ k, G' k → G k ∨ w.heap.size ≤ k) := by
  have hc := hF.cnt
  have he := hF.frl
  by_cases hfr : fr = 0
  · subst hfr
    have hi' : i = A.np * A.each k := by omega
    have hnp : A.np < A.m := by
      rcases Nat.lt_or_ge A.np A.m with h1 | h1
      · exact h1
      · have := Nat.mul_le_mul_right (A.each k) h1
        omega
    have hr0 : A.row k = [] := by rw [hF.row]; simp
    have hIo := hF.inv.own hk hnp
    have hrl : ((A.owned k).row k).getLast? = some ((A.owned k).num A.np 0) := by
      rw [owned_row, if_pos rfl, hr0, List.nil_append, nums_last A k (by omega), owned_num2]
    have hIt := hIo.take (c := k) (p := A.np) (k := 0) (by rw [owned_n]; exact hk) (by rw [owned_np]; omega) (by rw [owned_own, if_pos rfl]) (by rw [owned_each]; omega) (by rw [owned_tkn, if_pos rfl]) hrl
    obtain ⟨d1, d2⟩ := divmod (A.each k) A.np 0 (by omega)
    rw [Nat.add_zero] at d1 d2
    have hpl : (A.owned k).place A.np 0 = plN A0 k i := by
      unfold Ab.place plN
      rw [owned_ps, owned_sz, owned_own, if_pos rfl, hi', ← hF.each k, ← hF.ps, ← hF.sz, d1, d2]
    have hh : (A.owned k).hdl A.np 0 = hN A0 k i := by
      unfold Ab.hdl hN
      rw [owned_gen, if_pos rfl, ← hpl]
      unfold Ab.num
      simp
    refine ⟨_, _, hF.page hk hIt, fun w sb F B b c d e f g zs h => ?_, fun w rb G Q c d e R h hR hrep => ?_⟩
    · have := take_page h hF.inv hk hr0 hnp
      rw [hh, hpl, owned_gen, if_pos rfl] at this
      exact this
    · have hrr : R.row k = [] := by
        have h1 := hrep.row k hk
        rw [hr0] at h1
        exact List.map_eq_nil_iff.1 h1
      have hee : R.ps / R.sz k = A.each k := by unfold Ab.each; rw [hrep.ps, hrep.sz]
      have hNb : R.N + R.ps / R.sz k ≤ 16777216 := by
        have h1 := hrep.nb
        have h2 : A.each k ≤ A.ps / 64 := by unfold Ab.each; exact Nat.div_le_div_left (hF.inv.lo k hk) (by omega)
        have h3 : (A.np + 1) * (A.ps / 64) ≤ 1024 * 16384 := by
          refine Nat.mul_le_mul (by have := hF.inv.mm; omega) ?_
          have := hR.ps
          rw [hrep.ps] at this
          omega
        rw [Nat.add_mul, Nat.one_mul] at h3
        rw [hee]; omega
      have h1 := hrep.paged hF.inv hk hnp
      have hNlt : R.N < (R.page k A.np).N := by rw [(page_facts R k A.np).1, hee]; omega
      have hplR : (R.page k A.np).pl R.N = (A.owned k).place A.np 0 := by
        have := (page_new R k A.np 0 (by rw [hee]; omega)).1
        rw [Nat.add_zero] at this
        rw [this, hrep.ps, hrep.sz]
        unfold Ab.place
        rw [owned_ps, owned_sz, owned_own, if_pos rfl]
      have hof := h1.of hIo.fit.toFit1 hNlt (p := A.np) (k := 0) (by rw [owned_np]; omega) (by rw [owned_each, owned_own, if_pos rfl]; omega) hplR
      have h2 := h1.took hIo.fit.toFit1 (c := k) (p := A.np) (k := 0) (by rw [owned_n]; exact hk) (by rw [owned_np]; omega) (by rw [owned_own, if_pos rfl]) (by rw [owned_each]; omega) hNlt hplR
      have := rtake_page h hR (i := k) (p := A.np) (by rw [hrep.n]; exact hk) hrr (by rw [hrep.m]; exact hnp) (by rw [hrep.ow _ hnp, if_neg (by omega)]; decide) (fun q hq => by rw [hrep.ow q (by omega), if_pos hq]; omega) hNb (by rw [hee]; omega)
      rw [hof.2.2.2, hh] at this
      refine this.mono ?_
      rintro y w' ⟨rfl, hK, F', Q', hS, hF'⟩
      exact ⟨rfl, hK, F', Q', _, hS, took_fit (page_fit hR (by rw [hrep.n]; exact hk) (by rw [hrep.m]; exact hnp) hNb (by rw [hrr]; simp; omega)) k R.N, h2, hF'⟩
  · have hnp : 0 < A.np := by
      rcases Nat.eq_zero_or_pos A.np with e1 | e1
      · rw [e1] at hc; simp at hc; omega
      · exact e1
    obtain ⟨q, hq⟩ : ∃ q, A.np = q + 1 := ⟨A.np - 1, by omega⟩
    have hq1 : A.np - 1 = q := by omega
    have hmul : A.np * A.each k = q * A.each k + A.each k := by rw [hq, Nat.add_mul, Nat.one_mul]
    have hi' : i = q * A.each k + (A.each k - fr) := by omega
    obtain ⟨d1, d2⟩ := divmod (A.each k) q (A.each k - fr) (by omega)
    have hoq := hF.own q (by omega)
    have htq : A.tkn q (A.each k - fr) = false := by
      rw [hF.tkn q _ (by omega) (by omega)]; simp; omega
    have hrl : (A.row k).getLast? = some (A.num q (A.each k - fr)) := by
      rw [hF.row, if_neg hfr, hq1]; exact rowF_last A k q _ (by omega)
    have hIt := hF.inv.take hk (p := q) (k := A.each k - fr) (by omega) hoq (by omega) htq hrl
    have hpl : A.place q (A.each k - fr) = plN A0 k i := by
      unfold Ab.place plN
      rw [hoq, hi', ← hF.each k, ← hF.ps, ← hF.sz, d1, d2]
    have hh : A.hdl q (A.each k - fr) = hN A0 k i := by
      unfold Ab.hdl hN
      rw [hF.gen q _ (by omega), ← hpl]
      unfold Ab.num
      simp
    have hft := hF.taken hk (by omega) (by rw [hq1]; exact hIt)
    rw [hq1] at hft
    refine ⟨_, _, hft, fun w sb F B b c d e f g zs h => ?_, fun w rb G Q c d e R h hR hrep => ?_⟩
    · have := take_row h hF.inv.fit hk (p := q) (k := A.each k - fr) (by omega) hoq (by omega) htq hrl
      rw [hh, hpl, hF.gen q _ (by omega)] at this
      refine this.mono ?_
      rintro y w' ⟨rfl, ⟨B', _, hS⟩, hK⟩
      exact ⟨rfl, hK, F, B', hS, fun k hk => .inl hk⟩
    · obtain ⟨x, n1, hx, hplx, hlen, hlast⟩ := hrep.last hF.inv.fit.toFit1 hk (p := q) (k := A.each k - fr) (by omega) hoq (by omega) hrl
      have hof := hrep.of hF.inv.fit.toFit1 hx (p := q) (k := A.each k - fr) (by omega) (by rw [hoq]; omega) hplx
      have h2 := hrep.took hF.inv.fit.toFit1 hk (p := q) (k := A.each k - fr) (by omega) hoq (by omega) hx hplx
      have := rtake_row h hR (i := k) (by rw [hrep.n]; exact hk) hlen hlast hx
      rw [hof.2.2.2, hh] at this
      refine this.mono ?_
      rintro y w' ⟨rfl, hK, Q', hS⟩
      exact ⟨rfl, hK, G, Q', _, hS, took_fit hR k x, h2, fun k hk => .inl hk⟩
end

def uvs (xs : List Nat) : List Value := xs.map fun (n : Nat) => Value.int .u64 (n : Int)
theorem uvs_app (xs : List Nat) (h : Nat) : uvs (xs ++ [h]) = uvs xs ++ [.int .u64 (h : Int)] := by simp [uvs]
theorem uvs_get {xs : List Nat} {i h : Nat} (e : xs[i]? = some h) : (uvs xs)[i]? = some (.int .u64 (h : Int)) := by simp [uvs, e]
theorem Tryz.info27 : (Tryz.prog.info? 27).map (fun i => (i.zero, i.size, i.bytes)) = some (some (.int .u64 0), 1, 8) := by kernel_rfl
section
variable {w : World} {ops : Array Oper} {rest : List Oper} {o : Oper} {a : Act} {Q : Exit → Act → World → Prop}
theorem push26 (hgd : o.guard = none) (s x : Operand) (ho : o.op = .call { callee := .builtin .append, args := #[s, x], argTypes := #[38, 38] })
    (B : Nat) (v : Value) (n : Nat) (xs : List Value) (hs : a.eval s = v) (hown : w.ownsRow B 27 1 v n xs) (u : Int) (hx : a.eval x = .slice (some ⟨w.heap.size, 0, none⟩) 1 1) (hn : n ≤ 100000000000) (hB : B ≤ w.heap.size)
    (h : ∀ g cap w', w'.ownsRow B 27 1 (.slice (some ⟨g, 0, none⟩) (n + 1) cap) (n + 1) (xs ++ [.int .u64 u]) → w.grownBy w' v.ownBlock → (v.ownBlock = some g ∨ w.heap.size ≤ g) → wpList Tryz.prog ops Q rest (a.put o.dst (.slice (some ⟨g, 0, none⟩) (n + 1) cap)) w') : wpList Tryz.prog ops Q (o :: rest) a (w.alloc (.cells #[.int .u64 u] 27)) := by
  obtain ⟨i0, hi, hz0, hz1, hz2⟩ := info_parts Tryz.info27
  exact wpList_pushN hgd s x 38 ho 27 i0 _ 1 8 Tryz.underlying38 hi hz0 hz1 hz2 rfl (by omega) (by omega) B v n xs hs hown [.int .u64 u] rfl (by simp [Value.oneCell']) hx hn hB h
end

set_option maxRecDepth 100000 in
set_option maxHeartbeats 1000000 in
/-- at, of a handle that the list lacks. -/
theorem rat_no {w : World} {a : Option Addr} {cp : Nat} {xs : List Nat} {H : Nat} (h : w.ownsRow 0 27 1 (.slice a xs.length cp) xs.length (uvs xs)) (hl : xs.length ≤ 1099511627776) (hno : H ∉ xs) :
    Calls Tryz.prog 86 #[.slice a xs.length cp, .int .u64 H] w fun y w' => y = .returned (.int .i64 (-1)) ∧ w = w' := by
  obtain ⟨ao, cc, hcv, _, _, _, hao⟩ := row_shape h
  simp at hcv
  obtain ⟨rfl, rfl⟩ := hcv
  have hcell : ∀ k, (hk : k < xs.length) → ∃ gg v, a = some ⟨gg, 0, none⟩ ∧ w.cell? ⟨gg, k, none⟩ = some (.int .u64 ((v : Nat) : Int)) ∧ v ≠ H := fun k hk => by
    obtain ⟨gg, rfl⟩ := hao (by omega)
    refine ⟨gg, xs[k], rfl, row_cell h _ _ (uvs_get (by simp [hk])), fun e => hno (e ▸ List.getElem_mem hk)⟩
  clear h hao hno
  generalize xs.length = n at *
  go_enter Tryz.func86, Tryz.ntmps86
  go_wp2
  go_loopw [5] (fun iv wr => ∃ (k : Nat), iv = .int .i64 k ∧ k ≤ n ∧ wr = w) (fun iv _ => n - (intOf iv).toNat)
  case atStart => exact ⟨0, rfl, by omega, rfl⟩
  case round =>
    obtain ⟨k, rfl, hk, rfl⟩ := hrel
    by_cases hk2 : k < n
    · obtain ⟨gg, v, rfl, hc, hv⟩ := hcell k hk2
      have hkz : (k : Int) < (n : Int) := by omega
      have hd : decide ((k : Int) < n) = true := by simpa using hkz
      have hne2 : decide (((v : Nat) : Int) = (H : Int)) = false := by simp; omega
      have hne3 : ((v : Int) == (H : Int)) = false := by simp; omega
      clear hcell
      go_wp2
      go_roundw
      case rel => exact ⟨k + 1, by go_num, by omega, trivial⟩
      case measure => simp [intOf]; omega
    · obtain rfl : k = n := by omega
      clear hcell
      go_wp2
      go_ret
      exact ⟨rfl, rfl⟩
end Go.Proofs.YtohneboimmcocaaGreat

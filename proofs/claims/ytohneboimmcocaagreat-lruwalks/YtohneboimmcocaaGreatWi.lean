import Derived.RangeFuncNested
import Derived.RangeFuncBound
import Derived.RangeFuncCalls
import Derived.RangeFuncLeaves
import Derived.Shelf.Abstract
import Derived.Shelf.RegionOpen
import Derived.WalkKit
import Derived.OwnWalkIn
import Derived.TacticsInMore
import Derived.LoopNIn
import Derived.LoopIn
import Derived.Test.YtohneboimmcocaaGreatPd
/-
  Lru: the row of a class, as an iterator.
-/
namespace Go.Proofs.YtohneboimmcocaaGreat
open Go.RowKit Go.Shelf
set_option linter.unusedVariables false
attribute [local go_sem] Oper.semAt_some

def rowN (X : Nat → Nat → List Nat) (ci : Nat) : List Nat := (X ci 2).reverse ++ (X ci 1).reverse ++ (X ci 0).reverse
/-- What has come ahead of a kind. -/
def rowU (X : Nat → Nat → List Nat) (ci : Nat) (k : Nat) : List Nat := if k = 0 then rowN X ci else if k = 1 then (X ci 2).reverse ++ (X ci 1).reverse else if k = 2 then (X ci 2).reverse else []
/-- What a round keeps. -/
structure KI (n₀ Bl Bc : Nat) (W W' : World) : Prop where
  bel : Below n₀ W W'
  bx : ∀ k, k = Bl ∨ k = Bc → W'.heap[k]? = W.heap[k]?
theorem KI.trans {n₀ Bl Bc : Nat} {A B C : World} (h : KI n₀ Bl Bc A B) (k : KI n₀ Bl Bc B C) : KI n₀ Bl Bc A C := ⟨h.bel.trans k.bel, fun i hi => (k.bx i hi).trans (h.bx i hi)⟩
theorem kp_below {n₀ : Nat} {w W : World} (h : Below n₀ w W) : Kp (fun k => n₀ ≤ k) w W := ⟨h.os, h.tape, h.output, h.size, fun k _ hk => h.block k (by omega)⟩
theorem KI.grown {n₀ Bl Bc : Nat} {A B : World} (h : A.grownBy B none) (h1 : n₀ ≤ A.heap.size) (h2 : Bl < A.heap.size) (h3 : Bc < A.heap.size) : KI n₀ Bl Bc A B :=
  ⟨⟨h.os, h.tape, h.output, h.size, fun k hk => h.block k (by omega) (by simp)⟩, fun k hk => h.block k (by rcases hk with rfl | rfl <;> assumption) (by simp)⟩

section
variable {w : World} {xb sb qb gl gc : Nat} {F : Nat → Prop} {B : Bl} {b c d e f g : Int} {A : Ab} {m : List Int} {T : List Nat} {bs : Nat → It} {cls : Nat → Nat} {X : Nat → Nat → List Nat} {mk : Nat → Nat} {hot warm : Nat}
/-- It lies below. -/
structure LB (w : World) (n₀ : Nat) (xb sb qb gl gc : Nat) (F : Nat → Prop) (B : Bl) (b c d e f g : Int) (A : Ab) (m : List Int) (T : List Nat) (bs : Nat → It) (cls : Nat → Nat) (X : Nat → Nat → List Nat) (mk : Nat → Nat) (hot warm : Nat) : Prop where
  lq : LQ w xb sb qb gl gc F B b c d e f g A m T bs cls X mk hot warm
  f : ∀ k, F k → k < n₀
  x : xb < n₀
  q : qb < n₀
  g : gl < n₀
theorem LQ.lb (h : LQ w xb sb qb gl gc F B b c d e f g A m T bs cls X mk hot warm) : LB w w.heap.size xb sb qb gl gc F B b c d e f g A m T bs cls X mk hot warm := by
  obtain ⟨p, n, s, L, ⟨zs, hz, hq⟩, hI⟩ := h.ql.ex
  refine ⟨h, hq.iss.lt, h.bx.lt, hq.box.lt, ?_⟩
  obtain ⟨cur, hc⟩ := row_block hq.row gl rfl
  exact lt_of_block hc
theorem LB.below {n₀ : Nat} {W : World} (h : LB w n₀ xb sb qb gl gc F B b c d e f g A m T bs cls X mk hot warm) (hb : Below n₀ w W) : LB W n₀ xb sb qb gl gc F B b c d e f g A m T bs cls X mk hot warm := by
  have hK := kp_below hb
  have h1 := h.x
  have h2 := h.q
  have h3 := h.g
  exact ⟨⟨h.lq.ql.kept hK (fun k hk hn => by have := h.f k hk; omega) (by omega) (by omega), hK.box h.lq.bx (by omega), h.lq.nx, h.lq.ng, h.lq.mks⟩, h.f, h.x, h.q, h.g⟩

set_option maxRecDepth 100000 in
set_option maxHeartbeats 4000000 in
theorem row1_in {n₀ : Nat} (n : Nat) (hn : 1 ≤ n) (l Bl Bc : Nat) {ci : Nat} (hc : ci < A.n) (J Jx : List { H : Nat // H ∈ T } → World → Prop) (N : Nat) (hN : (rowN X ci).length ≤ N)
    (hY : ∀ pre x W, J pre W → pre.length < N → YieldAt Fence.wide (n - 1) Tryz.prog l #[.int .u64 (x.1 : Nat)] W fun e W' =>
      (e = .returned (.bool true) ∧ J (pre ++ [x]) W' ∧ KI n₀ Bl Bc W W') ∨ (e = .returned (.bool false) ∧ Jx (pre ++ [x]) W'))
    (W : World) (hn₀ : n₀ ≤ W.heap.size) (hBl : Bl < W.heap.size) (hBc : Bc < W.heap.size) (hJ : AbidesFrom W.heap.size J) (c1 : W.cell? ⟨Bl, 0, none⟩ = some (.pointer (some ⟨xb, 0, none⟩))) (c2 : W.cell? ⟨Bc, 0, none⟩ = some (.int .i64 ci))
    (hL : LB W n₀ xb sb qb gl gc F B b c d e f g A m T bs cls X mk hot warm) (h0 : J [] W) :
    CallsIn Fence.wide n Tryz.prog 116 #[.func (.yield l) #[] #[], .pointer (some ⟨Bl, 0, none⟩), .pointer (some ⟨Bc, 0, none⟩)] W fun e W' => (∃ v, e = .returned v) ∧
      ((∃ ys : List { H : Nat // H ∈ T }, ys.map Subtype.val = rowN X ci ∧ J ys W') ∨ (∃ pre : List { H : Nat // H ∈ T }, pre.map Subtype.val <+: rowN X ci ∧ Jx pre W')) := by
  refine callsIn_of_wp Tryz.func116 rfl trivial ?_ rfl
  simp only [Tryz.ntmps116, List.size_toArray, List.length_cons, List.length_nil, Nat.reduceAdd, Nat.reduceSub, Array.replicate_succ, Array.replicate_zero, List.push_toArray, List.append_toArray, List.nil_append, List.cons_append]
  gi_wp2
  gi_loopw [4] (fun v wr => ∃ k : Nat, k ≤ 3 ∧ v = .int .i64 k ∧ KI n₀ Bl Bc W wr ∧ ∃ ys : List { H : Nat // H ∈ T }, ys.map Subtype.val = rowU X ci k ∧ J ys wr) (fun v _ => (intOf v).toNat)
  case atStart => exact ⟨3, by omega, rfl, ⟨Below.refl _ _, fun _ _ => rfl⟩, [], rfl, h0⟩
  case round =>
    obtain ⟨k, hk, rfl, hK, ys, hys, hJs⟩ := hrel
    rcases Nat.eq_zero_or_pos k with rfl | hk0
    · gi_wp2
      go_end0
      exact ⟨⟨_, rfl⟩, .inl ⟨ys, hys, hJs⟩⟩
    · obtain ⟨k, rfl⟩ : ∃ k', k = k' + 1 := ⟨k - 1, by omega⟩
      have hge : (((k + 1 : Nat) : Int) ≥ 1) := by omega
      have d1 : decide (((k + 1 : Nat) : Int) ≥ 1) = true := decide_eq_true hge
      have hk3 : k < 3 := by omega
      have hKL := fun W1 (h1 : KI n₀ Bl Bc W W1) => hL.below h1.bel
      have hCB : ∀ W1, KI n₀ Bl Bc W W1 → W1.cell? ⟨Bl, 0, none⟩ = some (.pointer (some ⟨xb, 0, none⟩)) ∧ W1.cell? ⟨Bc, 0, none⟩ = some (.int .i64 ci) ∧ W1.cell? ⟨xb, 1, none⟩ = some (.pointer (some ⟨qb, 0, none⟩)) := fun W1 h1 => ⟨by simpa [World.cell?, h1.bx Bl (.inl rfl)] using c1, by simpa [World.cell?, h1.bx Bc (.inr rfl)] using c2, (hKL W1 h1).lq.bx.cell 1⟩
      have hKG : ∀ W1 W2, KI n₀ Bl Bc W W1 → W1.grownBy W2 none → KI n₀ Bl Bc W W2 := fun W1 W2 h1 h2 => h1.trans (KI.grown h2 (Nat.le_trans hn₀ h1.bel.size) (Nat.lt_of_lt_of_le hBl h1.bel.size) (Nat.lt_of_lt_of_le hBc h1.bel.size))
      have hJG : ∀ zs W1 W2, J zs W1 → W1.grownBy W2 none → J zs W2 := fun zs W1 W2 h1 h2 => hJ zs W1 W2 none h1 h2 (by simp)
      obtain ⟨hv, hhv⟩ : ∃ hv, (X ci k).getLastD 0 = hv := ⟨_, rfl⟩
      obtain ⟨ob, hob⟩ : ∃ ob, decide (¬ hv = 0) = ob := ⟨_, rfl⟩
      have htl := fun W1 (h1 : KI n₀ Bl Bc W W1) => q_tailL (hKL W1 h1).lq.ql hc hk3 hv hhv
      simp only [hob] at htl
      have hln := fun W1 (h1 : KI n₀ Bl Bc W W1) => q_lenL (hKL W1 h1).lq.ql hc hk3
      have hah := fun W1 (h1 : KI n₀ Bl Bc W W1) (H : Nat) U V (hX : X ci k = U ++ H :: V) => q_ahead (hKL W1 h1).lq.ql (H := H) (k := k) (U := U) (V := V) (by rw [((hKL W1 h1).lq.mem (show H ∈ X ci k by rw [hX]; simp)).2.1]; exact hX)
      obtain ⟨ln, hlnE⟩ : ∃ ln, (X ci k).length = ln := ⟨_, rfl⟩
      have hlb : ln ≤ 1099511627776 := hlnE ▸ hL.lq.ql.tn ci k
      simp only [hlnE] at hln
      simp only [show ((k + 1 : Nat) : Int) = (k : Int) + 1 from rfl] at *
      have hdr : wr.grownBy wr.drew none := gb_drew (gb_refl _ _)
      have hKd := hKG _ _ hK hdr
      have hD := hCB _ hKd
      gi_wp2
      refine wpIn_wide.2 ?_
      go_region_held3 (fun W1 => W1.cell? ⟨Bl, 0, none⟩ = some (.pointer (some ⟨xb, 0, none⟩)) ∧ W1.cell? ⟨Bc, 0, none⟩ = some (.int .i64 ci) ∧ W1.cell? ⟨xb, 1, none⟩ = some (.pointer (some ⟨qb, 0, none⟩))) ((first | with_reducible exact hD1 | with_reducible exact hD | go_keep)) ((go_at_call 20; with_reducible refine (htl _ hKd).mono ?_; rintro y w2 ⟨rfl, hg2⟩; (have hK2 := hKG _ _ hKd hg2); (have hD1 := hCB _ hK2)))
      have hJ2 := hJG _ _ _ hJs (gb_trans hdr hg2)
      clear hD hD1 hJs hK hKd
      have hd2 : w2.grownBy w2.drew none := gb_drew (gb_refl _ _)
      have hKd2 := hKG _ _ hK2 hd2
      have hD2 := hCB _ hKd2
      gi_wp2
      refine wpIn_wide.2 ?_
      go_region_held3 (fun W1 => W1.cell? ⟨Bl, 0, none⟩ = some (.pointer (some ⟨xb, 0, none⟩)) ∧ W1.cell? ⟨Bc, 0, none⟩ = some (.int .i64 ci) ∧ W1.cell? ⟨xb, 1, none⟩ = some (.pointer (some ⟨qb, 0, none⟩))) ((first | with_reducible exact hD3 | with_reducible exact hD2 | go_keep)) ((go_at_call 80; with_reducible refine (hln _ hKd2).mono ?_; rintro y w3 ⟨rfl, hg3⟩; (have hK3 := hKG _ _ hKd2 hg3); (have hD3 := hCB _ hK3)))
      have hJ3 := hJG _ _ _ hJ2 (gb_trans hd2 hg3)
      clear hD2 hD3 hJ2 hK2 hKd2 htl hln
      gi_wp2
      gi_loopw [5, 6, 28] (fun hq oq iq wq => ∃ (U V : List Nat), X ci k = U ++ V ∧ hq = .int .u64 (U.getLastD 0 : Nat) ∧ oq = .bool (decide (¬ U.getLastD 0 = 0)) ∧ iq = .int .i64 (V.length : Nat) ∧ KI n₀ Bl Bc W wq ∧ ∃ ys : List { H : Nat // H ∈ T }, ys.map Subtype.val = rowU X ci (k + 1) ++ V.reverse ∧ J ys wq) (fun _ _ iq _ => ln - (intOf iq).toNat)
      case atStart => exact ⟨X ci k, [], by simp, by rw [hhv], by rw [hhv, hob], rfl, hK3, ys, by simp [hys], hJ3⟩
      case round =>
        obtain ⟨U, V, hX, rfl, rfl, rfl, hKq, zs, hzs, hJq⟩ := hrel
        have hlV : U.length + V.length = ln := by rw [← hlnE, hX]; simp
        rcases List.eq_nil_or_concat U with rfl | ⟨U, H, rfl⟩
        · have hVl : V.length = ln := by simpa using hlV
          have hlt : ¬ (V.length : Int) < (ln : Int) := by omega
          have d2 : decide ((V.length : Int) < (ln : Int)) = false := decide_eq_false hlt
          have HE : Hid (∃ ys : List { H : Nat // H ∈ T }, ys.map Subtype.val = rowU X ci k ∧ J ys wr) := by
            refine ⟨zs, ?_, hJq⟩
            rw [hzs, show V = X ci k by rw [hX]; rfl]
            have hk' : k = 0 ∨ k = 1 ∨ k = 2 := by omega
            rcases hk' with rfl | rfl | rfl
            · rfl
            · rfl
            · simp [rowU]
          have ek : IntKind.i64.wrap ((k : Int) + 1 - 1) = (k : Int) := by rw [IntKind.wrap_i64]; omega
          clear hzs hJq hah hlV hX
          gi_wp2
          go_roundw
          case rel => exact ⟨k, by omega, by go_num, hKq, HE.out⟩
          case measure => simp [intOf]
        · rw [List.concat_eq_append] at *
          have hX' : X ci k = U ++ H :: V := by rw [hX]; simp
          obtain ⟨hT, hcl, hH0⟩ := hL.lq.mem (show H ∈ X ci k by rw [hX']; simp)
          have e1 : (U ++ [H]).getLastD 0 = H := by simp
          have hlt : (V.length : Int) < (ln : Int) := by simp at hlV; omega
          have d2 : decide ((V.length : Int) < (ln : Int)) = true := decide_eq_true hlt
          have hzl : zs.length < N := by
            have h1 : (zs.map Subtype.val).length = zs.length := by simp
            rw [hzs] at h1
            have h2 : (rowU X ci (k + 1)).length + (X ci k).length ≤ (rowN X ci).length := by
              have hk' : k = 0 ∨ k = 1 ∨ k = 2 := by omega
              rcases hk' with rfl | rfl | rfl <;> (simp [rowU, rowN]; try omega)
            rw [List.length_append, List.length_reverse] at h1
            simp at hlV
            omega
          obtain ⟨nv, hnv⟩ : ∃ nv, U.getLastD 0 = nv := ⟨_, rfl⟩
          obtain ⟨nb, hnb⟩ : ∃ nb, decide (¬ nv = 0) = nb := ⟨_, rfl⟩
          have hah2 := fun W1 (h1 : KI n₀ Bl Bc W W1) => hah W1 h1 H U V hX' nv hnv
          simp only [hnb] at hah2
          obtain ⟨fn, tmps, assign, body, hy, hR⟩ := hY zs ⟨H, hT⟩ wr hJq hzl
          have ei : IntKind.i64.wrap ((V.length : Int) + 1) = ((H :: V).length : Nat) := by rw [IntKind.wrap_i64]; simp; omega
          have hdH : decide (¬ H = 0) = true := decide_eq_true hH0
          have HZ : Hid ((zs ++ [(⟨H, hT⟩ : { H : Nat // H ∈ T })]).map Subtype.val = rowU X ci (k + 1) ++ (H :: V).reverse) := by
            show _ = _
            rw [List.map_append, hzs]; simp
          have HP : Hid ((zs ++ [(⟨H, hT⟩ : { H : Nat // H ∈ T })]).map Subtype.val <+: rowN X ci) := by
            show _ <+: _
            rw [HZ.out]
            have hk' : k = 0 ∨ k = 1 ∨ k = 2 := by omega
            have hr : (X ci k).reverse = (H :: V).reverse ++ U.reverse := by rw [hX']; simp
            rcases hk' with rfl | rfl | rfl
            · refine ⟨U.reverse, ?_⟩
              show ((X ci 2).reverse ++ (X ci 1).reverse ++ (H :: V).reverse) ++ U.reverse = (X ci 2).reverse ++ (X ci 1).reverse ++ (X ci 0).reverse
              rw [hr, List.append_assoc]
            · refine ⟨U.reverse ++ (X ci 0).reverse, ?_⟩
              show ((X ci 2).reverse ++ (H :: V).reverse) ++ (U.reverse ++ (X ci 0).reverse) = (X ci 2).reverse ++ (X ci 1).reverse ++ (X ci 0).reverse
              rw [hr]; simp only [List.append_assoc]
            · refine ⟨U.reverse ++ ((X ci 1).reverse ++ (X ci 0).reverse), ?_⟩
              show ([] ++ (H :: V).reverse) ++ (U.reverse ++ ((X ci 1).reverse ++ (X ci 0).reverse)) = (X ci 2).reverse ++ (X ci 1).reverse ++ (X ci 0).reverse
              rw [hr]; simp only [List.append_assoc, List.nil_append]
          simp only [e1, hdH]
          clear hzs hah hlV hX hzl hJq
          gi_wp2
          refine hR.mono ?_
          rintro e W3 (⟨rfl, hJ3, hk3'⟩ | ⟨rfl, hJx3⟩)
          · have hK4 := hKq.trans hk3'
            obtain ⟨z0, z1, z2⟩ := hCB _ hK4
            have hah3 := hah2 _ hK4
            clear hah2 hCB hR hy
            gi_wp2_with (refine ⟨trivial, ?_⟩; gi_at_call 74; refine (callsIn_wide.2 hah3).mono ?_; rintro y w5 ⟨rfl, hg5⟩)
            go_roundw
            case rel => exact ⟨U, H :: V, hX', by rw [hnv], by rw [hnv, hnb], by first | rfl | (simp only [ei]), hKG _ _ hK4 hg5, _, HZ.out, hJG _ _ _ hJ3 hg5⟩
            case measure => simp [intOf]; omega
          · gi_wp2
            refine bodyPost_ret (results_none rfl _ _ _) rfl ?_
            exact ⟨⟨_, rfl⟩, .inr ⟨_, HP.out, hJx3⟩⟩
end
end Go.Proofs.YtohneboimmcocaaGreat

/-
  ArenaApart, walked.
-/
import Derived.Test.YtknhoncnaigogaaL
import Derived.Test.YtknhoncnaigogaaU
namespace Go.Proofs.Ytknhoncnaigogaa
open Go.RowKit
set_option linter.unusedVariables false

theorem Own.form {B : Nat} {w : World} {ao : Option Addr} {cap : Nat} {us : List Int} (h : Own B w ao cap us) (hn : 0 < us.length) : ∃ g, ao = some ⟨g, 0, none⟩ ∧ B ≤ g ∧ us.length ≤ cap ∧ cap ≤ maxLen := by
  rcases h.2 with ⟨h1, h2⟩ | ⟨g, c, cur, h1, h2, h3, h4, h5, h6⟩
  · omega
  · simp only [Value.slice.injEq] at h1
    obtain ⟨rfl, _, rfl⟩ := h1
    exact ⟨g, rfl, h2, h4, h5⟩
theorem lay_parts {zs ys : List Int} {x k : Nat} (hl : zs.length = 8192) (hk : x + ys.length = k) (hk8 : k ≤ 8192) : cut zs 0 x ++ ys ++ cut zs k (8192 - k) = lay zs x ys := by
  have e1 : cut zs k (8192 - k) = zs.drop k := by
    unfold cut
    exact List.take_of_length_le (by simp; omega)
  have e2 : cut zs 0 x = zs.take x := by simp [cut]
  rw [e1, e2, ← hk]
  rfl
def lenOf : Value → Nat
  | .slice _ n _ => n
  | _ => 0
theorem rep_snoc {us : List Int} {z : Int} (h : us = List.replicate us.length z) : Hid (us ++ [z] = List.replicate (us ++ [z]).length z) := by
  show _ = _
  rw [List.length_append, List.length_singleton, List.replicate_succ', ← h]
/-- A part of what a slice holds. -/
theorem Has.part {w : World} {g n : Nat} {ys : List Int} (h : Has w (some ⟨g, 0, none⟩) n ys) (x k o : Nat) (hx : x + k ≤ n) (ho : 0 < k → o = x) : Has w (some ⟨g, o, none⟩) k (cut ys x k) := by
  refine ⟨length_cut (by rw [h.1]; exact hx), fun hk => ⟨g, o, rfl, fun i hi => ?_⟩⟩
  obtain ⟨b', o', e1, e2⟩ := h.2 (by omega)
  cases e1
  rw [getD_cut hi, ho hk]
  have := e2 (x + i) (by omega)
  rw [Nat.zero_add] at this
  exact this

theorem within_q (i n : Int) (h1 : 1 ≤ n) (h2 : n ≤ 1099511627776) (w : World) : Calls Try.prog 22 #[.int .i64 i, .int .i64 n] w fun e w' => e = .returned (.int .i64 (i % n)) ∧ w' = w :=
  (within_any i n h1 h2 w).mono fun e w' h => ⟨h.1, h.2.symm⟩

set_option maxHeartbeats 2000000 in
set_option maxRecDepth 100000 in
theorem apart_any (d x1 x2 x3 x4 x5 x6 : Int) (sv : Value) (own : Bool) (w : World) (h6 : 0 ≤ x6 ∧ x6 < 18446744073709551616) :
    Calls Try.prog 8 #[.agg #[.int .i64 d, .int .i64 x1, .int .i64 x2, .int .i64 x3, .int .i64 x4, .int .i64 x5, .int .u64 x6, sv, .bool own]] w fun e w' => e = .returned (.bool true) ∧ w.grownBy w' none := by
  obtain ⟨vs, hvs⟩ : ∃ vs, vs = #[.int .i64 d, .int .i64 x1, .int .i64 x2, .int .i64 x3, .int .i64 x4, .int .i64 x5, .int .u64 x6, sv, .bool own] := ⟨_, rfl⟩
  have e0 : vs[0]? = some (.int .i64 d) := by rw [hvs]; rfl
  have e1 : vs[1]? = some (.int .i64 x1) := by rw [hvs]; rfl
  have e2 : vs[2]? = some (.int .i64 x2) := by rw [hvs]; rfl
  have e3 : vs[3]? = some (.int .i64 x3) := by rw [hvs]; rfl
  have e4 : vs[4]? = some (.int .i64 x4) := by rw [hvs]; rfl
  have e5 : vs[5]? = some (.int .i64 x5) := by rw [hvs]; rfl
  have e6 : vs[6]? = some (.int .u64 x6) := by rw [hvs]; rfl
  rw [← hvs]
  clear hvs
  go_enter Try.func8, Try.ntmps8
  go_wp2_with fail
  refine (filled_any _).mono ?_
  rintro e w1 ⟨zs, rfl, hf1, hA1, hl⟩
  have hB1 := (Box.new w 31 vs).kept hf1 (by simp)
  have hF1 := gb_trans (World.grownBy_alloc w (.cells vs 31) none) hf1
  clear hf1
  simp only [World.size_alloc] at hA1
  go_wp2_with fail
  refine (image_any hA1 hl).mono ?_
  rintro e w2 ⟨wa, wc, rfl, hW2, hf2⟩
  have hB2 := hB1.kept hf2 (by simp)
  have hA2 := hA1.kept hf2 (by simp) (by simp)
  have hF2 := gb_trans hF1 hf2
  have a0 := (hB2.cell 0).trans e0
  have a1 := (hB2.cell 1).trans e1
  have a2 := (hB2.cell 2).trans e2
  have a3 := (hB2.cell 3).trans e3
  have a4 := (hB2.cell 4).trans e4
  have a5 := (hB2.cell 5).trans e5
  have hz2 := hf2.size
  have hz1 : w.heap.size + 3 ≤ w1.heap.size := (Array.getElem?_eq_some_iff.1 hA1.hb).1
  clear hf2 hB1 hA1 hF1
  go_wp2
  go_quiet ((go_at_call 22; exact Calls.quiet_of_same (within_q _ _ (by omega) (by omega) _)))
  go_wp2_with fail
  have hfq := gb_drewN (gb_refl w2 none) nq
  have hB3 := hB2.kept hfq (by simp)
  have hA3 := hA2.kept hfq (by simp) (by simp)
  have hF3 := gb_trans hF2 hfq
  have hW3 := hW2.kept hfq (by cases h : blk wa <;> simp)
  have hz3 : w1.heap.size ≤ (w2.drewN nq).heap.size := hz2
  clear hfq hB2 hA2 hF2 hW2 a0 a1 a2 a3 a4 a5 hz2
  generalize w2.drewN nq = W at *
  have a0 := (hB3.cell 0).trans e0
  have a3 := (hB3.cell 3).trans e3
  have a5 := (hB3.cell 5).trans e5
  refine (within_ex _ _ (by omega) (by omega) _).mono ?_
  rintro e w' ⟨n, rfl, rfl, hn0, hn1⟩
  have hm0 : 0 ≤ x3 % (4096 - n + 1) := Int.emod_nonneg _ (by omega)
  have hm1 : x3 % (4096 - n + 1) < 4096 - n + 1 := Int.emod_lt_of_pos _ (by omega)
  go_wp2
  go_quiet ((go_at_call 22; exact Calls.quiet_of_same (within_q _ _ (by omega) (by omega) _)))
  obtain ⟨m, hm⟩ : ∃ m, x3 % (4096 - n + 1) = m := ⟨_, rfl⟩
  rw [hm] at hm0 hm1
  obtain ⟨q, hq⟩ : ∃ q, x5 % 2 = q := ⟨_, rfl⟩
  have hq0 : 0 ≤ q ∧ q < 2 := by omega
  obtain ⟨r, hr⟩ : ∃ r, x2 % 4096 = r := ⟨_, rfl⟩
  have hr0 : 0 ≤ r ∧ r < 4096 := by omega
  obtain ⟨p, hp⟩ : ∃ p, x1 % 2 = p := ⟨_, rfl⟩
  have hp0 : 0 ≤ p ∧ p < 2 := by omega
  rw [hr] at hn1
  simp only [hm, hq, hr, hp]
  clear hm hq hr hp a3 a5
  have hfq := gb_drewN (gb_refl W none) nq
  have hB4 := hB3.kept hfq (by simp)
  have hA4 := hA3.kept hfq (by simp) (by simp)
  have hF4 := gb_trans hF3 hfq
  have hW4 := hW3.kept hfq (by cases h : blk wa <;> simp)
  have hz4 : w1.heap.size ≤ (W.drewN nq).heap.size := hz3
  clear hfq hB3 hA3 hF3 hW3 a0 hz3
  generalize W.drewN nq = V at *
  have a0 := (hB4.cell 0).trans e0
  by_cases hd4 : d = 4
  · have hd : (d == 4) = true := by simp [hd4]
    clear hd4
    go_wp2
    go_loopw [8] (fun v wr => ∃ (ao : Option Addr) (cap : Nat) (us : List Int), v = .slice ao us.length cap ∧ us.length ≤ n.toNat ∧ isBytes us ∧ True ∧ Own V.heap.size wr ao cap us ∧ V.grownBy wr none) (fun v _ => n.toNat - lenOf v)
    case atStart => exact ⟨none, 0, [], rfl, by simp, by intro z hz; simp at hz, trivial, Own.nil _ _, gb_refl _ _⟩
    case round =>
      obtain ⟨lao, lcap, us, rfl, hul, hub, hex, hown, hgr⟩ := hrel
      have hBr := hB4.kept hgr (by simp)
      have a6 := (hBr.cell 6).trans e6
      by_cases hk : (us.length : Int) < n
      · go_wp2_with (at_builtin; go_must (refine wpList_push rfl _ _ rfl V.heap.size lao lcap us _ (by rfl) hown (by rfl) (by omega) hgr.size ?_))
        intro ao' cap' w' hown' hg'
        go_wp2
        go_roundw
        case rel => exact ⟨ao', cap', _, by simp, by simp; omega, isBytes_snoc hub (by omega), trivial, hown', gb_far hgr hg' (fun k e => (hown.lt k e).1) (Nat.le_refl _)⟩
        case measure => simp [lenOf]; omega
      · have hule : us.length = n.toNat := by omega
        have hA5 := hA4.kept hgr (by simp) (by simp)
        have hW5 := hW4.kept hgr (by cases h : blk wa <;> simp)
        have hF5 := gb_trans hF4 hgr
        have hz5 := Nat.le_trans hz4 hgr.size
        have hL5 := hown.has
        have hlb := hown.lt
        have hlcap : lao = none → lcap = 0 := by intro h; subst h; exact hown.nilcap.1
        rw [hule] at hL5
        clear hgr hA4 hW4 hF4 hB4 hBr hown
        go_wp2_with (first | fail)
        refine (write_yes hA5 (4096 * p + r) lao n.toNat lcap us hL5 hub (by omega) ⟨by omega, by omega, by omega, by omega⟩).mono ?_
        rintro e T ⟨rfl, hg6, hAT⟩
        have hLT := hL5.kept hg6 (by intro k hk e; cases e; have := hlb _ hk; omega)
        have hWT := hW5.kept hg6 (by right; intro h; have := hW5.lt _ h; omega)
        have hFT := gb_mine hF5 hg6 (by omega)
        have hzT := Nat.le_trans hz5 hg6.size
        obtain ⟨ys, hys⟩ : ∃ ys, ys = us := ⟨_, rfl⟩
        rw [← hys] at hLT hAT
        have hyb : isBytes ys := by rw [hys]; exact hub
        clear hys hL5 hW5 hF5 hz5 hg6 hA5 a0 a6
        obtain ⟨la, hla⟩ : ∃ la, la = lao := ⟨_, rfl⟩
        rw [← hla] at hLT hlcap ⊢
        clear hla hlb
        obtain ⟨x, hx⟩ : ∃ x, x = 4096 * p + r := ⟨_, rfl⟩
        have hx0 : 0 ≤ x ∧ x + n ≤ 8192 := by omega
        rw [← hx] at hAT ⊢
        clear hx
        -- the end: what was, with what was laid, is what is there
        clear e0 e1 e2 e3 e4 e5 e6
        obtain ⟨wb, rfl, hwb, hwc, hwm⟩ := hWT.form (by omega)
        unfold maxLen at hwm
        have hHT := hWT.has
        rw [hl] at hHT hwc
        have hto : Hid (x.toNat + n.toNat ≤ 8192 ∧ x.toNat ≤ 8192) := by show _ ∧ _; omega
        have hk1 := hHT.part 0 x.toNat 0 (by omega) (fun _ => rfl)
        go_wp2_with (first | (go_at_call 16; refine (num_any _ _).mono ?_; rintro e w' ⟨rfl, rfl⟩) | fail)
        refine (copy_any hk1 wc (by simp) (by omega)).mono ?_
        rintro e t1 ⟨ao, cap, rfl, ho1, hg1⟩
        have hL1 := hLT.kept0 hg1
        have hlc : (cut zs 0 x.toNat).length = x.toNat := length_cut (by omega)
        go_wp2_with (at_builtin; go_must (refine wpList_more rfl _ _ rfl T.heap.size ao cap (cut zs 0 x.toNat) (by rw [hlc]; rfl) ho1 la n.toNat lcap ys (by rfl) hL1 hlcap (by omega) hg1.size ?_))
        intro ao2 cap2 t2 ho2 hg2
        have hG2 := gb_far hg1 hg2 (fun k e => (ho1.lt k e).1) (Nat.le_refl _)
        have hH2 := hHT.kept0 hG2
        have hly : ys.length = n.toNat := hLT.1
        have hl2 : (cut zs 0 x.toNat ++ ys).length = x.toNat + n.toNat := by rw [List.length_append, hlc, hly]
        clear hg1 hg2 ho1 hL1
        have hxn : x.toNat + n.toNat = (x + n).toNat := by omega
        have hxl : (x + n).toNat ≤ 8192 := by omega
        have hLE : Hid (cut zs 0 x.toNat ++ ys ++ cut zs (x + n).toNat (8192 - (x + n).toNat) = lay zs x.toNat ys) := lay_parts hl (by rw [hly]; exact hxn) hxl
        have HXN : Hid (x.toNat + n.toNat = (x + n).toNat) := hxn
        clear hxn hHT hk1 hlc
        by_cases hcap : wc = (x + n).toNat
        · have hc0 : wc - (x + n).toNat = 0 := by omega
          have hk3 := hH2.part (x + n).toNat (8192 - (x + n).toNat) 0 (by omega) (fun h => by omega)
          clear hcap
          go_wp2_with (at_builtin; go_must (refine wpList_more rfl _ _ rfl T.heap.size ao2 cap2 (cut zs 0 x.toNat ++ ys) (by rw [hl2]; rfl) ho2 _ (8192 - (x + n).toNat) _ (cut zs (x + n).toNat (8192 - (x + n).toNat)) (by rfl) hk3 (by simp) (by omega) hG2.size ?_))
          intro ao3 cap3 t3 ho3 hg3
          have hfar : ∀ k, blk ao2 = some k → T.heap.size ≤ k := fun k e => (ho2.lt k e).1
          have hG3 := gb_far hG2 hg3 hfar (Nat.le_refl _)
          have hA3 := hAT.kept hG3 (by simp) (by simp)
          have hb3 := hA3.hz
          have hll := hA3.hN
          rw [← List.append_assoc, hLE.out] at ho3
          have hF3 := gb_trans hFT hG3
          obtain ⟨L, hL⟩ : ∃ L, L = lay zs x.toNat ys := ⟨_, rfl⟩
          rw [← hL] at ho3 hA3 hb3 hll
          have hH3 := ho3.has
          have hll' : L.length = 8192 := by omega
          clear hL hLE hG2 hG3 hg3 hAT hWT hLT hk3 hH2 ho2 hll hfar
          go_wp2_with fail
          refine (image_any hA3 hll').mono ?_
          rintro e t4 ⟨ia, ic, rfl, hI, hf4⟩
          have hHI := hI.has
          have hHW := hH3.kept0 hf4
          have hF4 := gb_trans hF3 hf4
          have hlen : x.toNat + n.toNat + (8192 - (x + n).toNat) = 8192 := by have := HXN.out; omega
          rw [hll'] at hHI hHW
          go_wp2_with fail
          refine (equal_34 hHI hHW hb3 hb3 ic cap3).mono ?_
          rintro e t5 ⟨rfl, rfl⟩
          go_wp2
          go_ret
          exact ⟨rfl, hF4⟩
        · have hk3 := hH2.part (x + n).toNat (8192 - (x + n).toNat) (x + n).toNat (by omega) (fun h => rfl)
          go_wp2_with (at_builtin; go_must (refine wpList_more rfl _ _ rfl T.heap.size ao2 cap2 (cut zs 0 x.toNat ++ ys) (by rw [hl2]; rfl) ho2 _ (8192 - (x + n).toNat) _ (cut zs (x + n).toNat (8192 - (x + n).toNat)) (by rfl) hk3 (by simp) (by omega) hG2.size ?_))
          intro ao3 cap3 t3 ho3 hg3
          have hfar : ∀ k, blk ao2 = some k → T.heap.size ≤ k := fun k e => (ho2.lt k e).1
          have hG3 := gb_far hG2 hg3 hfar (Nat.le_refl _)
          have hA3 := hAT.kept hG3 (by simp) (by simp)
          have hb3 := hA3.hz
          have hll := hA3.hN
          rw [← List.append_assoc, hLE.out] at ho3
          have hF3 := gb_trans hFT hG3
          obtain ⟨L, hL⟩ : ∃ L, L = lay zs x.toNat ys := ⟨_, rfl⟩
          rw [← hL] at ho3 hA3 hb3 hll
          have hH3 := ho3.has
          have hll' : L.length = 8192 := by omega
          clear hL hLE hG2 hG3 hg3 hAT hWT hLT hk3 hH2 ho2 hll hfar
          go_wp2_with fail
          refine (image_any hA3 hll').mono ?_
          rintro e t4 ⟨ia, ic, rfl, hI, hf4⟩
          have hHI := hI.has
          have hHW := hH3.kept0 hf4
          have hF4 := gb_trans hF3 hf4
          have hlen : x.toNat + n.toNat + (8192 - (x + n).toNat) = 8192 := by have := HXN.out; omega
          rw [hll'] at hHI hHW
          go_wp2_with fail
          refine (equal_34 hHI hHW hb3 hb3 ic cap3).mono ?_
          rintro e t5 ⟨rfl, rfl⟩
          go_wp2
          go_ret
          exact ⟨rfl, hF4⟩

  · have hd : (d == 4) = false := by simp [hd4]
    by_cases hd5 : d = 5
    · have hdd : (d == 5) = true := by simp [hd5]
      clear hd5 hd4
      go_wp2
      go_loopw [8] (fun v wr => ∃ (ao : Option Addr) (cap : Nat) (us : List Int), v = .slice ao us.length cap ∧ us.length ≤ n.toNat ∧ isBytes us ∧ Hid (us = List.replicate us.length (x6 % 256)) ∧ Own V.heap.size wr ao cap us ∧ V.grownBy wr none) (fun v _ => n.toNat - lenOf v)
      case atStart => exact ⟨none, 0, [], rfl, by simp, by intro z hz; simp at hz, (show _ = _ from rfl), Own.nil _ _, gb_refl _ _⟩
      case round =>
        obtain ⟨lao, lcap, us, rfl, hul, hub, hex, hown, hgr⟩ := hrel
        have hBr := hB4.kept hgr (by simp)
        have a6 := (hBr.cell 6).trans e6
        by_cases hk : (us.length : Int) < n
        · go_wp2_with (at_builtin; go_must (refine wpList_push rfl _ _ rfl V.heap.size lao lcap us _ (by rfl) hown (by rfl) (by omega) hgr.size ?_))
          intro ao' cap' w' hown' hg'
          go_wp2
          go_roundw
          case rel => exact ⟨ao', cap', _, by simp, by simp; omega, isBytes_snoc hub (by omega), rep_snoc hex.out, hown', gb_far hgr hg' (fun k e => (hown.lt k e).1) (Nat.le_refl _)⟩
          case measure => simp [lenOf]; omega
        · have hule : us.length = n.toNat := by omega
          have hA5 := hA4.kept hgr (by simp) (by simp)
          have hW5 := hW4.kept hgr (by cases h : blk wa <;> simp)
          have hF5 := gb_trans hF4 hgr
          have hz5 := Nat.le_trans hz4 hgr.size
          have hL5 := hown.has
          have hlb := hown.lt
          have hlcap : lao = none → lcap = 0 := by intro h; subst h; exact hown.nilcap.1
          rw [hule] at hL5
          clear hgr hA4 hW4 hF4 hB4 hBr hown
          go_wp2_with (first | fail)
          have hfl := fill_yes hA5 (4096 * p + r) n (x6 % 256) (by omega) ⟨by omega, by omega, by omega, by omega⟩
          rw [← hule, ← hex.out] at hfl
          refine hfl.mono ?_
          rintro e T ⟨rfl, hg6, hAT⟩
          have hLT := hL5.kept hg6 (by intro k hk e; cases e; have := hlb _ hk; omega)
          have hWT := hW5.kept hg6 (by right; intro h; have := hW5.lt _ h; omega)
          have hFT := gb_mine hF5 hg6 (by omega)
          have hzT := Nat.le_trans hz5 hg6.size
          obtain ⟨ys, hys⟩ : ∃ ys, ys = us := ⟨_, rfl⟩
          rw [← hys] at hLT hAT
          have hyb : isBytes ys := by rw [hys]; exact hub
          clear hys hL5 hW5 hF5 hz5 hg6 hA5 a0 a6
          obtain ⟨la, hla⟩ : ∃ la, la = lao := ⟨_, rfl⟩
          rw [← hla] at hLT hlcap ⊢
          clear hla hlb
          obtain ⟨x, hx⟩ : ∃ x, x = 4096 * p + r := ⟨_, rfl⟩
          have hx0 : 0 ≤ x ∧ x + n ≤ 8192 := by omega
          rw [← hx] at hAT ⊢
          clear hx
          -- the end: what was, with what was laid, is what is there
          clear e0 e1 e2 e3 e4 e5 e6
          obtain ⟨wb, rfl, hwb, hwc, hwm⟩ := hWT.form (by omega)
          unfold maxLen at hwm
          have hHT := hWT.has
          rw [hl] at hHT hwc
          have hto : Hid (x.toNat + n.toNat ≤ 8192 ∧ x.toNat ≤ 8192) := by show _ ∧ _; omega
          have hk1 := hHT.part 0 x.toNat 0 (by omega) (fun _ => rfl)
          go_wp2_with (first | (go_at_call 16; refine (num_any _ _).mono ?_; rintro e w' ⟨rfl, rfl⟩) | fail)
          refine (copy_any hk1 wc (by simp) (by omega)).mono ?_
          rintro e t1 ⟨ao, cap, rfl, ho1, hg1⟩
          have hL1 := hLT.kept0 hg1
          have hlc : (cut zs 0 x.toNat).length = x.toNat := length_cut (by omega)
          go_wp2_with (at_builtin; go_must (refine wpList_more rfl _ _ rfl T.heap.size ao cap (cut zs 0 x.toNat) (by rw [hlc]; rfl) ho1 la n.toNat lcap ys (by rfl) hL1 hlcap (by omega) hg1.size ?_))
          intro ao2 cap2 t2 ho2 hg2
          have hG2 := gb_far hg1 hg2 (fun k e => (ho1.lt k e).1) (Nat.le_refl _)
          have hH2 := hHT.kept0 hG2
          have hly : ys.length = n.toNat := hLT.1
          have hl2 : (cut zs 0 x.toNat ++ ys).length = x.toNat + n.toNat := by rw [List.length_append, hlc, hly]
          clear hg1 hg2 ho1 hL1
          have hxn : x.toNat + n.toNat = (x + n).toNat := by omega
          have hxl : (x + n).toNat ≤ 8192 := by omega
          have hLE : Hid (cut zs 0 x.toNat ++ ys ++ cut zs (x + n).toNat (8192 - (x + n).toNat) = lay zs x.toNat ys) := lay_parts hl (by rw [hly]; exact hxn) hxl
          have HXN : Hid (x.toNat + n.toNat = (x + n).toNat) := hxn
          clear hxn hHT hk1 hlc
          by_cases hcap : wc = (x + n).toNat
          · have hc0 : wc - (x + n).toNat = 0 := by omega
            have hk3 := hH2.part (x + n).toNat (8192 - (x + n).toNat) 0 (by omega) (fun h => by omega)
            clear hcap
            go_wp2_with (at_builtin; go_must (refine wpList_more rfl _ _ rfl T.heap.size ao2 cap2 (cut zs 0 x.toNat ++ ys) (by rw [hl2]; rfl) ho2 _ (8192 - (x + n).toNat) _ (cut zs (x + n).toNat (8192 - (x + n).toNat)) (by rfl) hk3 (by simp) (by omega) hG2.size ?_))
            intro ao3 cap3 t3 ho3 hg3
            have hfar : ∀ k, blk ao2 = some k → T.heap.size ≤ k := fun k e => (ho2.lt k e).1
            have hG3 := gb_far hG2 hg3 hfar (Nat.le_refl _)
            have hA3 := hAT.kept hG3 (by simp) (by simp)
            have hb3 := hA3.hz
            have hll := hA3.hN
            rw [← List.append_assoc, hLE.out] at ho3
            have hF3 := gb_trans hFT hG3
            obtain ⟨L, hL⟩ : ∃ L, L = lay zs x.toNat ys := ⟨_, rfl⟩
            rw [← hL] at ho3 hA3 hb3 hll
            have hH3 := ho3.has
            have hll' : L.length = 8192 := by omega
            clear hL hLE hG2 hG3 hg3 hAT hWT hLT hk3 hH2 ho2 hll hfar
            go_wp2_with fail
            refine (image_any hA3 hll').mono ?_
            rintro e t4 ⟨ia, ic, rfl, hI, hf4⟩
            have hHI := hI.has
            have hHW := hH3.kept0 hf4
            have hF4 := gb_trans hF3 hf4
            have hlen : x.toNat + n.toNat + (8192 - (x + n).toNat) = 8192 := by have := HXN.out; omega
            rw [hll'] at hHI hHW
            go_wp2_with fail
            refine (equal_34 hHI hHW hb3 hb3 ic cap3).mono ?_
            rintro e t5 ⟨rfl, rfl⟩
            go_wp2
            go_ret
            exact ⟨rfl, hF4⟩
          · have hk3 := hH2.part (x + n).toNat (8192 - (x + n).toNat) (x + n).toNat (by omega) (fun h => rfl)
            go_wp2_with (at_builtin; go_must (refine wpList_more rfl _ _ rfl T.heap.size ao2 cap2 (cut zs 0 x.toNat ++ ys) (by rw [hl2]; rfl) ho2 _ (8192 - (x + n).toNat) _ (cut zs (x + n).toNat (8192 - (x + n).toNat)) (by rfl) hk3 (by simp) (by omega) hG2.size ?_))
            intro ao3 cap3 t3 ho3 hg3
            have hfar : ∀ k, blk ao2 = some k → T.heap.size ≤ k := fun k e => (ho2.lt k e).1
            have hG3 := gb_far hG2 hg3 hfar (Nat.le_refl _)
            have hA3 := hAT.kept hG3 (by simp) (by simp)
            have hb3 := hA3.hz
            have hll := hA3.hN
            rw [← List.append_assoc, hLE.out] at ho3
            have hF3 := gb_trans hFT hG3
            obtain ⟨L, hL⟩ : ∃ L, L = lay zs x.toNat ys := ⟨_, rfl⟩
            rw [← hL] at ho3 hA3 hb3 hll
            have hH3 := ho3.has
            have hll' : L.length = 8192 := by omega
            clear hL hLE hG2 hG3 hg3 hAT hWT hLT hk3 hH2 ho2 hll hfar
            go_wp2_with fail
            refine (image_any hA3 hll').mono ?_
            rintro e t4 ⟨ia, ic, rfl, hI, hf4⟩
            have hHI := hI.has
            have hHW := hH3.kept0 hf4
            have hF4 := gb_trans hF3 hf4
            have hlen : x.toNat + n.toNat + (8192 - (x + n).toNat) = 8192 := by have := HXN.out; omega
            rw [hll'] at hHI hHW
            go_wp2_with fail
            refine (equal_34 hHI hHW hb3 hb3 ic cap3).mono ?_
            rintro e t5 ⟨rfl, rfl⟩
            go_wp2
            go_ret
            exact ⟨rfl, hF4⟩

    · have hdd : (d == 5) = false := by simp [hd5]
      go_wp2_with fail
      refine (read_yes hA4 (4096 * p + r) n ⟨by omega, by omega, by omega, by omega⟩).mono ?_
      rintro e u1 ⟨rfl, hg1, hh1⟩
      have hA5 := hA4.kept hg1 (by simp) (by simp)
      have hL5 : Has u1 (some ⟨V.heap.size, 0, none⟩) n.toNat (cut zs (4096 * p + r).toNat n.toNat) := has_block hh1 (length_cut (by omega))
      have hW5 := hW4.kept hg1 (by cases h : blk wa <;> simp)
      have hF5 := gb_trans hF4 hg1
      have hz5 := Nat.le_trans hz4 hg1.size
      have hVl : V.heap.size < u1.heap.size := (Array.getElem?_eq_some_iff.1 hh1).1
      clear hg1 hh1 hA4 hW4 hF4 hB4 a0
      go_wp2_with (first | (go_at_call 16; refine (num_any _ _).mono ?_; rintro e w' ⟨rfl, rfl⟩) | fail)
      refine (move_yes hA5 (4096 * q + m) (4096 * p + r) n ⟨by omega, by omega, by omega, by omega⟩ ⟨by omega, by omega, by omega, by omega⟩).mono ?_
      rintro e T ⟨rfl, hg6, hAT⟩
      have hLT := hL5.kept hg6 (by intro k hk; simp at hk; simp; omega)
      have hWT := hW5.kept hg6 (by right; intro h; have := hW5.lt _ h; omega)
      have hFT := gb_mine hF5 hg6 (by omega)
      have hzT := Nat.le_trans hz5 hg6.size
      have hlcap : some (⟨V.heap.size, 0, none⟩ : Addr) = none → n.toNat = 0 := by simp
      obtain ⟨ys, hys⟩ : ∃ ys, ys = cut zs (4096 * p + r).toNat n.toNat := ⟨_, rfl⟩
      rw [← hys] at hLT hAT
      have hyb : isBytes ys := by rw [hys]; exact isBytes_cut hA5.hz _ _
      clear hys hL5 hW5 hF5 hz5 hg6 hA5
      obtain ⟨la, hla⟩ : ∃ la, la = some (⟨V.heap.size, 0, none⟩ : Addr) := ⟨_, rfl⟩
      rw [← hla] at hLT hlcap ⊢
      obtain ⟨x, hx⟩ : ∃ x, x = 4096 * q + m := ⟨_, rfl⟩
      have hx0 : 0 ≤ x ∧ x + n ≤ 8192 := by omega
      rw [← hx] at hAT ⊢
      clear hx hla
      -- the end: what was, with what was laid, is what is there
      clear e0 e1 e2 e3 e4 e5 e6
      obtain ⟨wb, rfl, hwb, hwc, hwm⟩ := hWT.form (by omega)
      unfold maxLen at hwm
      have hHT := hWT.has
      rw [hl] at hHT hwc
      have hto : Hid (x.toNat + n.toNat ≤ 8192 ∧ x.toNat ≤ 8192) := by show _ ∧ _; omega
      have hk1 := hHT.part 0 x.toNat 0 (by omega) (fun _ => rfl)
      go_wp2_with (first | (go_at_call 16; refine (num_any _ _).mono ?_; rintro e w' ⟨rfl, rfl⟩) | fail)
      refine (copy_any hk1 wc (by simp) (by omega)).mono ?_
      rintro e t1 ⟨ao, cap, rfl, ho1, hg1⟩
      have hL1 := hLT.kept0 hg1
      have hlc : (cut zs 0 x.toNat).length = x.toNat := length_cut (by omega)
      go_wp2_with (at_builtin; go_must (refine wpList_more rfl _ _ rfl T.heap.size ao cap (cut zs 0 x.toNat) (by rw [hlc]; rfl) ho1 la n.toNat n.toNat ys (by rfl) hL1 hlcap (by omega) hg1.size ?_))
      intro ao2 cap2 t2 ho2 hg2
      have hG2 := gb_far hg1 hg2 (fun k e => (ho1.lt k e).1) (Nat.le_refl _)
      have hH2 := hHT.kept0 hG2
      have hly : ys.length = n.toNat := hLT.1
      have hl2 : (cut zs 0 x.toNat ++ ys).length = x.toNat + n.toNat := by rw [List.length_append, hlc, hly]
      clear hg1 hg2 ho1 hL1
      have hxn : x.toNat + n.toNat = (x + n).toNat := by omega
      have hxl : (x + n).toNat ≤ 8192 := by omega
      have hLE : Hid (cut zs 0 x.toNat ++ ys ++ cut zs (x + n).toNat (8192 - (x + n).toNat) = lay zs x.toNat ys) := lay_parts hl (by rw [hly]; exact hxn) hxl
      have HXN : Hid (x.toNat + n.toNat = (x + n).toNat) := hxn
      clear hxn hHT hk1 hlc
      by_cases hcap : wc = (x + n).toNat
      · have hc0 : wc - (x + n).toNat = 0 := by omega
        have hk3 := hH2.part (x + n).toNat (8192 - (x + n).toNat) 0 (by omega) (fun h => by omega)
        clear hcap
        go_wp2_with (at_builtin; go_must (refine wpList_more rfl _ _ rfl T.heap.size ao2 cap2 (cut zs 0 x.toNat ++ ys) (by rw [hl2]; rfl) ho2 _ (8192 - (x + n).toNat) _ (cut zs (x + n).toNat (8192 - (x + n).toNat)) (by rfl) hk3 (by simp) (by omega) hG2.size ?_))
        intro ao3 cap3 t3 ho3 hg3
        have hfar : ∀ k, blk ao2 = some k → T.heap.size ≤ k := fun k e => (ho2.lt k e).1
        have hG3 := gb_far hG2 hg3 hfar (Nat.le_refl _)
        have hA3 := hAT.kept hG3 (by simp) (by simp)
        have hb3 := hA3.hz
        have hll := hA3.hN
        rw [← List.append_assoc, hLE.out] at ho3
        have hF3 := gb_trans hFT hG3
        obtain ⟨L, hL⟩ : ∃ L, L = lay zs x.toNat ys := ⟨_, rfl⟩
        rw [← hL] at ho3 hA3 hb3 hll
        have hH3 := ho3.has
        have hll' : L.length = 8192 := by omega
        clear hL hLE hG2 hG3 hg3 hAT hWT hLT hk3 hH2 ho2 hll hfar
        go_wp2_with fail
        refine (image_any hA3 hll').mono ?_
        rintro e t4 ⟨ia, ic, rfl, hI, hf4⟩
        have hHI := hI.has
        have hHW := hH3.kept0 hf4
        have hF4 := gb_trans hF3 hf4
        have hlen : x.toNat + n.toNat + (8192 - (x + n).toNat) = 8192 := by have := HXN.out; omega
        rw [hll'] at hHI hHW
        go_wp2_with fail
        refine (equal_34 hHI hHW hb3 hb3 ic cap3).mono ?_
        rintro e t5 ⟨rfl, rfl⟩
        go_wp2
        go_ret
        exact ⟨rfl, hF4⟩
      · have hk3 := hH2.part (x + n).toNat (8192 - (x + n).toNat) (x + n).toNat (by omega) (fun h => rfl)
        go_wp2_with (at_builtin; go_must (refine wpList_more rfl _ _ rfl T.heap.size ao2 cap2 (cut zs 0 x.toNat ++ ys) (by rw [hl2]; rfl) ho2 _ (8192 - (x + n).toNat) _ (cut zs (x + n).toNat (8192 - (x + n).toNat)) (by rfl) hk3 (by simp) (by omega) hG2.size ?_))
        intro ao3 cap3 t3 ho3 hg3
        have hfar : ∀ k, blk ao2 = some k → T.heap.size ≤ k := fun k e => (ho2.lt k e).1
        have hG3 := gb_far hG2 hg3 hfar (Nat.le_refl _)
        have hA3 := hAT.kept hG3 (by simp) (by simp)
        have hb3 := hA3.hz
        have hll := hA3.hN
        rw [← List.append_assoc, hLE.out] at ho3
        have hF3 := gb_trans hFT hG3
        obtain ⟨L, hL⟩ : ∃ L, L = lay zs x.toNat ys := ⟨_, rfl⟩
        rw [← hL] at ho3 hA3 hb3 hll
        have hH3 := ho3.has
        have hll' : L.length = 8192 := by omega
        clear hL hLE hG2 hG3 hg3 hAT hWT hLT hk3 hH2 ho2 hll hfar
        go_wp2_with fail
        refine (image_any hA3 hll').mono ?_
        rintro e t4 ⟨ia, ic, rfl, hI, hf4⟩
        have hHI := hI.has
        have hHW := hH3.kept0 hf4
        have hF4 := gb_trans hF3 hf4
        have hlen : x.toNat + n.toNat + (8192 - (x + n).toNat) = 8192 := by have := HXN.out; omega
        rw [hll'] at hHI hHW
        go_wp2_with fail
        refine (equal_34 hHI hHW hb3 hb3 ic cap3).mono ?_
        rintro e t5 ⟨rfl, rfl⟩
        go_wp2
        go_ret
        exact ⟨rfl, hF4⟩

end Go.Proofs.Ytknhoncnaigogaa

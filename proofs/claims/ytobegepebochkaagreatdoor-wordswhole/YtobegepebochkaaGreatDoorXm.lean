import Derived.Test.YtobegepebochkaaGreatDoorZo
import Derived.Test.YtobegepebochkaaGreatDoorSf
import Derived.Deep.RegionHeld3
import Derived.Deep.CutRange
/-
  WordsWhole: each step alone.
-/
namespace Go.Proofs.YtobegepebochkaaGreatDoor
open Go.RowKit Go.Maps
set_option linter.unusedVariables false
set_option linter.unusedSimpArgs false

theorem wrapN {n : Nat} (h : n ≤ 65536) : IntKind.i64.wrap (n : Int) = (n : Int) := wrap1 (by omega) (by omega)
theorem wrap64N {n : Nat} (h : n ≤ 65536) : wrap64 (n : Int) = (n : Int) := by unfold wrap64; omega
theorem place (av : Int) {R : Nat} (hR : R ≤ 65536) : ∃ K : Nat, (wrap64 (wrap64 (av.tmod ((R : Int) + 1) + (R : Int)) + 1)).tmod ((R : Int) + 1) = (K : Int) ∧ K ≤ R := by
  have h0 : (0 : Int) < (R : Int) + 1 := by omega
  have h1 := Int.tmod_lt_of_pos av h0
  have h2 := Int.lt_tmod_of_pos av h0
  obtain ⟨x, hx⟩ : ∃ x, av.tmod ((R : Int) + 1) = x := ⟨_, rfl⟩
  rw [hx] at h1 h2 ⊢
  have e1 : wrap64 (x + (R : Int)) = x + (R : Int) := by unfold wrap64; omega
  have e2 : wrap64 (x + (R : Int) + 1) = x + (R : Int) + 1 := by unfold wrap64; omega
  rw [e1, e2, Int.tmod_eq_emod_of_nonneg (by omega)]
  have h3 := Int.emod_nonneg (x + (R : Int) + 1) (by omega : (R : Int) + 1 ≠ 0)
  have h4 := Int.emod_lt_of_pos (x + (R : Int) + 1) h0
  exact ⟨((x + (R : Int) + 1) % ((R : Int) + 1)).toNat, by omega, by omega⟩
theorem meas {m M : Nat} (h : m < M) : M - ((m : Int) + 1).toNat < M - ((m : Int)).toNat := by omega
theorem wrapS {m : Nat} (h : m + 1 ≤ 65536) : IntKind.i64.wrap ((m : Int) + 1) = (m : Int) + 1 := wrap1 (by omega) (by omega)
/-- What All tells of a beginning. -/
def PartP (q q1 : List Tld) (k : Nat) (left1 : Int) : Prop := (q.take q1.length).map Tld.s = q1.map Tld.s ∧ q1.length ≤ q.length ∧ (∀ i x, q[i]? = some x → (x.s.to ≤ k ↔ i < q1.length)) ∧ (q1 = [] → left1 = (k : Int)) ∧ (∀ y, q[q1.length - 1]? = some y → 0 < q1.length → y.s.cmd.verb ≠ 18 → left1 = ((k - y.s.to : Nat) : Int) ∧ y.s.to ≤ k)
theorem Ck.take' {X : Nat → Prop} {w : World} {g o n c : Nat} {l : Bs} (h : Ck w X (.slice (some ⟨g, o, none⟩) n c) l) (k : Nat) (hn : k ≤ l.length) : Ck w X (.slice (some ⟨g, o, none⟩) k c) (l.take k) := by
  obtain ⟨e, -, h2⟩ := ck_clip h k
  rw [List.length_take, Nat.min_eq_left hn] at h2
  exact h2
set_option maxRecDepth 100000 in
set_option maxHeartbeats 8000000 in
theorem whole_7 {w : World} (hE : Er w) {ra aa : Option Addr} {rc ac : Nat} {lim : Int} (hm1 : lim ≤ 9223372036854775807) (hm2 : -9223372036854775808 ≤ lim) {raw0 : Bs} {as_ : List Int} (hr0 : Ck w (fun _ => False) (.slice ra raw0.length rc) raw0) (hr0l : raw0.length ≤ 9223372036854775807) (ha : Ci w (.slice aa as_.length ac) as_) (hal : as_.length ≤ 9223372036854775807) :
    Calls Tryz.prog 7 #[.agg #[.slice ra raw0.length rc, .int .i64 lim, .slice aa as_.length ac]] w fun e w' => e = .returned (.bool true) ∧ w.grownBy w' none := by
  have b0 := Box.new w 84 #[.slice ra raw0.length rc, .int .i64 lim, .slice aa as_.length ac]
  have g0 := gb_alloc (gb_refl w none) (.cells #[.slice ra raw0.length rc, .int .i64 lim, .slice aa as_.length ac] 84)
  obtain ⟨w1, hw1⟩ : ∃ w1, w.alloc (.cells #[.slice ra raw0.length rc, .int .i64 lim, .slice aa as_.length ac] 84) = w1 := ⟨_, rfl⟩
  rw [hw1] at b0 g0
  have x0 : w1.cell? ⟨w.heap.size, 0, none⟩ = some (.slice ra raw0.length rc) := b0.cell 0
  have x1 : w1.cell? ⟨w.heap.size, 1, none⟩ = some (.int .i64 lim) := b0.cell 1
  have x2 : w1.cell? ⟨w.heap.size, 2, none⟩ = some (.slice aa as_.length ac) := b0.cell 2
  obtain ⟨-, hcc, hck0⟩ := ck_clip hr0 65536
  have h25 := clip_25 (w := w1) (ao := ra) (c := rc) (l := raw0) hcc hr0l
  obtain ⟨raw, hraw⟩ : ∃ raw, raw0.take 65536 = raw := ⟨_, rfl⟩
  rw [hraw] at h25 hck0
  have hlen : raw.length ≤ 65536 := by rw [← hraw, List.length_take]; omega
  have hckW := fun W (hW : w1.grownBy W none) => (hck0.kp (Kp.of (F := fun _ => False) (gb_trans g0 hW)) (fun _ _ h => h.elim) (fun _ _ h => h.elim) : Ck W (fun _ => False) (.slice ra raw.length rc) raw)
  have h27 := all_27 (hE.kept g0) (hckW w1 (gb_refl _ _)) (by omega) lim hm1 hm2
  obtain ⟨R, hRl⟩ : ∃ R, raw.length = R := ⟨_, rfl⟩
  rw [hRl] at h25 h27
  have A : Aside (raw.length = R) := hRl
  have hRb : R ≤ 65536 := by rw [← hRl]; exact hlen
  have hE1 := hE.kept g0
  have ha1 := ha.kept g0
  clear b0 hr0 hcc hck0 hraw hRl hE ha hr0l
  subst hw1
  go_enter Tryz.func7, Tryz.ntmps7
  go_upto_region 3 with (first
    | (go_at_call 25; go_must ((with_reducible refine h25.mono ?_); rintro e w2 ⟨rfl, rfl⟩))
    | (go_at_call 27; go_must ((with_reducible refine h27.mono ?_); rintro e w2 ⟨rv, q, left, rfl, AR⟩; (obtain ⟨va, vc, rfl, hvn, hvc, -⟩ := row_shape AR.ss.row))))
  have g2 := AR.gb
  have y1 := gb_cellN g2 x1
  have y2 := gb_cellN g2 x2
  have sq := AR.sq hm1 (by omega) (gb_refl _ none)
  obtain ⟨b, hb, htile, -⟩ := AR.tile
  obtain ⟨hq1, hq2⟩ := AR.quits htile
  have hnq := fun {k : Nat} (h : k < q.length) => AR.noquit h
  have hone := fun {w1 : World} {q1 : List Tld} {v1 : Value} {left1 : Int} {wr1 : World} {k : Nat} {x : Tld} (hx : q[k]? = some x) (R1 : AlR w1 lim.toNat ((raw.drop x.s.frm).take (x.s.to - x.s.frm)) q1 v1 left1 wr1) => AR.one hx R1
  have hpart := fun {w1 : World} {q1 : List Tld} {v1 : Value} {left1 : Int} {wr1 : World} {k : Nat} (hk : k ≤ raw.length) (R1 : AlR w1 lim.toNat (raw.take k) q1 v1 left1 wr1) => AR.part hk R1
  have hmore := fun {w1 : World} {q1 : List Tld} {v1 : Value} {left1 : Int} {wr1 : World} {n : Nat} {y : Tld} (hy : q[n]? = some y) (hv : y.s.cmd.verb ≠ 18) (R1 : AlR w1 lim.toNat (raw.drop y.s.to) q1 v1 left1 wr1) => AR.more hy hv R1
  have sqk := fun W (hW : w2.grownBy W none) => sq.kept0 hW
  have hE2 := hE1.kept g2
  obtain ⟨n, hn⟩ : ∃ n, q.length = n := ⟨_, rfl⟩
  have scell := sq.cell
  have sr := sq.sr
  rw [hn] at scell hnq hq1 hq2
  rw [A.out] at hb hq2
  have A2 : Aside (q.length = n) := hn
  have hnb : n ≤ b := by have := htile.le; omega
  rw [hn]
  clear x0 x1 x2 h25 h27 hn AR sq
  go_wp2
  go_loopw [6, 7, 8] (fun x6 x7 x8 wr => ∃ (k m : Nat), k ≤ n ∧ x8 = .int .i64 (k : Int) ∧ x6 = .int .i64 (m : Int) ∧ x7 = .bool (lastQ q k) ∧ Tile m (q.drop k) b ∧ w2.grownBy wr none) (fun _ _ x8 _ => n - (intOf x8).toNat)
  case atStart => exact ⟨0, 0, Nat.zero_le _, rfl, rfl, by rw [lastQ_zero], htile, gb_refl _ _⟩
  case round =>
    obtain ⟨k, m, hk, rfl, rfl, rfl, hT, hg⟩ := hrel
    rcases (by omega : k < n ∨ k = n) with hlt | hke
    · as_aux_lemma =>
      obtain ⟨x, hx⟩ : ∃ x, q[k]? = some x := ⟨_, List.getElem?_eq_getElem (by rw [A2.out]; exact hlt)⟩
      have hdr : q.drop k = x :: q.drop (k + 1) := by
        obtain ⟨h1, h2⟩ := List.getElem?_eq_some_iff.1 hx
        rw [← h2, List.drop_eq_getElem_cons h1]
      rw [hdr] at hT
      obtain ⟨t1, t2, t3⟩ := hT
      have t4 := t3.le
      have hlq := lastQ_succ hx
      rw [hnq hlt]
      obtain ⟨g9, c9, e9, hc9⟩ := scell k x hx
      injection e9 with e9 _ e9c
      subst e9 e9c
      obtain ⟨T, hTT⟩ : ∃ T, x.s.to = T := ⟨_, rfl⟩
      rw [hTT] at t2 t3 t4
      obtain ⟨g, o, c, ec, hcap, hcm, -, -⟩ := (hckW w2 g2).by (by rw [A.out]; omega)
      injection ec with ec1 _ ec3
      subst ec1 ec3
      have hR1 := fun {W1 : World} {q1 : List Tld} {v1 : Value} {left1 : Int} {wr1 : World} (Z : AlR W1 lim.toNat ((raw.drop m).take (T - m)) q1 v1 left1 wr1) => hone hx (by rw [t1, hTT]; exact Z)
      have hcW := fun W (hW : w2.grownBy W none) => (((hckW W (gb_trans g2 hW)).drop m (by rw [A.out]; omega)).take' (T - m) (by rw [List.length_drop, A.out]; omega) : Ck W (fun _ => False) (.slice (some ⟨g, o + m, none⟩) (T - m) (rc - m)) ((raw.drop m).take (T - m)))
      have h27 := fun W (hW : w2.grownBy W none) => all_27 (hE2.kept hW) (hcW W hW) (by rw [List.length_take]; omega) lim hm1 hm2
      have p14 : wr.cell? ⟨g9, k * 16 + 14, none⟩ = some (.int .i64 (m : Int)) := by rw [← t1]; exact gb_cellN hg (hc9 14 _ rfl)
      have p15 : wr.cell? ⟨g9, k * 16 + 15, none⟩ = some (.int .i64 (T : Int)) := by rw [← hTT]; exact gb_cellN hg (hc9 15 _ rfl)
      have p0 : wr.cell? ⟨g9, k * 16, none⟩ = some (.int .i64 x.s.cmd.verb) := gb_cellN hg (hc9 0 _ rfl)
      have z1 := gb_cellN hg y1
      have d1 : ((k : Int) < (n : Int)) := by omega
      have d2 : decide ((T : Int) ≤ (m : Int)) = false := decide_eq_false (by omega)
      have d3 : decide ((R : Int) < (T : Int)) = false := decide_eq_false (by omega)
      have d5 : ¬ rc = m := by rw [A.out] at hcap; omega
      have d6 : (T : Int) ≤ (rc : Int) := by rw [A.out] at hcap; omega
      have d7 : m ≤ T := by omega
      have hxm := List.mem_of_getElem? hx
      have srx := sr x hxm
      have AX : Aside (x.s.frm = m ∧ x.s.to = T) := ⟨t1, hTT⟩
      clear hdr t1 hTT hx hone hcW hckW hnq hpart hmore sqk
      go_upto_region 12 with (fail)
      go_region_held3 (fun W : World => W.cell? ⟨g9, k * 16 + 14, none⟩ = some (.int .i64 (m : Int)) ∧ W.cell? ⟨w.heap.size, 1, none⟩ = some (.int .i64 lim)) (go_keep) (
        (go_at_call 27; go_must ((with_reducible refine (h27 _ (gb_drew hg)).mono ?_); rintro e w6 ⟨rv1, q1, left1, rfl, R1⟩; (have hg6 : w2.grownBy w6 none := gb_trans (gb_drew hg) R1.gb); (have n14 : w6.cell? ⟨g9, k * 16 + 14, none⟩ = some (.int .i64 (m : Int)) := by rw [← AX.out.1]; exact gb_cellN hg6 (hc9 14 _ rfl)); (have nl := gb_cellN hg6 y1))))
      obtain ⟨hl1, y, hqy, hys⟩ := hR1 R1
      subst hl1 hqy
      have sq1 := R1.sq hm1 (by rw [List.length_take]; omega) (gb_refl _ none)
      obtain ⟨gy, cy, ey, hcy⟩ := sq1.cell 0 y rfl
      subst ey
      have sry := sq1.sr y (by simp)
      obtain ⟨s, ck1, cd1, cm1⟩ := x
      obtain ⟨s2, ck2, cd2, cm2⟩ := y
      dsimp only at srx sry hys hc9 hcy hlq AX
      obtain ⟨aA1, nA1, cA1, rfl⟩ := srx.k.shape
      obtain ⟨aA3, nA3, cA3, rfl⟩ := srx.m.shape
      obtain ⟨aA2, nA2, cA2, rfl⟩ := srx.d.shape3
      obtain ⟨aB1, nB1, cB1, rfl⟩ := sry.k.shape
      obtain ⟨aB3, nB3, cB3, rfl⟩ := sry.m.shape
      obtain ⟨aB2, nB2, cB2, rfl⟩ := sry.d.shape3
      have hby : s2.frm + s.frm ≤ 4611686018427387904 ∧ s2.to + s.frm ≤ 4611686018427387904 := by
        have h1 : s2.frm + s.frm = s.frm := congrArg Stp.frm hys
        have h2 : s2.to + s.frm = s.to := congrArg Stp.to hys
        rw [h1, h2, AX.out.1, AX.out.2]
        omega
      have h40 := fun W => shifted_40 W s2 aB1 aB2 aB3 nB1 cB1 nB2 cB2 nB3 cB3 s.frm hby.1 hby.2
      rw [hys] at h40
      have sry' : Sr w6 s (.slice aB1 nB1 cB1) (.slice aB2 nB2 cB2) (.slice aB3 nB3 cB3) := by rw [← hys]; exact ⟨sry.k, sry.d, sry.m, sry.kn, sry.mn⟩
      have srx' := srx.kept0 hg6
      have h39 := fun W (hW : w6.grownBy W none) => samestep_39 s _ _ _ _ _ _ (sry'.kept0 hW) (srx'.kept0 hW)
      have hcx : ∀ j u, (stpL s (.slice aA1 nA1 cA1) (.slice aA2 nA2 cA2) (.slice aA3 nA3 cA3))[j]? = some u → w6.cell? ⟨g9, k * 16 + j, none⟩ = some u := fun j u hu => gb_cellN hg6 (hc9 j u hu)
      have hcy' : ∀ j u, (stpL s2 (.slice aB1 nB1 cB1) (.slice aB2 nB2 cB2) (.slice aB3 nB3 cB3))[j]? = some u → w6.cell? ⟨gy, j, none⟩ = some u := fun j u hu => by have := hcy j u hu; rwa [Nat.zero_mul, Nat.zero_add] at this
      have u0 : w6.cell? ⟨gy, 0, none⟩ = some (.int .i64 s2.cmd.verb) := hcy' 0 _ (by rfl)
      have u1 : w6.cell? ⟨gy, 1, none⟩ = some (.slice aB1 nB1 cB1) := hcy' 1 _ (by rfl)
      have u2 : w6.cell? ⟨gy, 2, none⟩ = some (.int .u64 s2.cmd.flags) := hcy' 2 _ (by rfl)
      have u3 : w6.cell? ⟨gy, 3, none⟩ = some (.int .i64 s2.cmd.exp) := hcy' 3 _ (by rfl)
      have u4 : w6.cell? ⟨gy, 4, none⟩ = some (.int .u64 s2.cmd.tok) := hcy' 4 _ (by rfl)
      have u5 : w6.cell? ⟨gy, 5, none⟩ = some (.int .u64 s2.cmd.del) := hcy' 5 _ (by rfl)
      have u6 : w6.cell? ⟨gy, 6, none⟩ = some (.slice aB2 nB2 cB2) := hcy' 6 _ (by rfl)
      have u7 : w6.cell? ⟨gy, 7, none⟩ = some (.bool s2.cmd.nr) := hcy' 7 _ (by rfl)
      have u8 : w6.cell? ⟨gy, 8, none⟩ = some (.bool s2.large) := hcy' 8 _ (by rfl)
      have u9 : w6.cell? ⟨gy, 9, none⟩ = some (.slice aB3 nB3 cB3) := hcy' 9 _ (by rfl)
      have u10 : w6.cell? ⟨gy, 10, none⟩ = some (sv s2.cmd.what) := hcy' 10 _ (by rfl)
      have u11 : w6.cell? ⟨gy, 11, none⟩ = some (.int .i64 s2.wk) := hcy' 11 _ (by rfl)
      have u12 : w6.cell? ⟨gy, 12, none⟩ = some (sv s2.wt) := hcy' 12 _ (by rfl)
      have u13 : w6.cell? ⟨gy, 13, none⟩ = some (.int .i64 s2.wp) := hcy' 13 _ (by rfl)
      have u14 : w6.cell? ⟨gy, 14, none⟩ = some (.int .i64 s2.frm) := hcy' 14 _ (by rfl)
      have u15 : w6.cell? ⟨gy, 15, none⟩ = some (.int .i64 s2.to) := hcy' 15 _ (by rfl)
      have v0 : w6.cell? ⟨g9, k * 16, none⟩ = some (.int .i64 s.cmd.verb) := hcx 0 _ (by rfl)
      have v1 : w6.cell? ⟨g9, k * 16 + 1, none⟩ = some (.slice aA1 nA1 cA1) := hcx 1 _ (by rfl)
      have v2 : w6.cell? ⟨g9, k * 16 + 2, none⟩ = some (.int .u64 s.cmd.flags) := hcx 2 _ (by rfl)
      have v3 : w6.cell? ⟨g9, k * 16 + 3, none⟩ = some (.int .i64 s.cmd.exp) := hcx 3 _ (by rfl)
      have v4 : w6.cell? ⟨g9, k * 16 + 4, none⟩ = some (.int .u64 s.cmd.tok) := hcx 4 _ (by rfl)
      have v5 : w6.cell? ⟨g9, k * 16 + 5, none⟩ = some (.int .u64 s.cmd.del) := hcx 5 _ (by rfl)
      have v6 : w6.cell? ⟨g9, k * 16 + 6, none⟩ = some (.slice aA2 nA2 cA2) := hcx 6 _ (by rfl)
      have v7 : w6.cell? ⟨g9, k * 16 + 7, none⟩ = some (.bool s.cmd.nr) := hcx 7 _ (by rfl)
      have v8 : w6.cell? ⟨g9, k * 16 + 8, none⟩ = some (.bool s.large) := hcx 8 _ (by rfl)
      have v9 : w6.cell? ⟨g9, k * 16 + 9, none⟩ = some (.slice aA3 nA3 cA3) := hcx 9 _ (by rfl)
      have v10 : w6.cell? ⟨g9, k * 16 + 10, none⟩ = some (sv s.cmd.what) := hcx 10 _ (by rfl)
      have v11 : w6.cell? ⟨g9, k * 16 + 11, none⟩ = some (.int .i64 s.wk) := hcx 11 _ (by rfl)
      have v12 : w6.cell? ⟨g9, k * 16 + 12, none⟩ = some (sv s.wt) := hcx 12 _ (by rfl)
      have v13 : w6.cell? ⟨g9, k * 16 + 13, none⟩ = some (.int .i64 s.wp) := hcx 13 _ (by rfl)
      have v14 : w6.cell? ⟨g9, k * 16 + 14, none⟩ = some (.int .i64 s.frm) := hcx 14 _ (by rfl)
      have v15 : w6.cell? ⟨g9, k * 16 + 15, none⟩ = some (.int .i64 s.to) := hcx 15 _ (by rfl)
      clear hcx hcy' hcy sq1 R1 hR1 h27 scell sr srx sry sry' srx' n14 hys hby p14 p15 p0 z1
      go_upto_region 13 with (fail)
      refine wp_region_noPanic ?_
      refine wp_region_held_drew (S := fun W : World => w6.grownBy W none) (by kernel_rfl) (gb_drew (gb_refl w6 none)) (fun hg8 => ?_)
      generalize w6.drew = W8 at hg8 ⊢
      refine wpAnyH_take (i := 0) (oi := { dst := some 90, op := Op.move (Operand.tmp 10), type := 3, pos := _, after := #[], guard := none }) (v := ?_) rfl (by kernel_rfl) (by kernel_rfl) (by kernel_rfl) (fun _ _ _ h => h) (Or.inl ⟨by rfl, ?_⟩) (by first | trivial | assumption) ?_
      rotate_left 1
      · (intro W hSw; go_simp; (try (with_reducible rfl)))
      try simp only [Act.put, List.setIfInBounds_toArray, List.set_cons_zero, List.set_cons_succ]
      refine wpAnyH_take (i := 1) (oi := { dst := some 91, op := Op.binOp BinOp.neq 3 (Operand.tmp 90) (Operand.const (Value.int IntKind.i64 0)) 3, type := 4, pos := _, after := #[{ on := 0, ground := Ground.data }], guard := none }) (v := ?_) rfl (by kernel_rfl) (by kernel_rfl) (by kernel_rfl) (fun _ _ _ h => h) (Or.inl ⟨by rfl, ?_⟩) (by first | trivial | assumption) ?_
      rotate_left 1
      · (intro W hSw; go_simp; (try (with_reducible rfl)))
      try simp only [Act.put, List.setIfInBounds_toArray, List.set_cons_zero, List.set_cons_succ]
      refine wpAnyH_take (i := 2) (oi := { dst := some 92, op := Op.move (Operand.tmp 91), type := 4, pos := _, after := #[{ on := 1, ground := Ground.data }], guard := none }) (v := ?_) rfl (by kernel_rfl) (by kernel_rfl) (by kernel_rfl) (fun _ _ _ h => h) (Or.inl ⟨by rfl, ?_⟩) (by first | trivial | assumption) ?_
      rotate_left 1
      · (intro W hSw; go_simp; (try (with_reducible rfl)))
      try simp only [Act.put, List.setIfInBounds_toArray, List.set_cons_zero, List.set_cons_succ]
      refine wpAnyH_take (i := 3) (oi := { dst := some 93, op := Op.move (Operand.tmp 9), type := 57, pos := _, after := #[{ on := 2, ground := Ground.guard }], guard := some (2, false) }) (v := ?_) rfl (by kernel_rfl) (by kernel_rfl) (by kernel_rfl) (fun _ _ _ h => h) (Or.inl ⟨by rfl, ?_⟩) (by first | trivial | assumption) ?_
      rotate_left 1
      · (intro W hSw; go_simp; (try (with_reducible rfl)))
      try simp only [Act.put, List.setIfInBounds_toArray, List.set_cons_zero, List.set_cons_succ]
      refine wpAnyH_take (i := 4) (oi := { dst := some 94, op := Op.call { callee := Callee.builtin Builtin.len, args := #[Operand.tmp 93], argTypes := #[57] }, type := 3, pos := _, after := #[{ on := 3, ground := Ground.data }, { on := 2, ground := Ground.guard }], guard := some (2, false) }) (v := ?_) rfl (by kernel_rfl) (by kernel_rfl) (by kernel_rfl) (fun _ _ _ h => h) (Or.inl ⟨by rfl, ?_⟩) (by first | trivial | assumption) ?_
      rotate_left 1
      · (intro W hSw; go_simp; (try (with_reducible rfl)))
      try simp only [Act.put, List.setIfInBounds_toArray, List.set_cons_zero, List.set_cons_succ]
      refine wpAnyH_take (i := 5) (oi := { dst := some 95, op := Op.binOp BinOp.neq 3 (Operand.tmp 94) (Operand.const (Value.int IntKind.i64 1)) 3, type := 4, pos := _, after := #[{ on := 4, ground := Ground.data }, { on := 2, ground := Ground.guard }], guard := some (2, false) }) (v := ?_) rfl (by kernel_rfl) (by kernel_rfl) (by kernel_rfl) (fun _ _ _ h => h) (Or.inl ⟨by rfl, ?_⟩) (by first | trivial | assumption) ?_
      rotate_left 1
      · (intro W hSw; go_simp; (try (with_reducible rfl)))
      try simp only [Act.put, List.setIfInBounds_toArray, List.set_cons_zero, List.set_cons_succ]
      refine wpAnyH_take (i := 6) (oi := { dst := some 96, op := Op.pick (Operand.tmp 92) (Operand.const (Value.bool true)) (Operand.tmp 95), type := 4, pos := _, after := #[{ on := 2, ground := Ground.data }, { on := 5, ground := Ground.data }], guard := none }) (v := ?_) rfl (by kernel_rfl) (by kernel_rfl) (by kernel_rfl) (fun _ _ _ h => h) (Or.inl ⟨by rfl, ?_⟩) (by first | trivial | assumption) ?_
      rotate_left 1
      · (intro W hSw; go_simp; (try (with_reducible rfl)))
      try simp only [Act.put, List.setIfInBounds_toArray, List.set_cons_zero, List.set_cons_succ]
      refine wpAnyH_take (i := 7) (oi := { dst := some 97, op := Op.move (Operand.tmp 96), type := 4, pos := _, after := #[{ on := 6, ground := Ground.data }, { on := 2, ground := Ground.chain }], guard := none }) (v := ?_) rfl (by kernel_rfl) (by kernel_rfl) (by kernel_rfl) (fun _ _ _ h => h) (Or.inl ⟨by rfl, ?_⟩) (by first | trivial | assumption) ?_
      rotate_left 1
      · (intro W hSw; go_simp; (try (with_reducible rfl)))
      try simp only [Act.put, List.setIfInBounds_toArray, List.set_cons_zero, List.set_cons_succ]
      refine wpAnyH_take (i := 8) (oi := { dst := some 98, op := Op.move (Operand.tmp 9), type := 57, pos := _, after := #[{ on := 7, ground := Ground.guard }], guard := some (7, false) }) (v := ?_) rfl (by kernel_rfl) (by kernel_rfl) (by kernel_rfl) (fun _ _ _ h => h) (Or.inl ⟨by rfl, ?_⟩) (by first | trivial | assumption) ?_
      rotate_left 1
      · (intro W hSw; go_simp; (try (with_reducible rfl)))
      try simp only [Act.put, List.setIfInBounds_toArray, List.set_cons_zero, List.set_cons_succ]
      refine wpAnyH_take (i := 9) (oi := { dst := some 99, op := Op.indexAddr 57 (Operand.tmp 98) (Operand.const (Value.int IntKind.i64 0)), type := 0, pos := _, after := #[{ on := 8, ground := Ground.data }, { on := 7, ground := Ground.guard }], guard := some (7, false) }) (v := ?_) rfl (by kernel_rfl) (by kernel_rfl) (by kernel_rfl) (fun _ _ _ h => h) (Or.inl ⟨by rfl, ?_⟩) (by first | trivial | assumption) ?_
      rotate_left 1
      · (intro W hSw; go_simp; (try (with_reducible rfl)))
      try simp only [Act.put, List.setIfInBounds_toArray, List.set_cons_zero, List.set_cons_succ]
      refine wpAnyH_take (i := 10) (oi := { dst := some 100, op := Op.load 86 (Operand.tmp 99), type := 86, pos := _, after := #[{ on := 9, ground := Ground.data }, { on := 7, ground := Ground.guard }], guard := some (7, false) }) (v := ?_) rfl (by kernel_rfl) (by kernel_rfl) (by kernel_rfl) (fun _ _ _ h => h) (Or.inl ⟨by rfl, ?_⟩) (by first | trivial | assumption) ?_
      rotate_left 1
      · (intro W hSw; have x0 := gb_cellN hSw u0; have x1 := gb_cellN hSw u1; have x2 := gb_cellN hSw u2; have x3 := gb_cellN hSw u3; have x4 := gb_cellN hSw u4; have x5 := gb_cellN hSw u5; have x6 := gb_cellN hSw u6; have x7 := gb_cellN hSw u7; have x8 := gb_cellN hSw u8; have x9 := gb_cellN hSw u9; have x10 := gb_cellN hSw u10; have x11 := gb_cellN hSw u11; have x12 := gb_cellN hSw u12; have x13 := gb_cellN hSw u13; have x14 := gb_cellN hSw u14; have x15 := gb_cellN hSw u15; go_simp; (try (with_reducible rfl)))
      try simp only [Act.put, List.setIfInBounds_toArray, List.set_cons_zero, List.set_cons_succ]
      refine wpAnyH_take (i := 11) (oi := { dst := some 101, op := Op.move (Operand.tmp 4), type := 57, pos := _, after := #[{ on := 7, ground := Ground.guard }], guard := some (7, false) }) (v := ?_) rfl (by kernel_rfl) (by kernel_rfl) (by kernel_rfl) (fun _ _ _ h => h) (Or.inl ⟨by rfl, ?_⟩) (by first | trivial | assumption) ?_
      rotate_left 1
      · (intro W hSw; go_simp; (try (with_reducible rfl)))
      try simp only [Act.put, List.setIfInBounds_toArray, List.set_cons_zero, List.set_cons_succ]
      refine wpAnyH_take (i := 12) (oi := { dst := some 102, op := Op.move (Operand.tmp 8), type := 3, pos := _, after := #[{ on := 7, ground := Ground.guard }], guard := some (7, false) }) (v := ?_) rfl (by kernel_rfl) (by kernel_rfl) (by kernel_rfl) (fun _ _ _ h => h) (Or.inl ⟨by rfl, ?_⟩) (by first | trivial | assumption) ?_
      rotate_left 1
      · (intro W hSw; go_simp; (try (with_reducible rfl)))
      try simp only [Act.put, List.setIfInBounds_toArray, List.set_cons_zero, List.set_cons_succ]
      refine wpAnyH_take (i := 13) (oi := { dst := some 103, op := Op.indexAddr 57 (Operand.tmp 101) (Operand.tmp 102), type := 0, pos := _, after := #[{ on := 11, ground := Ground.data }, { on := 12, ground := Ground.data }, { on := 7, ground := Ground.guard }], guard := some (7, false) }) (v := ?_) rfl (by kernel_rfl) (by kernel_rfl) (by kernel_rfl) (fun _ _ _ h => h) (Or.inl ⟨by rfl, ?_⟩) (by first | trivial | assumption) ?_
      rotate_left 1
      · (intro W hSw; go_simp; (try (with_reducible rfl)))
      try simp only [Act.put, List.setIfInBounds_toArray, List.set_cons_zero, List.set_cons_succ]
      refine wpAnyH_take (i := 14) (oi := { dst := some 104, op := Op.fieldAddr 86 (Operand.tmp 103) 2, type := 0, pos := _, after := #[{ on := 13, ground := Ground.data }, { on := 7, ground := Ground.guard }], guard := some (7, false) }) (v := ?_) rfl (by kernel_rfl) (by kernel_rfl) (by kernel_rfl) (fun _ _ _ h => h) (Or.inl ⟨by rfl, ?_⟩) (by first | trivial | assumption) ?_
      rotate_left 1
      · (intro W hSw; go_simp; (try (with_reducible rfl)))
      try simp only [Act.put, List.setIfInBounds_toArray, List.set_cons_zero, List.set_cons_succ]
      refine wpAnyH_take (i := 15) (oi := { dst := some 105, op := Op.load 3 (Operand.tmp 104), type := 3, pos := _, after := #[{ on := 14, ground := Ground.data }, { on := 7, ground := Ground.guard }], guard := some (7, false) }) (v := ?_) rfl (by kernel_rfl) (by kernel_rfl) (by kernel_rfl) (fun _ _ _ h => h) (Or.inl ⟨by rfl, ?_⟩) (by first | trivial | assumption) ?_
      rotate_left 1
      · (intro W hSw; have x14 := gb_cellN hSw v14; go_simp; (try (with_reducible rfl)))
      try simp only [Act.put, List.setIfInBounds_toArray, List.set_cons_zero, List.set_cons_succ]
      refine wpAnyH_take (i := 17) (oi := { dst := some 107, op := Op.move (Operand.tmp 4), type := 57, pos := _, after := #[{ on := 7, ground := Ground.guard }], guard := some (7, false) }) (v := ?_) rfl (by kernel_rfl) (by kernel_rfl) (by kernel_rfl) (fun _ _ _ h => h) (Or.inl ⟨by rfl, ?_⟩) (by first | trivial | assumption) ?_
      rotate_left 1
      · (intro W hSw; go_simp; (try (with_reducible rfl)))
      try simp only [Act.put, List.setIfInBounds_toArray, List.set_cons_zero, List.set_cons_succ]
      refine wpAnyH_take (i := 18) (oi := { dst := some 108, op := Op.move (Operand.tmp 8), type := 3, pos := _, after := #[{ on := 7, ground := Ground.guard }], guard := some (7, false) }) (v := ?_) rfl (by kernel_rfl) (by kernel_rfl) (by kernel_rfl) (fun _ _ _ h => h) (Or.inl ⟨by rfl, ?_⟩) (by first | trivial | assumption) ?_
      rotate_left 1
      · (intro W hSw; go_simp; (try (with_reducible rfl)))
      try simp only [Act.put, List.setIfInBounds_toArray, List.set_cons_zero, List.set_cons_succ]
      refine wpAnyH_take (i := 19) (oi := { dst := some 109, op := Op.indexAddr 57 (Operand.tmp 107) (Operand.tmp 108), type := 0, pos := _, after := #[{ on := 17, ground := Ground.data }, { on := 18, ground := Ground.data }, { on := 7, ground := Ground.guard }], guard := some (7, false) }) (v := ?_) rfl (by kernel_rfl) (by kernel_rfl) (by kernel_rfl) (fun _ _ _ h => h) (Or.inl ⟨by rfl, ?_⟩) (by first | trivial | assumption) ?_
      rotate_left 1
      · (intro W hSw; go_simp; (try (with_reducible rfl)))
      try simp only [Act.put, List.setIfInBounds_toArray, List.set_cons_zero, List.set_cons_succ]
      refine wpAnyH_take (i := 20) (oi := { dst := some 110, op := Op.load 86 (Operand.tmp 109), type := 86, pos := _, after := #[{ on := 19, ground := Ground.data }, { on := 7, ground := Ground.guard }], guard := some (7, false) }) (v := ?_) rfl (by kernel_rfl) (by kernel_rfl) (by kernel_rfl) (fun _ _ _ h => h) (Or.inl ⟨by rfl, ?_⟩) (by first | trivial | assumption) ?_
      rotate_left 1
      · (intro W hSw; have x0 := gb_cellN hSw v0; have x1 := gb_cellN hSw v1; have x2 := gb_cellN hSw v2; have x3 := gb_cellN hSw v3; have x4 := gb_cellN hSw v4; have x5 := gb_cellN hSw v5; have x6 := gb_cellN hSw v6; have x7 := gb_cellN hSw v7; have x8 := gb_cellN hSw v8; have x9 := gb_cellN hSw v9; have x10 := gb_cellN hSw v10; have x11 := gb_cellN hSw v11; have x12 := gb_cellN hSw v12; have x13 := gb_cellN hSw v13; have x14 := gb_cellN hSw v14; have x15 := gb_cellN hSw v15; go_simp; (try (with_reducible rfl)))
      try simp only [Act.put, List.setIfInBounds_toArray, List.set_cons_zero, List.set_cons_succ]
      refine wpAnyH_ready (rs := [16]) (by kernel_rfl) (by simp) ?_
      refine (AllReadyH.cons rfl (fun K hK => ?_) AllReadyH.nil)
      go_simp
      (with_reducible refine (h40 W8).mono ?_)
      rintro e W9 ⟨rfl, hg9⟩
      have hg10 := gb_trans hg8 hg9
      refine hK.out _ _ hg10 (fun hS => ?_)
      clear hK K hS
      try simp only [Act.put, List.setIfInBounds_toArray, List.set_cons_zero, List.set_cons_succ]
      refine wpAnyH_ready (rs := [21]) (by kernel_rfl) (by simp) ?_
      refine (AllReadyH.cons rfl (fun K hK => ?_) AllReadyH.nil)
      go_simp
      (with_reducible refine (h39 W9 hg10).mono ?_)
      rintro e W11 ⟨rfl, hg11⟩
      have hg12 := gb_trans hg10 hg11
      refine hK.out _ _ hg12 (fun hS => ?_)
      clear hK K hS
      try simp only [Act.put, List.setIfInBounds_toArray, List.set_cons_zero, List.set_cons_succ]
      refine wpAnyH_take (i := 22) (oi := { dst := some 112, op := Op.unOp UnOp.not 4 (Operand.tmp 111), type := 4, pos := _, after := #[{ on := 21, ground := Ground.data }, { on := 7, ground := Ground.guard }], guard := some (7, false) }) (v := ?_) rfl (by kernel_rfl) (by kernel_rfl) (by kernel_rfl) (fun _ _ _ h => h) (Or.inl ⟨by rfl, ?_⟩) (by first | trivial | assumption) ?_
      rotate_left 1
      · (intro W hSw; go_simp; (try (with_reducible rfl)))
      try simp only [Act.put, List.setIfInBounds_toArray, List.set_cons_zero, List.set_cons_succ]
      refine wpAnyH_take (i := 23) (oi := { dst := some 113, op := Op.pick (Operand.tmp 97) (Operand.const (Value.bool true)) (Operand.tmp 112), type := 4, pos := _, after := #[{ on := 7, ground := Ground.data }, { on := 22, ground := Ground.data }], guard := none }) (v := ?_) rfl (by kernel_rfl) (by kernel_rfl) (by kernel_rfl) (fun _ _ _ h => h) (Or.inl ⟨by rfl, ?_⟩) (by first | trivial | assumption) ?_
      rotate_left 1
      · (intro W hSw; go_simp; (try (with_reducible rfl)))
      try simp only [Act.put, List.setIfInBounds_toArray, List.set_cons_zero, List.set_cons_succ]
      refine wpAnyH_done (by kernel_rfl) ?_ _
      refine NoPanic.normal ?_
      go_wp2
      exact ⟨⟨k + 1, T, by omega, by simp, rfl, by rw [hlq], t3, gb_trans hg6 hg12⟩, by simp [intOf]; omega⟩
    · subst hke
      have hT' : m = b := by rw [← A2.out, List.drop_length] at hT; exact hT
      subst hT'
      have dk : decide ((k : Int) < (k : Int)) = false := decide_eq_false (by omega)
      obtain ⟨QQ, hQQ⟩ : ∃ QQ, lastQ q k = QQ := ⟨_, rfl⟩
      rw [hQQ] at hq1 hq2 ⊢
      clear hT hnq hone hQQ
      go_upto_region 15 with (fail)
      go_cut [130] from 114 to 130 (fun x130 wc => x130 = .bool false ∧ w2.grownBy wc none)
      case first =>
        cases QQ with
        | true =>
          have hl0 := hq1 rfl
          subst hl0
          clear hq1 hq2 scell sr
          go_wp2
          go_meet
          exact ⟨rfl, hg⟩
        | false =>
          obtain ⟨hl0, hbR⟩ := hq2 rfl
          have eL : (R : Int) - (m : Int) = left := by rw [hl0]; omega
          clear hq1 hq2 hl0 scell sr
          go_wp2
          go_meet
          exact ⟨rfl, hg⟩
      case rest =>
        obtain ⟨rfl, hgc⟩ := hcut
        clear hg
        go_wp2
        go_loopw [11] (fun x11 wr => ∃ i : Nat, i ≤ as_.length ∧ i ≤ 12 ∧ x11 = .int .i64 (i : Int) ∧ w2.grownBy wr none) (fun x11 _ => 12 - (intOf x11).toNat)
        case atStart => exact ⟨0, Nat.zero_le _, by omega, rfl, hgc⟩
        case round =>
          obtain ⟨i, hi, hi12, rfl, hg⟩ := hrel
          have z2 := gb_cellN hg y2
          by_cases hgo : i < as_.length ∧ i < 12
          · obtain ⟨av, hav⟩ : ∃ av, as_[i]? = some av := ⟨_, List.getElem?_eq_getElem hgo.1⟩
            obtain ⟨aa', ac', eaa, haa⟩ := ha1
            injection eaa with eaa1 _ eaa2
            subst eaa1 eaa2
            obtain ⟨ga, oa, rfl, -, hac⟩ := haa (by omega)
            have zi := gb_cellN hg (gb_cellN g2 (hac i av hav))
            have z1 := gb_cellN hg y1
            have d1 : decide ((i : Int) < (as_.length : Int)) = true := decide_eq_true (by omega)
            have d2 : decide ((i : Int) < 12) = true := decide_eq_true (by omega)
            clear hac haa hav
            obtain ⟨K, hK, hKR⟩ := place av hRb
            go_upto_region 21 with (fail)
            go_cut [12, 13, 14] from 131 to 167 (fun x12 x13 x14 wc => x12 = .int .i64 (K : Int) ∧ ∃ (pa : Option Addr) (pc N1 : Nat) (q1 : List Tld) (left1 : Int), x13 = .slice pa N1 pc ∧ q1.length = N1 ∧ x14 = .int .i64 left1 ∧ Sq wc (.slice pa N1 pc) q1 ∧ PartP q q1 K left1 ∧ w2.grownBy wc none)
            case first =>
              as_aux_lemma =>
              have h27 := fun W (hW : w2.grownBy W none) (v : Value) (hv : Ck W (fun _ => False) v (raw.take K)) => all_27 (hE2.kept hW) hv (by rw [List.length_take]; omega) lim hm1 hm2
              have hfin : ∀ {W1 w6 : World} {rv1 : Value} {q1 : List Tld} {left1 : Int}, AlR W1 lim.toNat (raw.take K) q1 rv1 left1 w6 → Sq w6 rv1 q1 ∧ PartP q q1 K left1 := fun Z => ⟨Z.sq hm1 (by rw [List.length_take]; omega) (gb_refl _ none), hpart (by rw [A.out]; exact hKR) Z⟩
              have hck := hckW wr (gb_trans g2 hg)
              have hckW2 := fun W (hW : w2.grownBy W none) => hckW W (gb_trans g2 hW)
              clear hq1 hq2 scell sr sqk hpart hmore hckW hE2 hE1
              rcases hck with ⟨hr0, hv0⟩ | ⟨g, o, c, hv0, hcap, hcm, -, -, -⟩
              · injection hv0 with e1 e2 e3
                subst e1 e3
                have hR0 : R = 0 := by rw [← A.out, hr0]; rfl
                have hK0 : K = 0 := by omega
                subst hr0 hR0 hK0
                have h27' := fun W (hW : w2.grownBy W none) => h27 W hW (.slice none 0 0) (.inl ⟨rfl, rfl⟩)
                clear h27
                go_region_held3 (fun W : World => W.cell? ⟨w.heap.size, 1, none⟩ = some (.int .i64 lim)) (go_keep) (
                  (go_at_call 27; go_must ((with_reducible refine (h27' _ (gb_drew hg)).mono ?_); rintro e w6 ⟨rv1, q1, left1, rfl, R1⟩; (have hg6 : w2.grownBy w6 none := gb_trans (gb_drew hg) R1.gb); (have nl := gb_cellN hg6 y1); (obtain ⟨pa, pc, rfl, -⟩ := row_shape R1.ss.row))))
                go_wp2
                go_meet
                obtain ⟨h1, h2⟩ := hfin R1
                exact ⟨rfl, pa, pc, _, q1, left1, rfl, rfl, rfl, h1, h2, hg6⟩
              · injection hv0 with e1 e2 e3
                subst e1 e3
                rw [A.out] at hcap
                have h27' := fun W (hW : w2.grownBy W none) => h27 W hW (.slice (some ⟨g, o, none⟩) K rc) ((hckW2 W hW).take' K (by rw [A.out]; exact hKR))
                have dK : (K : Int) ≤ (rc : Int) := by omega
                clear h27 hckW2
                go_region_held3 (fun W : World => W.cell? ⟨w.heap.size, 1, none⟩ = some (.int .i64 lim)) (go_keep) (
                  (go_at_call 27; go_must ((with_reducible refine (h27' _ (gb_drew hg)).mono ?_); rintro e w6 ⟨rv1, q1, left1, rfl, R1⟩; (have hg6 : w2.grownBy w6 none := gb_trans (gb_drew hg) R1.gb); (have nl := gb_cellN hg6 y1); (obtain ⟨pa, pc, rfl, -⟩ := row_shape R1.ss.row))))
                go_wp2
                go_meet
                obtain ⟨h1, h2⟩ := hfin R1
                exact ⟨rfl, pa, pc, _, q1, left1, rfl, rfl, rfl, h1, h2, hg6⟩
            case rest =>
              obtain ⟨rfl, pa, pc, N1, q1, left1, rfl, hN1, rfl, sq1, hP, hgc2⟩ := hcut
              obtain ⟨hP1, hP2, hP3, hP4, hP5⟩ := hP
              rw [hN1] at hP1 hP2 hP3 hP5
              rw [A2.out] at hP2
              have scW := fun j x (hx : q[j]? = some x) => (by
                obtain ⟨g5, c5, e5, h5⟩ := scell j x hx
                exact ⟨g5, c5, e5, fun a u hu => gb_cellN hgc2 (h5 a u hu)⟩ : ∃ g5 c5, Value.slice va k vc = .slice (some ⟨g5, 0, none⟩) k c5 ∧ ∀ a u, (tldL x)[a]? = some u → wc.cell? ⟨g5, j * 16 + a, none⟩ = some u)
              clear hg hgc zi z1 z2
              go_wp2
              go_loopw [15] (fun x15 wz => ∃ j : Nat, j ≤ N1 ∧ x15 = .int .i64 (j : Int) ∧ wz = wc) (fun x15 _ => N1 - (intOf x15).toNat)
              case atStart => exact ⟨0, Nat.zero_le _, rfl, rfl⟩
              case round =>
                obtain ⟨j, hj, rfl, rfl⟩ := hrel
                rcases (by omega : j < N1 ∨ j = N1) with hjl | hje
                · as_aux_lemma =>
                  obtain ⟨x, hx⟩ : ∃ x, q[j]? = some x := ⟨_, List.getElem?_eq_getElem (by rw [A2.out]; omega)⟩
                  have hto := (hP3 j x hx).2 hjl
                  obtain ⟨g5, c5, e5, h5⟩ := scW j x hx
                  injection e5 with e5 _ e5c
                  subst e5 e5c
                  obtain ⟨T, hTT⟩ : ∃ T, x.s.to = T := ⟨_, rfl⟩
                  rw [hTT] at hto
                  have p15 : wr.cell? ⟨g5, j * 16 + 15, none⟩ = some (.int .i64 (T : Int)) := by rw [← hTT]; exact h5 15 _ rfl
                  have d1 : ((j : Int) < (k : Int)) := by omega
                  have d2 : decide ((T : Int) ≤ (K : Int)) = true := decide_eq_true (by omega)
                  clear scW h5 hTT hx scell sr sqk hpart hmore hckW hP1 hP3 hP4 hP5 sq1
                  go_wp2
                  exact ⟨⟨j + 1, by omega, by simp, by first | rfl | trivial⟩, by simp [intOf]; omega⟩
                · subst hje
                  go_upto_region 23 with (fail)
                  go_cut [180] from 168 to 180 (fun x180 wz => x180 = .bool false ∧ wz = wr)
                  case first =>
                    as_aux_lemma =>
                    rcases (by omega : j < k ∨ j = k) with hjk | hjk
                    · obtain ⟨x, hx⟩ : ∃ x, q[j]? = some x := ⟨_, List.getElem?_eq_getElem (by rw [A2.out]; omega)⟩
                      have hto : ¬ x.s.to ≤ K := fun h => absurd ((hP3 j x hx).1 h) (by omega)
                      obtain ⟨g5, c5, e5, h5⟩ := scW j x hx
                      injection e5 with e5 _ e5c
                      subst e5 e5c
                      obtain ⟨T, hTT⟩ : ∃ T, x.s.to = T := ⟨_, rfl⟩
                      rw [hTT] at hto
                      have p15 : wr.cell? ⟨g5, j * 16 + 15, none⟩ = some (.int .i64 (T : Int)) := by rw [← hTT]; exact h5 15 _ rfl
                      have d1 : ((j : Int) < (k : Int)) := by omega
                      have d2 : decide ((T : Int) ≤ (K : Int)) = false := decide_eq_false (by omega)
                      clear scW h5 hTT hx scell sr sqk hpart hmore hckW hP1 hP3 hP4 hP5 sq1
                      go_wp2
                      go_meet
                      exact ⟨rfl, rfl⟩
                    · subst hjk
                      clear scW scell sr sqk hpart hmore hckW hP1 hP3 hP4 hP5 sq1
                      go_wp2
                      go_meet
                      exact ⟨rfl, rfl⟩
                  case rest =>
                    obtain ⟨rfl, rfl⟩ := hcut
                    have hmap : Option.map (fun x : Addr => x.add 0) va = va := by cases va <;> simp [Addr.add]
                    have dj : (j : Int) ≤ (vc : Int) := by rw [A2.out] at hvc; omega
                    have sqT := (sqk _ hgc2).take (k := j) (by rw [A2.out]; exact hP2)
                    have h28 := samesteps_28 sq1 sqT hP1.symm
                    clear hP1 hP3 sq1 sqT
                    go_upto_region 27 with (go_at_call 28; go_must ((with_reducible refine h28.mono ?_); rintro e w9 ⟨rfl, g9⟩))
                    have hg9 := gb_trans hgc2 g9
                    clear h28
                    rcases Nat.eq_zero_or_pos j with hj0 | hj0
                    · as_aux_lemma =>
                      have hl1 := hP4 (List.length_eq_zero_iff.1 (by omega))
                      subst hj0 hl1
                      clear scW scell sr sqk hpart hmore hckW hP4 hP5
                      go_wp2
                      exact ⟨⟨i + 1, by omega, by omega, by simp, hg9⟩, by simp [intOf]; omega⟩
                    · obtain ⟨J1, hJ1⟩ : ∃ J1, j = J1 + 1 := ⟨j - 1, by omega⟩
                      obtain ⟨y, hy⟩ : ∃ y, q[J1]? = some y := ⟨_, List.getElem?_eq_getElem (by rw [A2.out]; omega)⟩
                      have hP5' := hP5 y (by rw [hJ1, Nat.add_sub_cancel]; exact hy) hj0
                      obtain ⟨g5, c5, e5, h5⟩ := scW J1 y hy
                      injection e5 with e5 _ e5c
                      subst e5 e5c
                      obtain ⟨T, hTT⟩ : ∃ T, y.s.to = T := ⟨_, rfl⟩
                      obtain ⟨vb, hvb⟩ : ∃ vb, y.s.cmd.verb = vb := ⟨_, rfl⟩
                      have p15 : wc.cell? ⟨g5, J1 * 16 + 15, none⟩ = some (.int .i64 (T : Int)) := by rw [← hTT]; exact h5 15 _ rfl
                      have p0 : wc.cell? ⟨g5, J1 * 16, none⟩ = some (.int .i64 vb) := by rw [← hvb]; exact h5 0 _ rfl
                      have r15 := gb_cellN g9 p15
                      have r0 := gb_cellN g9 p0
                      have e1 : IntKind.i64.wrap ((j : Int) - 1) = (J1 : Int) := by rw [IntKind.wrap_i64]; omega
                      have e2 : (j : Int) - 1 = (J1 : Int) := by omega
                      have e3 : wrap64 ((j : Int) - 1) = (J1 : Int) := by unfold wrap64; omega
                      have dJ : ((J1 : Int) < (k : Int)) := by omega
                      have dj0 : decide ((0 : Int) < (j : Int)) = true := decide_eq_true (by omega)
                      have dj1 : ((j : Int) == 0) = false := by simp; omega
                      rw [hTT, hvb] at hP5'
                      clear hP4 hP5 scW
                      by_cases hv : vb = 18
                      · as_aux_lemma =>
                        subst hv
                        clear hP5' scell sr sqk hpart hmore hckW h5 hTT hvb hy hJ1 p15 p0
                        go_wp2
                        exact ⟨⟨i + 1, by omega, by omega, by simp, hg9⟩, by simp [intOf]; omega⟩
                      · have dv : (vb == 18) = false := by simpa using hv
                        obtain ⟨hl1, hTK⟩ := hP5' hv
                        have hT0 : 0 < T := by
                          obtain ⟨m', -, -, h3, -⟩ := Tile.get J1 htile hy
                          rw [← hTT]; omega
                        have eT : IntKind.i64.wrap ((K : Int) - (T : Int)) = left1 := by rw [hl1, IntKind.wrap_i64]; omega
                        have eT2 : (K : Int) - (T : Int) = left1 := by rw [hl1]; omega
                        have eT3 : wrap64 ((K : Int) - (T : Int)) = left1 := by rw [hl1]; unfold wrap64; omega
                        have dv2 : (vb != 18) = true := by simp [hv]
                        have dv3 : ¬ vb = 18 := hv
                        have hmore' := fun {W1 : World} {q2 : List Tld} {v2 : Value} {left2 : Int} {wr2 : World} (Z : AlR W1 lim.toNat (raw.drop T) q2 v2 left2 wr2) => hmore hy (by rw [hvb]; exact hv) (by rw [hTT]; exact Z)
                        rw [hTT, A2.out] at hmore'
                        clear hP5' hl1 hv hmore hpart p15 p0 h5
                        go_upto_region 30 with (fail)
                        go_cut [16, 17] from 234 to 247 (fun x16 x17 wm => ∃ (ma : Option Addr) (mc M : Nat) (q2 : List Tld), x16 = .slice ma M mc ∧ q2.length = M ∧ x17 = .int .i64 left ∧ Sq wm (.slice ma M mc) q2 ∧ M + j = k ∧ (q.drop j).map Tld.s = q2.map (fun x => x.s.sh T) ∧ w2.grownBy wm none)
                        case first =>
                          as_aux_lemma =>
                          have h27 := fun W (hW : w2.grownBy W none) (v : Value) (hv : Ck W (fun _ => False) v (raw.drop T)) => all_27 (hE2.kept hW) hv (by rw [List.length_drop]; omega) lim hm1 hm2
                          have hfin : ∀ {W1 w6 : World} {rv1 : Value} {q2 : List Tld} {left2 : Int}, AlR W1 lim.toNat (raw.drop T) q2 rv1 left2 w6 → left2 = left ∧ Sq w6 rv1 q2 ∧ q2.length + j = k ∧ (q.drop j).map Tld.s = q2.map (fun x => x.s.sh T) := fun Z => by
                            obtain ⟨h1, h2, h3⟩ := hmore' Z
                            rw [← hJ1] at h2 h3
                            exact ⟨h1, Z.sq hm1 (by rw [List.length_drop]; omega) (gb_refl _ none), h2, h3⟩
                          have z1 := gb_cellN hg9 y1
                          have hckW2 := fun W (hW : w2.grownBy W none) => hckW W (gb_trans g2 hW)
                          have hck := hckW2 w9 hg9
                          clear hq1 hq2 scell sr sqk hmore' hckW hE2 hE1 eT eT2 eT3
                          obtain ⟨g, o, c, hv0, hcap, hcm, -, -⟩ := hck.by (by rw [A.out]; omega)
                          injection hv0 with e1' e2' e3'
                          subst e1' e3'
                          rw [A.out] at hcap
                          have dT : (T : Int) ≤ (R : Int) := by omega
                          have dJ0 : (0 : Int) ≤ (J1 : Int) := Int.natCast_nonneg _
                          have eJ : IntKind.i64.wrap (J1 : Int) = (J1 : Int) := wrapN (Nat.le_trans (Nat.le_of_lt (Int.ofNat_lt.1 dJ)) (Nat.le_trans hnb (Nat.le_trans hb hRb)))
                          have r15' : ∀ {W : World}, w9.grownBy W none → W.cell? ⟨g5, J1 * 16 + 15, none⟩ = some (.int .i64 (T : Int)) := fun hW => gb_cellN hW r15
                          by_cases hcT : rc = T
                          · have h27' := fun W (hW : w2.grownBy W none) => h27 W hW (.slice (some ⟨g, o, none⟩) 0 0) (by have := (hckW2 W hW).dropB0 T (by rw [A.out]; omega) hcT; rwa [A.out, show R - T = 0 by omega] at this)
                            clear h27 hckW2 hck
                            subst hcT
                            go_region_held3 (fun W : World => W.cell? ⟨g5, J1 * 16 + 15, none⟩ = some (.int .i64 (rc : Int)) ∧ W.cell? ⟨w.heap.size, 1, none⟩ = some (.int .i64 lim)) (go_keep) (
                              (go_at_call 27; go_must ((with_reducible refine (h27' _ (gb_drew hg9)).mono ?_); rintro e w6 ⟨rv1, q2, left2, rfl, R1⟩; (have hg6 : w2.grownBy w6 none := gb_trans (gb_drew hg9) R1.gb); (have n15 := r15' (gb_trans (gb_drew (gb_refl _ _)) R1.gb)); (have nl := gb_cellN hg6 y1); (obtain ⟨ma, mc, rfl, -⟩ := row_shape R1.ss.row))))
                            go_wp2
                            go_meet
                            obtain ⟨rfl, h2, h3, h4⟩ := hfin R1
                            exact ⟨ma, mc, _, q2, rfl, rfl, rfl, h2, h3, h4, hg6⟩
                          · have h27' := fun W (hW : w2.grownBy W none) => h27 W hW (.slice (some ⟨g, o + T, none⟩) (R - T) (rc - T)) (by have := (hckW2 W hW).drop T (by rw [A.out]; omega); rwa [A.out] at this)
                            clear h27 hckW2 hck
                            go_region_held3 (fun W : World => W.cell? ⟨g5, J1 * 16 + 15, none⟩ = some (.int .i64 (T : Int)) ∧ W.cell? ⟨w.heap.size, 1, none⟩ = some (.int .i64 lim)) (go_keep) (
                              (go_at_call 27; go_must ((with_reducible refine (h27' _ (gb_drew hg9)).mono ?_); rintro e w6 ⟨rv1, q2, left2, rfl, R1⟩; (have hg6 : w2.grownBy w6 none := gb_trans (gb_drew hg9) R1.gb); (have n15 := r15' (gb_trans (gb_drew (gb_refl _ _)) R1.gb)); (have nl := gb_cellN hg6 y1); (obtain ⟨ma, mc, rfl, -⟩ := row_shape R1.ss.row))))
                            go_wp2
                            go_meet
                            obtain ⟨rfl, h2, h3, h4⟩ := hfin R1
                            exact ⟨ma, mc, _, q2, rfl, rfl, rfl, h2, h3, h4, hg6⟩
                        case rest =>
                          as_aux_lemma =>
                          obtain ⟨ma, mc, M, q2, rfl, hM, rfl, sq2, hMk, hsh, hgm⟩ := hcut
                          obtain ⟨wm0, hwm0⟩ : ∃ wm0, wm0 = wc := ⟨_, rfl⟩
                          replace sq2 : Sq wm0 (.slice ma M mc) q2 := by rw [hwm0]; exact sq2
                          have hgs : wm0.grownBy wc none := by rw [hwm0]; exact gb_refl _ _
                          clear hwm0
                          have eM : IntKind.i64.wrap ((k : Int) - (j : Int)) = (M : Int) := by rw [IntKind.wrap_i64]; omega
                          have eM2 : (k : Int) - (j : Int) = (M : Int) := by omega
                          have eM3 : wrap64 ((k : Int) - (j : Int)) = (M : Int) := by unfold wrap64; omega
                          have AJ : Aside (j = J1 + 1) := hJ1
                          clear hJ1
                          try clear eT
                          try clear eT2
                          try clear eT3
                          try clear hmore'
                          try clear r15
                          try clear r0
                          try clear dv
                          try clear dv2
                          try clear dv3
                          try clear hckW
                          try clear sqk
                          try clear hq1
                          try clear hq2
                          try clear hK
                          try clear d1
                          try clear d2
                          try clear dj
                          try clear hmap
                          try clear hvn
                          try clear hvc
                          try clear hE2
                          try clear hE1
                          try clear ha1
                          try clear g9
                          try clear hg9
                          try clear hgc2
                          try clear g2
                          try clear g0
                          try clear hm1
                          try clear hm2
                          try clear hal
                          try clear hlen
                          try clear hTK
                          try clear hT0
                          try clear dj0
                          try clear dj1
                          try clear hj0
                          try clear hN1
                          go_wp2
                          go_loopw [18] (fun x18 wz => ∃ m' : Nat, m' ≤ M ∧ x18 = .int .i64 (m' : Int) ∧ w2.grownBy wz none ∧ wm0.grownBy wz none) (fun x18 _ => M - (intOf x18).toNat)
                          case atStart => exact ⟨0, Nat.zero_le _, rfl, hgm, hgs⟩
                          case round =>
                            obtain ⟨m', hm', rfl, hg, hgz⟩ := hrel
                            rcases (by omega : m' < M ∨ m' = M) with hml | hme
                            · as_aux_lemma =>
                              obtain ⟨x, hx⟩ : ∃ x, q2[m']? = some x := ⟨_, List.getElem?_eq_getElem (by rw [hM]; exact hml)⟩
                              obtain ⟨JM, hJM⟩ : ∃ JM, j + m' = JM := ⟨_, rfl⟩
                              have hJMk : JM < k := by omega
                              obtain ⟨z, hz⟩ : ∃ z, q[JM]? = some z := ⟨_, List.getElem?_eq_getElem (by rw [A2.out]; omega)⟩
                              have hys : x.s.sh T = z.s := by
                                have h1 := congrArg (fun l => l[m']?) hsh
                                simp only [List.getElem?_map, List.getElem?_drop, hJM, hx, hz, Option.map_some] at h1
                                injection h1 with h1
                                exact h1.symm
                              have hzT : z.s.to ≤ m := by
                                obtain ⟨m1, -, h2, h3, h4⟩ := Tile.get JM htile hz
                                have := h4.le
                                omega
                              have hzF : z.s.frm < z.s.to := by
                                obtain ⟨m1, -, h2, h3, h4⟩ := Tile.get JM htile hz
                                omega
                              obtain ⟨gz, cz, ez, hcz⟩ := scell JM z hz
                              injection ez with ez _ ezc
                              subst ezc
                              injection ez with ez
                              injection ez with ez
                              subst ez
                              obtain ⟨gx, cx, ex, hcx0⟩ := sq2.cell m' x hx
                              rw [hM] at ex
                              injection ex with ex _ exc
                              subst ex exc
                              have srz := sr z (List.mem_of_getElem? hz)
                              have srx := sq2.sr x (List.mem_of_getElem? hx)
                              obtain ⟨gy, cy, ey, hcy0⟩ := scell J1 y hy
                              injection ey with ey _ eyc
                              subst eyc
                              injection ey with ey
                              injection ey with ey
                              subst ey
                              have t15 : wr.cell? ⟨g5, J1 * 16 + 15, none⟩ = some (.int .i64 (T : Int)) := by rw [← hTT]; exact gb_cellN hg (hcy0 15 _ rfl)
                              obtain ⟨s, ck1, cd1, cm1⟩ := z
                              obtain ⟨s2, ck2, cd2, cm2⟩ := x
                              dsimp only at srx srz hys hcz hcx0 hzT hzF
                              obtain ⟨aA1, nA1, cA1, rfl⟩ := srz.k.shape
                              obtain ⟨aA3, nA3, cA3, rfl⟩ := srz.m.shape
                              obtain ⟨aA2, nA2, cA2, rfl⟩ := srz.d.shape3
                              obtain ⟨aB1, nB1, cB1, rfl⟩ := srx.k.shape
                              obtain ⟨aB3, nB3, cB3, rfl⟩ := srx.m.shape
                              obtain ⟨aB2, nB2, cB2, rfl⟩ := srx.d.shape3
                              have hby : s2.frm + T ≤ 4611686018427387904 ∧ s2.to + T ≤ 4611686018427387904 := by
                                have h1 : s2.frm + T = s.frm := congrArg Stp.frm hys
                                have h2 : s2.to + T = s.to := congrArg Stp.to hys
                                omega
                              have h40 := fun W => shifted_40 W s2 aB1 aB2 aB3 nB1 cB1 nB2 cB2 nB3 cB3 T hby.1 hby.2
                              rw [hys] at h40
                              have srx' : Sr wr s (.slice aB1 nB1 cB1) (.slice aB2 nB2 cB2) (.slice aB3 nB3 cB3) := by
                                have h1 := srx.kept0 hgz
                                rw [← hys]
                                exact ⟨h1.k, h1.d, h1.m, h1.kn, h1.mn⟩
                              have srz' := srz.kept0 hg
                              have h39 := fun W (hW : wr.grownBy W none) => samestep_39 s _ _ _ _ _ _ (srx'.kept0 hW) (srz'.kept0 hW)
                              have hcz' : ∀ a u, (stpL s (.slice aA1 nA1 cA1) (.slice aA2 nA2 cA2) (.slice aA3 nA3 cA3))[a]? = some u → wr.cell? ⟨g5, JM * 16 + a, none⟩ = some u := fun a u hu => gb_cellN hg (hcz a u hu)
                              have hcx' : ∀ a u, (stpL s2 (.slice aB1 nB1 cB1) (.slice aB2 nB2 cB2) (.slice aB3 nB3 cB3))[a]? = some u → wr.cell? ⟨gx, m' * 16 + a, none⟩ = some u := fun a u hu => gb_cellN hgz (hcx0 a u hu)
                              have u0 : wr.cell? ⟨gx, m' * 16, none⟩ = some (.int .i64 s2.cmd.verb) := hcx' 0 _ (by rfl)
                              have u1 : wr.cell? ⟨gx, m' * 16 + 1, none⟩ = some (.slice aB1 nB1 cB1) := hcx' 1 _ (by rfl)
                              have u2 : wr.cell? ⟨gx, m' * 16 + 2, none⟩ = some (.int .u64 s2.cmd.flags) := hcx' 2 _ (by rfl)
                              have u3 : wr.cell? ⟨gx, m' * 16 + 3, none⟩ = some (.int .i64 s2.cmd.exp) := hcx' 3 _ (by rfl)
                              have u4 : wr.cell? ⟨gx, m' * 16 + 4, none⟩ = some (.int .u64 s2.cmd.tok) := hcx' 4 _ (by rfl)
                              have u5 : wr.cell? ⟨gx, m' * 16 + 5, none⟩ = some (.int .u64 s2.cmd.del) := hcx' 5 _ (by rfl)
                              have u6 : wr.cell? ⟨gx, m' * 16 + 6, none⟩ = some (.slice aB2 nB2 cB2) := hcx' 6 _ (by rfl)
                              have u7 : wr.cell? ⟨gx, m' * 16 + 7, none⟩ = some (.bool s2.cmd.nr) := hcx' 7 _ (by rfl)
                              have u8 : wr.cell? ⟨gx, m' * 16 + 8, none⟩ = some (.bool s2.large) := hcx' 8 _ (by rfl)
                              have u9 : wr.cell? ⟨gx, m' * 16 + 9, none⟩ = some (.slice aB3 nB3 cB3) := hcx' 9 _ (by rfl)
                              have u10 : wr.cell? ⟨gx, m' * 16 + 10, none⟩ = some (sv s2.cmd.what) := hcx' 10 _ (by rfl)
                              have u11 : wr.cell? ⟨gx, m' * 16 + 11, none⟩ = some (.int .i64 s2.wk) := hcx' 11 _ (by rfl)
                              have u12 : wr.cell? ⟨gx, m' * 16 + 12, none⟩ = some (sv s2.wt) := hcx' 12 _ (by rfl)
                              have u13 : wr.cell? ⟨gx, m' * 16 + 13, none⟩ = some (.int .i64 s2.wp) := hcx' 13 _ (by rfl)
                              have u14 : wr.cell? ⟨gx, m' * 16 + 14, none⟩ = some (.int .i64 s2.frm) := hcx' 14 _ (by rfl)
                              have u15 : wr.cell? ⟨gx, m' * 16 + 15, none⟩ = some (.int .i64 s2.to) := hcx' 15 _ (by rfl)
                              have v0 : wr.cell? ⟨g5, JM * 16, none⟩ = some (.int .i64 s.cmd.verb) := hcz' 0 _ (by rfl)
                              have v1 : wr.cell? ⟨g5, JM * 16 + 1, none⟩ = some (.slice aA1 nA1 cA1) := hcz' 1 _ (by rfl)
                              have v2 : wr.cell? ⟨g5, JM * 16 + 2, none⟩ = some (.int .u64 s.cmd.flags) := hcz' 2 _ (by rfl)
                              have v3 : wr.cell? ⟨g5, JM * 16 + 3, none⟩ = some (.int .i64 s.cmd.exp) := hcz' 3 _ (by rfl)
                              have v4 : wr.cell? ⟨g5, JM * 16 + 4, none⟩ = some (.int .u64 s.cmd.tok) := hcz' 4 _ (by rfl)
                              have v5 : wr.cell? ⟨g5, JM * 16 + 5, none⟩ = some (.int .u64 s.cmd.del) := hcz' 5 _ (by rfl)
                              have v6 : wr.cell? ⟨g5, JM * 16 + 6, none⟩ = some (.slice aA2 nA2 cA2) := hcz' 6 _ (by rfl)
                              have v7 : wr.cell? ⟨g5, JM * 16 + 7, none⟩ = some (.bool s.cmd.nr) := hcz' 7 _ (by rfl)
                              have v8 : wr.cell? ⟨g5, JM * 16 + 8, none⟩ = some (.bool s.large) := hcz' 8 _ (by rfl)
                              have v9 : wr.cell? ⟨g5, JM * 16 + 9, none⟩ = some (.slice aA3 nA3 cA3) := hcz' 9 _ (by rfl)
                              have v10 : wr.cell? ⟨g5, JM * 16 + 10, none⟩ = some (sv s.cmd.what) := hcz' 10 _ (by rfl)
                              have v11 : wr.cell? ⟨g5, JM * 16 + 11, none⟩ = some (.int .i64 s.wk) := hcz' 11 _ (by rfl)
                              have v12 : wr.cell? ⟨g5, JM * 16 + 12, none⟩ = some (sv s.wt) := hcz' 12 _ (by rfl)
                              have v13 : wr.cell? ⟨g5, JM * 16 + 13, none⟩ = some (.int .i64 s.wp) := hcz' 13 _ (by rfl)
                              have v14 : wr.cell? ⟨g5, JM * 16 + 14, none⟩ = some (.int .i64 s.frm) := hcz' 14 _ (by rfl)
                              have v15 : wr.cell? ⟨g5, JM * 16 + 15, none⟩ = some (.int .i64 s.to) := hcz' 15 _ (by rfl)
                              have dm : ((m' : Int) < (M : Int)) := by omega
                              have dJ0 : (0 : Int) ≤ (J1 : Int) := Int.natCast_nonneg _
                              have eJ : IntKind.i64.wrap (J1 : Int) = (J1 : Int) := wrapN (Nat.le_trans (Nat.le_of_lt (Int.ofNat_lt.1 dJ)) (Nat.le_trans hnb (Nat.le_trans hb hRb)))
                              have ejm2 : (j : Int) + (m' : Int) = (JM : Int) := by rw [← hJM]; simp
                              have hJMs : JM ≤ 65536 := Nat.le_trans (Nat.le_of_lt hJMk) (Nat.le_trans hnb (Nat.le_trans hb hRb))
                              have ejm : IntKind.i64.wrap ((j : Int) + (m' : Int)) = (JM : Int) := by rw [ejm2]; exact wrapN hJMs
                              have ejm5 : IntKind.i64.wrap ((J1 : Int) + 1 + (m' : Int)) = (JM : Int) := by
                                have h : (J1 : Int) + 1 + (m' : Int) = (JM : Int) := by rw [← ejm2, AJ.out]; simp
                                rw [h]; exact wrapN hJMs
                              have ejm3 : wrap64 ((j : Int) + (m' : Int)) = (JM : Int) := by rw [ejm2]; exact wrap64N hJMs
                              have ejm4 : IntKind.i64.wrap (JM : Int) = (JM : Int) := wrapN hJMs
                              have djm : ((JM : Int) < (k : Int)) := Int.ofNat_lt.2 hJMk
                              have djm0 : (0 : Int) ≤ (JM : Int) := Int.natCast_nonneg _
                              have dm0 : (0 : Int) ≤ (m' : Int) := Int.natCast_nonneg _
                              have em1 : IntKind.i64.wrap ((m' : Int) + 1) = (m' : Int) + 1 := wrapS (Nat.le_trans (Nat.succ_le_of_lt hml) (Nat.le_trans (hMk ▸ Nat.le_add_right M j) (Nat.le_trans hnb (Nat.le_trans hb hRb))))
                              clear hcz' hcx' hcz hcx0 hcy0 scell sr srx srz srx' srz' hys hby sq2 hsh hx hz hzT hzF hJM e2 e3
                              go_upto_region 36 with (fail)
                              refine wp_region_noPanic ?_
                              refine wp_region_held_drew (S := fun W : World => wr.grownBy W none) (by kernel_rfl) (gb_drew (gb_refl wr none)) (fun hg8 => ?_)
                              generalize wr.drew = W8 at hg8 ⊢
                              refine wpAnyH_take (i := 0) (oi := { dst := some 266, op := Op.move (Operand.tmp 16), type := 57, pos := _, after := #[], guard := none }) (v := ?_) rfl (by kernel_rfl) (by kernel_rfl) (by kernel_rfl) (fun _ _ _ h => h) (Or.inl ⟨by rfl, ?_⟩) (by first | trivial | assumption) ?_
                              rotate_left 1
                              · (intro W hSw; go_simp; (try (with_reducible rfl)))
                              try simp only [Act.put, List.setIfInBounds_toArray, List.set_cons_zero, List.set_cons_succ]
                              refine wpAnyH_take (i := 1) (oi := { dst := some 267, op := Op.move (Operand.tmp 18), type := 3, pos := _, after := #[], guard := none }) (v := ?_) rfl (by kernel_rfl) (by kernel_rfl) (by kernel_rfl) (fun _ _ _ h => h) (Or.inl ⟨by rfl, ?_⟩) (by first | trivial | assumption) ?_
                              rotate_left 1
                              · (intro W hSw; go_simp; (try (with_reducible rfl)))
                              try simp only [Act.put, List.setIfInBounds_toArray, List.set_cons_zero, List.set_cons_succ]
                              refine wpAnyH_take (i := 2) (oi := { dst := some 268, op := Op.indexAddr 57 (Operand.tmp 266) (Operand.tmp 267), type := 0, pos := _, after := #[{ on := 0, ground := Ground.data }, { on := 1, ground := Ground.data }], guard := none }) (v := ?_) rfl (by kernel_rfl) (by kernel_rfl) (by kernel_rfl) (fun _ _ _ h => h) (Or.inl ⟨by rfl, ?_⟩) (by first | trivial | assumption) ?_
                              rotate_left 1
                              · (intro W hSw; go_simp; (try (with_reducible rfl)))
                              try simp only [Act.put, List.setIfInBounds_toArray, List.set_cons_zero, List.set_cons_succ]
                              refine wpAnyH_take (i := 3) (oi := { dst := some 269, op := Op.load 86 (Operand.tmp 268), type := 86, pos := _, after := #[{ on := 2, ground := Ground.data }], guard := none }) (v := ?_) rfl (by kernel_rfl) (by kernel_rfl) (by kernel_rfl) (fun _ _ _ h => h) (Or.inl ⟨by rfl, ?_⟩) (by first | trivial | assumption) ?_
                              rotate_left 1
                              · (intro W hSw; have x0 := gb_cellN hSw u0; have x1 := gb_cellN hSw u1; have x2 := gb_cellN hSw u2; have x3 := gb_cellN hSw u3; have x4 := gb_cellN hSw u4; have x5 := gb_cellN hSw u5; have x6 := gb_cellN hSw u6; have x7 := gb_cellN hSw u7; have x8 := gb_cellN hSw u8; have x9 := gb_cellN hSw u9; have x10 := gb_cellN hSw u10; have x11 := gb_cellN hSw u11; have x12 := gb_cellN hSw u12; have x13 := gb_cellN hSw u13; have x14 := gb_cellN hSw u14; have x15 := gb_cellN hSw u15; go_simp; (try (with_reducible rfl)))
                              try simp only [Act.put, List.setIfInBounds_toArray, List.set_cons_zero, List.set_cons_succ]
                              refine wpAnyH_take (i := 4) (oi := { dst := some 270, op := Op.move (Operand.tmp 4), type := 57, pos := _, after := #[], guard := none }) (v := ?_) rfl (by kernel_rfl) (by kernel_rfl) (by kernel_rfl) (fun _ _ _ h => h) (Or.inl ⟨by rfl, ?_⟩) (by first | trivial | assumption) ?_
                              rotate_left 1
                              · (intro W hSw; go_simp; (try (with_reducible rfl)))
                              try simp only [Act.put, List.setIfInBounds_toArray, List.set_cons_zero, List.set_cons_succ]
                              refine wpAnyH_take (i := 5) (oi := { dst := some 271, op := Op.move (Operand.tmp 15), type := 3, pos := _, after := #[], guard := none }) (v := ?_) rfl (by kernel_rfl) (by kernel_rfl) (by kernel_rfl) (fun _ _ _ h => h) (Or.inl ⟨by rfl, ?_⟩) (by first | trivial | assumption) ?_
                              rotate_left 1
                              · (intro W hSw; go_simp; (try (with_reducible rfl)))
                              try simp only [Act.put, List.setIfInBounds_toArray, List.set_cons_zero, List.set_cons_succ]
                              refine wpAnyH_take (i := 6) (oi := { dst := some 272, op := Op.binOp BinOp.sub 3 (Operand.tmp 271) (Operand.const (Value.int IntKind.i64 1)) 3, type := 3, pos := _, after := #[{ on := 5, ground := Ground.data }], guard := none }) (v := ?_) rfl (by kernel_rfl) (by kernel_rfl) (by kernel_rfl) (fun _ _ _ h => h) (Or.inl ⟨by rfl, ?_⟩) (by first | trivial | assumption) ?_
                              rotate_left 1
                              · (intro W hSw; go_simp; (try (with_reducible rfl)))
                              try simp only [Act.put, List.setIfInBounds_toArray, List.set_cons_zero, List.set_cons_succ]
                              refine wpAnyH_take (i := 7) (oi := { dst := some 273, op := Op.indexAddr 57 (Operand.tmp 270) (Operand.tmp 272), type := 0, pos := _, after := #[{ on := 4, ground := Ground.data }, { on := 6, ground := Ground.data }], guard := none }) (v := ?_) rfl (by kernel_rfl) (by kernel_rfl) (by kernel_rfl) (fun _ _ _ h => h) (Or.inl ⟨by rfl, ?_⟩) (by first | trivial | assumption) ?_
                              rotate_left 1
                              · (intro W hSw; go_simp; (try (with_reducible rfl)))
                              try simp only [Act.put, List.setIfInBounds_toArray, List.set_cons_zero, List.set_cons_succ]
                              refine wpAnyH_take (i := 8) (oi := { dst := some 274, op := Op.fieldAddr 86 (Operand.tmp 273) 3, type := 0, pos := _, after := #[{ on := 7, ground := Ground.data }], guard := none }) (v := ?_) rfl (by kernel_rfl) (by kernel_rfl) (by kernel_rfl) (fun _ _ _ h => h) (Or.inl ⟨by rfl, ?_⟩) (by first | trivial | assumption) ?_
                              rotate_left 1
                              · (intro W hSw; go_simp; (try (with_reducible rfl)))
                              try simp only [Act.put, List.setIfInBounds_toArray, List.set_cons_zero, List.set_cons_succ]
                              refine wpAnyH_take (i := 9) (oi := { dst := some 275, op := Op.load 3 (Operand.tmp 274), type := 3, pos := _, after := #[{ on := 8, ground := Ground.data }], guard := none }) (v := ?_) rfl (by kernel_rfl) (by kernel_rfl) (by kernel_rfl) (fun _ _ _ h => h) (Or.inl ⟨by rfl, ?_⟩) (by first | trivial | assumption) ?_
                              rotate_left 1
                              · (intro W hSw; have x14 := gb_cellN hSw t15; go_simp; (try (with_reducible rfl)))
                              try simp only [Act.put, List.setIfInBounds_toArray, List.set_cons_zero, List.set_cons_succ]
                              refine wpAnyH_take (i := 11) (oi := { dst := some 277, op := Op.move (Operand.tmp 4), type := 57, pos := _, after := #[], guard := none }) (v := ?_) rfl (by kernel_rfl) (by kernel_rfl) (by kernel_rfl) (fun _ _ _ h => h) (Or.inl ⟨by rfl, ?_⟩) (by first | trivial | assumption) ?_
                              rotate_left 1
                              · (intro W hSw; go_simp; (try (with_reducible rfl)))
                              try simp only [Act.put, List.setIfInBounds_toArray, List.set_cons_zero, List.set_cons_succ]
                              refine wpAnyH_take (i := 12) (oi := { dst := some 278, op := Op.move (Operand.tmp 15), type := 3, pos := _, after := #[], guard := none }) (v := ?_) rfl (by kernel_rfl) (by kernel_rfl) (by kernel_rfl) (fun _ _ _ h => h) (Or.inl ⟨by rfl, ?_⟩) (by first | trivial | assumption) ?_
                              rotate_left 1
                              · (intro W hSw; go_simp; (try (with_reducible rfl)))
                              try simp only [Act.put, List.setIfInBounds_toArray, List.set_cons_zero, List.set_cons_succ]
                              refine wpAnyH_take (i := 13) (oi := { dst := some 279, op := Op.move (Operand.tmp 18), type := 3, pos := _, after := #[], guard := none }) (v := ?_) rfl (by kernel_rfl) (by kernel_rfl) (by kernel_rfl) (fun _ _ _ h => h) (Or.inl ⟨by rfl, ?_⟩) (by first | trivial | assumption) ?_
                              rotate_left 1
                              · (intro W hSw; go_simp; (try (with_reducible rfl)))
                              try simp only [Act.put, List.setIfInBounds_toArray, List.set_cons_zero, List.set_cons_succ]
                              refine wpAnyH_take (i := 14) (oi := { dst := some 280, op := Op.binOp BinOp.add 3 (Operand.tmp 278) (Operand.tmp 279) 3, type := 3, pos := _, after := #[{ on := 12, ground := Ground.data }, { on := 13, ground := Ground.data }], guard := none }) (v := ?_) rfl (by kernel_rfl) (by kernel_rfl) (by kernel_rfl) (fun _ _ _ h => h) (Or.inl ⟨by rfl, ?_⟩) (by first | trivial | assumption) ?_
                              rotate_left 1
                              · (intro W hSw; go_simp; (try (with_reducible rfl)))
                              try simp only [Act.put, List.setIfInBounds_toArray, List.set_cons_zero, List.set_cons_succ]
                              refine wpAnyH_take (i := 15) (oi := { dst := some 281, op := Op.indexAddr 57 (Operand.tmp 277) (Operand.tmp 280), type := 0, pos := _, after := #[{ on := 11, ground := Ground.data }, { on := 14, ground := Ground.data }], guard := none }) (v := ?_) rfl (by kernel_rfl) (by kernel_rfl) (by kernel_rfl) (fun _ _ _ h => h) (Or.inl ⟨by rfl, ?_⟩) (by first | trivial | assumption) ?_
                              rotate_left 1
                              · (intro W hSw; go_simp; (try (with_reducible rfl)))
                              try simp only [Act.put, List.setIfInBounds_toArray, List.set_cons_zero, List.set_cons_succ]
                              refine wpAnyH_take (i := 16) (oi := { dst := some 282, op := Op.load 86 (Operand.tmp 281), type := 86, pos := _, after := #[{ on := 15, ground := Ground.data }], guard := none }) (v := ?_) rfl (by kernel_rfl) (by kernel_rfl) (by kernel_rfl) (fun _ _ _ h => h) (Or.inl ⟨by rfl, ?_⟩) (by first | trivial | assumption) ?_
                              rotate_left 1
                              · (intro W hSw; have x0 := gb_cellN hSw v0; have x1 := gb_cellN hSw v1; have x2 := gb_cellN hSw v2; have x3 := gb_cellN hSw v3; have x4 := gb_cellN hSw v4; have x5 := gb_cellN hSw v5; have x6 := gb_cellN hSw v6; have x7 := gb_cellN hSw v7; have x8 := gb_cellN hSw v8; have x9 := gb_cellN hSw v9; have x10 := gb_cellN hSw v10; have x11 := gb_cellN hSw v11; have x12 := gb_cellN hSw v12; have x13 := gb_cellN hSw v13; have x14 := gb_cellN hSw v14; have x15 := gb_cellN hSw v15; go_simp; (try (with_reducible rfl)))
                              try simp only [Act.put, List.setIfInBounds_toArray, List.set_cons_zero, List.set_cons_succ]
                              refine wpAnyH_ready (rs := [10]) (by kernel_rfl) (by simp) ?_
                              refine (AllReadyH.cons rfl (fun K hK => ?_) AllReadyH.nil)
                              go_simp
                              (with_reducible refine (h40 W8).mono ?_)
                              rintro e W9 ⟨rfl, hg9⟩
                              have hg10 := gb_trans hg8 hg9
                              refine hK.out _ _ hg10 (fun hS => ?_)
                              clear hK K hS
                              try simp only [Act.put, List.setIfInBounds_toArray, List.set_cons_zero, List.set_cons_succ]
                              refine wpAnyH_ready (rs := [17]) (by kernel_rfl) (by simp) ?_
                              refine (AllReadyH.cons rfl (fun K hK => ?_) AllReadyH.nil)
                              go_simp
                              (with_reducible refine (h39 W9 hg10).mono ?_)
                              rintro e W11 ⟨rfl, hg11⟩
                              have hg12 := gb_trans hg10 hg11
                              refine hK.out _ _ hg12 (fun hS => ?_)
                              clear hK K hS
                              try simp only [Act.put, List.setIfInBounds_toArray, List.set_cons_zero, List.set_cons_succ]
                              refine wpAnyH_take (i := 18) (oi := { dst := some 284, op := Op.unOp UnOp.not 4 (Operand.tmp 283), type := 4, pos := _, after := #[{ on := 17, ground := Ground.data }], guard := none }) (v := ?_) rfl (by kernel_rfl) (by kernel_rfl) (by kernel_rfl) (fun _ _ _ h => h) (Or.inl ⟨by rfl, ?_⟩) (by first | trivial | assumption) ?_
                              rotate_left 1
                              · (intro W hSw; go_simp; (try (with_reducible rfl)))
                              try simp only [Act.put, List.setIfInBounds_toArray, List.set_cons_zero, List.set_cons_succ]
                              refine wpAnyH_done (by kernel_rfl) ?_ _
                              refine NoPanic.normal ?_
                              go_wp2
                              exact ⟨⟨m' + 1, Nat.succ_le_of_lt hml, by rw [Int.natCast_succ], gb_trans hg hg12, gb_trans hgz hg12⟩, by simp only [intOf]; exact meas hml⟩
                            · subst hme
                              have dm : decide ((m' : Int) < (m' : Int)) = false := decide_eq_false (by omega)
                              try clear sqk
                              try clear hckW
                              clear scell sr sq2 hsh
                              go_wp2
                              exact ⟨⟨i + 1, by omega, by omega, by simp, hg⟩, by simp [intOf]; omega⟩
          · as_aux_lemma =>
            have h24 := wakes_5 (hE2.kept hg)
            clear scell sr sqk hpart hmore hckW hq1 hq2
            rcases Nat.lt_or_ge i as_.length with h1 | h1
            · have d1 : decide ((i : Int) < (as_.length : Int)) = true := decide_eq_true (by omega)
              have d2 : decide ((i : Int) < 12) = false := decide_eq_false (by omega)
              go_wp2_with (go_at_call 24; go_must ((with_reducible refine h24.mono ?_); rintro e w7 ⟨rfl, hg7⟩))
              go_ret
              exact ⟨rfl, gb_trans (gb_trans (gb_trans g0 g2) hg) hg7⟩
            · have d1 : decide ((i : Int) < (as_.length : Int)) = false := decide_eq_false (by omega)
              go_wp2_with (go_at_call 24; go_must ((with_reducible refine h24.mono ?_); rintro e w7 ⟨rfl, hg7⟩))
              go_ret
              exact ⟨rfl, gb_trans (gb_trans (gb_trans g0 g2) hg) hg7⟩
end Go.Proofs.YtobegepebochkaaGreatDoor

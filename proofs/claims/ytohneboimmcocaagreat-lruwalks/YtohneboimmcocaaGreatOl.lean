import Derived.Test.YtohneboimmcocaaGreatOf
import Derived.Test.YtohneboimmcocaaGreatWi
/-
  The program's side behind a script: Len, Balance, Tail, Ahead, marks.
-/
namespace Go.Proofs.YtohneboimmcocaaGreat
open Go.RowKit
set_option linter.unusedVariables false

/-- The program's chunks, queues and Lru. -/
def HS (w : World) (P : Nat → Prop) (wb hot warm : Nat) (D0 : Wd) (S : Lm) : Prop := ∃ D lsb vs Y cl bs p n s, SameP D0 D ∧ MS9 w P wb D hot warm lsb vs Y ∧ GX D cl S bs p n s ∧ D.xl.length ≤ 300
section
variable {w : World} {P : Nat → Prop} {wb N hot warm : Nat} {D0 : Wd} {S : Lm}
theorem GS.hs (h : GS w P wb N hot warm D0) : ∃ S, HS w P wb hot warm D0 S := by
  obtain ⟨D, lsb, vs, Y, S, cl, hs, hW⟩ := h
  obtain ⟨bs, p, n, s, hX⟩ := hW.gx
  exact ⟨S, D, lsb, vs, Y, cl, bs, p, n, s, hs, hW.ms, hX, by have := hW.nN; omega⟩
theorem HS.kept0 {w' : World} (h : HS w P wb hot warm D0 S) (hf : w.grownBy w' none) : HS w' P wb hot warm D0 S := by
  obtain ⟨D, lsb, vs, Y, cl, bs, p, n, s, hs, hM, hX, hl⟩ := h
  exact ⟨D, lsb, vs, Y, cl, bs, p, n, s, hs, hM.kept0 hf, hX, hl⟩
theorem HS.cells (h : HS w P wb hot warm D0 S) : Cells w wb D0 := by
  obtain ⟨D, lsb, vs, Y, cl, bs, p, n, s, hs, hM, hX, hl⟩ := h
  exact cells_of hs hM.cells
theorem HS.lt (h : HS w P wb hot warm D0 S) : ∃ T, Lt T S := by
  obtain ⟨D, lsb, vs, Y, cl, bs, p, n, s, hs, hM, hX, hl⟩ := h
  exact ⟨_, hX.lt hl⟩
theorem HS.len (h : HS w P wb hot warm D0 S) {ci : Nat} (hc : ci < 3) :
    Calls Tryz.prog 35 #[.pointer (some ⟨D0.xb, 0, none⟩), .int .i64 ci] w fun y w' => y = .returned (.tuple #[.int .i64 (S.X ci 0).length, .int .i64 (S.X ci 1).length, .int .i64 (S.X ci 2).length]) ∧ w.grownBy w' none := by
  obtain ⟨D, lsb, vs, Y, cl, bs, p, n, s, hs, hM, hX, hl⟩ := h
  rw [← hs.2.2.1]
  exact len_35 (hX.lq hM hl) (by rw [hX.n3]; exact hc)
theorem HS.tail (h : HS w P wb hot warm D0 S) {ci k : Nat} (hc : ci < 3) (hk : k < 3) (v : Nat) (hv : (S.X ci k).getLastD 0 = v) :
    Calls Tryz.prog 20 #[.pointer (some ⟨D0.qb, 0, none⟩), .int .i64 ci, .int .i64 ((k : Int) + 1)] w fun y w' => y = .returned (.tuple #[.int .u64 v, .bool (decide (¬ v = 0))]) ∧ w.grownBy w' none := by
  obtain ⟨D, lsb, vs, Y, cl, bs, p, n, s, hs, hM, hX, hl⟩ := h
  rw [← hs.2.1]
  exact q_tailL (hX.lq hM hl).ql (by rw [hX.n3]; exact hc) hk v hv
theorem HS.ahead (h : HS w P wb hot warm D0 S) {ci k H : Nat} {U V : List Nat} (hU : S.X ci k = U ++ H :: V) (v : Nat) (hv : U.getLastD 0 = v) :
    Calls Tryz.prog 74 #[.pointer (some ⟨D0.qb, 0, none⟩), .int .u64 H] w fun y w' => y = .returned (.tuple #[.int .u64 v, .bool (decide (¬ v = 0))]) ∧ w.grownBy w' none := by
  obtain ⟨D, lsb, vs, Y, cl, bs, p, n, s, hs, hM, hX, hl⟩ := h
  rw [← hs.2.1]
  have hm : H ∈ S.X ci k := by rw [hU]; simp
  obtain rfl := (hX.li.sub _ _ _ hm).2.2
  exact q_ahead (hX.lq hM hl).ql hU v hv
theorem HS.marks (h : HS w P wb hot warm D0 S) {ci k H : Nat} (hm : H ∈ S.X ci k) : S.ma H ≤ 15 ∧
    Calls Tryz.prog 47 #[.pointer (some ⟨D0.sb, 0, none⟩), .int .u64 H] w fun y w' => y = .returned (.tuple #[.int .i64 (S.ma H), .int .i64 0]) ∧ w.grownBy w' none := by
  obtain ⟨D, lsb, vs, Y, cl, bs, p, n, s, hs, hM, hX, hl⟩ := h
  rw [← hs.1]
  have hT := (hX.li.sub _ _ _ hm).1
  have := q_marks (hX.lq hM hl).ql hT
  rw [(hX.mks H hT).1] at this
  exact ⟨(hX.mks H hT).2, this⟩
theorem HS.bal (h : HS w P wb hot warm D0 S) (hsh : hot ≤ 100) (hsw : warm ≤ 100) {ci : Nat} (hc : ci < 3) {links : Nat} (hlk : links < 9223372036854775808) :
    Calls Tryz.prog 18 #[.pointer (some ⟨D0.xb, 0, none⟩), .int .i64 ci, .int .i64 links, Value.nilFunc] w fun y w' => y = .returned (.int .i64 (bal ci hot warm (min links (2 * tot S.X ci)) S).1) ∧ Kp P w w' ∧ HS w' P wb hot warm D0 (bal ci hot warm (min links (2 * tot S.X ci)) S).2 := by
  obtain ⟨D, lsb, vs, Y, cl, bs, p, n, s, hs, hM, hX, hl⟩ := h
  rw [← hs.2.2.1]
  have hlt := hX.lt hl
  have htot := hlt.ln ci
  have hLE : LE w D.xb D.sb D.qb D.gl D.gc D.F D.B 4 200 64 256 0 0 D.A D.zs D.xl cl S hot warm := ⟨bs, hX.lq hM hl⟩
  refine (balance_18 hLE (by rw [hX.n3]; exact hc) hsh hsw (by omega) hlk).mono ?_
  rintro y w1 ⟨rfl, hK, hL⟩
  obtain ⟨bs2, hQ⟩ := hL.ex
  obtain ⟨zs', L', p', n', s', m1, m2, m3, m4⟩ := hX.back hM hQ hK
  exact ⟨rfl, m3, { D with zs := zs', L := L' }, lsb, vs, Y, cl, bs2, p', n', s', hs, m1, m2, hl⟩
end
/-- Balance comes to rest. -/
theorem bal_rest {T : List Nat} {S : Lm} (h : Lt T S) {ci hot warm links : Nat} (hl : 2 * tot S.X ci ≤ links) : nxt8 (bal ci hot warm (min links (2 * tot S.X ci)) S).2 ci hot warm = none ∧ (bal ci hot warm (min links (2 * tot S.X ci)) S).1 ≤ 2 * tot S.X ci := by
  rw [Nat.min_eq_right hl]
  refine ⟨(bal_pot ci hot warm _ S (h.dj ci) (pot_le S ci)).2, ?_⟩
  generalize 2 * tot S.X ci = m
  clear h hl
  induction m generalizing S with
  | zero => exact Nat.le_refl _
  | succ m ih =>
    unfold bal
    split
    · exact Nat.zero_le _
    · exact Nat.succ_le_succ ih
theorem bal_tot (ci hot warm : Nat) : ∀ n (S : Lm), tot (bal ci hot warm n S).2.X ci = tot S.X ci
  | 0, S => rfl
  | n + 1, S => by
    cases h : nxt8 S ci hot warm with
    | none => rw [bal, h]
    | some S' =>
      rw [bal, h]
      show tot (bal ci hot warm n S').2.X ci = _
      rw [bal_tot ci hot warm n S', nxt8_tot h]
theorem bal_none {ci hot warm : Nat} {S : Lm} (h : nxt8 S ci hot warm = none) : ∀ n, bal ci hot warm n S = (0, S)
  | 0 => rfl
  | n + 1 => by rw [bal, h]
/-- What is at rest. -/
theorem rest_facts {S : Lm} {ci hot warm : Nat} (h : nxt8 S ci hot warm = none) : 100 * (S.X ci 0).length ≤ hot * tot S.X ci ∧ 100 * (S.X ci 1).length ≤ warm * tot S.X ci ∧ ∀ H U, S.X ci 2 = U ++ [H] → S.ma H % 2 = 0 := by
  have hd := nxt8_none h
  have key : ∀ k share, k < 2 → (∀ act, bhd S.X ci hot warm k act = spl S.X ci k share act) → 100 * (S.X ci k).length ≤ share * tot S.X ci := fun k share hk hb => by
    have h0 := hd k (by omega)
    unfold due at h0
    cases hl : (S.X ci k).getLast? with
    | none =>
      have : S.X ci k = [] := by simpa using hl
      rw [this]; simp
    | some H =>
      rw [hl] at h0
      simp only [hb] at h0
      unfold spl at h0
      split at h0
      · assumption
      · split at h0 <;> omega
  refine ⟨key 0 hot (by omega) (fun act => by simp [bhd]), key 1 warm (by omega) (fun act => by simp [bhd]), fun H U e => ?_⟩
  have h0 := hd 2 (by omega)
  unfold due at h0
  rw [e, List.getLast?_concat] at h0
  simp only [bhd] at h0
  by_cases ha : S.ma H % 2 = 1
  · simp [ha] at h0
  · omega
end Go.Proofs.YtohneboimmcocaaGreat
/-
  The law's own row of a class; active.
-/
namespace Go.Proofs.YtohneboimmcocaaGreat
open Go.RowKit
set_option linter.unusedVariables false

theorem Tryz.info48h : (Tryz.prog.info? 48).map (fun i => (i.zero, i.size, i.bytes)) = some (some (.int .u64 0), 1, 8) := by kernel_rfl
section
variable {w : World} {ops : Array Oper} {rest : List Oper} {o : Oper} {a : Act} {Q : Exit → Act → World → Prop}
theorem push72 (hgd : o.guard = none) (s x : Operand) (ho : o.op = .call { callee := .builtin .append, args := #[s, x], argTypes := #[72, 72] })
    (B : Nat) (v : Value) (n : Nat) (xs : List Value) (hs : a.eval s = v) (hown : w.ownsRow B 48 1 v n xs) (u : Int) (hx : a.eval x = .slice (some ⟨w.heap.size, 0, none⟩) 1 1) (hn : n ≤ 100000000000) (hB : B ≤ w.heap.size)
    (h : ∀ g cap w', w'.ownsRow B 48 1 (.slice (some ⟨g, 0, none⟩) (n + 1) cap) (n + 1) (xs ++ [.int .u64 u]) → w.grownBy w' v.ownBlock → (v.ownBlock = some g ∨ w.heap.size ≤ g) → wpList Tryz.prog ops Q rest (a.put o.dst (.slice (some ⟨g, 0, none⟩) (n + 1) cap)) w') : wpList Tryz.prog ops Q (o :: rest) a (w.alloc (.cells #[.int .u64 u] 48)) := by
  obtain ⟨i0, hi, hz0, hz1, hz2⟩ := info_parts Tryz.info48h
  exact wpList_pushN hgd s x 72 ho 48 i0 _ 1 8 Tryz.underlying72 hi hz0 hz1 hz2 rfl (by omega) (by omega) B v n xs hs hown [.int .u64 u] rfl (by simp [Value.oneCell']) hx hn hB h
end
theorem and_g : ∀ v : Fin 16, (bits BinOp.and IntKind.i64 (v.val : Int) 1 == 1) = decide (v.val % 2 = 1) := by decide +kernel
theorem and_eq1 (v : Nat) (h : v ≤ 15) : (bits BinOp.and IntKind.i64 (v : Int) 1 == 1) = decide (v % 2 = 1) := and_g ⟨v, by omega⟩
theorem rowU_step (X : Nat → Nat → List Nat) (ci : Nat) {k : Nat} (hk : k < 3) : rowU X ci k = rowU X ci (k + 1) ++ (X ci k).reverse := by
  have hk' : k = 0 ∨ k = 1 ∨ k = 2 := by omega
  rcases hk' with rfl | rfl | rfl <;> simp [rowU, rowN]
theorem rowU_len (X : Nat → Nat → List Nat) (ci k : Nat) : (rowU X ci k).length ≤ tot X ci := by
  unfold rowU rowN tot
  (repeat' split) <;> simp <;> omega

section
variable {w : World} {P : Nat → Prop} {wb N hot warm : Nat} {D0 : Wd} {S : Lm}
set_option maxRecDepth 100000 in
theorem active_36 (h : HS w P wb hot warm D0 S) {ci k H : Nat} (hm : H ∈ S.X ci k) :
    Calls Tryz.prog 36 #[.pointer (some ⟨wb, 0, none⟩), .int .u64 H] w fun y w' => y = .returned (.bool (decide (S.ma H % 2 = 1))) ∧ w.grownBy w' none := by
  obtain ⟨h15, hmk⟩ := h.marks hm
  obtain ⟨c0, _⟩ := h.cells
  have he := and_eq1 (S.ma H) h15
  generalize S.ma H = mv at *
  clear h hm
  go_enter Tryz.func36, Tryz.ntmps36
  go_wp2_with (first | (go_at_call 47; go_must (refine hmk.mono ?_); rintro y w1 ⟨rfl, hf1⟩) | (go_at_call 26; go_must (refine (num_any _ _).mono ?_); rintro y w' ⟨rfl, rfl⟩) | fail)
  go_ret
  exact ⟨by rw [← he]; rfl, hf1⟩
/-- The row of a class. -/
theorem row_30 (h : HS w P wb hot warm D0 S) {ci : Nat} (hc : ci < 3) :
    Calls Tryz.prog 30 #[.pointer (some ⟨wb, 0, none⟩), .int .i64 ci] w fun y w' => ∃ v, y = .returned v ∧ w.grownBy w' none ∧ w'.ownsRow w.heap.size 48 1 v (rowN S.X ci).length (uvs (rowN S.X ci)) := by
  obtain ⟨T, hlt⟩ := h.lt
  have htot := hlt.ln ci
  have htl := fun W (hf : w.grownBy W none) k (hk : k < 3) v (hv : (S.X ci k).getLastD 0 = v) => (h.kept0 hf).tail hc hk v hv
  have hah := fun W (hf : w.grownBy W none) k H U V (hX : S.X ci k = U ++ H :: V) v (hv : U.getLastD 0 = v) => (h.kept0 hf).ahead hX v hv
  have hc1 := fun W (hf : w.grownBy W none) => (h.kept0 hf).cells.2.1
  have h0 : ∀ k, 0 ∉ S.X ci k := fun k hm => hlt.z (hlt.sub _ _ _ hm).1
  have hU := fun k => rowU_len S.X ci k
  have hst := fun k (hk : k < 3) => rowU_step S.X ci hk
  rw [show rowN S.X ci = rowU S.X ci 0 from rfl]
  have hU3 : rowU S.X ci 3 = [] := rfl
  generalize S.X ci = X at *
  generalize rowU S.X ci = RU at *
  generalize tot S.X ci = tt at *
  clear h hlt
  go_enter Tryz.func30, Tryz.ntmps30
  go_wp2
  go_loopw [5, 6] (fun ov kv wr => ∃ k : Nat, k ≤ 3 ∧ kv = .int .i64 k ∧ wr.ownsRow w.heap.size 48 1 ov (RU k).length (uvs (RU k)) ∧ w.grownBy wr none) (fun _ kv _ => (intOf kv).toNat)
  case atStart => exact ⟨3, by omega, rfl, by rw [hU3]; exact World.ownsRow_nil _ _ _ _, gb_refl _ _⟩
  case round =>
    obtain ⟨k, hk, rfl, ho, hg⟩ := hrel
    cases k with
    | zero =>
      have hd : decide (((0 : Nat) : Int) ≥ 1) = false := by decide
      clear htl hah hc1 hst hU
      go_wp2
      go_ret
      exact ⟨_, rfl, hg, ho⟩
    | succ kk =>
      have hd : decide (((kk + 1 : Nat) : Int) ≥ 1) = true := decide_eq_true (by omega)
      obtain ⟨v, hv⟩ : ∃ v, (X kk).getLastD 0 = v := ⟨_, rfl⟩
      have h20 := htl wr hg kk (by omega) v hv
      have c1 := hc1 wr hg
      have hlk := hU kk
      rw [hst kk (by omega)] at hlk
      have hstk := hst kk (by omega)
      have h0k := h0 kk
      have hahk := fun W (hf : w.grownBy W none) H U V (hX : X kk = U ++ H :: V) v (hv : U.getLastD 0 = v) => hah W hf kk H U V hX v hv
      clear htl hah hst hU h0
      go_wp2_with (go_at_call 20; go_must (refine h20.mono ?_); rintro y w1 ⟨rfl, hf1⟩)
      have hg1 := gb_trans hg hf1
      have ho1 := row_kept ho hf1 (by simp)
      go_loopw [5, 7, 8] (fun ov hv kv wq => ∃ U V : List Nat, X kk = U ++ V ∧ hv = .int .u64 (U.getLastD 0 : Nat) ∧ kv = .bool (!decide (U.getLastD 0 = 0)) ∧ wq.ownsRow w.heap.size 48 1 ov (RU (kk + 1) ++ V.reverse).length (uvs (RU (kk + 1) ++ V.reverse)) ∧ w.grownBy wq none) (fun ov _ _ _ => 1000 - slen ov)
      case atStart => exact ⟨X kk, [], by simp, by rw [hv], by rw [hv], by simpa using ho1, hg1⟩
      case round =>
        obtain ⟨U, V, hUV, rfl, rfl, hoq, hgq⟩ := hrel
        obtain ⟨oa, oc, rfl, _, _, _, _⟩ := row_shape hoq
        rcases List.eq_nil_or_concat U with rfl | ⟨U', H, rfl⟩
        · have HH : Hid _ := And.intro hoq (And.intro hgq hUV)
          clear hoq hgq hUV hahk hc1
          simp only [List.getLastD_nil]
          go_wp2_with fail
          refine ⟨⟨kk, by omega, rfl, ?_, HH.out.2.1⟩, by simp [intOf]⟩
          have e := HH.out.1
          have e2 : V = X kk := by simpa using HH.out.2.2.symm
          rw [e2, ← hstk] at e
          have e3 : (RU (kk + 1)).length + V.length = (RU kk).length := by rw [hstk, e2]; simp
          rw [e3]
          simpa [e2, hstk] using e
        · have hX2 : X kk = U' ++ H :: V := by rw [hUV]; simp
          have hH0 : ¬ H = 0 := fun e => h0k (by rw [hX2, e]; simp)
          obtain ⟨v2, hv2⟩ : ∃ v2, U'.getLastD 0 = v2 := ⟨_, rfl⟩
          have hlo : ∀ k, (Value.slice oa (RU (kk + 1) ++ V.reverse).length oc).ownBlock = some k → w.heap.size ≤ k := fun k hk => by
            rcases hoq.2 with ⟨h1, _⟩ | ⟨g, cap, cur, h1, h2, _⟩
            · rw [h1] at hk; simp [Value.ownBlock] at hk
            · rw [h1] at hk; simp [Value.ownBlock] at hk; omega
          have hfar := fun w4 (hg4 : wr.grownBy w4 (Value.slice oa (RU (kk + 1) ++ V.reverse).length oc).ownBlock) => (show w.grownBy w4 none from gb_far hgq hg4 hlo (Nat.le_refl _))
          have hn : (RU (kk + 1) ++ V.reverse).length < 900 := by
            have : (RU (kk + 1) ++ V.reverse).length ≤ (RU (kk + 1) ++ (X kk).reverse).length := by rw [hX2]; simp
            omega
          have HE : Hid (∀ (w4 : World) (g cap : Nat), w4.ownsRow w.heap.size 48 1 (.slice (some ⟨g, 0, none⟩) ((RU (kk + 1) ++ V.reverse).length + 1) cap) ((RU (kk + 1) ++ V.reverse).length + 1) (uvs (RU (kk + 1) ++ V.reverse) ++ [.int .u64 (H : Int)]) → w4.ownsRow w.heap.size 48 1 (.slice (some ⟨g, 0, none⟩) ((RU (kk + 1) ++ V.reverse).length + 1) cap) (RU (kk + 1) ++ (H :: V).reverse).length (uvs (RU (kk + 1) ++ (H :: V).reverse))) := fun w4 g cap h => by
            rw [← uvs_app] at h
            have e : RU (kk + 1) ++ (H :: V).reverse = (RU (kk + 1) ++ V.reverse) ++ [H] := by simp
            have e4 : ((RU (kk + 1) ++ V.reverse) ++ [H]).length = (RU (kk + 1) ++ V.reverse).length + 1 := by rw [List.length_append]; rfl
            rw [e, e4]
            exact h
          have hsz := hgq.size
          have h74 := fun W (hf : w.grownBy W none) => hahk W hf H U' V hX2 v2 hv2
          simp only [List.concat_eq_append, List.getLastD_concat, hH0, decide_false, Bool.not_false]
          generalize RU (kk + 1) ++ V.reverse = rl at hn hfar HE hoq ⊢
          generalize rl.length = ln at hn hfar HE hoq ⊢
          have hd2 : decide ((ln : Int) < 1000) = true := decide_eq_true (by omega)
          have HU : Hid _ := hX2
          clear hUV hX2 hahk hlo hlk hstk h20 ho ho1
          go_wp2_with (first | (at_builtin; go_must (refine push72 rfl _ _ rfl w.heap.size (.slice oa ln oc) ln (uvs rl) (by rfl) hoq (H : Int) (by rfl) (by omega) hsz ?_); intro g1 cap1 w4 ho4 hg4 hat4; (have hg5 := hfar w4 hg4); (have c4 := hc1 w4 hg5)) | (go_at_call 74; go_must (refine (h74 _ hg5).mono ?_); rintro y w5 ⟨rfl, hf5⟩) | fail)
          exact ⟨⟨U', H :: V, HU.out, by rw [hv2], by rw [hv2], row_kept (HE.out w4 g1 cap1 ho4) hf5 (by simp), gb_trans hg5 hf5⟩, by simp only [slen]; omega⟩
end
end Go.Proofs.YtohneboimmcocaaGreat

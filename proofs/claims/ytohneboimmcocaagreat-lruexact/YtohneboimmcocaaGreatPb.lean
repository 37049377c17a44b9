import Derived.Test.YtohneboimmcocaaGreatOd
import Derived.Test.YtohneboimmcocaaGreatOl
import Derived.Test.YtohneboimmcocaaGreatPa
/-
  The document's Pick, for LruExact: in, Row.
-/
namespace Go.Proofs.YtohneboimmcocaaGreat
open Go.RowKit
set_option linter.unusedVariables false

set_option maxRecDepth 100000 in
theorem in_83 {w : World} {a : Option Addr} {cp : Nat} {xs : List Nat} {B H : Nat} (h : w.ownsRow B 27 1 (.slice a xs.length cp) xs.length (uvs xs)) (hl : xs.length ≤ 1099511627776) :
    Calls Tryz.prog 83 #[.slice a xs.length cp, .int .u64 H] w fun y w' => y = .returned (.bool (decide (H ∈ xs))) ∧ w = w' := by
  obtain ⟨ao, cc, hcv, _, _, _, hao⟩ := row_shape h
  simp at hcv
  obtain ⟨rfl, rfl⟩ := hcv
  have hcell : ∀ k, (hk : k < xs.length) → ∃ gg v, a = some ⟨gg, 0, none⟩ ∧ w.cell? ⟨gg, k, none⟩ = some (.int .u64 ((v : Nat) : Int)) ∧ xs[k] = v := fun k hk => by
    obtain ⟨gg, rfl⟩ := hao (by omega)
    exact ⟨gg, xs[k], rfl, row_cell h _ _ (uvs_get (by simp [hk])), rfl⟩
  have hfin : ∀ b : Bool, (b = true ↔ H ∈ xs) → b = decide (H ∈ xs) := fun b hb => by
    by_cases e : H ∈ xs
    · rw [decide_eq_true e]; exact hb.2 e
    · rw [decide_eq_false e]
      cases b with
      | false => rfl
      | true => exact absurd (hb.1 rfl) e
  clear h hao
  go_enter Tryz.func83, Tryz.ntmps83
  go_wp2
  go_loopw [5] (fun iv wr => ∃ (k : Nat), iv = .int .i64 k ∧ k ≤ xs.length ∧ wr = w ∧ ∀ j (hj : j < xs.length), j < k → xs[j] ≠ H) (fun iv _ => xs.length - (intOf iv).toNat)
  case atStart => exact ⟨0, rfl, by omega, rfl, fun j hj h0 => by omega⟩
  case round =>
    obtain ⟨k, rfl, hk, rfl, hno⟩ := hrel
    by_cases hlt : k < xs.length
    · have hd : decide ((k : Int) < xs.length) = true := decide_eq_true (by omega)
      have hd' : (k : Int) < xs.length := by omega
      obtain ⟨gg, v, rfl, cv, hv⟩ := hcell k hlt
      by_cases e : v = H
      · have HF : Hid (true = decide (H ∈ xs)) := hfin true ⟨fun _ => by rw [← e, ← hv]; exact List.getElem_mem hlt, fun _ => rfl⟩
        subst e
        clear hcell hno hfin hv
        go_wp2
        go_ret
        exact ⟨by rw [← HF.out]; rfl, rfl⟩
      · have e' : ¬ (v : Int) = (H : Int) := by omega
        have HN : Hid (∀ j (hj : j < xs.length), j < k + 1 → xs[j] ≠ H) := fun j hj h1 => by
          rcases Nat.lt_or_ge j k with h2 | h2
          · exact hno j hj h2
          · obtain rfl : j = k := by omega
            rw [hv]; exact e
        clear hcell hno hfin hv
        go_wp2
        exact ⟨⟨k + 1, by go_num, by omega, trivial, HN.out⟩, by simp [intOf]; omega⟩
    · obtain rfl : k = xs.length := by omega
      have hd : decide ((xs.length : Int) < xs.length) = false := decide_eq_false (by omega)
      have HF : Hid (false = decide (H ∈ xs)) := hfin false ⟨fun hh => (by cases hh), fun hm => (by
        obtain ⟨j, hj, e⟩ := List.getElem_of_mem hm
        exact absurd e (hno j hj hj))⟩
      clear hcell hno hfin
      go_wp2
      go_ret
      exact ⟨by rw [← HF.out]; rfl, rfl⟩
end Go.Proofs.YtohneboimmcocaaGreat
/-
  The document's Row.
-/
namespace Go.Proofs.YtohneboimmcocaaGreat
open Go.RowKit
set_option linter.unusedVariables false

set_option maxRecDepth 100000 in
set_option maxHeartbeats 1000000 in
theorem d_row {w : World} {mb lb rb lsb : Nat} {lv : Value} {vs : Nat → Value} {Y : Nat → List Nat} {szb szc : Nat} {av : Value} {xa : List Nat} {hot warm : Nat} (h : DS w mb lb rb lsb lv vs Y szb szc av xa hot warm) {c : Nat} (hc : c < 3) (ht : tot (fun ci k => Y (3 * ci + k)) c < 900) :
    Calls Tryz.prog 82 #[.pointer (some ⟨mb, 0, none⟩), .int .i64 c] w fun y w' => ∃ v, y = .returned v ∧ w.grownBy w' none ∧ w'.ownsRow w.heap.size 27 1 v (rowN (fun ci k => Y (3 * ci + k)) c).length (uvs (rowN (fun ci k => Y (3 * ci + k)) c)) := by
  have hall := fun W (hf : w.grownBy W none) (k : Nat) (hk : k < 3) => all_104 (h.kept0 hf).rq hc hk
  have hC := fun W (hf : w.grownBy W none) => (h.kept0 hf).mbx.cell 0
  have hU := fun k => rowU_len (fun ci k => Y (3 * ci + k)) c k
  have hst := fun k (hk : k < 3) => rowU_step (fun ci k => Y (3 * ci + k)) c hk
  rw [show rowN (fun ci k => Y (3 * ci + k)) c = rowU (fun ci k => Y (3 * ci + k)) c 0 from rfl]
  have hU3 : rowU (fun ci k => Y (3 * ci + k)) c 3 = [] := rfl
  generalize rowU (fun ci k => Y (3 * ci + k)) c = RU at *
  generalize tot (fun ci k => Y (3 * ci + k)) c = tt at *
  clear h
  simp at hC
  go_enter Tryz.func82, Tryz.ntmps82
  go_wp2
  go_loopw [5, 6] (fun ov kv wr => ∃ k : Nat, k ≤ 3 ∧ kv = .int .i64 k ∧ wr.ownsRow w.heap.size 27 1 ov (RU k).length (uvs (RU k)) ∧ w.grownBy wr none) (fun _ kv _ => (intOf kv).toNat)
  case atStart => exact ⟨3, by omega, rfl, by rw [hU3]; exact World.ownsRow_nil _ _ _ _, gb_refl _ _⟩
  case round =>
    obtain ⟨k, hk, rfl, ho, hg⟩ := hrel
    cases k with
    | zero =>
      have hd : decide (((0 : Nat) : Int) ≥ 1) = false := by decide
      clear hall hC hst hU
      go_wp2
      go_ret
      exact ⟨_, rfl, hg, ho⟩
    | succ kk =>
      have hd : decide (((kk + 1 : Nat) : Int) ≥ 1) = true := decide_eq_true (by omega)
      have h104 := hall wr hg kk (by omega)
      have c0 := hC wr hg
      have hstk := hst kk (by omega)
      have hlk := hU kk
      rw [hstk] at hlk
      obtain ⟨L, hL⟩ : ∃ L, Y (3 * c + kk) = L := ⟨_, rfl⟩
      rw [hL] at hstk hlk h104
      clear hall hst hU hL
      have hlL : L.length < 900 := by simp at hlk; omega
      have hw1 : IntKind.i64.wrap ((L.length : Int) - 1) = (L.length : Int) - 1 := by rw [IntKind.wrap_i64]; omega
      go_wp2_with (go_at_call 104; go_must (refine h104.mono ?_); rintro y w1 ⟨va, rfl, hf1, hra⟩; (obtain ⟨aa, ca, rfl, _, _, _, haa⟩ := row_shape hra))
      have hg1 := gb_trans hg hf1
      have ho1 := row_kept ho hf1 (by simp)
      have hcell : ∀ j (hj : j < L.length), ∃ gg, aa = some ⟨gg, 0, none⟩ ∧ w1.cell? ⟨gg, j, none⟩ = some (.int .u64 (L[j] : Nat)) := fun j hj => by
        obtain ⟨gg, rfl⟩ := haa (by omega)
        exact ⟨gg, rfl, row_cell hra j _ (uvs_get (List.getElem?_eq_getElem hj))⟩
      have hgl : ∀ gg, aa = some ⟨gg, 0, none⟩ → wr.heap.size ≤ gg ∧ gg < w1.heap.size := fun gg e => by
        subst e
        exact hra.lt gg rfl
      have hol : ∀ gg, aa = some ⟨gg, 0, none⟩ → ∀ bk, u5.ownBlock = some bk → bk ≠ gg := fun gg e bk hb e2 => by
        have h1 := (hgl gg e).1
        have h2 := (ho.lt bk hb).2
        omega
      clear hra ho
      go_loopw [5, 8] (fun ov iv wz => ∃ j : Nat, j ≤ L.length ∧ iv = .int .i64 ((j : Int) - 1) ∧ wz.ownsRow w.heap.size 27 1 ov (RU (kk + 1) ++ (L.drop j).reverse).length (uvs (RU (kk + 1) ++ (L.drop j).reverse)) ∧ w.grownBy wz none ∧ Hid ((∀ gg, aa = some ⟨gg, 0, none⟩ → ∀ bk, ov.ownBlock = some bk → bk ≠ gg) ∧ (∀ j (hj : j < L.length), ∃ gg, aa = some ⟨gg, 0, none⟩ ∧ wz.cell? ⟨gg, j, none⟩ = some (.int .u64 (L[j] : Nat))))) (fun _ iv _ => (intOf iv + 1).toNat)
      case atStart => exact ⟨L.length, by omega, rfl, by simpa using ho1, hg1, hol, hcell⟩
      case round =>
        obtain ⟨j, hj, rfl, hoz, hgz, hH⟩ := hrel
        obtain ⟨oa, oc, rfl, _, _, _, _⟩ := row_shape hoz
        cases j with
        | zero =>
          simp only [show (((0 : Nat) : Int) - 1) = -1 from rfl]
          have HF : Hid _ := And.intro hoz hgz
          clear hoz hgz hH hcell
          go_wp2_with fail
          refine ⟨⟨kk, by omega, rfl, ?_, HF.out.2⟩, by simp [intOf]⟩
          have e := HF.out.1
          rw [List.drop_zero, ← hstk] at e
          rw [List.drop_zero, ← hstk]
          exact e
        | succ j =>
          simp only [show (((j + 1 : Nat) : Int) - 1) = (j : Int) by omega]
          obtain ⟨gg, rfl, cj⟩ := hH.out.2 j (by omega)
          obtain ⟨v, hv⟩ : ∃ v, L[j]'(by omega) = v := ⟨_, rfl⟩
          rw [hv] at cj
          have n1 : decide ((j : Int) ≥ 0) = true := decide_eq_true (by omega)
          have n2 : (j : Int) ≥ 0 := by omega
          have n3 : (j : Int) < L.length := by omega
          have hdrop : RU (kk + 1) ++ (L.drop j).reverse = (RU (kk + 1) ++ (L.drop (j + 1)).reverse) ++ [v] := by
            rw [List.drop_eq_getElem_cons (show j < L.length by omega), hv]; simp
          have hle : (RU (kk + 1) ++ (L.drop (j + 1)).reverse).length ≤ 2000 := by simp at hlk ⊢; omega
          have hsz := hgz.size
          have hlo : ∀ bk, (Value.slice oa (RU (kk + 1) ++ (L.drop (j + 1)).reverse).length oc).ownBlock = some bk → w.heap.size ≤ bk := fun bk hb => (hoz.lt bk hb).1
          have hblt : gg < wr.heap.size := World.block_lt_of_cell? _ _ cj
          have cb : ∀ o, (wr.alloc o).cell? ⟨gg, j, none⟩ = some (.int .u64 v) := fun o => gb_cellN (World.grownBy_alloc wr o none) cj
          have HE : Hid (∀ (w4 : World) (g1 cap1 : Nat), w4.ownsRow w.heap.size 27 1 (.slice (some ⟨g1, 0, none⟩) ((RU (kk + 1) ++ (L.drop (j + 1)).reverse).length + 1) cap1) ((RU (kk + 1) ++ (L.drop (j + 1)).reverse).length + 1) (uvs (RU (kk + 1) ++ (L.drop (j + 1)).reverse) ++ [.int .u64 (v : Int)]) → wr.grownBy w4 (Value.slice oa (RU (kk + 1) ++ (L.drop (j + 1)).reverse).length oc).ownBlock → ((Value.slice oa (RU (kk + 1) ++ (L.drop (j + 1)).reverse).length oc).ownBlock = some g1 ∨ wr.heap.size ≤ g1) → w4.ownsRow w.heap.size 27 1 (.slice (some ⟨g1, 0, none⟩) ((RU (kk + 1) ++ (L.drop (j + 1)).reverse).length + 1) cap1) (RU (kk + 1) ++ (L.drop j).reverse).length (uvs (RU (kk + 1) ++ (L.drop j).reverse)) ∧ w.grownBy w4 none ∧ Hid ((∀ gk, some (⟨gg, 0, none⟩ : Addr) = some ⟨gk, 0, none⟩ → ∀ bk, (Value.slice (some ⟨g1, 0, none⟩) ((RU (kk + 1) ++ (L.drop (j + 1)).reverse).length + 1) cap1).ownBlock = some bk → bk ≠ gk) ∧ (∀ i (hi : i < L.length), ∃ gk, some (⟨gg, 0, none⟩ : Addr) = some ⟨gk, 0, none⟩ ∧ w4.cell? ⟨gk, i, none⟩ = some (.int .u64 (L[i] : Nat))))) := fun w4 g1 cap1 h4 hg4 hat4 => by
            have hne := hH.out.1 gg rfl
            refine ⟨?_, gb_far hgz hg4 hlo (Nat.le_refl _), ?_, fun i hi => ?_⟩
            · have e9 : ((RU (kk + 1) ++ (L.drop (j + 1)).reverse) ++ [v]).length = (RU (kk + 1) ++ (L.drop (j + 1)).reverse).length + 1 := by rw [List.length_append]; rfl
              rw [hdrop, uvs_app, e9]
              exact h4
            · intro gk e bk hb
              simp at e
              subst e
              simp [Value.ownBlock] at hb
              subst hb
              rcases hat4 with h1 | h1
              · exact hne _ h1
              · omega
            · obtain ⟨gk, e, ci⟩ := hH.out.2 i hi
              refine ⟨gk, e, ?_⟩
              simp at e
              subst e
              have hK : Kp (fun k => (Value.slice oa (RU (kk + 1) ++ (L.drop (j + 1)).reverse).length oc).ownBlock = some k) wr w4 := (Kp.refl _ _).step hg4 (fun i hi => .inl hi)
              have hbk := hK.block gg hblt (fun hh => hne _ hh rfl)
              simp only [World.cell?] at ci ⊢
              rw [hbk]
              exact ci
          generalize RU (kk + 1) ++ (L.drop (j + 1)).reverse = rl at hle hlo hoz HE ⊢
          generalize rl.length = ln at hle hlo hoz HE ⊢
          clear hH hcell hdrop hstk hlk hol hgl
          go_wp2_with (first | (at_builtin; go_must (refine push26 rfl _ _ rfl w.heap.size (.slice oa ln oc) ln (uvs rl) (by rfl) hoz (v : Int) (by rfl) (by omega) hsz ?_); intro g1 cap1 w4 ho4 hg4 hat4) | fail)
          exact ⟨⟨j, by omega, by go_num, (HE.out w4 g1 cap1 ho4 hg4 hat4).1, (HE.out w4 g1 cap1 ho4 hg4 hat4).2.1, (HE.out w4 g1 cap1 ho4 hg4 hat4).2.2⟩, by simp [intOf]⟩
end Go.Proofs.YtohneboimmcocaaGreat
/-
  LruExact: the row of a class that there is not.
-/
namespace Go.Proofs.YtohneboimmcocaaGreat
open Go.RowKit Go.Shelf
set_option linter.unusedVariables false
attribute [local go_sem] Oper.semAt_some

set_option maxRecDepth 100000 in
set_option maxHeartbeats 4000000 in
theorem row1_no {n₀ xb qb : Nat} {T : List Nat} (n : Nat) (hn : 1 ≤ n) (l Bl Bc : Nat) {ci : Int} (J Jx : List { H : Nat // H ∈ T } → World → Prop)
    (W : World) (hn₀ : n₀ ≤ W.heap.size) (hBl : Bl < W.heap.size) (hBc : Bc < W.heap.size) (hJ : AbidesFrom W.heap.size J) (c1 : W.cell? ⟨Bl, 0, none⟩ = some (.pointer (some ⟨xb, 0, none⟩))) (c2 : W.cell? ⟨Bc, 0, none⟩ = some (.int .i64 ci))
    (hx : ∀ W1, Below n₀ W W1 → W1.cell? ⟨xb, 1, none⟩ = some (.pointer (some ⟨qb, 0, none⟩)))
    (ht : ∀ W1 (k : Int), Below n₀ W W1 → Calls Tryz.prog 20 #[.pointer (some ⟨qb, 0, none⟩), .int .i64 ci, .int .i64 k] W1 fun y w' => y = .returned (.tuple #[.int .u64 0, .bool false]) ∧ W1.grownBy w' none)
    (hl : ∀ W1 (k : Int), Below n₀ W W1 → Calls Tryz.prog 80 #[.pointer (some ⟨qb, 0, none⟩), .int .i64 ci, .int .i64 k] W1 fun y w' => y = .returned (.int .i64 0) ∧ W1.grownBy w' none)
    (h0 : J [] W) :
    CallsIn Fence.wide n Tryz.prog 116 #[.func (.yield l) #[] #[], .pointer (some ⟨Bl, 0, none⟩), .pointer (some ⟨Bc, 0, none⟩)] W fun e W' => (∃ v, e = .returned v) ∧
      ((∃ ys : List { H : Nat // H ∈ T }, ys.map Subtype.val = [] ∧ J ys W') ∨ (∃ pre : List { H : Nat // H ∈ T }, pre.map Subtype.val <+: [] ∧ Jx pre W')) := by
  refine callsIn_of_wp Tryz.func116 rfl trivial ?_ rfl
  simp only [Tryz.ntmps116, List.size_toArray, List.length_cons, List.length_nil, Nat.reduceAdd, Nat.reduceSub, Array.replicate_succ, Array.replicate_zero, List.push_toArray, List.append_toArray, List.nil_append, List.cons_append]
  gi_wp2
  gi_loopw [4] (fun v wr => ∃ k : Nat, k ≤ 3 ∧ v = .int .i64 k ∧ KI n₀ Bl Bc W wr ∧ J [] wr) (fun v _ => (intOf v).toNat)
  case atStart => exact ⟨3, by omega, rfl, ⟨Below.refl _ _, fun _ _ => rfl⟩, h0⟩
  case round =>
    obtain ⟨k, hk, rfl, hK, hJs⟩ := hrel
    rcases Nat.eq_zero_or_pos k with rfl | hk0
    · gi_wp2
      go_end0
      exact ⟨⟨_, rfl⟩, .inl ⟨[], rfl, hJs⟩⟩
    · obtain ⟨k, rfl⟩ : ∃ k', k = k' + 1 := ⟨k - 1, by omega⟩
      have hge : (((k + 1 : Nat) : Int) ≥ 1) := by omega
      have d1 : decide (((k + 1 : Nat) : Int) ≥ 1) = true := decide_eq_true hge
      have hCB : ∀ W1, KI n₀ Bl Bc W W1 → W1.cell? ⟨Bl, 0, none⟩ = some (.pointer (some ⟨xb, 0, none⟩)) ∧ W1.cell? ⟨Bc, 0, none⟩ = some (.int .i64 ci) ∧ W1.cell? ⟨xb, 1, none⟩ = some (.pointer (some ⟨qb, 0, none⟩)) := fun W1 h1 => ⟨by simpa [World.cell?, h1.bx Bl (.inl rfl)] using c1, by simpa [World.cell?, h1.bx Bc (.inr rfl)] using c2, hx _ h1.bel⟩
      have hKG : ∀ W1 W2, KI n₀ Bl Bc W W1 → W1.grownBy W2 none → KI n₀ Bl Bc W W2 := fun W1 W2 h1 h2 => h1.trans (KI.grown h2 (Nat.le_trans hn₀ h1.bel.size) (Nat.lt_of_lt_of_le hBl h1.bel.size) (Nat.lt_of_lt_of_le hBc h1.bel.size))
      have hJG : ∀ zs W1 W2, J zs W1 → W1.grownBy W2 none → J zs W2 := fun zs W1 W2 h1 h2 => hJ zs W1 W2 none h1 h2 (by simp)
      have htl := fun W1 (h1 : KI n₀ Bl Bc W W1) => ht W1 ((k : Int) + 1) h1.bel
      have hln := fun W1 (h1 : KI n₀ Bl Bc W W1) => hl W1 ((k : Int) + 1) h1.bel
      simp only [show ((k + 1 : Nat) : Int) = (k : Int) + 1 from rfl] at *
      have hdr : wr.grownBy wr.drew none := gb_drew (gb_refl _ _)
      have hKd := hKG _ _ hK hdr
      have hD := hCB _ hKd
      clear ht hl hx
      gi_wp2
      refine wpIn_wide.2 ?_
      go_region_held3 (fun W1 => W1.cell? ⟨Bl, 0, none⟩ = some (.pointer (some ⟨xb, 0, none⟩)) ∧ W1.cell? ⟨Bc, 0, none⟩ = some (.int .i64 ci) ∧ W1.cell? ⟨xb, 1, none⟩ = some (.pointer (some ⟨qb, 0, none⟩))) ((first | with_reducible exact hD1 | with_reducible exact hD | go_keep)) ((go_at_call 20; with_reducible refine (htl _ hKd).mono ?_; rintro y w2 ⟨rfl, hg2⟩; (have hK2 := hKG _ _ hKd hg2); (have hD1 := hCB _ hK2)))
      have hJ2 := hJG _ _ _ hJs (gb_trans hdr hg2)
      clear hD hD1 hJs hK hKd
      have hd2 : w2.grownBy w2.drew none := gb_drew (gb_refl _ _)
      have hKd2 := hKG _ _ hK2 hd2
      have hD2 := hCB _ hKd2
      gi_wp2
      refine wpIn_wide.2 ?_
      go_region_held3 (fun W1 => W1.cell? ⟨Bl, 0, none⟩ = some (.pointer (some ⟨xb, 0, none⟩)) ∧ W1.cell? ⟨Bc, 0, none⟩ = some (.int .i64 ci) ∧ W1.cell? ⟨xb, 1, none⟩ = some (.pointer (some ⟨qb, 0, none⟩))) ((first | with_reducible exact hD3 | with_reducible exact hD2 | go_keep)) ((go_at_call 80; with_reducible refine (hln _ hKd2).mono ?_; rintro y w3 ⟨rfl, hg3⟩; (have hK3 := hKG _ _ hKd2 hg3); (have hD3 := hCB _ hK3)))
      have hJ3 := hJG _ _ _ hJ2 (gb_trans hd2 hg3)
      clear hD2 hD3 hJ2 hK2 hKd2 htl hln
      have ek : IntKind.i64.wrap ((k : Int) + 1 - 1) = (k : Int) := by rw [IntKind.wrap_i64]; omega
      gi_wp2
      gi_loopw [28] (fun iq wq => iq = .int .i64 0 ∧ KI n₀ Bl Bc W wq ∧ J [] wq) (fun _ _ => 0)
      case atStart => exact ⟨rfl, hK3, hJ3⟩
      case round =>
        obtain ⟨rfl, hKq, hJq⟩ := hrel
        gi_wp2
        go_roundw
        case rel => exact ⟨k, by omega, by go_num, hKq, hJq⟩
        case measure => simp [intOf]
/-- The document's row of a class that there is not. -/
theorem d_row_no {w : World} {mb lb rb lsb : Nat} {lv : Value} {vs : Nat → Value} {Y : Nat → List Nat} {szb szc : Nat} {av : Value} {xa : List Nat} {hot warm : Nat} (h : DS w mb lb rb lsb lv vs Y szb szc av xa hot warm) {c : Int} (hc : ¬ (0 ≤ c ∧ c < 3)) :
    Calls Tryz.prog 82 #[.pointer (some ⟨mb, 0, none⟩), .int .i64 c] w fun y w' => y = .returned (.slice none 0 0) ∧ w = w' := by
  have hall := fun (k : Int) => all_no h.rq (c := c) (k := k) (by omega)
  have hC := h.mbx.cell 0
  clear h
  simp at hC
  go_enter Tryz.func82, Tryz.ntmps82
  go_wp2
  go_loopw [5, 6] (fun ov kv wr => ∃ k : Nat, k ≤ 3 ∧ kv = .int .i64 k ∧ ov = .slice none 0 0 ∧ wr = w) (fun _ kv _ => (intOf kv).toNat)
  case atStart => exact ⟨3, by omega, rfl, rfl, rfl⟩
  case round =>
    obtain ⟨k, hk, rfl, rfl, rfl⟩ := hrel
    cases k with
    | zero =>
      have hd : decide (((0 : Nat) : Int) ≥ 1) = false := by decide
      go_wp2
      go_ret
      exact ⟨rfl, rfl⟩
    | succ kk =>
      have hd : decide (((kk + 1 : Nat) : Int) ≥ 1) = true := decide_eq_true (by omega)
      have h104 := hall ((kk : Int) + 1)
      simp only [show ((kk + 1 : Nat) : Int) = (kk : Int) + 1 from rfl] at *
      go_wp2_with (first | (go_at_call 104; go_must (refine h104.mono ?_); rintro y w1 ⟨rfl, rfl⟩) | fail)
      go_loopw [5, 8] (fun ov iv wz => ov = .slice none 0 0 ∧ iv = .int .i64 (-1) ∧ wz = wr) (fun _ _ _ => 0)
      case atStart => exact ⟨rfl, rfl, rfl⟩
      case round =>
        obtain ⟨rfl, rfl, rfl⟩ := hrel
        go_wp2_with fail
        exact ⟨⟨kk, by omega, by go_num, rfl, trivial⟩, by simp [intOf]⟩
end Go.Proofs.YtohneboimmcocaaGreat

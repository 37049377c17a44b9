import Derived.Test.YtobegepebochkaaGreatDoorVPag
import Derived.Test.YtobegepebochkaaGreatDoorVPbs
set_option linter.unusedVariables false
set_option linter.unusedSimpArgs false
namespace Go.Proofs.YtobegepebochkaaGreatDoor
open Go.RowKit Go.Maps
theorem und3 : Tryz.prog.underlying 3 = some (.int .i64) := by kernel_rfl
theorem zeros_one {z : Value} (hz : z.cells = #[z]) (m : Nat) : (Builtin.zeroCells z.cells m).toList = List.replicate m z := by
  rw [hz]
  apply List.ext_getElem?
  intro i
  by_cases h : i < m <;> simp [Builtin.zeroCells, h, Nat.mod_one]
section
variable {sl el : TypeId} {ti : TypeInfo} {z : Value} {bs : Nat}
theorem run_zeros (T : Ty sl el ti z 1 bs) (hz1 : z.cells = #[z]) (ho1 : z.oneCell' = true) (w : World) (ty : TypeId) (B : Nat) (v : Value) (n : Nat) (xs : List Value) (hown : w.ownsRow B el 1 v n xs) (m : Nat) (hm : 0 < m) (hm2 : m ≤ 1000) (hn : n + m ≤ 100000000000) (hB : B ≤ w.heap.size) :
    ∃ g c w', (Builtin.append_ #[sl, 3] ty #[v, .int .i64 m]).run Tryz.prog w = .ok (.slice (some ⟨g, 0, none⟩) (n + m) c) w' ∧ w'.ownsRow B el 1 (.slice (some ⟨g, 0, none⟩) (n + m) c) (n + m) (xs ++ List.replicate m z) ∧ w.grownBy w' v.ownBlock ∧ (v.ownBlock = some g ∨ w.heap.size ≤ g) := by
  obtain ⟨tu, tI, tz, ts, tb, tzs, tpos, tle⟩ := T
  have hZ := zeros_one hz1 m
  have hw : IntKind.i64.wrap (m : Int) = (m : Int) := by rw [IntKind.wrap_i64]; omega
  have h0 : ¬ ((m : Int) < 0) := by omega
  have hmb : m * ti.bytes ≤ 1000 * 1000 := Nat.mul_le_mul hm2 (by omega)
  have hmb2 : ¬ (281474976710656 : Int) < (m : Int) * (ti.bytes : Int) := by
    have : (m : Int) * (ti.bytes : Int) = ((m * ti.bytes : Nat) : Int) := by simp
    omega
  have hm1 : ¬ (m = 0) := by omega
  have hm3 : ¬ ((m : Int) ≤ 0) := by omega
  have hm4 : max (m : Int) 0 = (m : Int) := by omega
  rcases hown.2 with ⟨h, hn00⟩ | ⟨g, cap, cur, rfl, hbg, hg, hnc, hcm, hcs, htake⟩
  · have hn0 : n = 0 := by assumption
    subst h hn0
    have hx0 : xs = [] := List.eq_nil_of_length_eq_zero (by rw [hown.1])
    subst hx0
    have hge := grownCap_ge w m 0 el
    have hcm2 : grownCap w m 0 el ≤ maxLen := grownCap_le_maxLen w m 0 el (by unfold maxLen; omega)
    have h63' : ¬ (9223372036854775807 < (m : Int)) := by omega
    have hfit2 : Builtin.nextslicecap m 0 * ti.bytes ≤ 281474976710656 := growslice_fits (by omega) (mul_bd (by omega) (by omega))
    have h48' : ¬ (281474976710656 < Builtin.nextslicecap m 0 * ti.bytes) := by omega
    refine ⟨w.heap.size, grownCap w m 0 el, w.drew.alloc (.cells ((List.replicate m z).toArray ++ Builtin.zeroCells z.cells (grownCap w m 0 el - m)) el), ?_, ⟨by simp, .inr ⟨w.heap.size, _, _, by simp, hB, heap_alloc_new w.drew _, by omega, hcm2, ?_, ?_⟩⟩, ⟨rfl, rfl, rfl, by simp, fun k hk _ => heap_alloc_old w.drew _ hk⟩, .inr (Nat.le_refl _)⟩
    · have hZa : Builtin.zeroCells z.cells m = (List.replicate m z).toArray := by rw [← hZ]
      simp [Builtin.append_, run_underlying tu, run_underlying und3, sizeOf, typeInfo, zeroValue, tI, tz, ts, asInt, asIntOf, hw, h0, hmb2, hm1, hm3, hm4, h63', h48', Question.forced, Builtin.firstCells, newRow, grownCap, hZa]
    · simp only [Array.size_append, List.size_toArray, List.length_replicate, size_zeroCells, tzs]
      omega
    · simp [Array.toList_append]
  · have hxl : xs.length = n := by rw [hown.1]; omega
    have hlen : (xs ++ List.replicate m z).length = (n + m) * 1 := by rw [List.length_append, List.length_replicate, hxl]; omega
    by_cases hr : n + m ≤ cap
    · have hfit : n * 1 + (List.replicate m z).length ≤ cur.size := by rw [List.length_replicate, hcs]; omega
      have hst := run_storeCells_at Tryz.prog g n el (List.replicate m z) 0 cur w hg (by simpa using hfit) (fun u hu => by rw [List.eq_of_mem_replicate hu]; exact ho1)
      refine ⟨g, cap, w.setRow g (cur.toList.take n ++ List.replicate m z ++ cur.toList.drop (n + m)).toArray, ?_, ⟨hlen, .inr ⟨g, cap, _, rfl, hbg, setRow_heap w g cur _ el _ hg, hr, hcm, ?_, ?_⟩⟩, ⟨rfl, rfl, rfl, by simp, fun k _ hk => setRow_other w g k _ (fun e => hk (by simp [Value.ownBlock, e]))⟩, .inl rfl⟩
      · simp only [Nat.add_zero, List.length_replicate] at hst
        simp [Builtin.append_, run_underlying tu, run_underlying und3, sizeOf, typeInfo, zeroValue, tI, tz, ts, asInt, asIntOf, hw, h0, hmb2, hr, hm1, hm3, hm4, Addr.add_lit, hZ, hst]
      · simp only [List.size_toArray, List.length_append, List.length_take, List.length_drop, List.length_replicate, Array.length_toList]
        omega
      · have ht : cur.toList.take n = xs := by rw [← htake, Nat.mul_one]
        show (cur.toList.take n ++ List.replicate m z ++ cur.toList.drop (n + m)).take ((n + m) * 1) = _
        rw [ht, ← hlen]
        exact List.take_left
    · have hge := grownCap_ge w (n + m) cap el
      have hcm2 : grownCap w (n + m) cap el ≤ maxLen := grownCap_le_maxLen w (n + m) cap el (by unfold maxLen; omega)
      have h63' : ¬ (9223372036854775807 < ((n : Int) + (m : Int))) := by omega
      have hfit2 : Builtin.nextslicecap (n + m) cap * ti.bytes ≤ 281474976710656 := growslice_fits (by omega) (mul_bd (by omega) (by omega))
      have h48' : ¬ (281474976710656 < Builtin.nextslicecap (n + m) cap * ti.bytes) := by omega
      have hfo := run_firstCells_some (P := Tryz.prog) w.drew 1 n ⟨g, 0, none⟩ n cap xs (by omega) (fun j u hj => by rw [Addr.add_mid, Nat.zero_add]; exact row_cell (w := w) hown j u hj)
      refine ⟨w.heap.size, grownCap w (n + m) cap el, w.drew.alloc (.cells (xs.toArray ++ (List.replicate m z).toArray ++ Builtin.zeroCells z.cells (grownCap w (n + m) cap el - (n + m))) el), ?_, ⟨hlen, .inr ⟨w.heap.size, _, _, rfl, hB, heap_alloc_new w.drew _, hge, hcm2, ?_, ?_⟩⟩, ⟨rfl, rfl, rfl, by simp, fun k hk _ => heap_alloc_old w.drew _ hk⟩, .inr (Nat.le_refl _)⟩
      · have hZa : Builtin.zeroCells z.cells m = (List.replicate m z).toArray := by rw [← hZ]
        simp [Builtin.append_, run_underlying tu, run_underlying und3, sizeOf, typeInfo, zeroValue, tI, tz, ts, asInt, asIntOf, hw, h0, hmb2, hr, hm1, hm3, hm4, h63', h48', Question.forced, hfo, newRow, grownCap, hZa]
      · simp only [Array.size_append, List.size_toArray, List.length_replicate, size_zeroCells, tzs, hxl]
        omega
      · simp only [Array.toList_append, List.append_assoc]
        rw [← List.append_assoc, ← hlen]
        exact List.take_left
variable {w : World} {ops : Array Oper} {rest : List Oper} {o : Oper} {a : Act} {Q : Exit → Act → World → Prop}
theorem moreZ (T : Ty sl el ti z 1 bs) (hz1 : z.cells = #[z]) (ho1 : z.oneCell' = true) (hgd : o.guard = none) (s x : Operand) (ho : o.op = .call { callee := .builtin .append, args := #[s, x], argTypes := #[sl, 3] })
    (B : Nat) (v : Value) (n : Nat) (xs : List Value) (hs : a.eval s = v) (hown : w.ownsRow B el 1 v n xs) (m : Nat) (hx : a.eval x = .int .i64 m) (hm : 0 < m) (hm2 : m ≤ 1000) (hn : n + m ≤ 100000000000) (hB : B ≤ w.heap.size)
    (h : ∀ g c w', w'.ownsRow B el 1 (.slice (some ⟨g, 0, none⟩) (n + m) c) (n + m) (xs ++ List.replicate m z) → w.grownBy w' v.ownBlock → (v.ownBlock = some g ∨ w.heap.size ≤ g) → wpList Tryz.prog ops Q rest (a.put o.dst (.slice (some ⟨g, 0, none⟩) (n + m) c)) w') : wpList Tryz.prog ops Q (o :: rest) a w := by
  obtain ⟨g, c, w', hr, h1, h2, h3⟩ := run_zeros T hz1 ho1 w o.type B v n xs hown m hm hm2 hn hB
  refine wpList_plain hgd fun K hK => ?_
  unfold Oper.wp
  simp [execOp, ho, resolve, invoke, builtin, hs, hx, hr, Result.andThen]
  exact hK _ _ (h g c w' h1 h2 h3)
end
end Go.Proofs.YtobegepebochkaaGreatDoor
namespace Go.Proofs.YtobegepebochkaaGreatDoor
open Go.RowKit Go.Maps
def Bw (w : World) (v : Value) (l : Bs) : Prop := Ck w (fun _ => False) v l ∨ (l = [] ∧ ∃ a c, v = .slice (some a) 0 c)
theorem Bw.kept {w w' : World} {v : Value} {l : Bs} (h : Bw w v l) (hg : w.grownBy w' none) : Bw w' v l := by
  rcases h with h | h
  · exact .inl (h.kp (Kp.of (F := fun _ => False) hg) (fun _ _ h => h.elim) (fun _ _ h => h.elim))
  · exact .inr h
theorem Bw.slice {w : World} {v : Value} {l : Bs} (h : Bw w v l) : ∃ a n c, v = .slice a n c ∧ n = l.length := by
  rcases h with h | ⟨rfl, a, c, rfl⟩
  · exact h.slice
  · exact ⟨_, _, _, rfl, rfl⟩
section
variable {w : World} {ops : Array Oper} {rest : List Oper} {o : Oper} {a : Act} {Q : Exit → Act → World → Prop}
theorem moreW (hgd : o.guard = none) (s x : Operand) (ho : o.op = .call { callee := .builtin .append, args := #[s, x], argTypes := #[38, 38] })
    (B : Nat) (v : Value) (n : Nat) (xs : List Value) (hs : a.eval s = v) (hown : w.ownsRow B 5 1 v n xs) (xv : Value) (l : Bs) (hx : a.eval x = xv) (hc : Bw w xv l) (hn : n + l.length ≤ 140737488355328) (hB : B ≤ w.heap.size)
    (h : ∀ v' w', w'.ownsRow B 5 1 v' (n + l.length) (xs ++ l.map b8) → w.grownBy w' v.ownBlock → wpList Tryz.prog ops Q rest (a.put o.dst v') w') : wpList Tryz.prog ops Q (o :: rest) a w := by
  rcases hc with hc | ⟨rfl, a', c', rfl⟩
  · exact moreC hgd s x ho B v n xs hs hown _ xv l hx hc hn hB h
  · obtain ⟨ti, T⟩ := ty_38
    have hrun := run_psh0 T w o.type B v n xs hown (.slice (some a') 0 c') ⟨_, _, rfl⟩
    refine wpList_plain hgd fun K hK => ?_
    unfold Oper.wp
    simp [execOp, ho, resolve, invoke, builtin, hs, hx, hrun, Result.andThen]
    exact hK _ _ (h v w (by simpa using hown) (gb_refl _ _))
end
def an (l : Bs) : Cmd × Int × Int × Bs × Int := match lineS l with
  | .inl (c, n) => (c, n, 0, [], 0)
  | .inr (k, t, p) => (cmd0 0 false, -1, k, t, p)
end Go.Proofs.YtobegepebochkaaGreatDoor
namespace Go.Proofs.YtobegepebochkaaGreatDoor
open Go.RowKit Go.Maps
abbrev mk40 : Bs := List.replicate 40 165
end Go.Proofs.YtobegepebochkaaGreatDoor
namespace Go.Proofs.YtobegepebochkaaGreatDoor
open Go.RowKit Go.Maps
def LntG (x2 x3 : Value) (w : World) (lb B g c : Nat) (D : Bs) : Prop :=
  ∃ gl cl gw cw u cu, Box w 68 lb #[.slice (some ⟨gl, 0, none⟩) 1 cl, .slice (some ⟨gw, 0, none⟩) 1 cw, x2, x3] ∧ w.ownsRow B 38 1 (.slice (some ⟨gl, 0, none⟩) 1 cl) 1 [.slice (some ⟨g, 0, none⟩) D.length c] ∧ w.ownsRow B 38 1 (.slice (some ⟨gw, 0, none⟩) 1 cw) 1 [.slice (some ⟨u, 0, none⟩) D.length cu] ∧ w.ownsRow B 5 1 (.slice (some ⟨g, 0, none⟩) D.length c) D.length (D.map b8) ∧ w.ownsRow B 5 1 (.slice (some ⟨u, 0, none⟩) D.length cu) D.length (D.map b8) ∧ gl ≠ gw ∧ g ≠ u
set_option maxRecDepth 100000 in
set_option maxHeartbeats 16000000 in
theorem loan_46g {x2 x3 : Value} {w : World} {lb : Nat} (hb : Box w 68 lb #[.slice none 0 0, .slice none 0 0, x2, x3]) {v : Value} {l : Bs} (hv : Bw w v l) (hl : l.length ≤ 900000) :
    Calls Tryz.prog 46 #[.pointer (some ⟨lb, 0, none⟩), v] w fun e w' => ∃ g c, e = .returned (.slice (some ⟨g, 0, none⟩) l.length c) ∧ LntG x2 x3 w' lb w.heap.size g c (l ++ mk40) ∧ w.grownBy w' (some lb) := by
  obtain ⟨tO, TO⟩ := ty_22
  obtain ⟨tI, TI⟩ := ty_38
  have hlb := hb.lt
  obtain ⟨va, vn, vc, rfl, rfl⟩ := hv.slice
  have g0 := gb_alloc (gb_refl w none) (.cells #[] 5)
  have hE0 : (w.alloc (.cells #[] 5)).ownsRow w.heap.size 5 1 (.slice (some ⟨w.heap.size, 0, none⟩) 0 0) 0 [] := ⟨rfl, .inr ⟨w.heap.size, 0, #[], rfl, Nat.le_refl _, heap_alloc_new w _, Nat.le_refl _, by unfold maxLen; omega, rfl, rfl⟩⟩
  have hv2 := hv.kept g0
  go_enter Tryz.func46, Tryz.ntmps46
  go_wp2_with (first
    | (at_builtin; (refine moreZ TI rfl rfl rfl _ _ rfl w.heap.size _ l.length _ (by rfl) h1 40 (by rfl) (by omega) (by omega) (by omega) s1 ?_); intro g c w2 h2 gg2 at2)
    | (at_builtin; go_must (refine moreW rfl _ _ rfl w.heap.size _ 0 [] (by rfl) hE0 _ l (by rfl) hv2 (by omega) (by simp) ?_); intro v1 w1 h1z gg1; (have k1 : w.grownBy w1 none := gb_mine g0 gg1 (by simp [Value.ownBlock])); (have s1 := k1.size); (have h1 : w1.ownsRow w.heap.size 5 1 v1 l.length (l.map b8) := by simpa using h1z)))
  have k2 : w.grownBy w2 none := gb_far k1 gg2 (fun j hj => (row_ge h1 hj).1) (Nat.le_refl _)
  have hcb : l.length + 40 ≤ c ∧ c ≤ 9223372036854775807 := by
    obtain ⟨a0, c0, q0, -, q1, q2, -⟩ := row_shape h2
    cases q0
    unfold maxLen at q2
    omega
  have hrz : (l.map b8 ++ List.replicate 40 (Value.int .u8 0)) = (l ++ List.replicate 0 165 ++ List.replicate 40 0).map b8 := by simp
  rw [hrz] at h2
  obtain ⟨n, hn⟩ : ∃ n, l.length = n := ⟨_, rfl⟩
  rw [hn] at h2 hcb hl ⊢
  have HN : Hid (l.length = n) := hn
  clear h1 h1z gg1 gg2 at2 k1 s1 hE0 g0 hv2 hv hrz hn
  go_loopw [6] (fun x wr => ∃ k : Nat, k ≤ 40 ∧ x = .int .i64 ((n + k : Nat) : Int) ∧ wr.ownsRow w.heap.size 5 1 (.slice (some ⟨g, 0, none⟩) (n + 40) c) (n + 40) ((l ++ List.replicate k 165 ++ List.replicate (40 - k) 0).map b8) ∧ w.grownBy wr none) (fun x _ => n + 40 - (intOf x).toNat)
  case atStart => exact ⟨0, by omega, rfl, h2, k2⟩
  case round =>
    clear h2 k2
    obtain ⟨k, hk, rfl, hown, hF⟩ := hrel
    have hgb := (row_ge hown (j := g) rfl)
    by_cases hlt : k < 40
    · obtain ⟨j, hj⟩ : ∃ j, n + k = j := ⟨_, rfl⟩
      rw [hj]
      have d1 : (j : Int) < ((n + 40 : Nat) : Int) := by omega
      have hfz := World.ownsRow.frozenAt hown j
      have hcell : wr.cell? ⟨g, j, none⟩ = some (b8 0) := row_cell hown j _ (by
        rw [List.getElem?_map, List.getElem?_append_right (by simp [HN.out]; omega), List.getElem?_replicate, if_pos (by simp [HN.out]; omega)]
        rfl)
      have hset := row_set hown j (b8 165)
      have HO : Hid ((wr.setCell ⟨g, j, none⟩ (b8 165)).ownsRow w.heap.size 5 1 (.slice (some ⟨g, 0, none⟩) (n + 40) c) (n + 40) ((l ++ List.replicate (k + 1) 165 ++ List.replicate (40 - (k + 1)) 0).map b8)) := by
        show World.ownsRow _ _ _ _ _ _ _
        have e : ((l ++ List.replicate k 165 ++ List.replicate (40 - k) (0 : UInt8)).map b8).set j (b8 165) = (l ++ List.replicate (k + 1) 165 ++ List.replicate (40 - (k + 1)) 0).map b8 := by
          rw [← List.map_set]
          congr 1
          rw [List.set_append_right _ _ (by simp [HN.out]; omega)]
          have e1 : j - (l ++ List.replicate k (165 : UInt8)).length = 0 := by simp [HN.out]; omega
          rw [e1]
          obtain ⟨z, hz⟩ : ∃ z, 40 - k = z + 1 := ⟨39 - k, by omega⟩
          rw [hz, List.replicate_succ, List.set_cons_zero, List.replicate_succ', show 40 - (k + 1) = z by omega]
          simp
        rw [← e]
        exact hset
      have HF : Hid (w.grownBy (wr.setCell ⟨g, j, none⟩ (b8 165)) none) := gb_mine hF (gb_setCell (gb_refl _ _) _) (by omega)
      clear hown hset hF
      go_wp2_with fail
      go_roundw
      case rel => exact ⟨k + 1, by omega, by go_num, HO.out, HF.out⟩
      case measure => simp [intOf]; omega
    · obtain rfl : k = 40 := by omega
      have hD : (l ++ List.replicate 40 165 ++ List.replicate (40 - 40) (0 : UInt8)) = l ++ mk40 := List.append_nil _
      rw [hD] at hown
      have hbR := hb.kept hF (by simp)
      have c0 : wr.cell? ⟨lb, 0, none⟩ = some (.slice none 0 0) := hbR.cell 0
      have c0a := fun o => gb_cellN (World.grownBy_alloc wr o none) c0
      have hsz := hF.size
      have dn : ¬ (((n + 40 : Nat) : Int) < ((n + 40 : Nat) : Int)) := by omega
      clear hlt hk hD
      go_upto_region 7 with (at_builtin; go_must (refine pushB TO rfl _ _ rfl w.heap.size _ 0 [] (by rfl) (World.ownsRow_nil _ _ _ _) [.slice (some ⟨g, 0, none⟩) (n + 40) c] rfl (by simp [Value.oneCell']) (by rfl) (by omega) hsz ?_); intro gl cl w3 h3 gg3 at3; (have g3 : wr.grownBy w3 none := gg3); (have b3 := hbR.kept g3 (by simp)); (have m0 : w3.cell? ⟨lb, 0, none⟩ = some (.slice none 0 0) := b3.cell 0); (have f0 := b3.fz 0))
      have hb4 : Box (w3.setCell ⟨lb, 0, none⟩ (.slice (some ⟨gl, 0, none⟩) (0 + 1) cl)) 68 lb #[.slice (some ⟨gl, 0, none⟩) 1 cl, .slice none 0 0, x2, x3] := b3.set 0 _
      have gs4 : w3.grownBy (w3.setCell ⟨lb, 0, none⟩ (.slice (some ⟨gl, 0, none⟩) (0 + 1) cl)) (some lb) := gb_setCell (gb_refl _ _) _
      have hr4 := row_kept (row_kept hown g3 (by simp)) gs4 (fun k hk e => row_box (row_kept hown g3 (by simp)) b3 (by decide) k hk e)
      have hl4 := row_kept h3 gs4 (fun k hk e => row_box h3 b3 (by decide) k hk e)
      have gw4 : w.grownBy (w3.setCell ⟨lb, 0, none⟩ (.slice (some ⟨gl, 0, none⟩) (0 + 1) cl)) (some lb) := gb_trans (gb_none _ (gb_trans hF g3)) gs4
      clear m0 f0 gs4 b3 g3 gg3 h3 hown hF hbR c0 c0a at3
      generalize hX : w3.setCell ⟨lb, 0, none⟩ (.slice (some ⟨gl, 0, none⟩) (0 + 1) cl) = X at *
      have k1 : X.cell? ⟨lb, 1, none⟩ = some (.slice none 0 0) := hb4.cell 1
      have k1a := fun o => gb_cellN (World.grownBy_alloc X o none) k1
      have hbl := hb4.lt
      have hE0 : ∀ Y : World, Y.heap.size = X.heap.size → (Y.alloc (.cells #[] 5)).ownsRow X.heap.size 5 1 (.slice (some ⟨X.heap.size, 0, none⟩) 0 0) 0 [] := fun Y hY => ⟨rfl, .inr ⟨X.heap.size, 0, #[], rfl, Nat.le_refl _, by rw [← hY]; exact heap_alloc_new Y _, Nat.le_refl _, by unfold maxLen; omega, rfl, rfl⟩⟩
      have HV : Hid (X.ownsRow w.heap.size 5 1 (.slice (some ⟨g, 0, none⟩) (n + 40) c) (n + 40) ((l ++ mk40).map b8)) := hr4
      have HW : Hid (X.ownsRow w.heap.size 38 1 (.slice (some ⟨gl, 0, none⟩) (0 + 1) cl) (0 + 1) ([] ++ [.slice (some ⟨g, 0, none⟩) (n + 40) c])) := hl4
      have HB : Hid (Box X 68 lb #[.slice (some ⟨gl, 0, none⟩) 1 cl, .slice none 0 0, x2, x3]) := hb4
      have HG : Hid (w.grownBy X (some lb)) := gw4
      have hXs := gw4.size
      have hoc : ∀ u ∈ (l ++ mk40).map b8, u.oneCell' = true := fun u hu => by
        obtain ⟨y, _, rfl⟩ := List.mem_map.1 hu
        rfl
      clear hr4 hl4 hb4 gw4 hX
      go_region_law ((first | (refine step_copy TI (xs := (l ++ mk40).map b8) (n := n + 40) (v := .slice (some ⟨g, 0, none⟩) (n + 40) c) (g0 := X.heap.size) (by rfl) (.tmp 37) (.tmp 38) (by rfl) (by rfl) X.heap.size (hE0 _ (by rfl)) (World.ownsRow.alloc (show World.ownsRow _ 0 5 1 _ _ _ from row_base HV.out (Nat.zero_le _)) _) hoc (by rfl) (by omega) (by simp) ?_; intro gC cC w5 hown5 hgr5 hat5; have hg5 : X.grownBy w5 (some X.heap.size) := gb_trans (by first | exact gb_drew (gb_alloc (gb_refl _ _) _) | exact gb_alloc (gb_drew (gb_refl _ _)) _) hgr5; have b5 := HB.out.kept hg5 (some_ne2 (by omega)); have m13 : w5.cell? ⟨lb, 1, none⟩ = some (.slice none 0 0) := b5.cell 1; have m13a := (fun o => gb_cellN (World.grownBy_alloc w5 o none) m13); have h5s := hg5.size) | (refine step_push TO (w5 := w5) (by rfl) (.tmp 36) (.tmp 40) (by rfl) w.heap.size (.slice none 0 0) 0 [] (by rfl) [.slice (some ⟨gC, 0, none⟩) (n + 40) cC] rfl (by simp [Value.oneCell']) (by rfl) (World.ownsRow_nil _ _ _ _) (by rfl) (by omega) (by omega) ?_; intro g7 c7 w7 hown7 hg7 hat7; have hg7' : w5.grownBy w7 none := hg7; have b7 := b5.kept hg7' (by simp); have m7 : w7.cell? ⟨lb, 1, none⟩ = some (.slice none 0 0) := b7.cell 1; have f7 : w7.frozen? ⟨lb, 1, none⟩ = false := b7.fz 1)))
      all_goals
        have hC := row_ge hown5 (j := gC) rfl
        have hV := row_ge HV.out (j := g) rfl
        have hW := row_ge HW.out (j := gl) rfl
        have h7g : w5.heap.size ≤ g7 := by
          rcases hat7 with e | e
          · simp [Value.ownBlock] at e
          · exact e
        have hgs : w7.grownBy (w7.setCell ⟨lb, 1, none⟩ (.slice (some ⟨g7, 0, none⟩) (0 + 1) c7)) (some lb) := gb_setCell (gb_refl _ _) _
        have kp : ∀ {e z m : Nat} {u : Value} {ys : List Value}, X.ownsRow w.heap.size e z u m ys → e ≠ 68 → (w7.setCell ⟨lb, 1, none⟩ (.slice (some ⟨g7, 0, none⟩) (0 + 1) c7)).ownsRow w.heap.size e z u m ys := fun hr he => by
          have r5 := row_kept hr hg5 (fun k hk e => by have := (row_ge hr hk).2; have := Option.some.inj e; omega)
          have r7 := row_kept r5 hg7' (by simp)
          exact row_kept r7 hgs (fun k hk e => row_box r7 b7 he k hk e)
        have hDl : (l ++ mk40).length = n + 40 := by simp [HN.out]
        have hpost : LntG x2 x3 (w7.setCell ⟨lb, 1, none⟩ (.slice (some ⟨g7, 0, none⟩) (0 + 1) c7)) lb w.heap.size g c (l ++ mk40) ∧ w.grownBy (w7.setCell ⟨lb, 1, none⟩ (.slice (some ⟨g7, 0, none⟩) (0 + 1) c7)) (some lb) := by
          refine ⟨⟨gl, cl, g7, c7, gC, cC, b7.set 1 _, ?_, ?_, ?_, ?_, by omega, by omega⟩, ?_⟩
          · rw [hDl]; exact kp HW.out (by decide)
          · rw [hDl]; exact row_kept hown7 hgs (fun k hk e => row_box hown7 b7 (by decide) k hk e)
          · rw [hDl]; exact kp HV.out (by decide)
          · rw [hDl]
            have r7 := row_kept (row_base hown5 hXs) hg7' (by simp)
            exact row_kept r7 hgs (fun k hk e => row_box r7 b7 (by decide) k hk e)
          · refine gb_trans HG.out (gb_trans ?_ hgs)
            exact gb_none _ (gb_trans (gb_mine (gb_refl X none) hg5 (Nat.le_refl _)) hg7')
        have HP : Hid _ := hpost
        clear hpost hown5 hown7 hgr5 hg5 hg7 hg7' b5 b7 m13 m13a HV HW HB HG hat5 hat7 hgs kp hDl hC hV hW
        go_wp2
        go_ret
        exact ⟨g, c, by rw [HN.out]; rfl, HP.out⟩
end Go.Proofs.YtobegepebochkaaGreatDoor

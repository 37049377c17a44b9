import Derived.Test.YtbbocbdoiealoaaGreatDoorBMe
import Derived.Test.YtbbocbdoiealoaaGreatDoorBPbi
import Derived.Test.YtbbocbdoiealoaaGreatDoorBPbl
import Derived.Test.YtbbocbdoiealoaaGreatDoorBSd
import Derived.Test.YtbbocbdoiealoaaGreatDoorBPar
import Derived.Lib.AppendStr
import Derived.Test.YtbbocbdoiealoaaGreatDoorBPbj
import Derived.ArgAppend
import Derived.Test.YtbbocbdoiealoaaGreatDoorBA
import Derived.Deep.RegionLaw
import Derived.Test.YtbbocbdoiealoaaGreatDoorBPaw
set_option linter.unusedVariables false
set_option linter.unusedSimpArgs false
namespace Go.Proofs.YtbbocbdoiealoaaGreatDoor
open Go.RowKit Go.Shelf Go.Maps
attribute [local go_sem] Oper.semAt_some
theorem ofS_no (v : Int) (h : v < 1 ∨ 24 < v) : ofS v = none := by
  unfold ofS
  rw [List.find?_eq_none]
  intro p hp
  have hv : ∀ p ∈ rowL, 1 ≤ p.2.verb ∧ p.2.verb ≤ 24 := by decide
  have := hv p hp
  simp only [decide_eq_true_eq]
  omega
set_option maxRecDepth 100000 in
set_option maxHeartbeats 4000000 in
theorem spell_no {w : World} {gb : Nat} (hG : GM w gb rowL) {vs : Array Value} {v : Int} (hv : v < 1 ∨ 24 < v) (hv0 : vs[0]? = some (.int .i64 v)) :
    Calls Tryz.prog 85 #[.map (some gb), .agg vs] w fun e w' => e = .returned (.tuple #[sv [], .bool false]) ∧ w.grownBy w' none := by
  have h21 := fun W (hG : GM W gb rowL) => of_21 hG v
  simp only [ofS_no v hv, Option.map_none, Option.getD_none, Option.isSome_none] at h21
  have hgA := gb_alloc (gb_refl w none) (.cells vs 41)
  have hGA := hG.kept hgA (by simp)
  have bA := Box.new w 41 vs
  have p0 : (w.alloc (.cells vs 41)).cell? ⟨w.heap.size, 0, none⟩ = some (.int .i64 v) := (bA.cell 0).trans hv0
  clear hv0
  go_enter Tryz.func85, Tryz.ntmps85
  go_wp2_with (go_at_call 129; go_must ((with_reducible refine (h21 _ hGA).mono ?_); rintro e w2 ⟨rfl, hg2⟩))
  go_ret2
  exact ⟨rfl, gb_trans hgA (gb_alloc hg2 _)⟩
structure WokP (x : CI) (i : Nat) (n : Int) : Prop where
  lt : i < 24
  v : x.c.verb = (i : Int) + 1
  lg : x.lg = false
  l : lineS (lnB i x.c x.d.length) = .inl (x.c, n)
  d : (x.d.length : Int) = max n 0
def wbs (i : Nat) (x : CI) (n : Int) : Bs := lnB i x.c x.d.length ++ [13, 10] ++ (if 0 ≤ n then x.d ++ [13, 10] else [])
def WbP (x : CI) (w : World) (e : Ending) (w' : World) : Prop := w.grownBy w' none ∧ ∃ va vn vc en, e = .returned (.tuple #[.slice va vn vc, .int .i64 en]) ∧ ((en = 7 ∧ va = none ∧ vn = 0 ∧ vc = 0 ∧ ¬ ∃ i n, WokP x i n) ∨ (en = 0 ∧ ∃ i n, WokP x i n ∧ OwC w' w.heap.size (.slice va vn vc) (wbs i x n)))
set_option maxRecDepth 100000 in
set_option maxHeartbeats 4000000 in
theorem wbytes_verb {w : World} {x : CI} (hv : x.c.verb < 1 ∨ 24 < x.c.verb) :
    Calls Tryz.prog 35 #[.agg (ciL x).toArray] w fun e w' => WbP x w e w' := by
  have hno : ¬ ∃ i n, WokP x i n := by
    rintro ⟨i, n, h⟩
    have := h.lt
    have := h.v
    omega
  obtain ⟨vs, hvs⟩ : ∃ vs, (ciL x).toArray = vs := ⟨_, rfl⟩
  have hvl : vs.toList.length = 11 := by rw [← hvs]; rfl
  have hv0 : vs[0]? = some (.int .i64 x.c.verb) := by rw [← hvs]; rfl
  rw [hvs]
  have b1 := Box.new w 41 vs
  have gA := gb_alloc (gb_refl w none) (.cells vs 41)
  have h62 := rows_9 (w.alloc (.cells vs 41))
  simp only [World.size_alloc] at h62
  have h80 := fun W gb (hG : GM W gb rowL) => spell_no hG hv hv0
  have HNO := Lib.hid hno
  clear hno hvs hv0
  go_enter Tryz.func35, Tryz.ntmps35
  go_wp2_with (first
    | (go_at_call 67; go_must ((with_reducible refine h62.mono ?_); rintro e w2 ⟨rfl, hG2, g2⟩; have b2 := b1.kept g2 (by simp)))
    | (refine atL 41 w.heap.size 0 rfl rfl ?_; go_must (refine load41 rfl _ rfl 41 w.heap.size 0 _ b2 rfl vs.toList hvl (fun j v hv => by simpa using hv) ?_))
    | (go_at_call 85; go_must ((with_reducible refine (h80 _ _ hG2).mono ?_); rintro e w3 ⟨rfl, g3⟩)))
  go_ret2
  exact ⟨gb_trans gA (gb_trans g2 g3), none, 0, 0, 7, rfl, .inl ⟨rfl, rfl, rfl, rfl, HNO.out⟩⟩
set_option maxRecDepth 100000 in
set_option maxHeartbeats 8000000 in
theorem wbytes_wrong {w : World} (hE : Er w) (hp : Pw w) {x : CI} (h : CiOk w x) (hkn : x.c.keys.length ≤ 10000000) (hmn : x.c.mt.length ≤ 10000000) (hfl : ∀ f ∈ x.c.mt, f.arg.length ≤ 1099511627776) {i : Nat} (hi : i < 24) (hv : x.c.verb = (i : Int) + 1) (hL : (lnB i x.c x.d.length).length ≤ 1000000000) {k : Int} {t : Bs} {p : Int} (hls : lineS (lnB i x.c x.d.length) = .inr (k, t, p)) :
    Calls Tryz.prog 35 #[.agg (ciL x).toArray] w fun e w' => WbP x w e w' := by
  have hno : ¬ ∃ i n, WokP x i n := by
    rintro ⟨j, n, hj⟩
    have e : j = i := by have := hj.v; omega
    subst e
    have := hj.l
    rw [hls] at this
    cases this
  have hk0 : k ≠ 0 := (lineS_no hls).2
  obtain ⟨da, dc, hdv⟩ := h.dsl
  have h80 := fun W gb (hG : GM W gb rowL) (hW : w.grownBy W none) => spell_80 hG hi x.c hv h.r h.f x.d.length (by have := h.dn; omega) (kv := x.kv) (mv := x.mv) (lg := x.lg) (da := da) (dc := dc) (hp.kept hW) (h.k.kept0 hW) (h.m.kept hW) hkn hmn hfl (by omega)
  obtain ⟨LN, hLN⟩ : ∃ y, lnB i x.c x.d.length = y := ⟨_, rfl⟩
  simp only [hLN] at h80
  rw [hLN] at hls hL
  have h63 := fun W gb v (hG : GM W gb rowL) (hg : w.grownBy W none) (hB : By W v LN) => (line_10 hG (hE.kept hg) v LN hB).mono (P := Tryz.prog) (fun e w' (hh : LnP LN W e w') => show e = .returned (.tuple #[.agg (Z31 0 false), .int .i64 (-1), .agg #[.int .i64 k, sv t, .int .i64 p]]) ∧ W.grownBy w' none by
    obtain ⟨h1 | ⟨k', t', p', h1, h2⟩, h3⟩ := hh
    · obtain ⟨c', n', kv', mv', h1, -⟩ := h1
      rw [hls] at h1
      cases h1
    · rw [hls] at h1
      injection h1 with h1
      injection h1 with e1 e2
      injection e2 with e2 e3
      subst e1 e2 e3
      exact ⟨h2, h3⟩)
  obtain ⟨vs, hvs⟩ : ∃ vs, cmB x.c x.kv (.slice da x.d.length dc) x.mv x.lg = vs := ⟨_, rfl⟩
  have hvs2 : (ciL x).toArray = vs := by rw [← hvs, ← hdv]
  have hvl : vs.toList.length = 11 := by rw [← hvs]; rfl
  simp only [hvs] at h80
  rw [hvs2]
  have b1 := Box.new w 41 vs
  have gA := gb_alloc (gb_refl w none) (.cells vs 41)
  have h62 := rows_9 (w.alloc (.cells vs 41))
  simp only [World.size_alloc] at h62
  have HNO := Lib.hid hno
  clear hno hvs hvs2 hdv h hp hE hfl hls hLN
  have hk1 : (k != 0) = true := by simpa using hk0
  go_enter Tryz.func35, Tryz.ntmps35
  go_wp2_with (first
    | (go_at_call 67; go_must ((with_reducible refine h62.mono ?_); rintro e w2 ⟨rfl, hG2, g2⟩; have b2 := b1.kept g2 (by simp)))
    | (refine atL 41 w.heap.size 0 rfl rfl ?_; go_must (refine load41 rfl _ rfl 41 w.heap.size 0 _ b2 rfl vs.toList hvl (fun j v hv => by simpa using hv) ?_))
    | (go_at_call 85; go_must ((with_reducible refine (h80 _ _ hG2 (gb_trans gA g2)).mono ?_); rintro e w3 ⟨rfl, g3⟩; obtain ⟨W4, cc, hcv, g4, hB4, hs4⟩ := conv_by w3 LN (by omega); clear hs4))
    | (go_at_call 68; go_must ((with_reducible refine (h63 _ _ _ ((hG2.kept g3 (by simp)).kept g4 (by simp)) (gb_trans (gb_trans (gb_trans gA g2) g3) g4) hB4).mono ?_); rintro e w5 ⟨rfl, g5⟩)))
  all_goals first
    | contradiction
    | (go_ret2; exact ⟨gb_trans (gb_trans (gb_trans (gb_trans gA g2) g3) g4) (gb_alloc (gb_alloc g5 _) _), none, 0, 0, 7, rfl, .inl ⟨rfl, rfl, rfl, rfl, HNO.out⟩⟩)
end Go.Proofs.YtbbocbdoiealoaaGreatDoor
namespace Go.Proofs.YtbbocbdoiealoaaGreatDoor
open Go.RowKit Go.Shelf
theorem strCells_b8 (l : Bs) : Lib.strCells ⟨l.toArray⟩ = l.map b8 := by
  simp [Lib.strCells]
section
variable {w : World} {ops : Array Oper} {rest : List Oper} {o : Oper} {a : Act} {Q : Exit → Act → World → Prop}
theorem moreS (hgd : o.guard = none) (s x : Operand) (ho : o.op = .call { callee := .builtin .append, args := #[s, x], argTypes := #[38, 9] })
    (B : Nat) (g n cap : Nat) (k : Bs) (hs : a.eval s = .slice (some ⟨g, 0, none⟩) n cap) (hown : OwC w B (.slice (some ⟨g, 0, none⟩) n cap) k) (l : Bs) (hx : a.eval x = .string ⟨l.toArray⟩) (hn : k.length + l.length ≤ 140737488355328) (hB : B ≤ w.heap.size)
    (h : ∀ v' w', OwC w' B v' (k ++ l) → w.grownBy w' (some g) → wpList Tryz.prog ops Q rest (a.put o.dst v') w') : wpList Tryz.prog ops Q (o :: rest) a w := by
  obtain ⟨i0, hi, hz0, hz1, hz2⟩ := info_parts Tryz.info5
  refine wpList_plain hgd fun K hK => ?_
  have hsize : (ByteArray.mk l.toArray).size = l.length := ba_size l
  rcases id hown with ⟨h0, _⟩ | ⟨g', cap', cur, fz, e, hbg, hg, hfz, hnc, hcm, hcs, htake⟩
  · cases h0
  · injection e with e1 e2 e3
    injection e1 with e1
    injection e1 with e1 _ _
    subst e1 e2 e3
    have key : ∀ v' w', (Builtin.append_ #[38, 9] o.type #[.slice (some ⟨g, 0, none⟩) k.length cap, .string ⟨l.toArray⟩]).run Tryz.prog w = .ok v' w' → OwC w' B v' (k ++ l) → w.grownBy w' (some g) → o.wp Tryz.prog a w K Q := by
      intro v' w' hr h2 h3
      unfold Oper.wp execOp
      simp only [ho, resolve, invoke, builtin, Sem.run_bind, Sem.run_pure, Result.andThen_ok, List.map_toArray, List.map_cons, List.map_nil, hs, hx, hr]
      exact hK _ _ (h v' w' h2 h3)
    by_cases hroom : k.length + l.length ≤ cap
    · have hf := Lib.run_firstCells_string (P := Tryz.prog) w 1 ⟨l.toArray⟩
      have hone : ∀ u ∈ l.map b8, u.oneCell' = true := by
        intro u hu
        obtain ⟨y, _, rfl⟩ := List.mem_map.1 hu
        rfl
      have hst := storeC Tryz.prog g k.length 5 fz (l.map b8) 0 cur w hg hfz (by simp; omega) hone
      simp only [Nat.add_zero] at hst
      rw [strCells_b8, hsize] at hf
      refine key (.slice (some ⟨g, 0, none⟩) (k.length + l.length) cap) (w.setRow g (cur.toList.take k.length ++ l.map b8 ++ cur.toList.drop (k.length + (l.map b8).length)).toArray) ?_ ?_ ?_
      · simp [Builtin.append_, run_underlying Tryz.underlying38, run_underlying Tryz.underlying9, sizeOf, typeInfo, hi, hz1, Builtin.lenOf, hsize, hroom, hf, Addr.add_lit, hst]
      · refine .inr ⟨g, cap, _, fz, by simp, hbg, setRow_heap w g cur _ 5 _ hg, ?_, by simp; omega, hcm, ?_, ?_⟩
        · rcases hfz with hfz | hfz
          · exact .inl hfz
          · right
            simp only [List.size_toArray, List.length_append, List.length_take, List.length_drop, Array.length_toList, List.length_map]
            omega
        · simp only [List.size_toArray, List.length_append, List.length_take, List.length_drop, Array.length_toList, List.length_map]
          omega
        · rw [htake, ← List.map_append, show (k ++ l).length = ((k ++ l).map b8).length by simp]
          exact List.take_left
      · exact ⟨rfl, rfl, rfl, by simp, fun j _ hk => setRow_other w g j _ (fun e => hk (by simp [e]))⟩
    · have holds : ∀ j u, (k.map b8)[j]? = some u → w.cell? ((⟨g, 0, none⟩ : Addr).add j) = some u := by
        intro j u hu
        rw [List.getElem?_map, Option.map_eq_some_iff] at hu
        obtain ⟨y, hj, rfl⟩ := hu
        rw [Addr.add_mid, Nat.zero_add]
        exact hown.cell j y hj
      have hr := Lib.run_append_grow_string (P := Tryz.prog) w 38 9 o.type 5 i0 (.int .u8 0) Tryz.underlying38 Tryz.underlying9 hi hz0 ⟨g, 0, none⟩ k.length cap (k.map b8) (by simp [hz1]) holds ⟨l.toArray⟩ (by rw [hsize]; omega) (by rw [hsize]; omega) (by rw [hsize]; exact growslice_fits (by omega) (by rw [hz2]; omega))
      rw [strCells_b8, hsize] at hr
      have hge := grownCap_ge w (k.length + l.length) cap 5
      have hcm2 : grownCap w (k.length + l.length) cap 5 ≤ maxLen := grownCap_le_maxLen w (k.length + l.length) cap 5 (by unfold maxLen; omega)
      refine key _ _ hr ?_ ?_
      · refine .inr ⟨w.heap.size, _, _, (0, 0), by simp, hB, heap_alloc_new w.drew _, .inl rfl, by simp; omega, hcm2, ?_, ?_⟩
        · simp only [Array.size_append, List.size_toArray, size_zeroCells, List.length_map]
          show _ + (_ - _) * 1 = _
          omega
        · simp only [Array.toList_append, List.append_assoc]
          rw [← List.append_assoc, ← List.map_append, show (k ++ l).length = ((k ++ l).map b8).length by simp]
          exact List.take_left
      · exact ⟨rfl, rfl, rfl, by simp, fun j hk _ => by first | exact _root_.Go.heap_alloc_old w.drew _ hk | exact _root_.Go.heap_alloc_old w.drew _ j hk⟩
end
end Go.Proofs.YtbbocbdoiealoaaGreatDoor
namespace Go.Proofs.YtbbocbdoiealoaaGreatDoor
open Go.RowKit
structure Ty (sl el : TypeId) (ti : TypeInfo) (zv : Value) (sz bs : Nat) : Prop where
  u : Tryz.prog.underlying sl = some (.slice el)
  i : Tryz.prog.info? el = some ti
  z : ti.zero = some zv
  s : ti.size = sz
  b : ti.bytes = bs
  zs : zv.cells.size = sz
  pos : 0 < sz
  le : bs ≤ 1000
section
variable {sl el : TypeId} {ti : TypeInfo} {z : Value} {sz bs : Nat}
variable {w : World} {ops : Array Oper} {rest : List Oper} {o : Oper} {a : Act} {Q : Exit → Act → World → Prop}
theorem pushB (T : Ty sl el ti z sz bs) (hgd : o.guard = none) (s x : Operand) (ho : o.op = .call { callee := .builtin .append, args := #[s, x], argTypes := #[sl, sl] })
    (B : Nat) (v : Value) (n : Nat) (xs : List Value) (hs : a.eval s = v) (hown : w.ownsRow B el sz v n xs) (us : List Value) (hul : us.length = sz) (hu : ∀ u ∈ us, u.oneCell' = true) (hx : a.eval x = .slice (some ⟨w.heap.size, 0, none⟩) 1 1) (hn : n ≤ 100000000) (hB : B ≤ w.heap.size)
    (h : ∀ g cap w', w'.ownsRow B el sz (.slice (some ⟨g, 0, none⟩) (n + 1) cap) (n + 1) (xs ++ us) → w.grownBy w' v.ownBlock → (v.ownBlock = some g ∨ w.heap.size ≤ g) → wpList Tryz.prog ops Q rest (a.put o.dst (.slice (some ⟨g, 0, none⟩) (n + 1) cap)) w') : wpList Tryz.prog ops Q (o :: rest) a (w.alloc (.cells us.toArray el)) :=
  wpList_pushN hgd s x sl ho el ti z sz bs T.u T.i T.z T.s T.b T.zs T.pos T.le B v n xs hs hown us hul hu hx (by omega) hB h
end
end Go.Proofs.YtbbocbdoiealoaaGreatDoor
namespace Go.Proofs.YtbbocbdoiealoaaGreatDoor
open Go.RowKit
theorem ty_of {sl el : TypeId} {z : Value} {sz bs : Nat} (hu : Tryz.prog.underlying sl = some (.slice el)) (hi : (Tryz.prog.info? el).map (fun i => (i.zero, i.size, i.bytes)) = some (some z, sz, bs)) (hz : z.cells.size = sz) (h0 : 0 < sz) (hb : bs ≤ 1000) : ∃ ti, Ty sl el ti z sz bs := by
  obtain ⟨i0, hi0, hz0, hz1, hz2⟩ := info_parts hi
  exact ⟨i0, hu, hi0, hz0, hz1, hz2, hz, h0, hb⟩
section
variable {w : World} {bb : Nat} {b0 b1 b2 b3 t0 t1 t2 t3 s0 s1 s2 : Value} {n : Int} {F : Nat → Prop} {K : Nat} {V W : Nat → Value} {N : Nat → Nat} {D : Nat → List Value}
end
end Go.Proofs.YtbbocbdoiealoaaGreatDoor
namespace Go.Proofs.YtbbocbdoiealoaaGreatDoor
open Go.RowKit Go.Maps
theorem takeL_len (r : Rw) : ∀ (ws : List Bs) (i : Nat) (c d : Cmd), takeL r i c ws = .inl d → d.keys.length ≤ c.keys.length + ws.length ∧ d.mt.length ≤ c.mt.length + ws.length
  | [], i, c, d, h => by
    simp only [takeL] at h
    injection h with h
    subst h
    exact ⟨by simp, by simp⟩
  | x :: ws, i, c, d, h => by
    simp only [takeL] at h
    cases h1 : take1 c (lett r i) x with
    | inr e => rw [h1] at h; cases h
    | inl d1 =>
      rw [h1] at h
      have h2 := takeL_len r ws (i + 1) d1 d h
      have h3 := take1_len h1
      simp only [List.length_cons]
      omega
theorem readS_len {r : Rw} {ws : List Bs} {c : Cmd} (h : readS r ws = .inl c) : c.keys.length ≤ ws.length ∧ c.mt.length ≤ ws.length := by
  simp only [readS] at h
  have hv : (if qt r ws then ws.dropLast else ws).length ≤ ws.length := by split <;> simp
  generalize (if qt r ws then ws.dropLast else ws) = vs at h hv
  split at h
  · cases h1 : takeL r 0 (cmd0 r.verb (qt r ws)) vs with
    | inr e => rw [h1] at h; simp only [fin] at h; cases h
    | inl d =>
      rw [h1] at h
      simp only [fin] at h
      have h2 := takeL_len r vs 0 _ d h1
      split at h
      · injection h with h
        subst h
        simp only [cmd0, List.length_nil] at h2
        omega
      · cases h
  · cases h
theorem lineS_len {l : Bs} {c : Cmd} {n : Int} (h : lineS l = .inl (c, n)) : c.keys.length ≤ 2049 ∧ c.mt.length ≤ 2049 ∧ l.length ≤ 2048 := by
  unfold lineS at h
  split at h
  · cases h
  · rename_i hl
    have h1 := spl_lenY l []
    cases hs : spl [] l with
    | nil => rw [hs] at h; cases h
    | cons x ws =>
      rw [hs] at h h1
      simp only [List.length_cons] at h1
      simp only at h
      cases hr : rowS x with
      | none => rw [hr] at h; cases h
      | some r =>
        rw [hr] at h
        simp only at h
        cases hd : readS r ws with
        | inr e => rw [hd] at h; cases h
        | inl d =>
          rw [hd] at h
          simp only at h
          injection h with h
          injection h with h _
          subst h
          have h2 := readS_len hd
          omega
end Go.Proofs.YtbbocbdoiealoaaGreatDoor

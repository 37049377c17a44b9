import Derived.Test.YtndjimdegkdljaaMd
import Derived.Test.YtndjimdegkdljaaMc
/-
  Plan, of the program's disk.
-/
namespace Go.Proofs.Ytndjimdegkdljaa
open Go.RowKit Go.MapKept
set_option linter.unusedVariables false
set_option linter.unusedSimpArgs false
attribute [local go_sem] Oper.semAt_some

/-- Block b is a map of faults. -/
def PlB (w : World) (b : Nat) (plan : Int → Option Flt) : Prop := ∃ es clock, w.heap[b]? = some (.map es clock) ∧ Stamped es clock ∧ PlR es plan
theorem PlB.same {w w' : World} {b : Nat} {plan : Int → Option Flt} (h : PlB w b plan) (e : w'.heap[b]? = w.heap[b]?) : PlB w' b plan := by
  obtain ⟨es, cl, h1, h2⟩ := h; exact ⟨es, cl, e.trans h1, h2⟩
theorem PlB.lt {w : World} {b : Nat} {plan : Int → Option Flt} (h : PlB w b plan) : b < w.heap.size := by
  obtain ⟨es, cl, h1, _⟩ := h; exact lt_of_block h1
theorem PlB.made (w : World) : PlB (w.alloc (.map #[] 0)) w.heap.size (fun _ => none) :=
  ⟨#[], 0, heap_alloc_new w _, stamped_empty 0, ⟨fun e he => by simp at he, fun s k h => by simp at h⟩⟩
theorem mk72 (w : World) : (Instr.makeMap 72 none).run Try.prog w = .ok (.map (some w.heap.size)) (w.alloc (.map #[] 0)) := by
  simp [Instr.makeMap, Result.andThen]
theorem PlR.key {es : Array MapEntry} {plan : Int → Option Flt} (h : PlR es plan) : ∀ x ∈ es.toList, IsKey (.int .i64) x.key := fun x hx => by
  obtain ⟨j, f, h1, _⟩ := h.dn x hx
  rw [h1]; exact key3 j
theorem pl_ask {w : World} {b : Nat} {plan : Int → Option Flt} (h : PlB w b plan) (i : Int) : (Instr.lookup 72 (.map (some b)) (.int .i64 i) true).run Try.prog w = .ok (.tuple #[fvl (fvo (plan i)), .bool (plan i).isSome]) w := by
  obtain ⟨es, cl, hb, hs, hr⟩ := h
  rcases findNow_spec (key3 i) es.toList 0 hr.key with ⟨h1, h2⟩ | ⟨j, e, h1, h2, h3⟩
  · have hm : plan i = none := by
      cases hm : plan i with
      | none => rfl
      | some f =>
        obtain ⟨x, hx, a1, _⟩ := hr.up i f hm
        exact absurd a1 (h2 x hx)
    rw [hm]
    simp [Instr.lookup, run_underlying Try.underlying72, Go.MapKept.run_getObj_map hb, Go.MapKept.run_checkKey Try.underlying3 (key3 i), Go.MapKept.run_findKey Try.underlying3 h1, zero117, Result.andThen, fvo]
  · obtain ⟨i', f, a1, a2, a3⟩ := hr.dn e (List.mem_of_getElem? h2)
    have : i' = i := by rw [a1] at h3; injection h3
    subst this
    rw [a3]
    simp [Instr.lookup, run_underlying Try.underlying72, Go.MapKept.run_getObj_map hb, Go.MapKept.run_checkKey Try.underlying3 (key3 i'), Go.MapKept.run_findKey Try.underlying3 h1, Result.andThen, fvo, a2]
theorem pl_add {w : World} {b : Nat} {plan : Int → Option Flt} (h : PlB w b plan) (f : Flt) (hn : plan f.step = none) :
    ∃ w', (Instr.mapUpdate 72 (.map (some b)) (.int .i64 f.step) (fvl f)).run Try.prog w = .ok () w' ∧ PlB w' b (fun i => if i = f.step then some f else plan i) ∧ w.grownBy w' (some b) := by
  obtain ⟨es, cl, hb, hs, hr⟩ := h
  rcases findNow_spec (key3 f.step) es.toList 0 hr.key with ⟨h1, h2⟩ | ⟨j, e, h1, h2, h3⟩
  · refine ⟨{ w with heap := w.heap.setIfInBounds b (.map (es.push { key := .int .i64 f.step, val := fvl f, born := cl }) (cl + 1)) }, by
      simp [Instr.mapUpdate, run_underlying Try.underlying72, Go.MapKept.run_getObj_map hb, Go.MapKept.run_checkKey Try.underlying3 (key3 f.step), Go.MapKept.run_findKey Try.underlying3 h1, Go.MapKept.run_setObj_map _ hb, Result.andThen], ⟨_, _, (heap_set hb).1, stamped_push hs h2, ?_, ?_⟩, gb_block⟩
    · intro x hx
      simp only [Array.toList_push, List.mem_append, List.mem_singleton] at hx
      rcases hx with hx | rfl
      · obtain ⟨t, g, a1, a2, a3⟩ := hr.dn x hx
        have hts : t ≠ f.step := fun e => h2 x hx (by rw [a1, e])
        exact ⟨t, g, a1, a2, by rw [if_neg hts]; exact a3⟩
      · exact ⟨f.step, f, rfl, rfl, if_pos rfl⟩
    · intro t g hg
      by_cases hts : t = f.step
      · subst hts
        rw [if_pos rfl] at hg
        injection hg with hg
        subst hg
        exact ⟨_, by simp only [Array.toList_push, List.mem_append, List.mem_singleton]; exact .inr rfl, rfl, rfl⟩
      · rw [if_neg hts] at hg
        obtain ⟨x, hx, a1, a2⟩ := hr.up t g hg
        exact ⟨x, by simp only [Array.toList_push, List.mem_append]; exact .inl hx, a1, a2⟩
  · exfalso
    obtain ⟨i', g, a1, a2, a3⟩ := hr.dn e (List.mem_of_getElem? h2)
    have : i' = f.step := by rw [a1] at h3; injection h3
    rw [this, hn] at a3
    cases a3
def Pl.planned (p : Pl) (b' : Nat) : Pl := { p with pl := .map (some b'), col := fun b => if b = b' then 4 else p.col b }
theorem RP.planned {w w' : World} {p : Pl} {M : Md} {b' : Nat} {P : List Flt} (h : RP w p M) (hV : PlB w' b' (M.planned P).plan) (hat : w.heap.size ≤ b') (hB : Box w' 75 p.d (dkA (p.planned b') M)) (hK : Kp (fun b => b = p.d) w w') :
    RP w' (p.planned b') (M.planned P) ∧ Aft w w' p (p.planned b') := by
  have hcol : ∀ b, p.col b ≠ 0 → (p.planned b').col b = p.col b := fun b h0 => by
    have := h.lt b h0
    show (if b = b' then 4 else p.col b) = _
    rw [if_neg (by omega)]
  have nbk : ∀ b, p.col b ≠ 0 → p.col b ≠ 1 → w'.heap[b]? = w.heap[b]? := fun b h0 h1 => hK.block b (h.lt b h0) (fun e => h1 (by rw [e, h.cd]))
  refine ⟨?_, ?_⟩
  · exact {
      box := hB
      nm := h.nm.same (nbk _ (by rw [h.cn]; decide) (by rw [h.cn]; decide))
      sf := h.sf.same (nbk _ (by rw [h.cs]; decide) (by rw [h.cs]; decide))
      pl := by
        obtain ⟨es, cl, a1, a2, a3⟩ := hV
        exact .inr ⟨b', es, cl, rfl, a1, a2, a3⟩
      ch := row_same h.ch (fun b hb => nbk b (by rw [h.cc b hb]; decide) (by rw [h.cc b hb]; decide))
      fl := fun k f hr hf => by
        have hr : Reach M k := hr
        have hfl := h.fl k f hr hf
        exact ⟨(nbk (p.fb k) (by rw [h.cf k hr]; omega) (by rw [h.cf k hr]; omega)).trans hfl.box, row_same hfl.row (fun b hb => nbk b (by rw [h.cr k b hr hb]; omega) (by rw [h.cr k b hr hb]; omega))⟩
      cd := by rw [show (p.planned b').d = p.d from rfl, hcol _ (by rw [h.cd]; decide)]; exact h.cd
      cn := by rw [show (p.planned b').bn = p.bn from rfl, hcol _ (by rw [h.cn]; decide)]; exact h.cn
      cs := by rw [show (p.planned b').bs = p.bs from rfl, hcol _ (by rw [h.cs]; decide)]; exact h.cs
      cp := fun b hb => by
        have hb' : Value.map (some b') = .map (some b) := hb
        injection hb' with hb'
        injection hb' with hb'
        show (if b = b' then 4 else _) = 4
        rw [if_pos hb'.symm]
      cc := fun b hb => by rw [hcol _ (by rw [h.cc b hb]; decide)]; exact h.cc b hb
      cf := fun k hr => by have hr : Reach M k := hr; rw [show (p.planned b').fb = p.fb from rfl, hcol _ (by rw [h.cf k hr]; omega)]; exact h.cf k hr
      cr := fun k b hr hb => by have hr : Reach M k := hr; rw [hcol _ (by rw [h.cr k b hr hb]; omega)]; exact h.cr k b hr hb
      lt := fun b hb => by
        have hb' : (if b = b' then 4 else p.col b) ≠ 0 := hb
        by_cases e : b = b'
        · rw [e]; exact hV.lt
        · rw [if_neg e] at hb'
          exact Nat.lt_of_lt_of_le (h.lt b hb') hK.size
      ok := h.ok.planned P }
  · refine ⟨hK.mono (fun b hb => .inl ?_), rfl, fun b hl hb2 => ?_⟩
    · rw [hb, h.cd]; decide
    · have hb' : (if b = b' then 4 else p.col b) ≠ 0 := hb2
      rwa [if_neg (by omega)] at hb'
theorem find_snoc (P : List Flt) (x : Flt) (i : Int) : (P ++ [x]).find? (fun f => f.step = i) = (match P.find? (fun f => f.step = i) with | some f => some f | none => if x.step = i then some x else none) := by
  rw [List.find?_append]
  cases P.find? (fun f => decide (f.step = i)) with
  | some f => rfl
  | none =>
    by_cases h : x.step = i
    · simp [h]
    · simp [h]
set_option maxRecDepth 100000 in
set_option maxHeartbeats 4000000 in
theorem plan_43 {w : World} {p : Pl} {M : Md} (h : RP w p M) {lv : Value} {P : List Flt} (hlv : w.ownsRow 0 117 3 lv P.length (P.flatMap fltL)) (hlc : ∀ b, lv.ownBlock = some b → p.col b = 0) (hP : P.length ≤ 1000) :
    Calls Try.prog 43 #[pv p.d, lv] w fun e w' => e = .returned (.tuple #[]) ∧ ∃ p', RP w' p' (M.planned P) ∧ Aft w w' p p' := by
  have mk := mk72 w
  have hdl := h.lt p.d (by rw [h.cd]; decide)
  obtain ⟨lao, lcp, el, -, -, hlm, hlpos⟩ := row_shape hlv
  have g0 := gb_alloc (gb_refl w none) (.map #[] 0)
  have hb0 := h.box.kept g0 (by simp)
  have hP0 := PlB.made w
  obtain ⟨W, hW⟩ : ∃ W, w.alloc (.map #[] 0) = W := ⟨_, rfl⟩
  have hWs : W.heap.size = w.heap.size + 1 := by rw [← hW]; simp
  rw [hW] at mk g0 hb0 hP0
  have c4 : W.cell? ⟨p.d, 4, none⟩ = some p.pl := hb0.cell 4
  have f4 : W.frozen? ⟨p.d, 4, none⟩ = false := hb0.fz 4
  have hlv1 := row_kept hlv g0 (by simp)
  have gd : W.grownBy (W.setCell ⟨p.d, 4, none⟩ (.map (some w.heap.size))) (some p.d) := gb_setCell (gb_refl _ _) _
  have hb1 : Box (W.setCell ⟨p.d, 4, none⟩ (.map (some w.heap.size))) 75 p.d (dkA (p.planned w.heap.size) M) := hb0.set 4 _
  have hP1 := hP0.same (gd.block _ hP0.lt (by simp; omega))
  have hlne : ∀ b, lv.ownBlock = some b → b ≠ p.d := fun b hb e => by have := hlc b hb; rw [e, h.cd] at this; omega
  have hlv2 := row_kept hlv1 gd (fun b hb e => hlne b hb (Option.some.inj e))
  have K1 : Kp (fun b => b = p.d) w (W.setCell ⟨p.d, 4, none⟩ (.map (some w.heap.size))) := (Kp.of g0).step gd (fun i hi => .inl (Option.some.inj hi).symm)
  have HH := Lib.hid (And.intro h (And.intro hb1 (And.intro hP1 (And.intro hlv2 (And.intro K1 hlne)))))
  obtain ⟨n, hn⟩ : ∃ n, P.length = n := ⟨_, rfl⟩
  have HN := Lib.hid hn
  rw [hn] at el hlpos hP
  have EL := Lib.hid el
  subst el
  clear h hlv hlv1 hb0 hb1 hP0 hP1 hlv2 hlc hn K1 gd g0 hlne
  go_enter Try.func43, Try.ntmps43
  go_upto_region 1 with fail
  obtain ⟨V, hV⟩ : ∃ V, W.setCell ⟨p.d, 4, none⟩ (.map (some w.heap.size)) = V := ⟨_, rfl⟩
  rw [hV] at HH ⊢
  have HVs : W.heap.size ≤ V.heap.size := by rw [← hV]; simp
  clear c4 f4 mk hW hV
  go_wp2_with fail
  go_loopw [14] (fun x14 wr => ∃ i : Nat, i ≤ n ∧ x14 = .int .i64 (i : Int) ∧ PlB wr w.heap.size (fun j => (P.take i).find? (fun f => f.step = j)) ∧ Kp (fun b => b = w.heap.size) V wr) (fun x14 _ => n - (intOf x14).toNat)
  case atStart => exact ⟨0, by omega, rfl, HH.out.2.2.1, Kp.refl _ _⟩
  case round =>
    obtain ⟨i, hi, rfl, hPl, hK⟩ := hrel
    have hbx := hK.box HH.out.2.1 (by omega)
    by_cases hlt : i < n
    · obtain ⟨x, hx⟩ : ∃ x, P[i]? = some x := ⟨_, List.getElem?_eq_getElem (by rw [HN.out]; omega)⟩
      obtain ⟨gp, rfl⟩ := hlpos (by omega)
      have hgp : gp ≠ w.heap.size := by
        intro e
        obtain ⟨cur, hc⟩ := row_block HH.out.2.2.2.1 gp rfl
        obtain ⟨es, cl, hm, _⟩ := HH.out.2.2.1
        rw [e] at hc
        rw [hc] at hm
        cases hm
      have hlr := row_same HH.out.2.2.2.1 (w' := wr) (fun b hb => by
        simp only [Value.ownBlock, Option.some.injEq] at hb
        subst hb
        exact hK.block _ (by obtain ⟨cur, hc⟩ := row_block HH.out.2.2.2.1 gp rfl; exact lt_of_block hc) hgp)
      rw [HN.out] at hlr
      have htk : P.take (i + 1) = P.take i ++ [x] := by rw [List.take_add_one, hx]; rfl
      have hsn := find_snoc (P.take i) x
      obtain ⟨st, kk, pt⟩ := x
      have q0 : wr.cell? ⟨gp, i * 3, none⟩ = some (.int .i64 st) := row_cell hlr (i * 3 + 0) _ (by rw [flat_get fltL 3 (fun _ => rfl) 0 hx (by omega)]; rfl)
      have q1 : wr.cell? ⟨gp, i * 3 + 1, none⟩ = some (.int .i64 kk) := row_cell hlr (i * 3 + 1) _ (by rw [flat_get fltL 3 (fun _ => rfl) 1 hx (by omega)]; rfl)
      have q2 : wr.cell? ⟨gp, i * 3 + 2, none⟩ = some (.int .i64 pt) := row_cell hlr (i * 3 + 2) _ (by rw [flat_get fltL 3 (fun _ => rfl) 2 hx (by omega)]; rfl)
      have d1 : decide ((i : Int) < (n : Int)) = true := by simp; omega
      have d2 : (i : Int) < (n : Int) := by omega
      have d3 : (0 : Int) ≤ (i : Int) := by omega
      have hwi : IntKind.i64.wrap ((i : Int) + 1) = (i : Int) + 1 := by rw [IntKind.wrap_i64]; omega
      have g1 := gb_alloc (gb_refl wr none) (.cells #[.int .i64 st, .int .i64 kk, .int .i64 pt] 117)
      have B1 := Box.new wr 117 #[.int .i64 st, .int .i64 kk, .int .i64 pt]
      obtain ⟨Y, hY⟩ : ∃ Y, wr.alloc (.cells #[.int .i64 st, .int .i64 kk, .int .i64 pt] 117) = Y := ⟨_, rfl⟩
      rw [hY] at g1 B1
      have hYs : Y.heap.size = wr.heap.size + 1 := by rw [← hY]; simp
      have HX := Lib.hid (And.intro hx (And.intro htk hsn))
      have HPl := Lib.hid (And.intro hPl hK)
      have bY := hbx.kept g1 (by simp)
      have plY := hPl.same (g1.block _ hPl.lt (by simp))
      have y4 : Y.cell? ⟨p.d, 4, none⟩ = some (.map (some w.heap.size)) := bY.cell 4
      have y0 : Y.cell? ⟨wr.heap.size, 0, none⟩ = some (.int .i64 st) := B1.cell 0
      have y1 : Y.cell? ⟨wr.heap.size, 1, none⟩ = some (.int .i64 kk) := B1.cell 1
      have y2 : Y.cell? ⟨wr.heap.size, 2, none⟩ = some (.int .i64 pt) := B1.cell 2
      have gZ : Y.grownBy ((Y.alloc (.cells #[.int .i64 0, .int .i64 0, .int .i64 0] 117)).drew) none := gb_drew (gb_alloc (gb_refl _ _) _)
      have z4 := gb_cellN gZ y4
      have z0 := gb_cellN gZ y0
      have lk := pl_ask (plY.same (gZ.block _ plY.lt (by simp))) st
      have lk2 := pl_ask (w := Y.drew) plY st
      have hPs := hPl.lt
      clear hx htk hsn hlr hPl hK hbx plY gZ
      have HY := Lib.hid (And.intro g1 (And.intro B1 bY))
      clear g1 B1 bY
      cases hfd : (P.take i).find? (fun f => f.step = st) with
      | some f =>
        rw [hfd] at lk lk2
        simp only [Option.isSome_some] at lk lk2
        have HFD := Lib.hid hfd
        clear hfd
        go_upto_region 4 with fail
        go_region
        all_goals
          go_wp2_with fail
          obtain ⟨hPl, hK⟩ := HPl.out
          obtain ⟨g1, B1, bY⟩ := HY.out
          have gE := gb_trans g1 (gb_drew (gb_alloc (gb_refl Y none) (.cells #[.int .i64 (fvo (some f)).step, .int .i64 (fvo (some f)).kind, .int .i64 (fvo (some f)).part] 117)))
          have eF : (fun j => (P.take (i + 1)).find? (fun f => f.step = j)) = (fun j => (P.take i).find? (fun f => f.step = j)) := by
            funext j
            rw [HX.out.2.1, HX.out.2.2 j]
            cases hj : (P.take i).find? (fun f => f.step = j) with
            | some g => rfl
            | none =>
              by_cases he : st = j
              · rw [← he, HFD.out] at hj
                cases hj
              · simp only [he, if_false]
          refine ⟨⟨i + 1, by omega, by simp, ?_, hK.step gE (by simp)⟩, by simp [intOf]; omega⟩
          rw [eF]
          exact hPl.same (gE.block _ hPl.lt (by simp))
      | none =>
        rw [hfd] at lk lk2
        simp only [Option.isSome_none] at lk lk2
        have HFD := Lib.hid hfd
        clear hfd
        go_upto_region 4 with fail
        go_region
        all_goals
          go_upto_region 6 with fail
          obtain ⟨hPl, hK⟩ := HPl.out
          obtain ⟨g1, B1, bY⟩ := HY.out
          have gE := gb_drew (gb_alloc (gb_refl Y none) (.cells #[.int .i64 (fvo none).step, .int .i64 (fvo none).kind, .int .i64 (fvo none).part] 117))
          obtain ⟨X, hX⟩ : ∃ X, (Y.alloc (.cells #[.int .i64 (fvo none).step, .int .i64 (fvo none).kind, .int .i64 (fvo none).part] 117)).drew = X := ⟨_, rfl⟩
          rw [hX] at gE ⊢
          have plX := (hPl.same (g1.block _ hPl.lt (by simp))).same (gE.block _ (by rw [hYs]; omega) (by simp))
          obtain ⟨X2, hrun, hP2, g2⟩ := pl_add (w := X.drew) plX ⟨st, kk, pt⟩ HFD.out
          have x4 := gb_cellN gE y4
          have x0 := gb_cellN gE y0
          have x1 := gb_cellN gE y1
          have x2 := gb_cellN gE y2
          have HP2 := Lib.hid (And.intro hP2 (And.intro g2 gE))
          clear hPl hK g1 B1 bY plX hP2 g2 gE hX lk lk2 z4 z0 y4 y0 y1 y2
          simp only at hrun
          go_region
          all_goals
            go_wp2_with fail
            obtain ⟨hP2, g2, gE⟩ := HP2.out
            obtain ⟨hPl, hK⟩ := HPl.out
            have eF : (fun j => (P.take (i + 1)).find? (fun f => f.step = j)) = (fun j => if j = st then some (⟨st, kk, pt⟩ : Flt) else (P.take i).find? (fun f => f.step = j)) := by
              funext j
              rw [HX.out.2.1, HX.out.2.2 j]
              by_cases hj : j = st
              · rw [if_pos hj, hj, HFD.out]
                simp
              · rw [if_neg hj]
                cases hj2 : (P.take i).find? (fun f => f.step = j) with
                | some g => rfl
                | none => simp only [if_neg (fun e => hj (Eq.symm e))]
            refine ⟨⟨i + 1, by omega, by simp, ?_, ((hK.step HY.out.1 (by simp)).step gE (by simp)).step (gb_trans (gb_drew (gb_refl X _)) g2) (fun j hj => .inl (Option.some.inj hj).symm)⟩, by simp [intOf]; omega⟩
            rw [eF]
            exact hP2
    · obtain rfl : i = n := by omega
      have d1 : decide ((i : Int) < (i : Int)) = false := by simp
      have HPl := Lib.hid (And.intro hPl (And.intro hK hbx))
      clear hPl hK hbx
      go_wp2_with fail
      go_end0
      obtain ⟨hPl, hK, hbx⟩ := HPl.out
      obtain ⟨h, hb1, hP1, hlv2, K1, hlne⟩ := HH.out
      rw [List.take_of_length_le (by rw [HN.out]; exact Nat.le_refl _)] at hPl
      exact ⟨rfl, _, h.planned (P := P) hPl (Nat.le_refl _) hbx ((K1.trans hK (fun _ h => h) (fun j hj => .inr (by omega))))⟩
end Go.Proofs.Ytndjimdegkdljaa

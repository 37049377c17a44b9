import Derived.Test.YtndjimdegkdljaaN
import Derived.Test.YtndjimdegkdljaaJ
/-
  The document's disk: which file a name has.
-/
namespace Go.Proofs.Ytndjimdegkdljaa
open Go.RowKit Go.MapKept
set_option linter.unusedVariables false
set_option linter.unusedSimpArgs false
attribute [local go_sem] Oper.semAt_some

set_option maxRecDepth 100000 in
theorem names_75 {w : World} {r : Rl} {M : Md} (h : RR w r M) :
    Calls Try.prog 75 #[pv r.d] w fun e w' => ∃ v L, e = .returned v ∧ NmV w' w.heap.size v L ∧ Rep L M.names ∧ L.length ≤ M.acts ∧ w.grownBy w' none := by
  obtain ⟨cao, ccp, ec, -, -, hccp, hcpos⟩ := row_shape h.ch
  have h49 := after_49 h (M.ch.length : Int) (by omega) (by omega)
  rw [Int.toNat_natCast, List.take_length] at h49
  have c3 : w.cell? ⟨r.d, 3, none⟩ = some r.cv := h.box.cell 3
  rw [ec] at c3
  clear h ec
  go_enter Try.func75, Try.ntmps75
  go_wp2_with (go_at_call 49; go_must (refine h49.mono ?_); rintro e w1 ⟨v, L, rfl, hv⟩)
  go_ret
  exact ⟨v, L, rfl, hv⟩
/-- The number of a name's file, as the document tells it. -/
def atI : Option Nat → Int
  | some k => (k : Int)
  | none => -1
theorem lookup_at {L : List (Bs × Nat)} {m : NS} (hR : Rep L m) {i : Nat} {x : Bs} {k : Nat} (hx : L[i]? = some (x, k)) : m x = some k := hR.mem.1 (List.mem_of_getElem? hx)
theorem lookup_no {L : List (Bs × Nat)} {m : NS} (hR : Rep L m) {s : Bs} (h : ∀ (j : Nat) (x : Bs) (k : Nat), L[j]? = some (x, k) → x ≠ s) : m s = none := by
  cases hm : m s with
  | none => rfl
  | some k =>
    obtain ⟨j, hj⟩ := List.mem_iff_getElem?.1 (hR.mem.2 hm)
    exact absurd rfl (h j s k hj)
set_option maxRecDepth 100000 in
set_option maxHeartbeats 4000000 in
theorem at_74 {w : World} {r : Rl} {M : Md} (h : RR w r M) (s : Bs) :
    Calls Try.prog 74 #[pv r.d, sv s] w fun e w' => e = .returned (.int .i64 (atI (M.names s))) ∧ w.grownBy w' none := by
  have h75 := names_75 h
  have hna := h.ok.na
  clear h
  obtain ⟨res, hres⟩ : ∃ res, atI (M.names s) = res := ⟨_, rfl⟩
  rw [hres]
  have HRES := Lib.hid hres
  clear hres
  go_enter Try.func74, Try.ntmps74
  go_upto_region 2 with (go_at_call 75; go_must (refine h75.mono ?_); rintro e w1 ⟨v, L, rfl, hV, hR, hl, g1⟩)
  obtain ⟨ao, cp, e0, -, -, hcp, hpos⟩ := row_shape hV
  subst e0
  obtain ⟨n, hN⟩ : ∃ n, L.length = n := ⟨_, rfl⟩
  unfold NmV at hV
  rw [hN] at hV hpos hl ⊢
  have HV := Lib.hid (And.intro hV (And.intro hR hN))
  clear hV hR hN h75
  go_wp2_with fail
  go_loopw [6] (fun x6 wr => ∃ i : Nat, i ≤ n ∧ x6 = .int .i64 (i : Int) ∧ (∀ (j : Nat) (x : Bs) (k : Nat), j < i → L[j]? = some (x, k) → x ≠ s) ∧ wr = w1) (fun x6 _ => n - (intOf x6).toNat)
  case atStart => exact ⟨0, by omega, rfl, fun j x k hj => by omega, rfl⟩
  case round =>
    obtain ⟨i, hi, rfl, hno, rfl⟩ := hrel
    obtain ⟨hV, hR, hN⟩ := HV.out
    by_cases hlt : i < n
    · obtain ⟨⟨x, k⟩, hx⟩ : ∃ x, L[i]? = some x := ⟨_, List.getElem?_eq_getElem (by rw [hN]; exact hlt)⟩
      obtain ⟨g, rfl⟩ := hpos (by omega)
      have q0 : wr.cell? ⟨g, i * 2, none⟩ = some (sv x) := row_cell hV (i * 2 + 0) _ (by rw [nm_get 0 hx (by omega)]; rfl)
      have q1 : wr.cell? ⟨g, i * 2 + 1, none⟩ = some (.int .i64 (k : Int)) := row_cell hV (i * 2 + 1) _ (by rw [nm_get 1 hx (by omega)]; rfl)
      have d1 : decide ((i : Int) < (n : Int)) = true := by simp; omega
      have hib : (i : Int) < (n : Int) := by omega
      have hw1 : IntKind.i64.wrap ((i : Int) + 1) = (i : Int) + 1 := by rw [IntKind.wrap_i64]; omega
      by_cases hxs : x = s
      · subst hxs
        have hm : res = (k : Int) := by rw [← HRES.out, lookup_at hR hx]; rfl
        subst hm
        clear hV hR HV
        go_wp2_with fail
        go_ret
        exact ⟨rfl, g1⟩
      · have hxs' : (x == s) = false := by simpa using hxs
        have HNO := Lib.hid hno
        have HX := Lib.hid hx
        clear hV hR HV hno hx
        go_wp2_with fail
        refine ⟨⟨i + 1, by omega, by first | rfl | simp, fun j y l hj hy => ?_, by first | rfl | trivial⟩, by simp [intOf]; omega⟩
        by_cases hji : j = i
        · subst hji
          rw [HX.out] at hy
          injection hy with hy
          injection hy with hy1 hy2
          rw [← hy1]
          exact hxs
        · exact HNO.out j y l (by omega) hy
    · obtain rfl : i = n := by omega
      have d1 : decide ((i : Int) < (i : Int)) = false := by simp
      have hm : res = -1 := by rw [← HRES.out, lookup_no hR (fun j x k hx => hno j x k (by have := (List.getElem?_eq_some_iff.1 hx).1; omega) hx)]; rfl
      subst hm
      clear hV hR HV hno
      go_wp2_with fail
      go_ret
      exact ⟨rfl, g1⟩
end Go.Proofs.Ytndjimdegkdljaa
/-
  The document's disk: what an act leaves of it.
-/
namespace Go.Proofs.Ytndjimdegkdljaa
open Go.RowKit Go.MapKept
set_option linter.unusedVariables false
set_option linter.unusedSimpArgs false
attribute [local go_sem] Oper.semAt_some

/-- There is room for one change more. -/
def Slk (w : World) (r : Rl) (M : Md) : Prop := ∃ L, NmV w 0 r.sf L ∧ Rep L M.safe ∧ L.length + M.ch.length < M.acts
theorem file_some {M : Md} {k : Nat} (h : k < M.files.length) : M.files[k]? = some (M.file k) := by
  unfold Md.file
  rw [List.getElem?_eq_getElem h]
  rfl
def Rl.chg (r : Rl) (cv : Value) : Rl := { r with cv := cv, col := fun b => if cv.ownBlock = some b then 4 else r.col b }
theorem RR.changed {w w' : World} {r : Rl} {M : Md} {c : Ch} {cv : Value} (h : RR w r M) (hsl : Slk w r M) (h1 : c.fr ≠ []) (h2 : M.names c.fr = some c.f) (h3 : c.nw.length ≤ 32) (h4 : c.fr.length ≤ 32) (hc : M.ch.length < M.acts)
    (hb : Box w' 80 r.d (dkR (r.chg cv) (M.chg c))) (hR : w'.ownsRow 0 137 3 cv (M.ch.length + 1) (M.ch.flatMap rchL ++ rchL c))
    (hK : Kp (fun b => b = r.d ∨ r.cv.ownBlock = some b) w w') (hat : ∀ b, cv.ownBlock = some b → r.cv.ownBlock = some b ∨ w.heap.size ≤ b) :
    RR w' (r.chg cv) (M.chg c) ∧ Afr w w' r (r.chg cv) := by
  have hcol : ∀ b, r.col b ≠ 0 → r.col b ≠ 4 → (r.chg cv).col b = r.col b := fun b h0 hn => by
    show (if cv.ownBlock = some b then 4 else r.col b) = _
    rw [if_neg (fun e => by rcases hat b e with h1 | h1; exact hn (h.cc b h1); have := h.lt b h0; omega)]
  have nbk : ∀ b, r.col b ≠ 0 → r.col b ≠ 1 → r.col b ≠ 4 → w'.heap[b]? = w.heap[b]? := fun b h0 h1 h5 => hK.block b (h.lt b h0) (by
    rintro (e | e)
    · exact h1 (by rw [e, h.cd])
    · exact h5 (h.cc b e))
  refine ⟨?_, ?_⟩
  · exact {
      box := hb
      fl := row_same h.fl (fun b hb => nbk b (by rw [h.cf b hb]; decide) (by rw [h.cf b hb]; decide) (by rw [h.cf b hb]; decide))
      fr := fun k hl => row_same (h.fr k hl) (fun b hb => nbk b (by rw [h.cr k b hl hb]; omega) (by rw [h.cr k b hl hb]; omega) (by rw [h.cr k b hl hb]; omega))
      sf := by
        obtain ⟨L, a1, a2, a3⟩ := hsl
        refine ⟨L, row_same a1 (fun b hb => nbk b (by rw [h.cs b hb]; decide) (by rw [h.cs b hb]; decide) (by rw [h.cs b hb]; decide)), a2, ?_⟩
        show L.length + (M.ch ++ [c]).length ≤ M.acts
        rw [List.length_append]
        simp
        omega
      ch := by
        show w'.ownsRow 0 137 3 cv (M.ch ++ [_]).length ((M.ch ++ [_]).flatMap _)
        rw [List.length_append, List.flatMap_append, List.flatMap_singleton]
        exact hR
      pl := by
        obtain ⟨P, a1, a2⟩ := h.pl
        exact ⟨P, row_same a1 (fun b hb => nbk b (by rw [h.cp b hb]; decide) (by rw [h.cp b hb]; decide) (by rw [h.cp b hb]; decide)), a2⟩
      cd := by rw [show (r.chg cv).d = r.d from rfl, hcol _ (by rw [h.cd]; decide) (by rw [h.cd]; decide)]; exact h.cd
      cf := fun b hb => by rw [hcol _ (by rw [h.cf b hb]; decide) (by rw [h.cf b hb]; decide)]; exact h.cf b hb
      cs := fun b hb => by rw [hcol _ (by rw [h.cs b hb]; decide) (by rw [h.cs b hb]; decide)]; exact h.cs b hb
      cc := fun b hb => by
        have hb' : cv.ownBlock = some b := hb
        show (if cv.ownBlock = some b then 4 else r.col b) = 4
        rw [if_pos hb']
      cp := fun b hb => by rw [hcol _ (by rw [h.cp b hb]; decide) (by rw [h.cp b hb]; decide)]; exact h.cp b hb
      cr := fun k b hl hb => by rw [hcol _ (by rw [h.cr k b hl hb]; omega) (by rw [h.cr k b hl hb]; omega)]; exact h.cr k b hl hb
      lt := fun b hb => by
        have hb' : (if cv.ownBlock = some b then 4 else r.col b) ≠ 0 := hb
        by_cases e2 : cv.ownBlock = some b
        · exact (row_ge hR e2).2
        · rw [if_neg e2] at hb'
          exact Nat.lt_of_lt_of_le (h.lt b hb') hK.size
      ok := h.ok.chg h1 h2 h3 h4 hc }
  · refine ⟨hK.mono (fun b hb => .inl ?_), rfl, fun b hl hb => ?_⟩
    · rcases hb with e | e
      · rw [e, h.cd]; decide
      · rw [h.cc b e]; decide
    · have hb' : (if cv.ownBlock = some b then 4 else r.col b) ≠ 0 := hb
      by_cases e2 : cv.ownBlock = some b
      · rcases hat b e2 with h1 | h1
        · rw [h.cc b h1]; decide
        · omega
      · rw [if_neg e2] at hb'
        exact hb'
def Rl.create (r : Rl) (n : Nat) (fv cv : Value) : Rl := { r with fv := fv, cv := cv, rb := upd r.rb n (.slice none 0 0), col := fun b => if fv.ownBlock = some b then 2 else if cv.ownBlock = some b then 4 else r.col b }
theorem file_create (M : Md) (s : Bs) (k : Nat) : (M.create s).file k = if k = M.files.length then ([], 0) else M.file k := by
  unfold Md.file
  show ((M.files ++ [([], 0)])[k]?).getD ([], 0) = _
  rcases Nat.lt_trichotomy k M.files.length with h | h | h
  · rw [List.getElem?_append_left h, if_neg (by omega)]
  · subst h
    simp
  · rw [if_neg (by omega), List.getElem?_eq_none (by simp; omega), List.getElem?_eq_none (by omega)]
theorem RR.made {w w' : World} {r : Rl} {M : Md} {s : Bs} {fv cv : Value} (h : RR w r M) (hsl : Slk w r M) (hs : okN s = true) (hf : M.files.length < M.acts) (hc : M.ch.length < M.acts)
    (hb : Box w' 80 r.d (dkR (r.create M.files.length fv cv) (M.create s))) (hF : w'.ownsRow 0 98 2 fv (M.files.length + 1) (rng M.files.length (flsL r M) ++ [.slice none 0 0, .int .i64 0]))
    (hR : w'.ownsRow 0 137 3 cv (M.ch.length + 1) (M.ch.flatMap rchL ++ rchL ⟨[], s, M.files.length⟩))
    (hK : Kp (fun b => b = r.d ∨ r.cv.ownBlock = some b ∨ r.fv.ownBlock = some b) w w') (hat : ∀ b, cv.ownBlock = some b → r.cv.ownBlock = some b ∨ w.heap.size ≤ b)
    (haf : ∀ b, fv.ownBlock = some b → r.fv.ownBlock = some b ∨ w.heap.size ≤ b) (hne : ∀ b, fv.ownBlock = some b → cv.ownBlock ≠ some b) :
    RR w' (r.create M.files.length fv cv) (M.create s) ∧ Afr w w' r (r.create M.files.length fv cv) := by
  have hcol : ∀ b, r.col b ≠ 0 → r.col b ≠ 4 → r.col b ≠ 2 → (r.create M.files.length fv cv).col b = r.col b := fun b h0 hn hn2 => by
    show (if fv.ownBlock = some b then 2 else if cv.ownBlock = some b then 4 else r.col b) = _
    rw [if_neg (fun e => by rcases haf b e with h1 | h1; exact hn2 (h.cf b h1); have := h.lt b h0; omega), if_neg (fun e => by rcases hat b e with h1 | h1; exact hn (h.cc b h1); have := h.lt b h0; omega)]
  have nbk : ∀ b, r.col b ≠ 0 → r.col b ≠ 1 → r.col b ≠ 4 → r.col b ≠ 2 → w'.heap[b]? = w.heap[b]? := fun b h0 h1 h5 h6 => hK.block b (h.lt b h0) (by
    rintro (e | e | e)
    · exact h1 (by rw [e, h.cd])
    · exact h5 (h.cc b e)
    · exact h6 (h.cf b e))
  have hlen : (M.create s).files.length = M.files.length + 1 := by
    show (M.files ++ [([], 0)]).length = _
    rw [List.length_append]
    rfl
  refine ⟨?_, ?_⟩
  · exact {
      box := hb
      fl := by
        rw [hlen, rng_succ]
        have e1 : rng M.files.length (flsL (r.create M.files.length fv cv) (M.create s)) = rng M.files.length (flsL r M) := by
          refine rng_congr fun k hk => ?_
          show [upd r.rb M.files.length _ k, .int .i64 (((M.create s).file k).2 : Int)] = _
          rw [upd_other _ _ (by omega), file_create, if_neg (by omega)]
        have e2 : flsL (r.create M.files.length fv cv) (M.create s) M.files.length = [.slice none 0 0, .int .i64 0] := by
          show [upd r.rb M.files.length _ M.files.length, .int .i64 (((M.create s).file M.files.length).2 : Int)] = _
          rw [upd_same, file_create, if_pos rfl]
          rfl
        rw [e1, e2]
        exact hF
      fr := fun k hl => by
        rw [hlen] at hl
        rw [file_create]
        show w'.ownsRow 0 5 1 (upd r.rb M.files.length _ k) _ _
        by_cases hk : k = M.files.length
        · subst hk
          rw [upd_same, if_pos rfl]
          exact World.ownsRow_nil _ _ _ _
        · rw [upd_other _ _ hk, if_neg hk]
          have hl' : k < M.files.length := by omega
          exact row_same (h.fr k hl') (fun b hb => nbk b (by rw [h.cr k b hl' hb]; omega) (by rw [h.cr k b hl' hb]; omega) (by rw [h.cr k b hl' hb]; omega) (by rw [h.cr k b hl' hb]; omega))
      sf := by
        obtain ⟨L, a1, a2, a3⟩ := hsl
        refine ⟨L, row_same a1 (fun b hb => nbk b (by rw [h.cs b hb]; decide) (by rw [h.cs b hb]; decide) (by rw [h.cs b hb]; decide) (by rw [h.cs b hb]; decide)), a2, ?_⟩
        show L.length + (M.ch ++ [_]).length ≤ M.acts
        rw [List.length_append]
        simp
        omega
      ch := by
        show w'.ownsRow 0 137 3 cv (M.ch ++ [_]).length ((M.ch ++ [_]).flatMap _)
        rw [List.length_append, List.flatMap_append, List.flatMap_singleton]
        exact hR
      pl := by
        obtain ⟨P, a1, a2⟩ := h.pl
        exact ⟨P, row_same a1 (fun b hb => nbk b (by rw [h.cp b hb]; decide) (by rw [h.cp b hb]; decide) (by rw [h.cp b hb]; decide) (by rw [h.cp b hb]; decide)), a2⟩
      cd := by rw [show (r.create M.files.length fv cv).d = r.d from rfl, hcol _ (by rw [h.cd]; decide) (by rw [h.cd]; decide) (by rw [h.cd]; decide)]; exact h.cd
      cf := fun b hb => by
        have hb' : fv.ownBlock = some b := hb
        show (if fv.ownBlock = some b then 2 else if cv.ownBlock = some b then 4 else r.col b) = 2
        rw [if_pos hb']
      cs := fun b hb => by rw [hcol _ (by rw [h.cs b hb]; decide) (by rw [h.cs b hb]; decide) (by rw [h.cs b hb]; decide)]; exact h.cs b hb
      cc := fun b hb => by
        have hb' : cv.ownBlock = some b := hb
        show (if fv.ownBlock = some b then 2 else if cv.ownBlock = some b then 4 else r.col b) = 4
        rw [if_neg (fun e => hne b e hb'), if_pos hb']
      cp := fun b hb => by rw [hcol _ (by rw [h.cp b hb]; decide) (by rw [h.cp b hb]; decide) (by rw [h.cp b hb]; decide)]; exact h.cp b hb
      cr := fun k b hl hb => by
        rw [hlen] at hl
        have hb' : (upd r.rb M.files.length (.slice none 0 0) k).ownBlock = some b := hb
        by_cases hk : k = M.files.length
        · subst hk
          rw [upd_same] at hb'
          simp [Value.ownBlock] at hb'
        · rw [upd_other _ _ hk] at hb'
          have hl' : k < M.files.length := by omega
          rw [hcol _ (by rw [h.cr k b hl' hb']; omega) (by rw [h.cr k b hl' hb']; omega) (by rw [h.cr k b hl' hb']; omega)]
          exact h.cr k b hl' hb'
      lt := fun b hb => by
        have hb' : (if fv.ownBlock = some b then 2 else if cv.ownBlock = some b then 4 else r.col b) ≠ 0 := hb
        by_cases e1 : fv.ownBlock = some b
        · exact (row_ge hF e1).2
        · rw [if_neg e1] at hb'
          by_cases e2 : cv.ownBlock = some b
          · exact (row_ge hR e2).2
          · rw [if_neg e2] at hb'
            exact Nat.lt_of_lt_of_le (h.lt b hb') hK.size
      ok := h.ok.create hs hf hc }
  · refine ⟨hK.mono (fun b hb => .inl ?_), rfl, fun b hl hb => ?_⟩
    · rcases hb with e | e | e
      · rw [e, h.cd]; decide
      · rw [h.cc b e]; decide
      · rw [h.cf b e]; decide
    · have hb' : (if fv.ownBlock = some b then 2 else if cv.ownBlock = some b then 4 else r.col b) ≠ 0 := hb
      by_cases e1 : fv.ownBlock = some b
      · rcases haf b e1 with h1 | h1
        · rw [h.cf b h1]; decide
        · omega
      · rw [if_neg e1] at hb'
        by_cases e2 : cv.ownBlock = some b
        · rcases hat b e2 with h1 | h1
          · rw [h.cc b h1]; decide
          · omega
        · rw [if_neg e2] at hb'
          exact hb'
theorem file_put (M : Md) (k j : Nat) (f : Bs × Nat) (hk : k < M.files.length) : (M.put k f).file j = if j = k then f else M.file j := by
  unfold Md.file
  show ((M.files.set k f)[j]?).getD ([], 0) = _
  by_cases h : j = k
  · subst h
    rw [List.getElem?_set_self hk, if_pos rfl]
    rfl
  · rw [List.getElem?_set_ne (Ne.symm h), if_neg h]
/-- File k turned: its row of bytes v, its cells in the list of files. -/
def Rl.put (r : Rl) (k : Nat) (v : Value) : Rl := { r with rb := upd r.rb k v, col := fun b => if v.ownBlock = some b then 10 + k else r.col b }
theorem RR.filed {w w' : World} {r : Rl} {M : Md} {k : Nat} {f : Bs × Nat} {v : Value} (h : RR w r M) (hk : k < M.files.length) (hf : f.2 ≤ f.1.length) (hbd : f.1.length ≤ M.acts * 2097152)
    (hF : w'.ownsRow 0 98 2 r.fv M.files.length (rng M.files.length (flsL (r.put k v) (M.put k f)))) (hR : w'.ownsRow 0 5 1 v f.1.length (f.1.map b8))
    (hK : Kp (fun b => r.fv.ownBlock = some b ∨ (r.rb k).ownBlock = some b) w w') (hat : ∀ b, v.ownBlock = some b → (r.rb k).ownBlock = some b ∨ w.heap.size ≤ b) :
    RR w' (r.put k v) (M.put k f) ∧ Afr w w' r (r.put k v) := by
  have hcl : ∀ b, r.col b ≠ 0 → r.col b ≠ 10 + k → (r.put k v).col b = r.col b := fun b h0 h1 => by
    show (if v.ownBlock = some b then 10 + k else r.col b) = _
    rw [if_neg (fun e => by rcases hat b e with h2 | h2; exact h1 (h.cr k b hk h2); have := h.lt b h0; omega)]
  have nbk : ∀ b, r.col b ≠ 0 → r.col b ≠ 2 → r.col b ≠ 10 + k → w'.heap[b]? = w.heap[b]? := fun b h0 h1 h2 => hK.block b (h.lt b h0) (by
    rintro (e | e)
    · exact h1 (h.cf b e)
    · exact h2 (h.cr k b hk e))
  have hlen : (M.put k f).files.length = M.files.length := by show (M.files.set k f).length = _; rw [List.length_set]
  refine ⟨?_, ?_⟩
  · exact {
      box := (nbk r.d (by rw [h.cd]; decide) (by rw [h.cd]; decide) (by rw [h.cd]; omega)).trans h.box
      fl := by rw [hlen]; exact hF
      fr := fun j hl => by
        rw [hlen] at hl
        rw [file_put M k j f hk]
        show w'.ownsRow 0 5 1 (upd r.rb k v j) _ _
        by_cases hj : j = k
        · subst hj
          rw [upd_same, if_pos rfl]
          exact hR
        · rw [upd_other _ _ hj, if_neg hj]
          exact row_same (h.fr j hl) (fun b hb => nbk b (by rw [h.cr j b hl hb]; omega) (by rw [h.cr j b hl hb]; omega) (by rw [h.cr j b hl hb]; omega))
      sf := by
        obtain ⟨L, a1, a2⟩ := h.sf
        exact ⟨L, row_same a1 (fun b hb => nbk b (by rw [h.cs b hb]; decide) (by rw [h.cs b hb]; decide) (by rw [h.cs b hb]; omega)), a2⟩
      ch := row_same h.ch (fun b hb => nbk b (by rw [h.cc b hb]; decide) (by rw [h.cc b hb]; decide) (by rw [h.cc b hb]; omega))
      pl := by
        obtain ⟨P, a1, a2⟩ := h.pl
        exact ⟨P, row_same a1 (fun b hb => nbk b (by rw [h.cp b hb]; decide) (by rw [h.cp b hb]; decide) (by rw [h.cp b hb]; omega)), a2⟩
      cd := by rw [show (r.put k v).d = r.d from rfl, hcl _ (by rw [h.cd]; decide) (by rw [h.cd]; omega)]; exact h.cd
      cf := fun b hb => by rw [hcl _ (by rw [h.cf b hb]; decide) (by rw [h.cf b hb]; omega)]; exact h.cf b hb
      cs := fun b hb => by rw [hcl _ (by rw [h.cs b hb]; decide) (by rw [h.cs b hb]; omega)]; exact h.cs b hb
      cc := fun b hb => by rw [hcl _ (by rw [h.cc b hb]; decide) (by rw [h.cc b hb]; omega)]; exact h.cc b hb
      cp := fun b hb => by rw [hcl _ (by rw [h.cp b hb]; decide) (by rw [h.cp b hb]; omega)]; exact h.cp b hb
      cr := fun j b hl hb => by
        rw [hlen] at hl
        have hb' : (upd r.rb k v j).ownBlock = some b := hb
        by_cases hj : j = k
        · subst hj
          rw [upd_same] at hb'
          show (if v.ownBlock = some b then _ else _) = _
          rw [if_pos hb']
        · rw [upd_other _ _ hj] at hb'
          rw [hcl _ (by rw [h.cr j b hl hb']; omega) (by rw [h.cr j b hl hb']; omega)]
          exact h.cr j b hl hb'
      lt := fun b hb => by
        have hb' : (if v.ownBlock = some b then 10 + k else r.col b) ≠ 0 := hb
        by_cases e2 : v.ownBlock = some b
        · exact (row_ge hR e2).2
        · rw [if_neg e2] at hb'
          exact Nat.lt_of_lt_of_le (h.lt b hb') hK.size
      ok := h.ok.put hf hbd }
  · refine ⟨hK.mono (fun b hb => .inl ?_), rfl, fun b hl hb => ?_⟩
    · rcases hb with e | e
      · rw [h.cf b e]; omega
      · rw [h.cr k b hk e]; omega
    · have hb' : (if v.ownBlock = some b then 10 + k else r.col b) ≠ 0 := hb
      by_cases e2 : v.ownBlock = some b
      · rcases hat b e2 with h1 | h1
        · rw [h.cr k b hk h1]; omega
        · omega
      · rw [if_neg e2] at hb'
        exact hb'
end Go.Proofs.Ytndjimdegkdljaa

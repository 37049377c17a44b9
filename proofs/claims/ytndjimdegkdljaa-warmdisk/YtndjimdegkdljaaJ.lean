import Derived.Test.YtndjimdegkdljaaMb
/-
  Changes of names; a file made safe.
-/
namespace Go.Proofs.Ytndjimdegkdljaa
open Go.RowKit Go.MapKept
set_option linter.unusedVariables false
set_option linter.unusedSimpArgs false
attribute [local go_sem] Oper.semAt_some

def Md.chg (M : Md) (c : Ch) : Md := { M with ch := M.ch ++ [c] }
theorem Md.Ok.chg {M : Md} (h : M.Ok) {c : Ch} (h1 : c.fr ≠ []) (h2 : M.names c.fr = some c.f) (h3 : c.nw.length ≤ 32) (h4 : c.fr.length ≤ 32) (hc : M.ch.length < M.acts) : (M.chg c).Ok where
  s0 := h.s0
  s1 := h.s1
  sf := h.sf
  cf := fun x hx => by
    rcases List.mem_append.1 hx with hx | hx
    · exact h.cf x hx
    · rw [List.mem_singleton.1 hx]
      exact ⟨reach_lt h (Md.names_reach h2), fun e => absurd e h1, h3, h4⟩
  cs := fun j x hj hfr => by
    have hj' : (M.ch ++ [c])[j]? = some x := hj
    show after M.safe ((M.ch ++ [c]).take j) x.fr = _
    rcases Nat.lt_or_ge j M.ch.length with hl | hl
    · rw [List.getElem?_append_left hl] at hj'
      rw [List.take_append_of_le_length (by omega)]
      exact h.cs j x hj' hfr
    · rw [List.getElem?_append_right hl] at hj'
      have h0 : j - M.ch.length = 0 := by
        have := (List.getElem?_eq_some_iff.1 hj').1
        simp at this
        omega
      rw [h0] at hj'
      simp at hj'
      subst hj'
      have : j = M.ch.length := by omega
      subst this
      rw [List.take_left']
      · exact h2
      · rfl
  fl := h.fl
  nf := h.nf
  nc := by
    show (M.ch ++ [_]).length ≤ M.acts
    rw [List.length_append]
    simp
    omega
  na := h.na
  nb := h.nb
theorem chg_names (M : Md) (c : Ch) : (M.chg c).names = c.app M.names := after_snoc _ _ _
theorem chg_reach {M : Md} {c : Ch} {k : Nat} (h2 : M.names c.fr = some c.f) (h : Reach (M.chg c) k) : Reach M k := by
  rcases h with ⟨t, h⟩ | ⟨x, hx, rfl⟩
  · exact .inl ⟨t, h⟩
  · rcases List.mem_append.1 hx with hx | hx
    · exact .inr ⟨x, hx, rfl⟩
    · rw [List.mem_singleton.1 hx]; exact Md.names_reach h2
def Pl.chg (p : Pl) (cv : Value) : Pl := { p with cv := cv, col := fun b => if cv.ownBlock = some b then 5 else p.col b }
theorem RP.changed {w w' : World} {p : Pl} {M : Md} {c : Ch} {cv : Value} (h : RP w p M) (h1 : c.fr ≠ []) (h2 : M.names c.fr = some c.f) (h3 : c.nw.length ≤ 32) (h4 : c.fr.length ≤ 32) (hc : M.ch.length < M.acts)
    (hb : Box w' 75 p.d (dkA (p.chg cv) (M.chg c))) (hN : NmM w' p.bn p.fb (c.app M.names))
    (hR : w'.ownsRow 0 107 3 cv (M.ch.length + 1) (M.ch.flatMap (chL p.fb) ++ chL p.fb c))
    (hK : Kp (fun b => b = p.d ∨ b = p.bn ∨ p.cv.ownBlock = some b) w w')
    (hat : ∀ b, cv.ownBlock = some b → p.cv.ownBlock = some b ∨ w.heap.size ≤ b) :
    RP w' (p.chg cv) (M.chg c) ∧ Aft w w' p (p.chg cv) := by
  have hcol : ∀ b, b < w.heap.size → p.cv.ownBlock ≠ some b → (p.chg cv).col b = p.col b := fun b hb hn => by
    show (if cv.ownBlock = some b then 5 else p.col b) = _
    rw [if_neg (fun e => by rcases hat b e with h1 | h1; exact hn h1; omega)]
  have ncv : ∀ b, p.col b ≠ 5 → p.cv.ownBlock ≠ some b := fun b hb e => hb (h.cc b e)
  have nbk : ∀ b, p.col b ≠ 0 → p.col b ≠ 1 → p.col b ≠ 2 → p.col b ≠ 5 → w'.heap[b]? = w.heap[b]? := fun b h0 h1 h2 h5 => hK.block b (h.lt b h0) (by
    rintro (e | e | e)
    · exact h1 (by rw [e, h.cd])
    · exact h2 (by rw [e, h.cn])
    · exact h5 (h.cc b e))
  refine ⟨?_, ?_⟩
  · exact {
      box := hb
      nm := by rw [chg_names]; exact hN
      sf := h.sf.same (nbk _ (by rw [h.cs]; decide) (by rw [h.cs]; decide) (by rw [h.cs]; decide) (by rw [h.cs]; decide))
      pl := h.pl.same (fun b hb => nbk b (by rw [h.cp b hb]; decide) (by rw [h.cp b hb]; decide) (by rw [h.cp b hb]; decide) (by rw [h.cp b hb]; decide))
      ch := by
        show w'.ownsRow 0 107 3 cv (M.ch ++ [_]).length ((M.ch ++ [_]).flatMap _)
        rw [List.length_append, List.flatMap_append, List.flatMap_singleton]
        exact hR
      fl := fun k f hr hfk => by
        have hr := chg_reach h2 hr
        have hf := h.fl k f hr hfk
        exact ⟨(nbk (p.fb k) (by rw [h.cf k hr]; omega) (by rw [h.cf k hr]; omega) (by rw [h.cf k hr]; omega) (by rw [h.cf k hr]; omega)).trans hf.box, row_same hf.row (fun b hb => nbk b (by rw [h.cr k b hr hb]; omega) (by rw [h.cr k b hr hb]; omega) (by rw [h.cr k b hr hb]; omega) (by rw [h.cr k b hr hb]; omega))⟩
      cd := by rw [show (p.chg cv).d = p.d from rfl, hcol _ (h.lt _ (by rw [h.cd]; decide)) (ncv _ (by rw [h.cd]; decide))]; exact h.cd
      cn := by rw [show (p.chg cv).bn = p.bn from rfl, hcol _ (h.lt _ (by rw [h.cn]; decide)) (ncv _ (by rw [h.cn]; decide))]; exact h.cn
      cs := by rw [show (p.chg cv).bs = p.bs from rfl, hcol _ (h.lt _ (by rw [h.cs]; decide)) (ncv _ (by rw [h.cs]; decide))]; exact h.cs
      cp := fun b hb => by rw [hcol _ (h.lt _ (by rw [h.cp b hb]; decide)) (ncv _ (by rw [h.cp b hb]; decide))]; exact h.cp b hb
      cc := fun b hb => by
        show (if cv.ownBlock = some b then 5 else p.col b) = 5
        have hb' : cv.ownBlock = some b := hb
        rw [if_pos hb']
      cf := fun k hr => by
        have hr := chg_reach h2 hr
        rw [show (p.chg cv).fb = p.fb from rfl, hcol (p.fb k) (h.lt _ (by rw [h.cf k hr]; omega)) (ncv _ (by rw [h.cf k hr]; omega))]
        exact h.cf k hr
      cr := fun k b hr hb => by
        have hr := chg_reach h2 hr
        rw [hcol _ (h.lt _ (by rw [h.cr k b hr hb]; omega)) (ncv _ (by rw [h.cr k b hr hb]; omega))]
        exact h.cr k b hr hb
      lt := fun b hb => by
        have hb' : (if cv.ownBlock = some b then 5 else p.col b) ≠ 0 := hb
        by_cases e2 : cv.ownBlock = some b
        · exact (row_ge hR e2).2
        · rw [if_neg e2] at hb'
          exact Nat.lt_of_lt_of_le (h.lt b hb') hK.size
      ok := h.ok.chg h1 h2 h3 h4 hc }
  · refine ⟨hK.mono (fun b hb => .inl ?_), rfl, fun b hl hb => ?_⟩
    · rcases hb with e | e | e
      · rw [e, h.cd]; decide
      · rw [e, h.cn]; decide
      · rw [h.cc b e]; decide
    · have hb' : (if cv.ownBlock = some b then 5 else p.col b) ≠ 0 := hb
      by_cases e2 : cv.ownBlock = some b
      · rcases hat b e2 with h1 | h1
        · rw [h.cc b h1]; decide
        · omega
      · rw [if_neg e2] at hb'
        exact hb'
/-- change, of a disk. -/
theorem change_rp {w : World} {p : Pl} {M : Md} (h : RP w p M) (c : Ch) (h1 : c.fr ≠ []) (h2 : M.names c.fr = some c.f) (h3 : c.nw.length ≤ 32) (h4 : c.fr.length ≤ 32) (hc : M.ch.length < M.acts) :
    Calls Try.prog 57 #[pv p.d, .agg #[sv c.fr, sv c.nw, .pointer none]] w fun e w' => e = .returned (.tuple #[]) ∧ ∃ p', RP w' p' (M.chg c) ∧ Aft w w' p p' := by
  have hna := h.ok.na
  have h57 := change_57 h.box h.nm h.ch (by have := h.ok.nc; omega)
    (fun e => by have := h.cd; rw [e, h.cn] at this; omega) (fun e => by have := h.cc _ e; rw [h.cd] at this; omega) (fun e => by have := h.cc _ e; rw [h.cn] at this; omega)
    c h.ok.nempty (fun e => absurd e h1) (fun _ => h2)
  rw [show mdv p.fb c = .pointer none by simp [mdv, h1]] at h57
  refine h57.mono ?_
  rintro e w' ⟨rfl, cv, b6, N6, R6, K6, at6⟩
  exact ⟨rfl, _, h.changed h1 h2 h3 h4 hc b6 N6 R6 K6 at6⟩
/-! ### A file's bytes -/
def Md.put (M : Md) (k : Nat) (f : Bs × Nat) : Md := { M with files := M.files.set k f }
theorem Md.Ok.put {M : Md} (h : M.Ok) {k : Nat} {f : Bs × Nat} (hf : f.2 ≤ f.1.length) (hb : f.1.length ≤ M.acts * 2097152) : (M.put k f).Ok where
  s0 := h.s0
  s1 := h.s1
  sf := fun s j hj => by
    have := h.sf s j hj
    exact ⟨by show j < (M.files.set k f).length; rw [List.length_set]; exact this.1, this.2⟩
  cf := fun c hc => by
    have := h.cf c hc
    exact ⟨by show c.f < (M.files.set k f).length; rw [List.length_set]; exact this.1, this.2⟩
  cs := h.cs
  fl := fun g hg => by
    rcases List.mem_or_eq_of_mem_set hg with hg | rfl
    · exact h.fl g hg
    · exact hf
  nf := by show (M.files.set k f).length ≤ _; rw [List.length_set]; exact h.nf
  nc := h.nc
  na := h.na
  nb := fun g hg => by
    rcases List.mem_or_eq_of_mem_set hg with hg | rfl
    · exact h.nb g hg
    · exact hb
/-- File k turned: its box, and its row v. -/
def Pl.put (p : Pl) (k : Nat) (v : Value) : Pl := { p with rv := upd p.rv k v, col := fun b => if v.ownBlock = some b then 11 + 2 * k else p.col b }
theorem RP.filed {w w' : World} {p : Pl} {M : Md} {k : Nat} {f : Bs × Nat} {v : Value} (h : RP w p M) (hk : Reach M k) (hf : f.2 ≤ f.1.length) (hbd : f.1.length ≤ M.acts * 2097152)
    (hb : Box w' 109 (p.fb k) #[.int .i64 (k : Int), v, .int .i64 (f.2 : Int)]) (hR : w'.ownsRow 0 5 1 v f.1.length (f.1.map b8))
    (hK : Kp (fun b => b = p.fb k ∨ (p.rv k).ownBlock = some b) w w') (hat : ∀ b, v.ownBlock = some b → (p.rv k).ownBlock = some b ∨ w.heap.size ≤ b) :
    RP w' (p.put k v) (M.put k f) ∧ Aft w w' p (p.put k v) := by
  have hcol : ∀ b, b < w.heap.size → (p.rv k).ownBlock ≠ some b → (p.put k v).col b = p.col b := fun b hb hn => by
    show (if v.ownBlock = some b then _ else p.col b) = _
    rw [if_neg (fun e => by rcases hat b e with h1 | h1; exact hn h1; omega)]
  have nrv : ∀ b, p.col b ≠ 11 + 2 * k → (p.rv k).ownBlock ≠ some b := fun b hb e => hb (h.cr k b hk e)
  have hcl : ∀ b, p.col b ≠ 0 → p.col b ≠ 11 + 2 * k → (p.put k v).col b = p.col b := fun b h0 h1 => hcol b (h.lt b h0) (nrv b h1)
  have nbk : ∀ b, p.col b ≠ 0 → p.col b ≠ 10 + 2 * k → p.col b ≠ 11 + 2 * k → w'.heap[b]? = w.heap[b]? := fun b h0 h1 h2 => hK.block b (h.lt b h0) (by
    rintro (e | e)
    · exact h1 (by rw [e, h.cf k hk])
    · exact h2 (h.cr k b hk e))
  have hlk := reach_lt h.ok hk
  have rr : ∀ j, Reach (M.put k f) j → Reach M j := fun j hj => hj
  have rvo : ∀ j, j ≠ k → upd p.rv k v j = p.rv j := fun j hj => upd_other _ _ hj
  refine ⟨?_, ?_⟩
  · exact {
      box := by
        have := (nbk p.d (by rw [h.cd]; decide) (by rw [h.cd]; omega) (by rw [h.cd]; omega)).trans h.box
        show Box w' 75 p.d #[_, _, .int .i64 ((M.files.set k f).length : Int), _, _, _, _, _]
        rw [List.length_set]
        exact this
      nm := h.nm.same (nbk _ (by rw [h.cn]; decide) (by rw [h.cn]; omega) (by rw [h.cn]; omega))
      sf := h.sf.same (nbk _ (by rw [h.cs]; decide) (by rw [h.cs]; omega) (by rw [h.cs]; omega))
      pl := h.pl.same (fun b hb => nbk b (by rw [h.cp b hb]; decide) (by rw [h.cp b hb]; omega) (by rw [h.cp b hb]; omega))
      ch := row_same h.ch (fun b hb => nbk b (by rw [h.cc b hb]; decide) (by rw [h.cc b hb]; omega) (by rw [h.cc b hb]; omega))
      fl := fun j g hr hfk => by
        have hfk' : (M.files.set k f)[j]? = some g := hfk
        by_cases hj : j = k
        · subst hj
          rw [List.getElem?_set_self hlk] at hfk'
          injection hfk' with hfk'
          subst hfk'
          refine ⟨?_, ?_⟩
          · show Box w' 109 (p.fb j) #[_, upd p.rv j v j, _]
            rw [upd_same]
            exact hb
          · show w'.ownsRow 0 5 1 (upd p.rv j v j) _ _
            rw [upd_same]
            exact hR
        · rw [List.getElem?_set_ne (Ne.symm hj)] at hfk'
          have hf := h.fl j g hr hfk'
          refine ⟨?_, ?_⟩
          · show Box w' 109 (p.fb j) #[_, upd p.rv k v j, _]
            rw [rvo j hj]
            exact (nbk _ (by rw [h.cf j hr]; omega) (by rw [h.cf j hr]; omega) (by rw [h.cf j hr]; omega)).trans hf.box
          · show w'.ownsRow 0 5 1 (upd p.rv k v j) _ _
            rw [rvo j hj]
            exact row_same hf.row (fun b hb => nbk b (by rw [h.cr j b hr hb]; omega) (by rw [h.cr j b hr hb]; omega) (by rw [h.cr j b hr hb]; omega))
      cd := by rw [show (p.put k v).d = p.d from rfl, hcl _ (by rw [h.cd]; decide) (by rw [h.cd]; omega)]; exact h.cd
      cn := by rw [show (p.put k v).bn = p.bn from rfl, hcl _ (by rw [h.cn]; decide) (by rw [h.cn]; omega)]; exact h.cn
      cs := by rw [show (p.put k v).bs = p.bs from rfl, hcl _ (by rw [h.cs]; decide) (by rw [h.cs]; omega)]; exact h.cs
      cp := fun b hb => by rw [hcl _ (by rw [h.cp b hb]; decide) (by rw [h.cp b hb]; omega)]; exact h.cp b hb
      cc := fun b hb => by rw [hcl _ (by rw [h.cc b hb]; decide) (by rw [h.cc b hb]; omega)]; exact h.cc b hb
      cf := fun j hr => by rw [show (p.put k v).fb = p.fb from rfl, hcl _ (by rw [h.cf j hr]; omega) (by rw [h.cf j hr]; omega)]; exact h.cf j hr
      cr := fun j b hr hb => by
        have hb' : (upd p.rv k v j).ownBlock = some b := hb
        by_cases hj : j = k
        · subst hj
          rw [upd_same] at hb'
          show (if v.ownBlock = some b then _ else _) = _
          rw [if_pos hb']
        · rw [rvo j hj] at hb'
          rw [hcl _ (by rw [h.cr j b hr hb']; omega) (by rw [h.cr j b hr hb']; omega)]
          exact h.cr j b hr hb'
      lt := fun b hb => by
        have hb' : (if v.ownBlock = some b then 11 + 2 * k else p.col b) ≠ 0 := hb
        by_cases e2 : v.ownBlock = some b
        · exact (row_ge hR e2).2
        · rw [if_neg e2] at hb'
          exact Nat.lt_of_lt_of_le (h.lt b hb') hK.size
      ok := h.ok.put hf hbd }
  · refine ⟨hK.mono (fun b hb => .inl ?_), rfl, fun b hl hb => ?_⟩
    · rcases hb with e | e
      · rw [e, h.cf k hk]; omega
      · rw [h.cr k b hk e]; omega
    · have hb' : (if v.ownBlock = some b then 11 + 2 * k else p.col b) ≠ 0 := hb
      by_cases e2 : v.ownBlock = some b
      · rcases hat b e2 with h1 | h1
        · rw [h.cr k b hk h1]; omega
        · omega
      · rw [if_neg e2] at hb'
        exact hb'
end Go.Proofs.Ytndjimdegkdljaa

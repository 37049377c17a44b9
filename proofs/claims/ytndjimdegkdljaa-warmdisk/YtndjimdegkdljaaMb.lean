import Derived.Test.YtndjimdegkdljaaF
/-
  A change that is not safe yet (change), a file found, a file made.
-/
namespace Go.Proofs.Ytndjimdegkdljaa
open Go.RowKit Go.MapKept
set_option linter.unusedVariables false
set_option linter.unusedSimpArgs false
attribute [local go_sem] Oper.semAt_some

theorem find_no {w : World} {p : Pl} {M : Md} (h : RP w p M) (s : Bs) (hl : s.length ≤ 9223372036854775807) (hs : okN s = false) :
    Calls Try.prog 56 #[pv p.d, sv s] w fun e w' => e = .returned (.tuple #[.pointer none, .int .i64 186]) ∧ w' = w := by
  have h79 := isName_79 s hl w
  rw [hs] at h79
  go_enter Try.func56, Try.ntmps56
  go_wp2_with (go_at_call 79; go_must (refine h79.mono ?_); rintro e w1 ⟨rfl, hw1⟩; have hw2 := hw1.symm; subst hw2)
  go_ret2
  exact ⟨rfl, rfl⟩
theorem find_none {w : World} {p : Pl} {M : Md} (h : RP w p M) (s : Bs) (hl : s.length ≤ 9223372036854775807) (hs : okN s = true) (hn : M.names s = none) :
    Calls Try.prog 56 #[pv p.d, sv s] w fun e w' => e = .returned (.tuple #[.pointer none, .int .i64 182]) ∧ w' = w := by
  have h79 := isName_79 s hl w
  rw [hs] at h79
  have c5 : w.cell? ⟨p.d, 5, none⟩ = some (.map (some p.bn)) := h.box.cell 5
  have lk := nm_look h.nm s
  rw [hn] at lk
  simp only [lkv] at lk
  clear h
  go_enter Try.func56, Try.ntmps56
  go_wp2_with (go_at_call 79; go_must (refine h79.mono ?_); rintro e w1 ⟨rfl, hw1⟩; have hw2 := hw1.symm; subst hw2)
  go_ret2
  exact ⟨rfl, rfl⟩
theorem find_some {w : World} {p : Pl} {M : Md} (h : RP w p M) (s : Bs) (hl : s.length ≤ 9223372036854775807) (hs : okN s = true) {k : Nat} (hn : M.names s = some k) :
    Calls Try.prog 56 #[pv p.d, sv s] w fun e w' => e = .returned (.tuple #[pv (p.fb k), .int .i64 0]) ∧ w' = w := by
  have h79 := isName_79 s hl w
  rw [hs] at h79
  have c5 : w.cell? ⟨p.d, 5, none⟩ = some (.map (some p.bn)) := h.box.cell 5
  have lk := nm_look h.nm s
  rw [hn] at lk
  simp only [lkv] at lk
  clear h
  go_enter Try.func56, Try.ntmps56
  go_wp2_with (go_at_call 79; go_must (refine h79.mono ?_); rintro e w1 ⟨rfl, hw1⟩; have hw2 := hw1.symm; subst hw2)
  go_ret2
  exact ⟨rfl, rfl⟩

theorem ty73 : ∃ ti, Ty 73 107 ti (.agg #[sv [], sv [], .pointer none]) 3 40 := by
  obtain ⟨ti, hi, he⟩ := Option.map_eq_some_iff.1 (show (Try.prog.info? 107).map (fun i => (i.zero, i.size, i.bytes)) = some (some (.agg #[sv [], sv [], .pointer none]), 3, 40) by kernel_rfl)
  simp only [Prod.mk.injEq] at he
  exact ⟨ti, Try.underlying73, hi, he.1, he.2.1, he.2.2, rfl, by decide, by decide⟩
theorem mdv_one (fb : Nat → Nat) (c : Ch) : (mdv fb c).oneCell' = true := by
  unfold mdv
  split <;> rfl

set_option maxRecDepth 100000 in
set_option maxHeartbeats 4000000 in
theorem change_57 {w : World} {d bn : Nat} {x0 x1 x2 x3 x4 x6 cv : Value} {fb : Nat → Nat} {m : NS} {n : Nat} {xs : List Value} (hb : Box w 75 d #[x0, x1, x2, x3, x4, .map (some bn), x6, cv])
    (hN : NmM w bn fb m) (hr : w.ownsRow 0 107 3 cv n xs) (hn : n ≤ 1000000) (n1 : d ≠ bn) (n2 : cv.ownBlock ≠ some d) (n3 : cv.ownBlock ≠ some bn)
    (c : Ch) (h0 : m [] = none) (h1 : c.fr = [] → c.nw ≠ []) (h2 : c.fr ≠ [] → m c.fr = some c.f) :
    Calls Try.prog 57 #[pv d, .agg #[sv c.fr, sv c.nw, mdv fb c]] w fun e w' => e = .returned (.tuple #[]) ∧ ∃ cv', Box w' 75 d #[x0, x1, x2, x3, x4, .map (some bn), x6, cv'] ∧ NmM w' bn fb (c.app m) ∧
      w'.ownsRow 0 107 3 cv' (n + 1) (xs ++ chL fb c) ∧ Kp (fun b => b = d ∨ b = bn ∨ cv.ownBlock = some b) w w' ∧ (∀ b, cv'.ownBlock = some b → cv.ownBlock = some b ∨ w.heap.size ≤ b) := by
  obtain ⟨mv, hmv⟩ : ∃ mv, mdv fb c = mv := ⟨_, rfl⟩
  have hm1 : mv.oneCell' = true := by rw [← hmv]; exact mdv_one fb c
  have g0 := gb_alloc (gb_refl w none) (.cells #[sv c.fr, sv c.nw, mv] 107)
  have h76 := fun (W : World) (gW : w.grownBy W none) => do_76 (hN.kept gW (by simp)) c h0 h1 h2
  have bb := Box.new w 107 #[sv c.fr, sv c.nw, mv]
  simp only [hmv] at h76 ⊢
  obtain ⟨fr, hfr⟩ : ∃ fr, c.fr = fr := ⟨_, rfl⟩
  obtain ⟨nw, hto⟩ : ∃ nw, c.nw = nw := ⟨_, rfl⟩
  simp only [hfr, hto] at h76 bb g0 ⊢
  have hb0 := hb.kept g0 (by simp)
  have hcs : chL fb c = [sv fr, sv nw, mv] := by simp only [chL, hmv, hfr, hto]
  try rw [hcs]
  have HH := Lib.hid (And.intro hcs (And.intro hmv (And.intro hfr hto)))
  clear hcs hmv hfr hto h0 h1 h2
  obtain ⟨W0, hW0⟩ : ∃ W, w.alloc (.cells #[sv fr, sv nw, mv] 107) = W := ⟨_, rfl⟩
  rw [hW0] at bb g0 hb0
  have hbl := hb.lt
  have hnl := hN.lt
  have c5 : W0.cell? ⟨d, 5, none⟩ = some (.map (some bn)) := hb0.cell 5
  have q0 : W0.cell? ⟨w.heap.size, 0, none⟩ = some (sv fr) := bb.cell 0
  have q1 : W0.cell? ⟨w.heap.size, 1, none⟩ = some (sv nw) := bb.cell 1
  have q2 : W0.cell? ⟨w.heap.size, 2, none⟩ = some mv := bb.cell 2
  go_enter Try.func57, Try.ntmps57
  go_upto_region 1 with fail
  go_region_held3 (fun W : World => W.cell? ⟨d, 5, none⟩ = some (.map (some bn)) ∧ W.cell? ⟨w.heap.size, 0, none⟩ = some (sv fr) ∧ W.cell? ⟨w.heap.size, 1, none⟩ = some (sv nw) ∧ W.cell? ⟨w.heap.size, 2, none⟩ = some mv) (go_keep) ((go_at_call 76; go_must ((with_reducible refine (h76 _ (gb_drew g0)).mono ?_); rintro y w9 ⟨rfl, hN9, g9⟩; (have G9 : W0.grownBy w9 (some bn) := gb_trans (gb_drew (gb_refl _ _)) g9); (have t5 := gb_cell G9 c5 (by simp; omega)); (have t0 := gb_cell G9 q0 (by simp; omega)); (have t1 := gb_cell G9 q1 (by simp; omega)); (have t2 := gb_cell G9 q2 (by simp; omega)))))
  obtain ⟨t73, T73⟩ := ty73
  have hr9 := row_kept (row_kept hr g0 (by simp)) G9 (fun k hk e => n3 (by rw [hk, e]))
  have b9 := hb0.kept G9 (by simp; omega)
  have t7 : w9.cell? ⟨d, 7, none⟩ = some cv := b9.cell 7
  have t7a := fun o => gb_cellN (World.grownBy_alloc w9 o none) t7
  have hu1 : ∀ u ∈ [sv fr, sv nw, mv], u.oneCell' = true := by
    intro u hu
    simp only [List.mem_cons, List.not_mem_nil, or_false] at hu
    rcases hu with rfl | rfl | rfl
    · rfl
    · rfl
    · exact hm1
  have g90 : w9.heap.size ≤ (w9.alloc (.cells [sv fr, sv nw, mv].toArray 107)).heap.size := by simp
  clear h76 c5 q0 q1 q2
  go_wp2_with fail
  go_region_law (refine step_push T73 (w5 := w9.drew) (by rfl) (.tmp 14) (.tmp 16) (by rfl) 0 cv n xs (by rfl) [sv fr, sv nw, mv] rfl hu1 (by rfl) hr9 (by rfl) (by omega) (Nat.zero_le _) ?_; intro g7 c7 w7 hown7 hg7 hat7; have b7 := Box.kept (w := w9.drew) b9 hg7 (fun e => n2 e.symm); have s7 : w7.cell? ⟨d, 7, none⟩ = some cv := b7.cell 7; have f7 : w7.frozen? ⟨d, 7, none⟩ = false := b7.fz 7)
  all_goals
    go_wp2
    go_end0
    have gs := (gb_trans (gb_none (some bn) g0) G9).size
    have gd : w7.grownBy (w7.setCell ⟨d, 7, none⟩ (.slice (some ⟨g7, 0, none⟩) (n + 1) c7)) (some d) := gb_setCell (gb_refl _ _) _
    have hgd : g7 ≠ d := by
      rcases hat7 with h | h
      · exact fun e => n2 (by rw [h, e])
      · have : w9.heap.size ≤ g7 := h
        omega
    refine ⟨rfl, .slice (some ⟨g7, 0, none⟩) (n + 1) c7, b7.set 7 _, (NmM.kept (w := w9.drew) hN9 hg7 (fun e => n3 e.symm)).kept gd (by simp; omega), row_kept hown7 gd (fun k hk e => hgd (by simp [Value.ownBlock] at hk; rw [hk]; exact Option.some.inj e)), ?_, ?_⟩
    · have k1 : Kp (fun b => b = d ∨ b = bn ∨ cv.ownBlock = some b) w w9 := ((Kp.of g0).step G9 (fun i hi => .inl (.inr (.inl (Option.some.inj hi).symm))))
      have k2 : Kp (fun b => b = d ∨ b = bn ∨ cv.ownBlock = some b) w w7 := k1.step (gb_trans (gb_drew (gb_refl w9 _)) hg7) (fun i hi => .inl (.inr (.inr hi)))
      exact k2.step gd (fun i hi => .inl (.inl (Option.some.inj hi).symm))
    · intro b hb
      simp only [Value.ownBlock, Option.some.injEq] at hb
      subst hb
      exact hat7.imp id (fun h => Nat.le_trans gs h)
end Go.Proofs.Ytndjimdegkdljaa
/-
  A file made (create), taken away, made safe.
-/
namespace Go.Proofs.Ytndjimdegkdljaa
open Go.RowKit Go.MapKept
set_option linter.unusedVariables false
set_option linter.unusedSimpArgs false
attribute [local go_sem] Oper.semAt_some

def Md.create (M : Md) (s : Bs) : Md := { M with files := M.files ++ [([], 0)], ch := M.ch ++ [⟨[], s, M.files.length⟩] }
theorem Md.Ok.create {M : Md} (h : M.Ok) {s : Bs} (hs : okN s = true) (hf : M.files.length < M.acts) (hc : M.ch.length < M.acts) : (M.create s).Ok where
  s0 := h.s0
  s1 := h.s1
  sf := fun t k ht => by
    have := h.sf t k ht
    refine ⟨?_, this.2⟩
    show k < (M.files ++ [([], 0)]).length
    rw [List.length_append]
    omega
  cf := fun c hc => by
    rcases List.mem_append.1 hc with hc | hc
    · have := h.cf c hc
      refine ⟨?_, this.2⟩
      show c.f < (M.files ++ [([], 0)]).length
      rw [List.length_append]
      omega
    · rw [List.mem_singleton.1 hc]
      simp only [okN, Bool.and_eq_true, decide_eq_true_eq] at hs
      refine ⟨?_, fun _ => ?_, hs.2, by simp⟩
      · show M.files.length < (M.files ++ [([], 0)]).length
        rw [List.length_append]
        simp
      · intro e
        have e' : s = [] := e
        rw [e'] at hs
        simp at hs
  cs := fun j c hj hfr => by
    have hj' : (M.ch ++ [(⟨[], s, M.files.length⟩ : Ch)])[j]? = some c := hj
    rcases Nat.lt_or_ge j M.ch.length with hl | hl
    · rw [List.getElem?_append_left hl] at hj'
      show after M.safe ((M.ch ++ [(⟨[], s, M.files.length⟩ : Ch)]).take j) c.fr = _
      rw [List.take_append_of_le_length (by omega)]
      exact h.cs j c hj' hfr
    · rw [List.getElem?_append_right hl] at hj'
      have : j - M.ch.length = 0 := by
        have := (List.getElem?_eq_some_iff.1 hj').1
        simp at this
        omega
      rw [this] at hj'
      simp at hj'
      rw [← hj'] at hfr
      exact absurd rfl hfr
  fl := fun f hf => by
    rcases List.mem_append.1 hf with hf | hf
    · exact h.fl f hf
    · rw [List.mem_singleton.1 hf]; simp
  nf := by
    show (M.files ++ [([], 0)]).length ≤ M.acts
    rw [List.length_append]
    simp
    omega
  nc := by
    show (M.ch ++ [_]).length ≤ M.acts
    rw [List.length_append]
    simp
    omega
  na := h.na
  nb := fun f hf => by
    rcases List.mem_append.1 hf with hf | hf
    · exact h.nb f hf
    · rw [List.mem_singleton.1 hf]; simp
theorem create_names (M : Md) (s : Bs) : (M.create s).names = (⟨[], s, M.files.length⟩ : Ch).app M.names := after_snoc _ _ _
theorem create_reach {M : Md} {s : Bs} {k : Nat} (h : Reach (M.create s) k) : Reach M k ∨ k = M.files.length := by
  rcases h with ⟨t, h⟩ | ⟨c, hc, rfl⟩
  · exact .inl (.inl ⟨t, h⟩)
  · rcases List.mem_append.1 hc with hc | hc
    · exact .inl (.inr ⟨c, hc, rfl⟩)
    · rw [List.mem_singleton.1 hc]; exact .inr rfl
def Pl.create (p : Pl) (n g : Nat) (cv : Value) : Pl :=
  { p with fb := upd p.fb n g, rv := upd p.rv n (.slice none 0 0), cv := cv, col := fun b => if b = g then 10 + 2 * n else if cv.ownBlock = some b then 5 else p.col b }
theorem chL_upd {fb : Nat → Nat} {n g : Nat} {l : List Ch} (h : ∀ c ∈ l, c.f < n) : l.flatMap (chL (upd fb n g)) = l.flatMap (chL fb) := by
  induction l with
  | nil => rfl
  | cons c l ih =>
    have := h c (by simp)
    rw [List.flatMap_cons, List.flatMap_cons, ih (fun x hx => h x (List.mem_cons_of_mem _ hx))]
    simp only [chL, mdv, upd_other fb g (show c.f ≠ n by omega)]
theorem RP.made {w w' : World} {p : Pl} {M : Md} {s : Bs} {cv : Value} (h : RP w p M) (hs : okN s = true) (hf : M.files.length < M.acts) (hc : M.ch.length < M.acts)
    (hb : Box w' 75 p.d (dkA (p.create M.files.length w.heap.size cv) (M.create s))) (hN : NmM w' p.bn (upd p.fb M.files.length w.heap.size) ((⟨[], s, M.files.length⟩ : Ch).app M.names))
    (hR : w'.ownsRow 0 107 3 cv (M.ch.length + 1) (M.ch.flatMap (chL (upd p.fb M.files.length w.heap.size)) ++ chL (upd p.fb M.files.length w.heap.size) ⟨[], s, M.files.length⟩))
    (hK : Kp (fun b => b = p.d ∨ b = p.bn ∨ p.cv.ownBlock = some b) w w') (hg : Box w' 109 w.heap.size #[.int .i64 (M.files.length : Int), .slice none 0 0, .int .i64 0])
    (hat : ∀ b, cv.ownBlock = some b → p.cv.ownBlock = some b ∨ w.heap.size < b) :
    RP w' (p.create M.files.length w.heap.size cv) (M.create s) ∧ Aft w w' p (p.create M.files.length w.heap.size cv) := by
  have hcol : ∀ b, b < w.heap.size → p.cv.ownBlock ≠ some b → (p.create M.files.length w.heap.size cv).col b = p.col b := fun b hb hn => by
    show (if b = w.heap.size then _ else if cv.ownBlock = some b then 5 else p.col b) = _
    rw [if_neg (by omega), if_neg (fun e => by rcases hat b e with h1 | h1; exact hn h1; omega)]
  have ncv : ∀ b, p.col b ≠ 5 → p.cv.ownBlock ≠ some b := fun b hb e => hb (h.cc b e)
  have nbk : ∀ b, p.col b ≠ 0 → p.col b ≠ 1 → p.col b ≠ 2 → p.col b ≠ 5 → w'.heap[b]? = w.heap[b]? := fun b h0 h1 h2 h5 => hK.block b (h.lt b h0) (by
    rintro (e | e | e)
    · exact h1 (by rw [e, h.cd])
    · exact h2 (by rw [e, h.cn])
    · exact h5 (h.cc b e))
  have hlt : ∀ k, Reach M k → k ≠ M.files.length := fun k hk => by have := reach_lt h.ok hk; omega
  have fbo : ∀ k, Reach M k → upd p.fb M.files.length w.heap.size k = p.fb k := fun k hk => upd_other _ _ (hlt k hk)
  have rvo : ∀ k, Reach M k → upd p.rv M.files.length (.slice none 0 0) k = p.rv k := fun k hk => upd_other _ _ (hlt k hk)
  have hsz := hK.size
  refine ⟨?_, ?_⟩
  · exact {
      box := hb
      nm := by rw [create_names]; exact hN
      sf := (h.sf.same (nbk _ (by rw [h.cs]; decide) (by rw [h.cs]; decide) (by rw [h.cs]; decide) (by rw [h.cs]; decide))).fb (fun s k hk => fbo k (.inl ⟨s, hk⟩))
      pl := h.pl.same (fun b hb => nbk b (by rw [h.cp b hb]; decide) (by rw [h.cp b hb]; decide) (by rw [h.cp b hb]; decide) (by rw [h.cp b hb]; decide))
      ch := by
        show w'.ownsRow 0 107 3 cv (M.ch ++ [_]).length ((M.ch ++ [_]).flatMap _)
        rw [List.length_append, List.flatMap_append, List.flatMap_singleton]
        exact hR
      fl := fun k f hr hfk => by
        rcases create_reach hr with hr | rfl
        · have hk := reach_lt h.ok hr
          have hfk' : M.files[k]? = some f := by
            have : (M.files ++ [([], 0)])[k]? = some f := hfk
            rwa [List.getElem?_append_left hk] at this
          have hf := h.fl k f hr hfk'
          refine ⟨?_, ?_⟩
          · show Box w' 109 (upd p.fb _ _ k) #[_, upd p.rv _ _ k, _]
            rw [fbo k hr, rvo k hr]
            exact (nbk _ (by rw [h.cf k hr]; omega) (by rw [h.cf k hr]; omega) (by rw [h.cf k hr]; omega) (by rw [h.cf k hr]; omega)).trans hf.box
          · show w'.ownsRow 0 5 1 (upd p.rv _ _ k) _ _
            rw [rvo k hr]
            exact row_same hf.row (fun b hb => nbk b (by rw [h.cr k b hr hb]; omega) (by rw [h.cr k b hr hb]; omega) (by rw [h.cr k b hr hb]; omega) (by rw [h.cr k b hr hb]; omega))
        · have : (M.files ++ [([], 0)])[M.files.length]? = some f := hfk
          simp at this
          subst this
          refine ⟨?_, ?_⟩
          · show Box w' 109 (upd p.fb _ _ _) #[_, upd p.rv _ _ _, _]
            rw [upd_same, upd_same]
            exact hg
          · show w'.ownsRow 0 5 1 (upd p.rv _ _ _) _ _
            rw [upd_same]
            exact World.ownsRow_nil _ _ _ _
      cd := by rw [show (p.create M.files.length w.heap.size cv).d = p.d from rfl, hcol _ (h.lt _ (by rw [h.cd]; decide)) (ncv _ (by rw [h.cd]; decide))]; exact h.cd
      cn := by rw [show (p.create M.files.length w.heap.size cv).bn = p.bn from rfl, hcol _ (h.lt _ (by rw [h.cn]; decide)) (ncv _ (by rw [h.cn]; decide))]; exact h.cn
      cs := by rw [show (p.create M.files.length w.heap.size cv).bs = p.bs from rfl, hcol _ (h.lt _ (by rw [h.cs]; decide)) (ncv _ (by rw [h.cs]; decide))]; exact h.cs
      cp := fun b hb => by rw [hcol _ (h.lt _ (by rw [h.cp b hb]; decide)) (ncv _ (by rw [h.cp b hb]; decide))]; exact h.cp b hb
      cc := fun b hb => by
        show (if b = w.heap.size then _ else if cv.ownBlock = some b then 5 else p.col b) = 5
        have hb' : cv.ownBlock = some b := hb
        rw [if_neg (fun e => by
          rcases hat b hb' with h1 | h1
          · have := h.lt b (by rw [h.cc b h1]; decide); omega
          · omega), if_pos hb']
      cf := fun k hr => by
        show (p.create M.files.length w.heap.size cv).col (upd p.fb M.files.length w.heap.size k) = _
        rcases create_reach hr with hr | rfl
        · have := hcol (p.fb k) (h.lt _ (by rw [h.cf k hr]; omega)) (ncv _ (by rw [h.cf k hr]; omega))
          rw [fbo k hr]
          exact this.trans (h.cf k hr)
        · rw [upd_same]
          show (if w.heap.size = w.heap.size then _ else _) = _
          rw [if_pos rfl]
      cr := fun k b hr hb => by
        have hb' : (upd p.rv M.files.length (.slice none 0 0) k).ownBlock = some b := hb
        rcases create_reach hr with hr | rfl
        · rw [rvo k hr] at hb'
          rw [hcol _ (h.lt _ (by rw [h.cr k b hr hb']; omega)) (ncv _ (by rw [h.cr k b hr hb']; omega))]
          exact h.cr k b hr hb'
        · rw [upd_same] at hb'
          simp [Value.ownBlock] at hb'
      lt := fun b hb => by
        have hb' : (if b = w.heap.size then 10 + 2 * M.files.length else if cv.ownBlock = some b then 5 else p.col b) ≠ 0 := hb
        by_cases e : b = w.heap.size
        · rw [e]; exact hg.lt
        · rw [if_neg e] at hb'
          by_cases e2 : cv.ownBlock = some b
          · exact (row_ge hR e2).2
          · rw [if_neg e2] at hb'
            exact Nat.lt_of_lt_of_le (h.lt b hb') hsz
      ok := h.ok.create hs hf hc }
  · refine ⟨hK.mono (fun b hb => .inl ?_), rfl, fun b hl hb => ?_⟩
    · rcases hb with e | e | e
      · rw [e, h.cd]; decide
      · rw [e, h.cn]; decide
      · rw [h.cc b e]; decide
    · have hb' : (if b = w.heap.size then 10 + 2 * M.files.length else if cv.ownBlock = some b then 5 else p.col b) ≠ 0 := hb
      rw [if_neg (by omega)] at hb'
      by_cases e2 : cv.ownBlock = some b
      · rcases hat b e2 with h1 | h1
        · rw [h.cc b h1]; decide
        · omega
      · rw [if_neg e2] at hb'
        exact hb'

theorem create_bad {w : World} {p : Pl} {M : Md} (h : RP w p M) (s : Bs) (hl : s.length ≤ 9223372036854775807) (hs : okN s = false) :
    Calls Try.prog 53 #[pv p.d, sv s] w fun e w' => e = .returned (.int .i64 186) ∧ w' = w := by
  have h79 := isName_79 s hl w
  rw [hs] at h79
  go_enter Try.func53, Try.ntmps53
  go_wp2_with (go_at_call 79; go_must (refine h79.mono ?_); rintro e w1 ⟨rfl, hw1⟩; have hw2 := hw1.symm; subst hw2)
  go_ret
  exact ⟨rfl, rfl⟩
theorem create_there {w : World} {p : Pl} {M : Md} (h : RP w p M) (s : Bs) (hl : s.length ≤ 9223372036854775807) (hs : okN s = true) {k : Nat} (hn : M.names s = some k) :
    Calls Try.prog 53 #[pv p.d, sv s] w fun e w' => e = .returned (.int .i64 183) ∧ w' = w := by
  have h79 := isName_79 s hl w
  rw [hs] at h79
  have c5 : w.cell? ⟨p.d, 5, none⟩ = some (.map (some p.bn)) := h.box.cell 5
  have lk := nm_look h.nm s
  rw [hn] at lk
  simp only [lkv] at lk
  clear h
  go_enter Try.func53, Try.ntmps53
  go_wp2_with (go_at_call 79; go_must (refine h79.mono ?_); rintro e w1 ⟨rfl, hw1⟩; have hw2 := hw1.symm; subst hw2)
  go_ret
  exact ⟨rfl, rfl⟩
set_option maxRecDepth 100000 in
set_option maxHeartbeats 4000000 in
theorem create_new {w : World} {p : Pl} {M : Md} (h : RP w p M) (s : Bs) (hs : okN s = true) (hn : M.names s = none) (hf : M.files.length < M.acts) (hc : M.ch.length < M.acts) :
    Calls Try.prog 53 #[pv p.d, sv s] w fun e w' => e = .returned (.int .i64 0) ∧ ∃ p', RP w' p' (M.create s) ∧ Aft w w' p p' := by
  have hl : 1 ≤ s.length ∧ s.length ≤ 32 := by simpa [okN] using hs
  have h79 := isName_79 s (by omega) w
  rw [hs] at h79
  have hna := h.ok.na
  have c5 : w.cell? ⟨p.d, 5, none⟩ = some (.map (some p.bn)) := h.box.cell 5
  have c2 : w.cell? ⟨p.d, 2, none⟩ = some (.int .i64 (M.files.length : Int)) := h.box.cell 2
  have lk := nm_look h.nm s
  rw [hn] at lk
  simp only [lkv] at lk
  obtain ⟨n, hN⟩ : ∃ n, M.files.length = n := ⟨_, rfl⟩
  have g0 := gb_alloc (gb_refl w none) (.cells #[.int .i64 (n : Int), .slice none 0 0, .int .i64 0] 109)
  have hb := h.box.kept g0 (by simp)
  have hcf : ∀ c ∈ M.ch, c.f < n := fun c hc => by rw [← hN]; exact (h.ok.cf c hc).1
  have hfbo : ∀ t k, M.names t = some k → upd p.fb n w.heap.size k = p.fb k := fun t k hk => upd_other _ _ (by have := reach_lt h.ok (Md.names_reach hk); omega)
  have hmd : mdv (upd p.fb n w.heap.size) ⟨[], s, n⟩ = pv w.heap.size := by simp [mdv, upd_same]
  have h57 := change_57 (fb := upd p.fb n w.heap.size) hb ((h.nm.kept g0 (by simp)).fb hfbo) (row_kept h.ch g0 (by simp)) (by have := h.ok.nc; omega)
    (fun e => by have := h.cd; rw [e, h.cn] at this; omega) (fun e => by have := h.cc _ e; rw [h.cd] at this; omega) (fun e => by have := h.cc _ e; rw [h.cn] at this; omega)
    ⟨[], s, n⟩ h.ok.nempty (fun _ e => by have e' : s = [] := e; rw [e'] at hl; simp at hl) (fun e => absurd rfl e)
  rw [hmd] at h57
  have hgf : Box (w.alloc (.cells #[.int .i64 (n : Int), .slice none 0 0, .int .i64 0] 109)) 109 w.heap.size #[.int .i64 (n : Int), .slice none 0 0, .int .i64 0] := Box.new _ _ _
  rw [hN] at c2 hf h57
  have HR := Lib.hid h
  have HK := Lib.hid hgf
  have HM := Lib.hid (And.intro hN hcf)
  have G0 := Lib.hid g0
  clear h hgf hN hcf hfbo hmd hb g0
  go_enter Try.func53, Try.ntmps53
  go_upto_region 6 with (first
    | (go_at_call 79; go_must (refine h79.mono ?_); rintro e w1 ⟨rfl, hw1⟩; have hw2 := hw1.symm; subst hw2)
    | (go_at_call 57; go_must (refine h57.mono ?_); rintro e w6 ⟨rfl, cv, b6, N6, R6, K6, at6⟩))
  have s2 : w6.cell? ⟨p.d, 2, none⟩ = some (.int .i64 (n : Int)) := b6.cell 2
  have f2 : w6.frozen? ⟨p.d, 2, none⟩ = false := b6.fz 2
  have hw1 : IntKind.i64.wrap ((n : Int) + 1) = (n : Int) + 1 := by rw [IntKind.wrap_i64]; omega
  have HF := Lib.hid (And.intro b6 (And.intro N6 (And.intro R6 (And.intro K6 at6))))
  clear b6 N6 R6 K6 at6 h57 h79 lk c5 c2
  go_wp2
  go_ret
  obtain ⟨b6, N6, R6, K6, at6⟩ := HF.out
  obtain ⟨hN, hcf⟩ := HM.out
  subst hN
  have h := HR.out
  have gd : w6.grownBy (w6.setCell ⟨p.d, 2, none⟩ (.int .i64 ((M.files.length : Int) + 1))) (some p.d) := gb_setCell (gb_refl _ _) _
  have hpl := h.lt p.d (by rw [h.cd]; decide)
  have hat : ∀ b, cv.ownBlock = some b → p.cv.ownBlock = some b ∨ w.heap.size < b := fun b hb => (at6 b hb).imp id (fun h => by simp at h; omega)
  have ncd : ∀ k, cv.ownBlock = some k → k ≠ p.d := fun k hk e => by
    rcases hat k hk with h1 | h1
    · have := h.cc k h1; rw [e, h.cd] at this; omega
    · omega
  have hbox : Box (w6.setCell ⟨p.d, 2, none⟩ (.int .i64 ((M.files.length : Int) + 1))) 75 p.d (dkA (p.create M.files.length w.heap.size cv) (M.create s)) := by
    have := b6.set 2 (.int .i64 ((M.files.length : Int) + 1))
    have e : ((M.create s).files.length : Int) = (M.files.length : Int) + 1 := by
      show (((M.files ++ [([], 0)]).length : Nat) : Int) = _
      rw [List.length_append]
      simp
    show Box _ 75 p.d #[_, _, .int .i64 ((M.create s).files.length : Int), _, _, _, _, _]
    rw [e]
    exact this
  have hgb : Box (w6.setCell ⟨p.d, 2, none⟩ (.int .i64 ((M.files.length : Int) + 1))) 109 w.heap.size #[.int .i64 (M.files.length : Int), .slice none 0 0, .int .i64 0] :=
    (K6.box HK.out (by
      rintro (e | e | e)
      · omega
      · have := h.nm.lt; omega
      · have := h.lt _ (show p.col w.heap.size ≠ 0 by rw [h.cc _ e]; decide); omega)).kept gd (by simp; omega)
  have hKp : Kp (fun b => b = p.d ∨ b = p.bn ∨ p.cv.ownBlock = some b) w (w6.setCell ⟨p.d, 2, none⟩ (.int .i64 ((M.files.length : Int) + 1))) :=
    ((Kp.of (F := fun _ => False) G0.out).trans K6 (fun _ h => h.elim) (fun i hi => .inl hi)).step gd (fun i hi => .inl (.inl (Option.some.inj hi).symm))
  have nbd : some p.bn ≠ some p.d := fun e => by have := h.cn; rw [Option.some.inj e, h.cd] at this; omega
  have := h.made hs hf hc hbox (N6.kept gd nbd) (by rw [chL_upd hcf]; exact row_kept R6 gd (fun k hk e => ncd k hk (Option.some.inj e))) hKp hgb hat
  exact ⟨rfl, _, this⟩
end Go.Proofs.Ytndjimdegkdljaa

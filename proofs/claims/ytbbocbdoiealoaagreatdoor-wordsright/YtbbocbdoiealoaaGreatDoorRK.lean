import Derived.Test.YtbbocbdoiealoaaGreatDoorRJ
set_option linter.unusedVariables false
set_option linter.unusedSimpArgs false
namespace Go.Proofs.YtbbocbdoiealoaaGreatDoor
open Go.RowKit Go.Shelf
attribute [local go_sem] Oper.semAt_some
def prt : Bs → Bs → List Bs
  | cur, [] => [cur]
  | cur, b :: t => if b = 32 then cur :: prt [] t else prt (cur ++ [b]) t
theorem spl_prt : ∀ (l cur : Bs), spl cur l = (prt cur l).filter (fun x => decide (x ≠ []))
  | [], cur => by
    simp only [spl, prt]
    by_cases h : cur = []
    · simp [h]
    · simp [h]
  | b :: t, cur => by
    simp only [spl, prt]
    by_cases hb : b = 32
    · simp only [hb, if_true]
      by_cases h : cur = []
      · simp [h, spl_prt t]
      · simp [h, spl_prt t]
    · simp only [hb, if_false]; exact spl_prt t _
theorem prt_none : ∀ (l cur : Bs), Lib.indexByte l 32 = -1 → prt cur l = [cur ++ l]
  | [], cur, _ => by simp [prt]
  | b :: t, cur, h => by
    simp only [Lib.indexByte] at h
    by_cases hb : b = 32
    · simp [hb] at h
    · have h2 := Lib.indexByte_ge t 32
      simp only [beq_iff_eq, hb, if_false] at h
      split at h
      · rename_i h3
        simp only [prt, hb, if_false]
        rw [prt_none t _ h3]; simp
      · rename_i h3; omega
theorem prt_some : ∀ (l cur : Bs) (i : Nat), Lib.indexByte l 32 = (i : Int) → i < l.length ∧ prt cur l = (cur ++ l.take i) :: prt [] (l.drop (i + 1))
  | [], cur, i, h => by simp [Lib.indexByte] at h
  | b :: t, cur, i, h => by
    simp only [Lib.indexByte] at h
    by_cases hb : b = 32
    · simp [hb] at h
      subst hb
      have : i = 0 := by omega
      subst this
      simp [prt]
    · have h2 := Lib.indexByte_ge t 32
      simp only [beq_iff_eq, hb, if_false] at h
      split at h
      · omega
      · rename_i h3
        obtain ⟨j, hj⟩ : ∃ j : Nat, Lib.indexByte t 32 = (j : Int) := ⟨(Lib.indexByte t 32).toNat, by omega⟩
        obtain ⟨h4, h5⟩ := prt_some t (cur ++ [b]) j hj
        have : i = j + 1 := by omega
        subst this
        simp only [prt, hb, if_false]
        exact ⟨by simp; omega, by rw [h5]; simp⟩
theorem ext_take (l : Bs) (i : Nat) : (ByteArray.mk l.toArray).extract 0 i = ⟨(l.take i).toArray⟩ := by
  apply ByteArray.ext
  simp [ByteArray.data_extract]
theorem ext_drop (l : Bs) (i : Nat) : (ByteArray.mk l.toArray).extract i l.length = ⟨(l.drop i).toArray⟩ := by
  apply ByteArray.ext
  simp only [ByteArray.data_extract, List.extract_toArray, List.extract_eq_take_drop]
  rw [List.take_of_length_le (by simp)]
set_option maxRecDepth 100000 in
set_option maxHeartbeats 4000000 in
theorem index_83 (l : Bs) (w : World) :
    Calls Tryz.prog 205 #[sv l, .string ⟨#[32]⟩] w fun e w' => e = .returned (.int .i64 (Lib.indexByte l 32)) ∧ w' = w := by
  have h41 := fun W => indexB_41 ⟨l.toArray⟩ 32 W
  go_enter Tryz.func205, Tryz.ntmps205
  go_wp2_with (go_at_call 159; refine (h41 _).mono ?_; rintro e w' ⟨rfl, rfl⟩)
  · rename_i h
    have e : l = [32] := (beq_iff_eq.1 h).symm
    subst e
    go_ret
    exact ⟨rfl, rfl⟩
  · go_ret
    exact ⟨rfl, rfl⟩
set_option maxRecDepth 100000 in
set_option maxHeartbeats 4000000 in
theorem index_69 (l : Bs) (w : World) :
    Calls Tryz.prog 196 #[sv l, .string ⟨#[32]⟩] w fun e w' => e = .returned (.int .i64 (Lib.indexByte l 32)) ∧ w' = w := by
  go_enter Tryz.func196, Tryz.ntmps196
  go_wp2_with (go_at_call 205; with_reducible refine (index_83 _ _).mono ?_; rintro e w' ⟨rfl, rfl⟩)
  go_ret
  exact ⟨rfl, rfl⟩
set_option maxRecDepth 100000 in
set_option maxHeartbeats 4000000 in
theorem split_40 (l : Bs) (w : World) :
    Calls Tryz.prog 164 #[sv l, .string ⟨#[32]⟩] w fun e w' => e = .returned (.func (.func 194) #[] #[.pointer (some ⟨w.heap.size + 1, 0, none⟩), .pointer (some ⟨w.heap.size, 0, none⟩), .pointer (some ⟨w.heap.size + 1 + 1, 0, none⟩)]) ∧ w' = ((w.alloc (.cells #[sv l] 9)).alloc (.cells #[.string ⟨#[32]⟩] 9)).alloc (.cells #[.int .i64 0] 3) := by
  have hmf : ∀ (fn : Fn) (first cap : Array Value) (w : World), (Instr.makeFunc fn first cap).run Tryz.prog w = .ok (.func fn first cap) w := fun _ _ _ _ => rfl
  go_enter Tryz.func164, Tryz.ntmps164
  go_wp2
  go_ret
  exact ⟨rfl, rfl⟩
def slen (w : World) (b : Nat) : Nat := match w.cell? ⟨b, 0, none⟩ with | some (.string s) => s.size | _ => 0
def Xt (sb : Nat) (W W' : World) : Prop := W' = W ∨ ∃ v, W' = W.setCell ⟨sb, 0, none⟩ v
def Kx (sb pb vb : Nat) (W W' : World) : Prop := ∀ k, k = sb ∨ k = pb ∨ k = vb → W'.heap[k]? = W.heap[k]?
theorem Kx.trans {sb pb vb : Nat} {A B C : World} (h : Kx sb pb vb A B) (k : Kx sb pb vb B C) : Kx sb pb vb A C := fun i hi => (k i hi).trans (h i hi)
theorem Kx.box {sb pb vb : Nat} {A B : World} (h : Kx sb pb vb A B) {t b : Nat} {vs : Array Value} (hb : Box A t b vs) (hk : b = sb ∨ b = pb ∨ b = vb) : Box B t b vs := (h b hk).trans hb
set_option maxRecDepth 100000 in
set_option maxHeartbeats 4000000 in
theorem split_in (n N : Nat) (hn : 1 ≤ n) (l sb pb vb : Nat) (l0 : Bs) (hN : (prt [] l0).length ≤ N) (hl0 : l0.length ≤ 1099511627776) (hsp : sb ≠ pb) (hsv : sb ≠ vb) (J : List Bs → World → Prop) (hJX : ∀ pre W W', J pre W → Xt sb W W' → J pre W')
    (hY : ∀ pre x W1, J pre W1 → pre.length < N → YieldAt Fence.wide (n - 1) Tryz.prog l #[sv x] W1 fun e W' => e = .returned (.bool true) ∧ J (pre ++ [x]) W' ∧ Kx sb pb vb W1 W')
    (W : World) (b1 : Box W 9 sb #[sv l0]) (b2 : Box W 9 pb #[.string ⟨#[32]⟩]) (b3 : Box W 3 vb #[.int .i64 0]) (h0 : J [] W) :
    CallsIn Fence.wide n Tryz.prog 194 #[.func (.yield l) #[] #[], .pointer (some ⟨pb, 0, none⟩), .pointer (some ⟨sb, 0, none⟩), .pointer (some ⟨vb, 0, none⟩)] W fun e W' => (∃ v, e = .returned v) ∧ ∃ xs, xs = prt [] l0 ∧ J xs W' := by
  refine callsIn_of_wp Tryz.func194 rfl trivial ?_ rfl
  simp only [Tryz.ntmps194, List.size_toArray, List.length_cons, List.length_nil, Nat.reduceAdd, Nat.reduceSub, Array.replicate_succ, Array.replicate_zero, List.push_toArray, List.append_toArray, List.nil_append, List.cons_append]
  have p2 := b2.cell 0
  rw [show (#[Value.string ⟨#[32]⟩] : Array Value)[0]? = some (.string ⟨#[32]⟩) from rfl] at p2
  gi_wp2
  gi_loopw [7] (fun _ wr => ∃ (r : Bs) (ys : List Bs), r.length ≤ 1099511627776 ∧ Box wr 9 sb #[sv r] ∧ Box wr 9 pb #[.string ⟨#[32]⟩] ∧ Box wr 3 vb #[.int .i64 0] ∧ ys ++ prt [] r = prt [] l0 ∧ J ys wr) (fun _ wr => slen wr sb)
  case atStart => exact ⟨l0, [], hl0, b1, b2, b3, rfl, h0⟩
  case round =>
    obtain ⟨r, ys, hr, d1, d2, d3, hE, hJ⟩ := hrel
    have q1 : wr.cell? ⟨sb, 0, none⟩ = some (sv r) := d1.cell 0
    have q2 : wr.cell? ⟨pb, 0, none⟩ = some (.string ⟨#[32]⟩) := d2.cell 0
    have q3 : wr.cell? ⟨vb, 0, none⟩ = some (.int .i64 0) := d3.cell 0
    have h69 := fun W => index_69 r W
    have hge := Lib.indexByte_ge r 32
    rcases (by omega : Lib.indexByte r 32 = -1 ∨ 0 ≤ Lib.indexByte r 32) with hi | hi
    · rw [hi] at h69
      have HE : Hid (ys ++ [r] = prt [] l0) := by
        show _ = _
        rw [← hE, prt_none r [] hi]; rfl
      obtain ⟨fn, tmps, assign, body, hy, hR⟩ := hY ys r wr hJ (by have h1 := congrArg List.length HE.out; simp at h1; omega)
      clear hE hi hge hY
      gi_wp2_with (refine ⟨trivial, ?_⟩; gi_at_call 196; refine (callsIn_wide.2 (h69 _)).mono ?_; rintro e w5 ⟨rfl, rfl⟩)
      refine hR.mono ?_
      rintro e W3 ⟨rfl, hJ3, hk3⟩
      gi_wp2
      go_end0
      exact ⟨⟨_, rfl⟩, _, HE.out, hJ3⟩
    · obtain ⟨i, hii⟩ : ∃ i : Nat, Lib.indexByte r 32 = (i : Int) := ⟨(Lib.indexByte r 32).toNat, by omega⟩
      rw [hii] at h69
      obtain ⟨hil, hpp⟩ := prt_some r [] i hii
      rw [List.nil_append] at hpp
      have HE : Hid ((ys ++ [r.take i]) ++ prt [] (r.drop (i + 1)) = prt [] l0) := by
        show _ = _
        rw [← hE, hpp]; simp
      obtain ⟨fn, tmps, assign, body, hy, hR⟩ := hY ys (r.take i) wr hJ (by have h1 := congrArg List.length HE.out; simp at h1; omega)
      have e1 := ext_take r i
      have e2 := ext_drop r (i + 1)
      have d0 : decide ((i : Int) < 0) = false := decide_eq_false (by omega)
      have g1 : ((i : Int) ≤ (r.length : Int)) := by omega
      have g2 : ((i : Int) + 1 ≤ (r.length : Int)) := by omega
      clear hE hi hge hY hpp hii
      gi_wp2_with (refine ⟨trivial, ?_⟩; gi_at_call 196; refine (callsIn_wide.2 (h69 _)).mono ?_; rintro e w5 ⟨rfl, rfl⟩)
      refine hR.mono ?_
      rintro e W3 ⟨rfl, hJ3, hk3⟩
      have f1 := hk3.box d1 (.inl rfl)
      have f2 := hk3.box d2 (.inr (.inl rfl))
      have f3 := hk3.box d3 (.inr (.inr rfl))
      have s1 : W3.cell? ⟨sb, 0, none⟩ = some (sv r) := f1.cell 0
      have s2 : W3.cell? ⟨pb, 0, none⟩ = some (.string ⟨#[32]⟩) := f2.cell 0
      have s3 := f1.fz 0
      clear hR hy
      gi_wp2
      go_roundw
      case rel =>
        refine ⟨r.drop (i + 1), _, by rw [List.length_drop]; omega, f1.set 0 _, ?_, ?_, HE.out, hJX _ _ _ hJ3 (.inr ⟨_, rfl⟩)⟩
        · exact f2.kept (gb_setCell (gb_refl W3 (some sb)) _) (fun e => hsp (by injection e with e; exact e.symm))
        · exact f3.kept (gb_setCell (gb_refl W3 (some sb)) _) (fun e => hsv (by injection e with e; exact e.symm))
      case measure =>
        have m1 : slen w5 sb = r.length := by simp only [slen, q1]; exact ba_size r
        have m2 : slen (W3.setCell ⟨sb, 0, none⟩ (.string ⟨(r.drop (i + 1)).toArray⟩)) sb = (r.drop (i + 1)).length := by
          have := (f1.set 0 (.string ⟨(r.drop (i + 1)).toArray⟩)).cell 0
          simp only [slen]
          rw [this]
          exact ba_size _
        rw [m1, m2, List.length_drop]
        omega
def neP (l : List Bs) : List Bs := l.filter (fun x => decide (x ≠ []))
theorem neP_app (a : List Bs) (x : Bs) : neP (a ++ [x]) = neP a ++ (if x = [] then [] else [x]) := by
  by_cases h : x = []
  · simp [neP, h]
  · simp [neP, h]
theorem neP_le (a : List Bs) : (neP a).length ≤ a.length := List.length_filter_le _ _
set_option maxRecDepth 100000 in
set_option maxHeartbeats 4000000 in
theorem cut_28 (l : Bs) (hl : l.length ≤ 1000000) (w : World) :
    Calls Tryz.prog 147 #[sv l] w fun e w' => ∃ v, e = .returned v ∧ w'.ownsRow w.heap.size 9 1 v (spl [] l).length ((spl [] l).map sv) ∧ w.grownBy w' none := by
  obtain ⟨i0, hi, hz0, hz1, hz2⟩ := info_parts Tryz.info9
  refine (callsIn_wide (n := 4)).1 ?_
  refine callsIn_of_wp_marks Tryz.func147 rfl trivial ?_ rfl
  simp only [Tryz.ntmps147, List.size_toArray, List.length_cons, List.length_nil, Nat.reduceAdd, Nat.reduceSub, Array.replicate_succ, Array.replicate_zero, List.push_toArray, List.append_toArray, List.nil_append, List.cons_append]
  gi_wp2_with (refine ⟨trivial, ?_⟩; gi_at_call 164; refine (callsIn_wide.2 (split_40 l _)).mono ?_; rintro e w5 ⟨rfl, rfl⟩)
  obtain ⟨W0, hW0⟩ : ∃ W0, (((w.alloc (.cells #[.slice none 0 0] 36)).alloc (.cells #[sv l] 9)).alloc (.cells #[.string ⟨#[32]⟩] 9)).alloc (.cells #[.int .i64 0] 3) = W0 := ⟨_, rfl⟩
  have hs0 : W0.heap.size = w.heap.size + 1 + 1 + 1 + 1 := by rw [← hW0]; simp
  have hg0 : w.grownBy W0 none := by rw [← hW0]; exact gb_alloc (gb_alloc (gb_alloc (gb_alloc (gb_refl w none) _) _) _) _
  have k0 : Boxed W0 w.heap.size 36 (.slice none 0 0) := by rw [← hW0]; exact (Box.new w 36 #[.slice none 0 0]).kept (gb_alloc (gb_alloc (gb_alloc (gb_refl _ none) _) _) _) (by simp)
  have k1 : Box W0 9 (w.heap.size + 1) #[sv l] := by
    have := Box.new (w.alloc (.cells #[.slice none 0 0] 36)) 9 #[sv l]
    simp only [World.size_alloc] at this
    rw [← hW0]; exact this.kept (gb_alloc (gb_alloc (gb_refl _ none) _) _) (by simp)
  have k2 : Box W0 9 (w.heap.size + 1 + 1) #[.string ⟨#[32]⟩] := by
    have := Box.new ((w.alloc (.cells #[.slice none 0 0] 36)).alloc (.cells #[sv l] 9)) 9 #[.string ⟨#[32]⟩]
    simp only [World.size_alloc] at this
    rw [← hW0]; exact this.kept (gb_alloc (gb_refl _ none) _) (by simp)
  have k3 : Box W0 3 (w.heap.size + 1 + 1 + 1) #[.int .i64 0] := by
    have := Box.new (((w.alloc (.cells #[.slice none 0 0] 36)).alloc (.cells #[sv l] 9)).alloc (.cells #[.string ⟨#[32]⟩] 9)) 3 #[.int .i64 0]
    simp only [World.size_alloc] at this
    rw [← hW0]; exact this
  rw [hW0]
  clear hW0
  have hpl : ∀ (r cur : Bs), (prt cur r).length ≤ r.length + 1 := by
    intro r
    induction r with
    | nil => intro cur; simp [prt]
    | cons b t ih =>
      intro cur
      simp only [prt]
      split
      · have := ih []; simp; omega
      · have := ih (cur ++ [b]); simp; omega
  refine range_turns rfl (by omega) (gf := 194) (lb := #[.pointer (some ⟨w.heap.size + 1 + 1, 0, none⟩), .pointer (some ⟨w.heap.size + 1, 0, none⟩), .pointer (some ⟨w.heap.size + 1 + 1 + 1, 0, none⟩)]) rfl trivial (enters_of Tryz.func194 (by kernel_rfl) rfl)
    (fun x : Bs => #[sv x]) (fun _ => rfl) (Xt (w.heap.size + 1)) (Kx (w.heap.size + 1) (w.heap.size + 1 + 1) (w.heap.size + 1 + 1 + 1))
    (fun pre W => (∃ v, Boxed W w.heap.size 36 v ∧ W.ownsRow (w.heap.size + 1 + 1 + 1 + 1) 9 1 v (neP pre).length ((neP pre).map sv)) ∧ Below w.heap.size w W ∧ w.heap.size + 1 + 1 + 1 + 1 ≤ W.heap.size)
    (fun xs => xs = prt [] l) 1000001
    (fun x => { tmps := #[sv l, undef, .slice none 0 0, .pointer (some ⟨w.heap.size, 0, none⟩), sv x, sv l, .func (.func 194) #[] #[.pointer (some ⟨w.heap.size + 1 + 1, 0, none⟩), .pointer (some ⟨w.heap.size + 1, 0, none⟩), .pointer (some ⟨w.heap.size + 1 + 1 + 1, 0, none⟩)], sv x, undef, undef, undef, undef, undef, undef, undef], defers := [] })
    ?hIX ?hX ?hIp (fun h k => h.trans k) ?hKb ?hI0 ?hit ?assign ?body ?done
  case hIX =>
    rintro pre W W' ⟨⟨v, h1, h2⟩, h3, h4⟩ (rfl | ⟨u, rfl⟩)
    · exact ⟨⟨v, h1, h2⟩, h3, h4⟩
    · have hg : W.grownBy (W.setCell ⟨w.heap.size + 1, 0, none⟩ u) (some (w.heap.size + 1)) := gb_setCell (gb_refl _ _) _
      refine ⟨⟨v, (hg.block _ h1.lt (by simp)).trans h1, row_kept h2 hg (fun k hk e => ?_)⟩, h3.setCell (p := ⟨w.heap.size + 1, 0, none⟩) (by simp) u, by simpa using h4⟩
      have := (World.ownsRow.lt h2 k hk).1
      injection e with e
      omega
  case hX =>
    rintro W W' (rfl | ⟨u, rfl⟩)
    · exact KeepsFrom.refl _ _
    · exact (KeepsOthers.setCell _ _ _).from _
  case hIp =>
    rintro pre W l' o o' ⟨⟨v, h1, h2⟩, h3, h4⟩ hl' ho hc
    refine ⟨⟨v, ?_, ownsRow_putObj h2 _ ho hc⟩, h3.trans ?_, by simpa using h4⟩
    · exact ((grownBy_putObj' W l' o').block _ h1.lt (by simp; omega)).trans h1
    · exact (Below.refl _ W).grown (grownBy_putObj' W l' o') (by omega) (fun k e => by cases e; omega)
  case hKb =>
    intro W l' o o' hl' ho hc k hk
    have := (Array.getElem?_eq_some_iff.1 ho).1
    exact (grownBy_putObj' W l' o').block _ (by omega) (by simp; omega)
  case hI0 =>
    intro o
    have hg : W0.grownBy ((W0.alloc (.deferred (some []))).alloc o) none := gb_alloc (gb_alloc (gb_refl _ none) _) _
    exact ⟨⟨_, (hg.block _ k0.lt (by simp)).trans k0, World.ownsRow_nil _ _ _ _⟩, below_grown (gb_trans hg0 hg) (Nat.le_refl _), by have := hg.size; omega⟩
  case hit =>
    intro l' o J hJ hY hJ0
    have hg : W0.grownBy ((W0.alloc (.deferred (some []))).alloc o) none := gb_alloc (gb_alloc (gb_refl _ none) _) _
    exact split_in 3 1000001 (by omega) l' (w.heap.size + 1) (w.heap.size + 1 + 1) (w.heap.size + 1 + 1 + 1) l (by have := hpl l []; omega) (by omega) (by omega) (by omega) J hJ hY _ (k1.kept hg (by simp)) (k2.kept hg (by simp)) (k3.kept hg (by simp)) hJ0
  case assign =>
    intro l x W K hK
    gi_wp2
    exact hK
  case body =>
    rintro l' pre x W ⟨⟨v, hv, hrow⟩, hB, hsz⟩ hlN
    have hle := neP_le pre
    by_cases hx : x = []
    · subst hx
      gi_wp2
      have hrow2 : W.ownsRow (w.heap.size + 1 + 1 + 1 + 1) 9 1 v (neP (pre ++ [[]])).length ((neP (pre ++ [[]])).map sv) := by
        rw [neP_app, if_pos rfl, List.append_nil]
        exact hrow
      exact ⟨KeepsFrom.refl _ _, fun _ _ => rfl, v, hv, hrow2⟩
    · have hb : (x == []) = false := beq_eq_false_iff_ne.2 hx
      have hb2 : x.isEmpty = false := by simpa using hx
      have hc := hv.cell
      obtain ⟨nl, hnl⟩ : ∃ nl, (neP pre).length = nl := ⟨_, rfl⟩
      rw [hnl] at hrow hle
      gi_wp2_with (gi_at_builtin; refine wpListIn_append_own _ rfl _ _ 36 rfl (w.heap.size + 1 + 1 + 1 + 1) 9 i0 (.string ⟨#[]⟩) 1 16 Tryz.underlying36 hi hz0 hz1 hz2 rfl (by decide) _ _ _ rfl (hrow.alloc _) ⟨W.heap.size, 0, none⟩ 1 1 [sv x] rfl rfl (cell_one_new _ _ _) (by simp [Value.oneCell']) (by unfold maxLen; omega) (by omega) (by simp; omega) ?_; intro v' w1 hown' hgrow _; obtain ⟨g', cap', rfl⟩ := ownsRow_succ hown'; obtain ⟨hv1, hv2, hr2, hk2, hb2⟩ := hv.appended (by decide) (row_base hrow (by omega : w.heap.size ≤ w.heap.size + 1 + 1 + 1 + 1)) hB.size (Nat.le_refl _) (row_base hown' (by omega : w.heap.size ≤ w.heap.size + 1 + 1 + 1 + 1)) hgrow; have hc1 := hv1.cell; have hf1 := hv1.frozen)
      refine ⟨hk2.from _, fun k hk => ?_, ⟨_, hv2, ?_⟩, hB.trans hb2, by have := hk2.size; simp at this; omega⟩
      · have hkl : k < W.heap.size := by omega
        have h1 : (W.alloc (.cells #[sv x] 9)).heap[k]? = W.heap[k]? := (gb_alloc (gb_refl W none) _).block k hkl (by simp)
        have h2 := hgrow.block k (by simp; omega) (fun e => by have := (World.ownsRow.lt hrow k e.symm).1; omega)
        have h3 := (gb_setCell (gb_refl w1 (some w.heap.size)) (i := 0) (.slice (some ⟨g', 0, none⟩) (nl + 1) cap')).block k (by have := hgrow.size; simp at this; omega) (by simp; omega)
        exact h3.trans (h2.trans h1)
      · have h1 := row_kept hown' (gb_setCell (gb_refl w1 (some w.heap.size)) (i := 0) (.slice (some ⟨g', 0, none⟩) (nl + 1) cap')) (fun k hk e => by
          injection e with e
          have := (World.ownsRow.lt hown' k hk).1
          omega)
        rw [neP_app, if_neg hx, List.length_append, hnl, List.map_append]
        exact h1
  case done =>
    rintro D ys W hD rfl ⟨⟨v, hv, hrow⟩, hB, hsz⟩ hK
    have hc := hv.cell
    gi_wp2
    refine ⟨by simp, .inl ⟨_, _, rfl, run_takeDeferred hK, ?_⟩⟩
    refine ⟨_, results_tmp rfl _ _ _, v, rfl, ?_, ?_⟩
    · have := row_base (ownsRow_putObj hrow (.deferred none) hK rfl) (by omega : w.heap.size ≤ w.heap.size + 1 + 1 + 1 + 1)
      rw [spl_prt]
      exact this
    · have := hB.trans ((Below.refl _ W).grown (grownBy_putObj' W D (.deferred none)) (by omega) (fun k e => by cases e; omega))
      exact gb_below this
end Go.Proofs.YtbbocbdoiealoaaGreatDoor

import Derived.Test.YtndjimdegkdljaaX
import Derived.Deep.RegionWith
/-
  SyncNames.
-/
namespace Go.Proofs.Ytndjimdegkdljaa
open Go.RowKit Go.MapKept
set_option linter.unusedVariables false
set_option linter.unusedSimpArgs false
attribute [local go_sem] Oper.semAt_some

/-- The first n changes are safe, the others forgotten. -/
def Md.settle (M : Md) (n : Nat) : Md := { M with safe := after M.safe (M.ch.take n), ch := [] }
theorem app_from {m : NS} {c : Ch} {s : Bs} {k : Nat} (h : c.app m s = some k) : m s = some k ∨ (c.f = k ∧ s = c.nw ∧ c.nw ≠ []) := by
  unfold Ch.app at h
  split at h
  · next h1 => exact .inr ⟨Option.some.inj h, h1.2, h1.1⟩
  · split at h
    · cases h
    · exact .inl h
theorem after_from {m : NS} {l : List Ch} : ∀ {s : Bs} {k : Nat}, after m l s = some k → m s = some k ∨ ∃ c ∈ l, c.f = k ∧ s = c.nw ∧ c.nw ≠ [] := by
  refine snoc_ind (P := fun l => ∀ {s : Bs} {k : Nat}, after m l s = some k → m s = some k ∨ ∃ c ∈ l, c.f = k ∧ s = c.nw ∧ c.nw ≠ []) ?_ ?_ l
  · intro s k h; exact .inl h
  · intro l c ih s k h
    rw [after_snoc] at h
    rcases app_from h with h | h
    · rcases ih h with h | ⟨c', hc, h⟩
      · exact .inl h
      · exact .inr ⟨c', List.mem_append_left _ hc, h⟩
    · exact .inr ⟨c, by simp, h⟩
theorem Md.Ok.settle {M : Md} (h : M.Ok) (n : Nat) : (M.settle n).Ok where
  s0 := h.s0
  s1 := h.s1
  sf := fun s k hk => by
    rcases after_from hk with hk | ⟨c, hc, rfl, rfl, hne⟩
    · exact h.sf s k hk
    · have := h.cf c (List.mem_of_mem_take hc)
      exact ⟨this.1, hne, this.2.2.1⟩
  cf := fun c hc => by cases hc
  cs := fun j c hj => by simp [Md.settle] at hj
  fl := h.fl
  nf := h.nf
  nc := Nat.zero_le _
  na := h.na
  nb := h.nb
theorem settle_reach {M : Md} {n k : Nat} (h : Reach (M.settle n) k) : Reach M k := by
  rcases h with ⟨s, h⟩ | ⟨c, hc, _⟩
  · rcases after_reach h with h | ⟨c, hc, h⟩
    · exact .inl ⟨s, h⟩
    · exact .inr ⟨c, List.mem_of_mem_take hc, h⟩
  · cases hc
def Pl.settle (p : Pl) : Pl := { p with cv := .slice none 0 0 }
theorem RP.settled {w w' : World} {p : Pl} {M : Md} (h : RP w p M) (hN : NmM w' p.bs p.fb (after M.safe (M.ch.take M.ch.length)))
    (hB : Box w' 75 p.d #[.int .i64 M.space, .int .i64 (M.acts : Int), .int .i64 (M.files.length : Int), .bool (!M.dark), p.pl, .map (some p.bn), .map (some p.bs), .slice none 0 0]) (hK : Kp (fun b => b = p.d ∨ b = p.bs) w w') :
    RP w' p.settle (M.settle M.ch.length) ∧ Aft w w' p p.settle := by
  have nbk : ∀ b, p.col b ≠ 0 → p.col b ≠ 1 → p.col b ≠ 3 → w'.heap[b]? = w.heap[b]? := fun b h0 h1 h3 => hK.block b (h.lt b h0) (by
    rintro (e | e)
    · exact h1 (by rw [e, h.cd])
    · exact h3 (by rw [e, h.cs]))
  refine ⟨?_, ?_⟩
  · exact {
      box := hB
      nm := (h.nm.same (nbk _ (by rw [h.cn]; decide) (by rw [h.cn]; decide) (by rw [h.cn]; decide))).congr (fun s => by
        show after M.safe (M.ch.take M.ch.length) s = _
        rw [List.take_length]
        rfl)
      sf := hN
      pl := h.pl.same (fun b hb => nbk b (by rw [h.cp b hb]; decide) (by rw [h.cp b hb]; decide) (by rw [h.cp b hb]; decide))
      ch := World.ownsRow_nil _ _ _ _
      fl := fun k f hr hf => by
        have hr := settle_reach hr
        have hfl := h.fl k f hr hf
        exact ⟨(nbk (p.fb k) (by rw [h.cf k hr]; omega) (by rw [h.cf k hr]; omega) (by rw [h.cf k hr]; omega)).trans hfl.box, row_same hfl.row (fun b hb => nbk b (by rw [h.cr k b hr hb]; omega) (by rw [h.cr k b hr hb]; omega) (by rw [h.cr k b hr hb]; omega))⟩
      cd := h.cd
      cn := h.cn
      cs := h.cs
      cp := h.cp
      cc := fun b hb => by simp [Pl.settle, Value.ownBlock] at hb
      cf := fun k hr => h.cf k (settle_reach hr)
      cr := fun k b hr => h.cr k b (settle_reach hr)
      lt := fun b hb => Nat.lt_of_lt_of_le (h.lt b hb) hK.size
      ok := h.ok.settle _ }
  · refine ⟨hK.mono (fun b hb => .inl ?_), rfl, fun b hl hb => hb⟩
    rcases hb with e | e
    · rw [e, h.cd]; decide
    · rw [e, h.cs]; decide
set_option maxRecDepth 100000 in
set_option maxHeartbeats 4000000 in
theorem clo_61 {w : World} {p : Pl} {M : Md} (h : RP w p M) {b1 : Nat} (hb1 : Box w 25 b1 #[pv p.d]) :
    Calls Try.prog 61 #[pv b1] w fun e w' => e = .returned (.int .i64 0) ∧ ∃ p', RP w' p' (M.settle M.ch.length) ∧ Aft w w' p p' := by
  have c1 : w.cell? ⟨b1, 0, none⟩ = some (pv p.d) := hb1.cell 0
  obtain ⟨cao, ccp, ec, -⟩ := row_shape h.ch
  have c7 : w.cell? ⟨p.d, 7, none⟩ = some p.cv := h.box.cell 7
  rw [ec] at c7
  have h45 := fun (W : World) (gW : w.grownBy W none) => settle_45 (h.gb gW) M.ch.length (Nat.le_refl _)
  have HR := Lib.hid h
  clear h hb1 ec
  go_enter Try.func61, Try.ntmps61
  go_upto_region 1 with fail
  go_region_with (go_at_call 45; refine (h45 _ ?_).mono ?_; exact gb_drew (gb_refl _ _); rintro y w9 ⟨rfl, hN9, hB9, hK9⟩)
  all_goals
    go_wp2
    go_ret
    have hK : Kp (fun b => b = p.d ∨ b = p.bs) w w9 := (Kp.of (F := fun b => b = p.d ∨ b = p.bs) (gb_drew (gb_refl w none))).trans hK9 (fun _ h => h) (fun i hi => .inl hi)
    exact ⟨rfl, _, HR.out.settled hN9 hB9 hK⟩
set_option maxRecDepth 100000 in
set_option maxHeartbeats 4000000 in
theorem act_61 {w : World} {p : Pl} {M M2 : Md} (h : RP w p M) (ha : M.acts < 100000) (call name : Bs) (caps : Array Value) (c : Int)
    (hdo : ∀ W, Kp (fun b => b = p.d) w W → RP W p M.act1 → Calls Try.prog 61 caps W fun e w' => e = .returned (.int .i64 c) ∧ ∃ p', RP w' p' M2 ∧ Aft W w' p p') :
    Calls Try.prog 51 #[pv p.d, sv call, sv name, .func (.func 61) #[] caps] w fun e w' => ∃ v, e = .returned v ∧ ErrV w' v call name (actR M (c, M2)).1 ∧ ∃ p', RP w' p' (actR M (c, M2)).2 ∧ Aft w w' p p' := by
  have h62 := begin_62 h ha
  have HR := Lib.hid h
  have HDO := Lib.hid hdo
  clear h hdo
  obtain ⟨f, hf⟩ : ∃ f, fvo (M.plan ((M.acts + 1 : Nat) : Int)) = f := ⟨_, rfl⟩
  unfold actR
  rw [hf] at h62 ⊢
  clear hf
  simp only
  go_enter Try.func51, Try.ntmps51
  go_wp2_with (first
    | (go_at_call 62; go_must (refine h62.mono ?_); rintro e w1 ⟨rfl, hp1, hk1⟩; (have h63 := bear_61 hp1 f caps c (fun W gW => HDO.out W (hk1.step gW (by simp)) (hp1.gb gW))); (have HK1 := Lib.hid hk1); clear hp1 hk1 h62)
    | (go_at_call 63; go_must (refine h63.mono ?_); rintro e w2 ⟨rfl, p2, hp2, ha2⟩; (have h30 := refusal_30 call name (bearR f.kind c M.act1 M2).1 w2); (have HP2 := Lib.hid (And.intro hp2 ha2)); clear hp2 ha2 h63)
    | (go_at_call 30; go_must (refine h30.mono ?_); rintro e w3 ⟨v, rfl, hv, g3⟩; (have HV := Lib.hid (And.intro hv g3)); clear hv g3 h30))
  go_ret
  refine ⟨v, rfl, HV.out.1, p2, HP2.out.1.gb HV.out.2, ((Aft.kp1 HR.out HK1.out).trans HP2.out.2).trans (Aft.of HV.out.2)⟩
set_option maxRecDepth 100000 in
set_option maxHeartbeats 4000000 in
theorem syncn_24 {w : World} {p : Pl} {M : Md} (h : RP w p M) (ha : M.acts < 100000) :
    Calls Try.prog 24 #[pv p.d] w fun e w' => ∃ v, e = .returned v ∧ ErrV w' v [115, 121, 110, 99, 110, 97, 109, 101, 115] [] (actR M (0, M.act1.settle M.ch.length)).1 ∧ ∃ p', RP w' p' (actR M (0, M.act1.settle M.ch.length)).2 ∧ Aft w w' p p' := by
  have g1 := gb_alloc (gb_refl w none) (.cells #[pv p.d] 25)
  have B1 := Box.new w 25 #[pv p.d]
  have hlt := h.lt p.d (by rw [h.cd]; decide)
  have h51 := act_61 (h.gb g1) ha [115, 121, 110, 99, 110, 97, 109, 101, 115] [] #[pv w.heap.size] 0 (M2 := M.act1.settle M.ch.length) (fun W hk hp => clo_61 hp (hk.box B1 (by omega)))
  have HA := Lib.hid (Aft.of (p := p) g1)
  clear h g1 B1
  generalize M.act1.settle M.ch.length = M2 at *
  go_enter Try.func24, Try.ntmps24
  go_wp2_with (go_at_call 51; go_must (refine h51.mono ?_); rintro e w1 ⟨v, rfl, hv, p', hp, hA⟩)
  go_ret
  exact ⟨v, rfl, hv, p', hp, HA.out.trans hA⟩
end Go.Proofs.Ytndjimdegkdljaa

import Derived.Test.YtndjimdegkdljaaZf
import Derived.Laws.Externs
import Derived.Test.YtndjimdegkdljaaY
/-
  What a restart leaves (pure).
-/
namespace Go.Proofs.Ytndjimdegkdljaa
open Go.RowKit Go.MapKept
set_option linter.unusedVariables false
set_option linter.unusedSimpArgs false

/-- File k cut. -/
def cutF (ls : List Int) (k : Nat) (f : Bs × Nat) : Bs × Nat := (f.1.take (cutN f ls[k]?), cutN f ls[k]?)
theorem btw_zero (x : Int) : btw x 0 = 0 := by
  have := btw_in x 0 (by omega)
  omega
theorem cutF_len (ls : List Int) (k : Nat) (f : Bs × Nat) (h : f.2 ≤ f.1.length) : (cutF ls k f).1.length = (cutF ls k f).2 := by
  have := cutN_le f ls[k]? h
  simp only [cutF, List.length_take]
  omega
/-- To cut a file a second time leaves it as it is. -/
theorem cutF_twice (ls : List Int) (k : Nat) (f : Bs × Nat) (h : f.2 ≤ f.1.length) : cutF ls k (cutF ls k f) = cutF ls k f := by
  have hl := cutF_len ls k f h
  have hn : cutN (cutF ls k f) ls[k]? = (cutF ls k f).2 := by
    unfold cutN
    cases ls[k]? with
    | none => simp
    | some x =>
      simp only
      rw [hl, Int.sub_self, btw_zero]
      simp
  have : cutF ls k (cutF ls k f) = ((cutF ls k f).1.take (cutN (cutF ls k f) ls[k]?), cutN (cutF ls k f) ls[k]?) := rfl
  rw [this, hn, ← hl, List.take_length, hl]
/-- The files of S cut. -/
def Md.cutBy (M : Md) (S : List Nat) (ls : List Int) : Md := { M with files := M.files.mapIdx (fun k f => if k ∈ S then cutF ls k f else f) }
theorem cutBy_nil (M : Md) (ls : List Int) : M.cutBy [] ls = M := by
  have : M.files.mapIdx (fun k f => if k ∈ ([] : List Nat) then cutF ls k f else f) = M.files := by
    apply List.ext_getElem?
    intro j
    rw [List.getElem?_mapIdx]
    cases M.files[j]? <;> simp
  unfold Md.cutBy
  rw [this]
theorem cutBy_file (M : Md) (S : List Nat) (ls : List Int) (k : Nat) (hk : k < M.files.length) : (M.cutBy S ls).file k = if k ∈ S then cutF ls k (M.file k) else M.file k := by
  unfold Md.file Md.cutBy
  simp only
  rw [List.getElem?_mapIdx, List.getElem?_eq_getElem hk]
  simp
theorem cutBy_step (M : Md) (S : List Nat) (ls : List Int) (k : Nat) (hk : k < M.files.length) (hfl : ∀ f ∈ M.files, f.2 ≤ f.1.length) :
    (M.cutBy S ls).put k (cutF ls k ((M.cutBy S ls).file k)) = M.cutBy (k :: S) ls := by
  have hm : M.file k ∈ M.files := List.mem_of_getElem? (file_some hk)
  have e1 : cutF ls k ((M.cutBy S ls).file k) = cutF ls k (M.file k) := by
    rw [cutBy_file M S ls k hk]
    split
    · exact cutF_twice ls k _ (hfl _ hm)
    · rfl
  rw [e1]
  have : (M.files.mapIdx (fun k f => if k ∈ S then cutF ls k f else f)).set k (cutF ls k (M.file k)) = M.files.mapIdx (fun j f => if j ∈ k :: S then cutF ls j f else f) := by
    apply List.ext_getElem?
    intro j
    by_cases hj : j = k
    · subst hj
      rw [List.getElem?_set_self (by simpa using hk), List.getElem?_mapIdx, file_some hk]
      simp
    · rw [List.getElem?_set_ne (Ne.symm hj), List.getElem?_mapIdx, List.getElem?_mapIdx]
      simp [hj]
  unfold Md.put Md.cutBy
  simp only
  rw [this]
theorem cutBy_names (M : Md) (S : List Nat) (ls : List Int) : (M.cutBy S ls).names = M.names := rfl
theorem cutBy_len (M : Md) (S : List Nat) (ls : List Int) : (M.cutBy S ls).files.length = M.files.length := by simp [Md.cutBy]
end Go.Proofs.Ytndjimdegkdljaa
/-
  maps.Clone of the names.
-/
namespace Go.Proofs.Ytndjimdegkdljaa
open Go.RowKit Go.MapKept
set_option linter.unusedVariables false
set_option linter.unusedSimpArgs false
attribute [local go_sem] Oper.semAt_some

theorem as71 (v : Value) (w : World) : (Instr.typeAssert (.iface 71 v) 20 71 false).run Try.prog w = .ok v w := by kernel_rfl
theorem eq71 (b : Nat) (w : World) : (binOp .eql 71 (.map (some b)) (.map none)).run Try.prog w = .ok (.bool false) w := by kernel_rfl
theorem call77 {w : World} {b : Nat} {es : Array MapEntry} {cl : Nat} (h : w.heap[b]? = some (.map es cl)) :
    (callFunc 77 #[.iface 71 (.map (some b))]).run Try.prog w = .ok (Next.value (.iface 71 (.map (some w.heap.size)))) (w.alloc (.map es cl)) := by
  rw [run_callFunc_extern (fn := Try.f77) (by kernel_rfl) (by kernel_rfl) (by kernel_rfl) (by kernel_rfl) (e := Extern.MapsClone.clone) (by kernel_rfl)]
  obtain ⟨z, e2⟩ : ∃ z, Extern.MapsClone.clone #[.iface 71 (.map (some b))] = (getObj b >>= fun o => match o with
      | .map entries clock => (newObj (.map entries clock) >>= fun n => pure (.iface 71 (.map (some n))))
      | _ => stuck z) := ⟨_, rfl⟩
  rw [e2]
  simp [Go.MapKept.run_getObj_map h, Result.andThen]
set_option maxRecDepth 100000 in
set_option maxHeartbeats 4000000 in
theorem clone_47 {w : World} {b : Nat} {fb : Nat → Nat} {m : NS} (h : NmM w b fb m) :
    Calls Try.prog 47 #[.map (some b)] w fun e w' => e = .returned (.map (some w.heap.size)) ∧ NmM w' w.heap.size fb m ∧ w.grownBy w' none := by
  obtain ⟨es, cl, hb, hs, hr⟩ := h
  have h1 := fun v W => as71 v W
  have h2 := fun b W => eq71 b W
  have h3 := call77 hb
  have HE := Lib.hid (show NmM (w.alloc (.map es cl)) w.heap.size fb m ∧ w.grownBy (w.alloc (.map es cl)) none from ⟨⟨es, cl, heap_alloc_new w _, hs, hr⟩, gb_alloc (gb_refl w none) _⟩)
  clear hb hs hr
  go_enter Try.func47, Try.ntmps47
  go_wp2_with fail
  go_ret
  exact ⟨rfl, HE.out⟩
end Go.Proofs.Ytndjimdegkdljaa
/-
  A disk behind a restart: its names are those that are safe.
-/
namespace Go.Proofs.Ytndjimdegkdljaa
open Go.RowKit Go.MapKept
set_option linter.unusedVariables false
set_option linter.unusedSimpArgs false

def Pl.again (p : Pl) (b' : Nat) : Pl := { p with bn := b', cv := .slice none 0 0, col := fun b => if b = b' then 2 else p.col b }
theorem RP.restarted {w w' : World} {p : Pl} {M : Md} {n b' : Nat} (h : RP w p M) (hN : NmM w' p.bs p.fb (after M.safe (M.ch.take n))) (hN2 : NmM w' b' p.fb (after M.safe (M.ch.take n)))
    (hB : Box w' 75 p.d #[.int .i64 M.space, .int .i64 (M.acts : Int), .int .i64 (M.files.length : Int), .bool (!M.dark), p.pl, .map (some b'), .map (some p.bs), .slice none 0 0]) (hK : Kp (fun b => b = p.d ∨ b = p.bs) w w') (hb : w.heap.size ≤ b') :
    RP w' (p.again b') (M.settle n) ∧ Aft w w' p (p.again b') := by
  have nbk : ∀ b, p.col b ≠ 0 → p.col b ≠ 1 → p.col b ≠ 3 → w'.heap[b]? = w.heap[b]? := fun b h0 h1 h3 => hK.block b (h.lt b h0) (by
    rintro (e | e)
    · exact h1 (by rw [e, h.cd])
    · exact h3 (by rw [e, h.cs]))
  have hcol : ∀ b, p.col b ≠ 0 → (p.again b').col b = p.col b := fun b h0 => by
    have := h.lt b h0
    show (if b = b' then 2 else p.col b) = _
    rw [if_neg (by omega)]
  refine ⟨?_, ?_⟩
  · exact {
      box := hB
      nm := hN2
      sf := hN
      pl := h.pl.same (fun b hb => nbk b (by rw [h.cp b hb]; decide) (by rw [h.cp b hb]; decide) (by rw [h.cp b hb]; decide))
      ch := World.ownsRow_nil _ _ _ _
      fl := fun k f hr hf => by
        have hr := settle_reach hr
        have hfl := h.fl k f hr hf
        exact ⟨(nbk (p.fb k) (by rw [h.cf k hr]; omega) (by rw [h.cf k hr]; omega) (by rw [h.cf k hr]; omega)).trans hfl.box, row_same hfl.row (fun b hb => nbk b (by rw [h.cr k b hr hb]; omega) (by rw [h.cr k b hr hb]; omega) (by rw [h.cr k b hr hb]; omega))⟩
      cd := by rw [show (p.again b').d = p.d from rfl, hcol _ (by rw [h.cd]; decide)]; exact h.cd
      cn := by show (if b' = b' then 2 else _) = 2; rw [if_pos rfl]
      cs := by rw [show (p.again b').bs = p.bs from rfl, hcol _ (by rw [h.cs]; decide)]; exact h.cs
      cp := fun b hb => by rw [hcol _ (by rw [h.cp b hb]; decide)]; exact h.cp b hb
      cc := fun b hb => by simp [Pl.again, Value.ownBlock] at hb
      cf := fun k hr => by have hr := settle_reach hr; rw [show (p.again b').fb = p.fb from rfl, hcol _ (by rw [h.cf k hr]; omega)]; exact h.cf k hr
      cr := fun k b hr hb => by have hr := settle_reach hr; rw [hcol _ (by rw [h.cr k b hr hb]; omega)]; exact h.cr k b hr hb
      lt := fun b hb => by
        have hb' : (if b = b' then 2 else p.col b) ≠ 0 := hb
        by_cases e : b = b'
        · rw [e]; exact hN2.lt
        · rw [if_neg e] at hb'
          exact Nat.lt_of_lt_of_le (h.lt b hb') hK.size
      ok := h.ok.settle _ }
  · refine ⟨hK.mono (fun b hb => .inl ?_), rfl, fun b hl hb2 => ?_⟩
    · rcases hb with e | e
      · rw [e, h.cd]; decide
      · rw [e, h.cs]; decide
    · have hb' : (if b = b' then 2 else p.col b) ≠ 0 := hb2
      rwa [if_neg (by omega)] at hb'
/-- The power on, and no plan. -/
def Md.wake (M : Md) : Md := { M with dark := false, plan := fun _ => none }
theorem Md.Ok.wake {M : Md} (h : M.Ok) : M.wake.Ok := ⟨h.s0, h.s1, h.sf, h.cf, h.cs, h.fl, h.nf, h.nc, h.na, h.nb⟩
def Pl.wake (p : Pl) : Pl := { p with pl := .map none }
theorem RP.woken {w : World} {p : Pl} {M : Md} (h : RP w p M) :
    RP ((w.setCell ⟨p.d, 3, none⟩ (.bool true)).setCell ⟨p.d, 4, none⟩ (.map none)) p.wake M.wake ∧ Aft w ((w.setCell ⟨p.d, 3, none⟩ (.bool true)).setCell ⟨p.d, 4, none⟩ (.map none)) p p.wake := by
  have g : w.grownBy ((w.setCell ⟨p.d, 3, none⟩ (.bool true)).setCell ⟨p.d, 4, none⟩ (.map none)) (some p.d) := gb_setCell (gb_setCell (gb_refl _ _) _) _
  have hK : Kp (fun b => b = p.d) w ((w.setCell ⟨p.d, 3, none⟩ (.bool true)).setCell ⟨p.d, 4, none⟩ (.map none)) := (Kp.refl _ w).step g (fun i hi => .inl (Option.some.inj hi).symm)
  have nbk : ∀ b, p.col b ≠ 0 → p.col b ≠ 1 → ((w.setCell ⟨p.d, 3, none⟩ (.bool true)).setCell ⟨p.d, 4, none⟩ (.map none)).heap[b]? = w.heap[b]? := fun b h0 h1 => hK.block b (h.lt b h0) (fun e => h1 (by rw [e, h.cd]))
  refine ⟨?_, ?_⟩
  · exact {
      box := (h.box.set 3 _).set 4 _
      nm := h.nm.same (nbk _ (by rw [h.cn]; decide) (by rw [h.cn]; decide))
      sf := h.sf.same (nbk _ (by rw [h.cs]; decide) (by rw [h.cs]; decide))
      pl := .inl ⟨rfl, fun _ => rfl⟩
      ch := row_same h.ch (fun b hb => nbk b (by rw [h.cc b hb]; decide) (by rw [h.cc b hb]; decide))
      fl := fun k f hr hf => by
        have hr : Reach M k := hr
        have hfl := h.fl k f hr hf
        exact ⟨(nbk (p.fb k) (by rw [h.cf k hr]; omega) (by rw [h.cf k hr]; omega)).trans hfl.box, row_same hfl.row (fun b hb => nbk b (by rw [h.cr k b hr hb]; omega) (by rw [h.cr k b hr hb]; omega))⟩
      cd := h.cd
      cn := h.cn
      cs := h.cs
      cp := fun b hb => by cases hb
      cc := h.cc
      cf := h.cf
      cr := h.cr
      lt := fun b hb => Nat.lt_of_lt_of_le (h.lt b hb) hK.size
      ok := h.ok.wake }
  · refine ⟨hK.mono (fun b hb => .inl ?_), rfl, fun b hl hb => hb⟩
    rw [hb, h.cd]; decide
end Go.Proofs.Ytndjimdegkdljaa

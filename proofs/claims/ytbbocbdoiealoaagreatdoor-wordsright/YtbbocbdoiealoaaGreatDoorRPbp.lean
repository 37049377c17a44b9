import Derived.Test.YtbbocbdoiealoaaGreatDoorRPbo
import Derived.Test.YtbbocbdoiealoaaGreatDoorRPbj
import Derived.WalkKit
import Derived.ProofKit
import Derived.OpenShut
import Derived.Below
import Derived.Deep.Slices
import Derived.SizedLaws
import Derived.Deep.MidRow
import Derived.Deep.LoopGhost
import Derived.Test.YtbbocbdoiealoaaGreatDoorRows
import Derived.Test.YtbbocbdoiealoaaGreatDoorRPar
set_option linter.unusedVariables false
set_option linter.unusedSimpArgs false
namespace Go.Proofs.YtbbocbdoiealoaaGreatDoor
theorem run_quit {c : Cmd} {d : Bs} (hm : MayP 17 c d.length) (hr : RngP c) (hl : (lnB 17 c d.length).length ≤ 2048) (limit at_ : Nat) :
    ∃ F, (fl limit at_).run (bsB 17 c d) = (F, [⟨c, d, false, 0, [], 0, at_, at_ + (bsB 17 c d).length⟩]) ∧ F.ended = true := by
  have hL := line_back (by decide) hm hr hl
  have hno := lnB_noL (by decide) hm
  have hverb : c.verb = 18 := by rw [hm.verb]; rfl
  obtain ⟨p, hp⟩ : ∃ p, lnB 17 c d.length = p := ⟨_, rfl⟩
  unfold bsB
  rw [hp] at hL hno ⊢
  have hno2 : (10 : UInt8) ∉ p ++ [13] := by
    intro hb
    rcases List.mem_append.mp hb with hb | hb
    · exact hno hb
    · simp at hb
  have hfst := line_first (limit := limit) (at_ := at_) (p ++ [13]) hno2
  have htr : lineS (trim (p ++ [13])) = .inl (c, blkI 17 d.length) := by rw [trim_cr]; exact hL
  have hrd : (lnF limit at_ (p ++ [13])).rd = if blkI 17 d.length < 0 then ({ lnF limit at_ (p ++ [13]) with head := (lnF limit at_ (p ++ [13])).kept.length, s := stpC c false }, true) else
    if (limit : Int) < blkI 17 d.length then ((lnF limit at_ (p ++ [13])).pass (stpC c true) (blkI 17 d.length).toNat, false) else
    ({ lnF limit at_ (p ++ [13]) with head := (lnF limit at_ (p ++ [13])).kept.length, s := stpC c false }.await (blkI 17 d.length).toNat, false) := by
    have hk : (lnF limit at_ (p ++ [13])).kept.dropLast = p ++ [13] := by simp [lnF, Fd.put, Fd.tk, fl]
    unfold Fd.rd
    rw [hk, htr]
    rfl
  have hb : (dr 17).block = false := by decide
  have hd0 : d = [] := by
    apply Classical.byContradiction
    intro e
    have := hm.data (fun h => e (List.length_eq_zero_iff.mp h))
    rw [hb] at this
    cases this
  subst hd0
  have hneg : blkI 17 ([] : Bs).length = -1 := by unfold blkI; rw [hb]; rfl
  rw [hneg, if_pos (by omega)] at hrd
  have e : p ++ [13, 10] ++ (if (dr 17).block = true then [] ++ [13, 10] else []) = (p ++ [13]) ++ [10] := by simp [hb]
  rw [e, hfst, hrd]
  refine ⟨(Fd.end1 ({ lnF limit at_ (p ++ [13]) with head := (lnF limit at_ (p ++ [13])).kept.length, s := stpC c false }, true)).1, Prod.ext rfl ?_, ?_⟩
  · simp only [Fd.end1, Fd.tell, if_true, stpC, lnF, Fd.put, Fd.tk, fl, List.length_append, List.length_cons, List.length_nil]
  · simp only [Fd.end1, Fd.tell, if_true, stpC, lnF, Fd.put, Fd.tk, fl, hverb, decide_true, Bool.or_true]
theorem mayX_ci {x : CI} (h : mayX x = true) : ∃ i, CiMay x i ∧ bsX x = bsB i x.c x.d := by
  have h0 := h
  unfold mayX at h
  rw [Bool.and_eq_true, decide_eq_true_eq] at h
  obtain ⟨h1, h2, h3⟩ := (mayB_iff (i := (x.c.verb - 1).toNat) (by omega)).1 h.2
  refine ⟨(x.c.verb - 1).toNat, ⟨by omega, by omega, h1, h2, h3⟩, ?_⟩
  unfold bsX
  rw [if_pos h0]
def stpX (x : CI) (a : Nat) : Stp := ⟨x.c, x.d, false, 0, [], 0, a, a + (bsX x).length⟩
theorem run_one {x : CI} (h : mayX x = true) (hr : RngP x.c) {limit : Nat} (hd : x.d.length ≤ limit) (at_ : Nat) :
    ∃ F, (fl limit at_).run (bsX x) = (F, [stpX x at_]) ∧ (x.c.verb ≠ 18 → F = fl limit (at_ + (bsX x).length)) ∧ (x.c.verb = 18 → F.ended = true) := by
  obtain ⟨i, hm, e⟩ := mayX_ci h
  unfold stpX
  rw [e]
  have hv := hm.v
  by_cases h17 : i = 17
  · subst h17
    obtain ⟨F, h1, h2⟩ := run_quit hm.m hr hm.l limit at_
    exact ⟨F, h1, fun h => absurd hv h, fun _ => h2⟩
  · exact ⟨_, run_back hm.lt h17 hm.m hr hm.l limit at_ hd, fun _ => rfl, fun h => by omega⟩
def stsX : Nat → List CI → List Stp
  | _, [] => []
  | a, x :: l => stpX x a :: stsX (a + (bsX x).length) l
def rawX : List CI → Bs
  | [] => []
  | x :: l => bsX x ++ rawX l
theorem rawX_snoc : ∀ (l : List CI) (x : CI), rawX (l ++ [x]) = rawX l ++ bsX x
  | [], x => by simp [rawX]
  | y :: l, x => by simp [rawX, rawX_snoc l x]
theorem stsX_snoc : ∀ (l : List CI) (x : CI) (a : Nat), stsX a (l ++ [x]) = stsX a l ++ [stpX x (a + (rawX l).length)]
  | [], x, a => by simp [stsX, rawX]
  | y :: l, x, a => by simp [stsX, rawX, stsX_snoc l x, Nat.add_assoc]
theorem stsX_len : ∀ (l : List CI) (a : Nat), (stsX a l).length = l.length
  | [], a => rfl
  | y :: l, a => by simp [stsX, stsX_len l]
theorem run_many {limit : Nat} : ∀ (l : List CI) (a : Nat), (∀ x ∈ l, mayX x = true ∧ RngP x.c ∧ x.d.length ≤ limit ∧ x.c.verb ≠ 18) → (fl limit a).run (rawX l) = (fl limit (a + (rawX l).length), stsX a l)
  | [], a, _ => rfl
  | x :: l, a, h => by
    obtain ⟨h1, h2, h3, h4⟩ := h x (by simp)
    obtain ⟨F, e1, e2, _⟩ := run_one h1 h2 h3 a
    obtain rfl := e2 h4
    show (fl limit a).run (bsX x ++ rawX l) = _
    rw [Fd.run_app, e1]
    simp only
    rw [run_many l _ (fun y hy => h y (by simp [hy]))]
    simp [stsX, rawX, Nat.add_assoc]
theorem run_some {limit : Nat} (l : List CI) (hl : ∀ x ∈ l, mayX x = true ∧ RngP x.c ∧ x.d.length ≤ limit) (hq : ∀ x ∈ l.dropLast, x.c.verb ≠ 18) : ((fl limit 0).run (rawX l)).2 = stsX 0 l := by
  rcases List.eq_nil_or_concat l with rfl | ⟨l', x, rfl⟩
  · rfl
  · rw [List.concat_eq_append] at hl hq ⊢
    rw [List.dropLast_concat] at hq
    obtain ⟨h1, h2, h3⟩ := hl x (by simp)
    obtain ⟨F, e1, _⟩ := run_one h1 h2 h3 (0 + (rawX l').length)
    rw [rawX_snoc, Fd.run_app, run_many l' 0 (fun y hy => ⟨(hl y (by simp [hy])).1, (hl y (by simp [hy])).2.1, (hl y (by simp [hy])).2.2, hq y hy⟩)]
    simp only
    rw [e1, stsX_snoc]
theorem tile_end : ∀ {q : List Tld} {l : List CI} {a b : Nat}, Tile a q b → q.map Tld.s = stsX a l → b = a + (rawX l).length
  | [], [], a, b, h, _ => by
    have h : a = b := h
    simp [rawX, h]
  | [], y :: l, a, b, _, h => by simp [stsX] at h
  | x :: q, [], a, b, _, h => by simp [stsX] at h
  | x :: q, y :: l, a, b, h, e => by
    simp only [List.map_cons, stsX, List.cons.injEq] at e
    obtain ⟨e1, e2⟩ := e
    have h2 := h.2.2
    rw [e1] at h2
    have := tile_end h2 e2
    rw [this]
    simp [rawX, stpX, Nat.add_assoc]
theorem AlR.back {w wr : World} {L : Nat} {l : List CI} {q : List Tld} {v : Value} {left : Int} (h : AlR w L (rawX l) q v left wr) (hl : ∀ x ∈ l, mayX x = true ∧ RngP x.c ∧ x.d.length ≤ L) (hq : ∀ x ∈ l.dropLast, x.c.verb ≠ 18) : q.map Tld.s = stsX 0 l ∧ left = 0 ∧ q.length = l.length := by
  have e : q.map Tld.s = stsX 0 l := by rw [← h.run]; exact run_some l hl hq
  refine ⟨e, ?_, ?_⟩
  · obtain ⟨b, h1, h2, h3⟩ := h.tile
    have hb := tile_end h2 e
    rcases h3 with ⟨_, h, _⟩ | ⟨_, h, _⟩
    · exact h
    · rw [h, hb]; simp
  · have := congrArg List.length e
    simpa [stsX_len] using this
end Go.Proofs.YtbbocbdoiealoaaGreatDoor
namespace Go.Proofs.YtbbocbdoiealoaaGreatDoor
open Go.ChangeShapes Go.WideShapes Go.ChangeAt Go.RowKit
section
variable {H : Type} {enc : TypeId × Value → H} {P : Program} {w : World} {base : Nat} {spare : Nat → Bool} {held : Bool}
theorem one_of {cs : List Value} {o : Nat} {v : Value} (h : (cs.drop o).take 1 = [v]) : cs[o]? = some v := by
  have : ((cs.drop o).take 1)[0]? = some v := by rw [h]; rfl
  simpa using this
theorem field_int {fs : Array Field} {f : Field} {k : IntKind} {t : TypeId} {fuel : Nat} {cs : List Value} {x : DataW H × List MemPlace} (i : Nat) (ht : P.underlying t = some (.struct fs)) (h : DataW.trod enc P w base spare held fuel t cs = some x)
    (hf : fs[i]? = some f) (hk : P.underlying f.type = some (.int k)) (hc : P.cellsOf f.type = 1) : ∃ n, cs[f.offset]? = some (.int k n) ∧ (Lit.int k n).wf = true := by
  obtain ⟨xs, n, _, rfl, hl, hlen, hff⟩ := DataW.trod_struct ht h
  have := hff i f hf
  have hi : i < xs.length := by rw [hlen]; exact (Array.getElem?_eq_some_iff.1 hf).1
  rw [List.getElem?_eq_getElem hi] at this
  obtain ⟨m, h1, _, h3⟩ := DataW.trod_int hk this
  rw [hc] at h1
  exact ⟨m, one_of h1, h3⟩
end
theorem bounds_u8 {z : Int} (h : (Lit.int .u8 z).wf = true) : 0 ≤ z ∧ z ≤ 255 := by
  simp only [Lit.wf] at h
  revert h
  simp [IntKind.min, IntKind.max, IntKind.signed, IntKind.bits]
theorem bounds_i64 {z : Int} (h : (Lit.int .i64 z).wf = true) : -9223372036854775808 ≤ z ∧ z ≤ 9223372036854775807 := by
  simp only [Lit.wf] at h
  revert h
  simp [IntKind.min, IntKind.max, IntKind.signed, IntKind.bits]
section
variable {H : Type} {enc : TypeId × Value → H} {w : World} {base : Nat} {spare : Nat → Bool} {held : Bool}
set_option maxRecDepth 100000 in
theorem blk_ok {r : Reach} {b0 : Nat} {t e : TypeId} (ht : Tryz.prog.underlying t = some (.slice e)) {a : Addr} {n c : Nat} (h : Cell.okWide Tryz.prog w r b0 t (.slice (some a) n c)) : a.block < w.heap.size ∧ ∃ b o, a = ⟨b, o, none⟩ := by
  simp only [Cell.okWide, ht, Cell.ok, World.has] at h
  obtain ⟨_, _, _, hsp, row, cells, hs, _⟩ := h
  constructor
  · rcases Nat.lt_or_ge a.block w.heap.size with h1 | h1
    · exact h1
    · have : w.heap[a.block]? = none := Array.getElem?_eq_none h1
      simp [World.shape?, this] at hs
  · obtain ⟨b, o, s⟩ := a
    simp at hsp
    subst hsp
    exact ⟨b, o, rfl⟩
set_option maxRecDepth 100000 in
theorem open_by {r : Reach} {b0 : Nat} {fuel : Nat} {cs : List Value} {x : DataW H × List MemPlace} (h : DataW.trod enc Tryz.prog w base spare held fuel 38 cs = some x) (hok : ∀ v, cs = [v] → Cell.okWide Tryz.prog w r b0 38 v) :
    ∃ a c ys, cs = [.slice a (ys : Bs).length c] ∧ Ck w (fun _ => False) (.slice a ys.length c) ys := by
  rcases Deep.open_slice1 Tryz.underlying38 (by kernel_rfl) h with ⟨hcs, _⟩ | ⟨a, len, cap, m, n, V, D, Pl, hcs, hb, hl, hm, hmm, hx, hel⟩
  · exact ⟨none, 0, [], hcs, .inl ⟨rfl, rfl⟩⟩
  · have hlm : len ≤ m := by rw [hmm]; split <;> omega
    have hbyte : ∀ i, ∃ z : UInt8, i < len → w.cell? (a.add i) = some (b8 z) := by
      intro i
      by_cases hi : i < len
      · obtain ⟨h1, h2⟩ := hel i (by omega)
        obtain ⟨z, h3, _, h5⟩ := DataW.trod_int Tryz.underlying5 h2
        simp at h3
        have := bounds_u8 h5
        refine ⟨UInt8.ofNat z.toNat, fun _ => ?_⟩
        rw [h1, h3]
        have e : ((UInt8.ofNat z.toNat).toNat : Int) = z := by
          rw [UInt8.toNat_ofNat_of_lt' (by simp; omega)]
          omega
        rw [show b8 (UInt8.ofNat z.toNat) = .int .u8 z from by show Value.int .u8 _ = _; rw [e]]
      · exact ⟨0, fun h => absurd h hi⟩
    obtain ⟨Z, hZ⟩ := Classical.axiomOfChoice hbyte
    obtain ⟨hblk, b, o, rfl⟩ := blk_ok Tryz.underlying38 (hok _ hcs)
    have hlen : ((List.range len).map Z).length = len := by simp
    refine ⟨some ⟨b, o, none⟩, cap, (List.range len).map Z, by rw [hlen]; exact hcs, .inr ⟨b, o, cap, rfl, by rw [hlen]; exact hl, by unfold maxLen at hm; omega, hblk, id, fun i x hi => ?_⟩⟩
    have hil : i < len := by
      have := (List.getElem?_eq_some_iff.1 hi).1
      omega
    have := hZ i hil
    rw [Addr.add_mid] at this
    rw [this]
    simp [hil] at hi
    rw [hi]
end
end Go.Proofs.YtbbocbdoiealoaaGreatDoor

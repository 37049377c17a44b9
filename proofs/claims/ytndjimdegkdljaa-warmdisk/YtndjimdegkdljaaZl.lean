import Derived.Test.YtndjimdegkdljaaZk
import Derived.Test.YtndjimdegkdljaaZa
import Derived.Test.YtndjimdegkdljaaY
/-
  The names of a disk, in order.
-/
namespace Go.Proofs.Ytndjimdegkdljaa
open Go.RowKit Go.Maps Go.Sort Go.Shelf Go.Proofs Go.MapKept
set_option linter.unusedVariables false
set_option linter.unusedSimpArgs false
set_option maxRecDepth 100000

theorem sorts68 (m : Nat) : AnyZ.SortsIn Try.prog layS_ren Fence.wide m :=
  ⟨fun blk off cap ss W hH hblk hsz => callsIn_wide.2 (AnyM.slices_Sort_string layT blk off cap ss W hH hblk hsz),
   fun p cap W => callsIn_wide.2 (AnyM.slices_Sort_string_none layT p cap W)⟩
theorem keys_69 (mb : Option Nat) (W : World) : CallsIn Fence.wide 5 Try.prog 69 #[.map mb] W fun e w' => e = .returned (.func (.func 85) #[] #[.pointer (some ⟨W.heap.size, 0, none⟩)]) ∧ w' = W.alloc (.cells #[.map mb] 71) :=
  AnyZ.keys_in layK Fence.wide 5 trivial rfl mb W
set_option maxHeartbeats 1000000 in
theorem sorted_68 {H : Type} (b nn : Nat) (D0 : DataW H) (R : Value → Option (DataW H × List MemPlace)) (w : World) (hown : w.ownsMap Try.prog 9 R b nn D0) (hmax : Maps.size D0 ≤ maxLen) (hbytes : Maps.size D0 * 16 ≤ 140737488355328) :
    CallsIn Fence.wide 5 Try.prog 68 #[.func (.func 85) #[] #[.pointer (some ⟨w.heap.size, 0, none⟩)]] (w.alloc (.cells #[.map (some b)] 71)) fun e w' => ∃ (v : Value) (ss : List (List UInt8)), e = .returned v ∧ ss.Perm (strKeys D0) ∧
      w'.ownsRow (w.alloc (.cells #[.map (some b)] 71)).heap.size 9 1 v ss.length ((ss.mergeSort (fun x y => decide (x ≤ y))).map encStr) ∧ (v = .slice none 0 0 ↔ ss = []) ∧ Below (w.alloc (.cells #[.map (some b)] 71)).heap.size (w.alloc (.cells #[.map (some b)] 71)) w' := by
  have hbl := hown.lt
  have hseq : SeqGives Fence.wide 2 Try.prog 85 #[.pointer (some ⟨w.heap.size, 0, none⟩)] encStr (fun ss => ss.Perm (strKeys D0)) (Maps.size D0) (w.alloc (.cells #[.map (some b)] 71)) :=
    AnyZ.keys_gives (ρ := layK_ren) { layK with } Fence.wide _ trivial rfl (by omega) w.heap.size b nn D0 _ (by simp) (by simp) (by
      obtain ⟨es, clock, hb, Ft, hs, hD⟩ := hown
      exact ⟨es, clock, (Below.heap_alloc _ _ b hbl).trans hb, Ft, hs, hD⟩)
  exact AnyZ.sorted_in layS Fence.wide 5 trivial trivial trivial trivial rfl (by omega) (sorts68 _) (enters_of Try.func84 (by kernel_rfl) rfl) 85 #[.pointer (some ⟨w.heap.size, 0, none⟩)] trivial (enters_of Try.func85 (by kernel_rfl) rfl) _ _ hmax hbytes _ hseq

/-- A file of the map tells nothing. -/
def RU (_ : Value) : Option (DataW Unit × List MemPlace) := some (.lit (.bool true), [])
theorem keyOf9 {s : Bs} (h : s.length ≤ 1000) : keyOf Try.prog 9 (sv s) = some (.string s) := by
  have : s.length ≤ maxLen := Nat.le_trans h (by decide)
  simp only [keyOf, Try.underlying9, mapKey]
  rw [if_pos (by simpa [ByteArray.size] using this)]
theorem perm_ins {H : Type} (x : Lit × DataW H) (l : List (Lit × DataW H)) : (DataW.insert x l).Perm (x :: l) := by
  induction l with
  | nil => exact .refl _
  | cons y t ih =>
    unfold DataW.insert
    split
    · exact .refl _
    · exact (ih.cons y).trans (List.Perm.swap x y t)
theorem perm_all {H : Type} (l : List (Lit × DataW H)) : (l.foldr DataW.insert []).Perm l := by
  induction l with
  | nil => exact .refl _
  | cons y t ih => exact (perm_ins y _).trans (ih.cons y)
theorem own_map {w : World} {b : Nat} {fb : Nat → Nat} {m : NS} (h : NmM w b fb m) {L : List (Bs × Nat)} (hL : Rep L m) (hk : ∀ s k, m s = some k → s.length ≤ 1000) (hn : L.length ≤ 1000000000) :
    ∃ D0 : DataW Unit, w.ownsMap Try.prog 9 RU b L.length D0 ∧ (strKeys D0).Perm (L.map Prod.fst) ∧ Maps.size D0 = L.length := by
  obtain ⟨es, cl, hb, hs, hr⟩ := h
  obtain ⟨dec, hE⟩ := hr.ent hs
  have hp := hE.rep.perm hL
  have hsz : es.size = L.length := by have := hp.length_eq; simpa using this
  have hrd : ∀ x ∈ es.toList, Go.WideElems.rd Try.prog 9 RU x = some (.string (dec x).1, .lit (.bool true)) := fun x hx => by
    obtain ⟨h1, h2, h3⟩ := hE.sp x hx
    simp only [Go.WideElems.rd, h1, keyOf9 (hk _ _ h3), RU, Option.bind_some, Option.map_some]
  have hrg : es.toList.map (Go.WideElems.rg Try.prog 9 RU) = (es.toList.map dec).map (fun p => (Lit.string p.1, (DataW.lit (.bool true) : DataW Unit))) := by
    rw [List.map_map]
    refine List.map_congr_left fun x hx => ?_
    simp only [Go.WideElems.rg, hrd x hx, Option.getD_some, Function.comp]
  refine ⟨_, ⟨es, cl, hb, ⟨by rw [hsz]; exact Nat.le_trans hn (by decide), hs, fun x hx => ⟨_, hrd x hx⟩⟩, Nat.le_of_eq hsz, rfl⟩, ?_, ?_⟩
  · simp only [strKeys]
    refine ((perm_all _).map _).trans ?_
    rw [hrg, List.map_map]
    refine List.Perm.trans (l₂ := (es.toList.map dec).map Prod.fst) (.of_eq (List.map_congr_left fun x _ => rfl)) (hp.map _)
  · rw [Maps.size_eq, Go.length_sorted]
    simpa using hsz
/-- The names of a list, in order. -/
def srt (L : List (Bs × Nat)) : List Bs := (L.map Prod.fst).mergeSort (fun x y => decide (x ≤ y))
theorem srt_len (L : List (Bs × Nat)) : (srt L).length = L.length := by
  unfold srt
  rw [(List.mergeSort_perm _ _).length_eq, List.length_map]
theorem names_len {M : Md} (h : M.Ok) {s : Bs} {k : Nat} (hs : M.names s = some k) : s.length ≤ 32 := by
  rcases after_from hs with h1 | ⟨c, hc, -, rfl, -⟩
  · exact (h.sf s k h1).2.2
  · exact (h.cf c hc).2.2.1
set_option maxHeartbeats 4000000 in
theorem names_29 {w : World} {p : Pl} {M : Md} (h : RP w p M) (hd : M.dark = false) {L : List (Bs × Nat)} (hL : Rep L M.names) (hn : L.length ≤ 1000000000) :
    Calls Try.prog 29 #[pv p.d] w fun e w' => ∃ v, e = .returned v ∧ w'.ownsRow w.heap.size 9 1 v L.length ((srt L).map sv) ∧ w.grownBy w' none := by
  obtain ⟨D0, hown, hpm, hsz⟩ := own_map h.nm hL (fun s k hk => Nat.le_trans (names_len h.ok hk) (by decide)) hn
  have c3 : w.cell? ⟨p.d, 3, none⟩ = some (.bool true) := by have : w.cell? ⟨p.d, 3, none⟩ = some (.bool (!M.dark)) := h.box.cell 3; rw [hd] at this; exact this
  have c5 : w.cell? ⟨p.d, 5, none⟩ = some (.map (some p.bn)) := h.box.cell 5
  have hmax : Maps.size D0 ≤ maxLen := by rw [hsz]; exact Nat.le_trans hn (by decide)
  have hbytes : Maps.size D0 * 16 ≤ 140737488355328 := by rw [hsz]; omega
  clear h hL
  refine (callsIn_wide (n := 6)).1 ?_
  have hfK : Fence.wide.fn 69 := trivial
  have hfS : Fence.wide.fn 68 := trivial
  refine callsIn_of_wp Try.func29 rfl trivial ?_ rfl
  simp only [Try.ntmps29, List.size_toArray, List.length_cons, List.length_nil, Nat.reduceAdd, Nat.reduceSub, Array.replicate_succ, Array.replicate_zero, List.push_toArray, List.append_toArray, List.nil_append, List.cons_append]
  gi_wp2_with (first
    | (gi_at_call 69; refine (keys_69 _ _).mono ?_; rintro e w' ⟨rfl, rfl⟩)
    | (gi_at_call 68; refine (sorted_68 p.bn L.length D0 RU w hown hmax hbytes).mono ?_; rintro e w' ⟨v, ss, rfl, hS, hrow, hnil, hb⟩))
  go_ret
  have hp2 := hS.trans hpm
  have e1 : ss.mergeSort (fun x y => decide (x ≤ y)) = srt L := mergeSort_of_perm hp2
  have e2 : ss.length = L.length := by rw [hp2.length_eq, List.length_map]
  rw [e1, e2] at hrow
  have hB : Below w.heap.size w w' := ((Below.refl _ w).alloc (Nat.le_refl _) _).trans (hb.mono (by simp))
  exact ⟨v, rfl, ownsRow_base_a hrow (by simp), ⟨hB.os, hB.tape, hB.output, hB.size, fun k hk _ => hB.block k hk⟩⟩
theorem names_dark {w : World} {p : Pl} {M : Md} (h : RP w p M) (hd : M.dark = true) :
    Calls Try.prog 29 #[pv p.d] w fun e w' => e = .returned (.slice none 0 0) ∧ w' = w := by
  have c3 : w.cell? ⟨p.d, 3, none⟩ = some (.bool false) := by have : w.cell? ⟨p.d, 3, none⟩ = some (.bool (!M.dark)) := h.box.cell 3; rw [hd] at this; exact this
  clear h
  go_enter Try.func29, Try.ntmps29
  go_wp2
  go_ret
  exact ⟨rfl, rfl⟩
end Go.Proofs.Ytndjimdegkdljaa

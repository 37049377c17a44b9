import Derived.Test.YtobegepebochkaaGreatDoorF
import Derived.Test.YtobegepebochkaaGreatDoorZl
import Derived.Test.YtobegepebochkaaGreatDoorXb
import Derived.Deep.CutRange
import Derived.Test.YtobegepebochkaaGreatDoorH
/-
  The document's Words.
-/
namespace Go.Proofs.YtobegepebochkaaGreatDoor
open Go.RowKit Go.Maps
set_option linter.unusedVariables false
set_option linter.unusedSimpArgs false

theorem ba_more (l cur : Bs) (i : Nat) (b : UInt8) (hi : i < l.length) (hb : l.getD i 0 = b) : (ByteArray.mk cur.toArray) ++ (ByteArray.mk l.toArray).extract i (i + 1) = ⟨(cur ++ [b]).toArray⟩ := by
  apply ByteArray.ext
  rw [ByteArray.data_append, ByteArray.data_extract]
  simp
  rw [List.getD_eq_getElem?_getD, List.getElem?_eq_getElem hi] at hb
  simp at hb
  rw [List.drop_eq_getElem_cons hi, hb]
  simp
theorem spl_lenY : ∀ (l cur : Bs), (spl cur l).length ≤ l.length + 1
  | [], cur => by simp only [spl]; split <;> simp
  | b :: t, cur => by
    simp only [spl]
    split
    · split
      · have := spl_lenY t []; simp only [List.length_cons]; omega
      · have := spl_lenY t []; simp only [List.length_cons]; omega
    · have := spl_lenY t (cur ++ [b]); simp only [List.length_cons]; omega
theorem spl_memY : ∀ (l cur x : Bs), x ∈ spl cur l → x ≠ [] ∧ x.length ≤ cur.length + l.length
  | [], cur, x, h => by
    simp only [spl] at h
    split at h
    · cases h
    · simp at h; subst h; exact ⟨by assumption, by simp⟩
  | b :: t, cur, x, h => by
    simp only [spl] at h
    split at h
    · split at h
      · have := spl_memY t [] x h; exact ⟨this.1, by have := this.2; simp at this ⊢; omega⟩
      · rcases List.mem_cons.1 h with rfl | h
        · exact ⟨by assumption, by simp⟩
        · have := spl_memY t [] x h; exact ⟨this.1, by have := this.2; simp at this ⊢; omega⟩
    · have := spl_memY t (cur ++ [b]) x h; exact ⟨this.1, by have := this.2; simp at this ⊢; omega⟩
set_option maxRecDepth 100000 in
set_option maxHeartbeats 4000000 in
theorem words_56 (l : Bs) (hl : l.length ≤ 65536) (w : World) :
    Calls Tryz.prog 56 #[sv l] w fun e w' => ∃ v, e = .returned v ∧ w'.ownsRow w.heap.size 9 1 v (spl [] l).length ((spl [] l).map sv) ∧ w.grownBy w' none := by
  have hs : (ByteArray.mk l.toArray).size = l.length := ba_size l
  go_enter Tryz.func56, Tryz.ntmps56
  go_wp2
  go_loopw [3, 4, 5] (fun ov cv v wr => ∃ (i : Nat) (done : List Bs) (cur : Bs), i ≤ l.length ∧ v = .int .i64 i ∧ cv = sv cur ∧ wr.ownsRow w.heap.size 9 1 ov done.length (done.map sv) ∧ spl [] l = done ++ spl cur (l.drop i) ∧ w.grownBy wr none ∧ done.length ≤ i ∧ cur.length ≤ i) (fun _ _ v _ => l.length - (intOf v).toNat)
  case atStart => exact ⟨0, [], [], by omega, rfl, rfl, ⟨rfl, .inl ⟨rfl, rfl⟩⟩, rfl, gb_refl _ _, by simp, by simp⟩
  case round =>
    obtain ⟨i, done, cur, hi, rfl, rfl, hrow, hspl, hg, hdl, hcl⟩ := hrel
    obtain ⟨ao, cp, hd, _, _, _, _⟩ := row_shape hrow
    subst hd
    have hsz := hg.size
    rcases (by omega : i < l.length ∨ i = l.length) with hlt | rfl
    · obtain ⟨b, hb⟩ : ∃ b, l.getD i 0 = b := ⟨_, rfl⟩
      have hgt : ∀ h : i < (ByteArray.mk l.toArray).size, (ByteArray.mk l.toArray)[i] = b := fun h => (ba_get l i h).trans hb
      have hdr : l.drop i = b :: l.drop (i + 1) := by
        rw [List.drop_eq_getElem_cons hlt, ← hb]; simp [List.getD, hlt]
      rw [hdr] at hspl
      simp only [spl] at hspl
      have hmore := ba_more l cur i b hlt hb
      have d1 : (i : Int) < l.length := by omega
      have d2 : (i : Int) + 1 ≤ l.length := by omega
      clear hdr hb
      by_cases hb : b = 32
      · subst hb
        rw [if_pos rfl] at hspl
        cases cur with
        | nil =>
          rw [if_pos rfl] at hspl
          clear hmore
          go_wp2
          exact ⟨⟨i + 1, done, [], by omega, by go_num, rfl, hrow, hspl, hg, by omega, by simp⟩, by simp [intOf]; omega⟩
        | cons c cs =>
          rw [if_neg (by simp)] at hspl
          have hne : ¬ (ByteArray.mk (c :: cs).toArray = ⟨#[]⟩) := by intro h; injection h with h; simp at h
          clear hmore
          go_wp2_with (at_builtin; go_must (refine push9 rfl _ _ rfl w.heap.size _ done.length _ (by rfl) hrow ⟨(c :: cs).toArray⟩ (by rfl) (by omega) hsz ?_))
          intro g4 cap4 w4 hrow4 hgb4 hat4
          have hg4 := gb_far hg hgb4 (fun k hk => (World.ownsRow.lt hrow k hk).1) (Nat.le_refl _)
          have hrow5 : w4.ownsRow w.heap.size 9 1 (.slice (some ⟨g4, 0, none⟩) (done ++ [c :: cs]).length cap4) (done ++ [c :: cs]).length ((done ++ [c :: cs]).map sv) := by simpa using hrow4
          have hlen : (done ++ [c :: cs]).length = done.length + 1 := by simp
          clear hgb4 hat4 hrow hrow4
          go_wp2
          exact ⟨⟨i + 1, done ++ [c :: cs], [], by omega, by go_num, rfl, by rw [hlen] at hrow5 ⊢; exact hrow5, by rw [hspl]; simp, hg4, by rw [hlen]; omega, by simp⟩, by simp [intOf]; omega⟩
      · rw [if_neg hb] at hspl
        have hbn : ¬ b.toNat = 32 := fun h => hb (UInt8.toNat_inj.1 h)
        have hbi : ((b.toNat : Int) == 32) = false := by simp; omega
        have hbj : (b.toNat == 32) = false := by simp; omega
        go_wp2
        exact ⟨⟨i + 1, done, cur ++ [b], by omega, by go_num, by first | rw [hmore] | rfl, hrow, hspl, hg, by omega, by simp; omega⟩, by simp [intOf]; omega⟩
    · rw [List.drop_length] at hspl
      simp only [spl] at hspl
      cases cur with
      | nil =>
        rw [if_pos rfl, List.append_nil] at hspl
        have hpost : ∃ v, Ending.returned (Value.slice ao done.length cp) = .returned v ∧ wr.ownsRow w.heap.size 9 1 v (spl [] l).length ((spl [] l).map sv) ∧ w.grownBy wr none := ⟨_, rfl, by rw [hspl]; exact hrow, hg⟩
        go_wp2_with fail
        exact bodyPost_ret (v := .slice ao done.length cp) (results_tmp Tryz.results56 _ _ _) rfl hpost
      | cons c cs =>
        rw [if_neg (by simp)] at hspl
        have hne : ¬ (ByteArray.mk (c :: cs).toArray = ⟨#[]⟩) := by intro h; injection h with h; simp at h
        go_wp2_with (at_builtin; go_must (refine push9 rfl _ _ rfl w.heap.size _ done.length _ (by rfl) hrow ⟨(c :: cs).toArray⟩ (by rfl) (by omega) hsz ?_))
        intro g4 cap4 w4 hrow4 hgb4 hat4
        have hg4 := gb_far hg hgb4 (fun k hk => (World.ownsRow.lt hrow k hk).1) (Nat.le_refl _)
        have hrow5 : w4.ownsRow w.heap.size 9 1 (.slice (some ⟨g4, 0, none⟩) (done.length + 1) cap4) (spl [] l).length ((spl [] l).map sv) := by rw [hspl]; simpa using hrow4
        clear hgb4 hat4 hrow hrow4
        have hpost : ∃ v, Ending.returned (Value.slice (some ⟨g4, 0, none⟩) (done.length + 1) cap4) = .returned v ∧ w4.ownsRow w.heap.size 9 1 v (spl [] l).length ((spl [] l).map sv) ∧ w.grownBy w4 none := ⟨_, rfl, hrow5, hg4⟩
        go_wp2_with fail
        exact bodyPost_ret (v := .slice (some ⟨g4, 0, none⟩) (done.length + 1) cap4) (results_tmp Tryz.results56 _ _ _) rfl hpost
end Go.Proofs.YtobegepebochkaaGreatDoor
/-
  The document's words of the verbs, and which verb a word is.
-/
namespace Go.Proofs.YtobegepebochkaaGreatDoor
open Go.RowKit Go.Maps
set_option linter.unusedVariables false
set_option linter.unusedSimpArgs false
attribute [local go_sem] Oper.semAt_some

/-- The word of verb i + 1. -/
def spn (i : Nat) : Bs := (rowL.map Prod.fst).getD i []
theorem size186 : (Tryz.prog.info? 186).map (·.size) = some 24 := by kernel_rfl
theorem Tryz.info186 : (Tryz.prog.info? 186).map (fun i => (i.zero, i.size, i.bytes)) = some (some (.agg #[.string ⟨#[]⟩, .string ⟨#[]⟩, .string ⟨#[]⟩, .string ⟨#[]⟩, .string ⟨#[]⟩, .string ⟨#[]⟩, .string ⟨#[]⟩, .string ⟨#[]⟩, .string ⟨#[]⟩, .string ⟨#[]⟩, .string ⟨#[]⟩, .string ⟨#[]⟩, .string ⟨#[]⟩, .string ⟨#[]⟩, .string ⟨#[]⟩, .string ⟨#[]⟩, .string ⟨#[]⟩, .string ⟨#[]⟩, .string ⟨#[]⟩, .string ⟨#[]⟩, .string ⟨#[]⟩, .string ⟨#[]⟩, .string ⟨#[]⟩, .string ⟨#[]⟩]), 24, 384) := by kernel_rfl
theorem spn_at : ∀ k : Nat, k < 24 → (#[.string ⟨#[103, 101, 116]⟩, .string ⟨#[103, 101, 116, 115]⟩, .string ⟨#[103, 97, 116]⟩, .string ⟨#[103, 97, 116, 115]⟩, .string ⟨#[115, 101, 116]⟩, .string ⟨#[97, 100, 100]⟩, .string ⟨#[114, 101, 112, 108, 97, 99, 101]⟩, .string ⟨#[97, 112, 112, 101, 110, 100]⟩, .string ⟨#[112, 114, 101, 112, 101, 110, 100]⟩, .string ⟨#[99, 97, 115]⟩, .string ⟨#[100, 101, 108, 101, 116, 101]⟩, .string ⟨#[105, 110, 99, 114]⟩, .string ⟨#[100, 101, 99, 114]⟩, .string ⟨#[116, 111, 117, 99, 104]⟩, .string ⟨#[102, 108, 117, 115, 104, 95, 97, 108, 108]⟩, .string ⟨#[118, 101, 114, 115, 105, 111, 110]⟩, .string ⟨#[118, 101, 114, 98, 111, 115, 105, 116, 121]⟩, .string ⟨#[113, 117, 105, 116]⟩, .string ⟨#[115, 116, 97, 116, 115]⟩, .string ⟨#[109, 103]⟩, .string ⟨#[109, 115]⟩, .string ⟨#[109, 100]⟩, .string ⟨#[109, 97]⟩, .string ⟨#[109, 110]⟩] : Array Value)[k]? = some (sv (spn k))
  | 0, _ => rfl
  | 1, _ => rfl
  | 2, _ => rfl
  | 3, _ => rfl
  | 4, _ => rfl
  | 5, _ => rfl
  | 6, _ => rfl
  | 7, _ => rfl
  | 8, _ => rfl
  | 9, _ => rfl
  | 10, _ => rfl
  | 11, _ => rfl
  | 12, _ => rfl
  | 13, _ => rfl
  | 14, _ => rfl
  | 15, _ => rfl
  | 16, _ => rfl
  | 17, _ => rfl
  | 18, _ => rfl
  | 19, _ => rfl
  | 20, _ => rfl
  | 21, _ => rfl
  | 22, _ => rfl
  | 23, _ => rfl
  | n + 24, h => absurd h (by omega)
theorem spn_row (i : Nat) (hi : i < 24) : ∃ r, rowS (spn i) = some r ∧ r.verb = (i : Int) + 1 := by
  rcases (by omega : i = 0 ∨ i = 1 ∨ i = 2 ∨ i = 3 ∨ i = 4 ∨ i = 5 ∨ i = 6 ∨ i = 7 ∨ i = 8 ∨ i = 9 ∨ i = 10 ∨ i = 11 ∨ i = 12 ∨ i = 13 ∨ i = 14 ∨ i = 15 ∨ i = 16 ∨ i = 17 ∨ i = 18 ∨ i = 19 ∨ i = 20 ∨ i = 21 ∨ i = 22 ∨ i = 23) with rfl | rfl | rfl | rfl | rfl | rfl | rfl | rfl | rfl | rfl | rfl | rfl | rfl | rfl | rfl | rfl | rfl | rfl | rfl | rfl | rfl | rfl | rfl | rfl <;> exact ⟨_, rfl, rfl⟩
theorem lookup_none : ∀ (l : List (Bs × Rw)) (x : Bs), (∀ i, i < l.length → (l.map Prod.fst).getD i [] ≠ x) → l.lookup x = none
  | [], _, _ => rfl
  | (k, r) :: l, x, h => by
    have h0 := h 0 (by simp)
    have e : (x == k) = false := by
      simp at h0
      simp
      exact fun e => h0 e.symm
    rw [List.lookup_cons, e]
    exact lookup_none l x (fun i hi => by have := h (i + 1) (by simp; omega); simpa using this)
theorem row_none {x : Bs} (h : ∀ i, i < 24 → spn i ≠ x) : rowS x = none := lookup_none rowL x (fun i hi => h i hi)
set_option maxRecDepth 100000 in
set_option maxHeartbeats 4000000 in
theorem spelled_95 (i : Nat) (hi : i < 24) (w : World) : Calls Tryz.prog 95 #[.int .i64 ((i : Int) + 1)] w fun e w' => e = .returned (sv (spn i)) ∧ w.grownBy w' none := by
  obtain ⟨i0, hi0, hz0, hz1, hz2⟩ := info_parts Tryz.info186
  have e1 : IntKind.i64.wrap ((i : Int) + 1 - 1) = i := by rw [IntKind.wrap_i64]; omega
  have e2 : (i : Int) + 1 - 1 = i := by omega
  have d1 : (i : Int) < 24 := by omega
  have ga := World.grownBy_alloc w (.cells #[.string ⟨#[]⟩, .string ⟨#[]⟩, .string ⟨#[]⟩, .string ⟨#[]⟩, .string ⟨#[]⟩, .string ⟨#[]⟩, .string ⟨#[]⟩, .string ⟨#[]⟩, .string ⟨#[]⟩, .string ⟨#[]⟩, .string ⟨#[]⟩, .string ⟨#[]⟩, .string ⟨#[]⟩, .string ⟨#[]⟩, .string ⟨#[]⟩, .string ⟨#[]⟩, .string ⟨#[]⟩, .string ⟨#[]⟩, .string ⟨#[]⟩, .string ⟨#[]⟩, .string ⟨#[]⟩, .string ⟨#[]⟩, .string ⟨#[]⟩, .string ⟨#[]⟩] 186) none
  have hat := spn_at i hi
  obtain ⟨x, hx⟩ : ∃ x, spn i = x := ⟨_, rfl⟩
  rw [hx] at hat ⊢
  clear hx
  go_enter Tryz.func95, Tryz.ntmps95
  go_upto_region 2 with (first
    | (refine atS 186 w.heap.size 0 rfl rfl ?_; go_must (refine storeT 186 24 size186 rfl _ _ rfl 186 w.heap.size 0 _ (Box.new w 186 #[.string ⟨#[]⟩, .string ⟨#[]⟩, .string ⟨#[]⟩, .string ⟨#[]⟩, .string ⟨#[]⟩, .string ⟨#[]⟩, .string ⟨#[]⟩, .string ⟨#[]⟩, .string ⟨#[]⟩, .string ⟨#[]⟩, .string ⟨#[]⟩, .string ⟨#[]⟩, .string ⟨#[]⟩, .string ⟨#[]⟩, .string ⟨#[]⟩, .string ⟨#[]⟩, .string ⟨#[]⟩, .string ⟨#[]⟩, .string ⟨#[]⟩, .string ⟨#[]⟩, .string ⟨#[]⟩, .string ⟨#[]⟩, .string ⟨#[]⟩, .string ⟨#[]⟩]) (by simp) rfl _ rfl rfl (by simp [Value.oneCell']) ?_); intro W B g))
  rw [show sets #[.string ⟨#[]⟩, .string ⟨#[]⟩, .string ⟨#[]⟩, .string ⟨#[]⟩, .string ⟨#[]⟩, .string ⟨#[]⟩, .string ⟨#[]⟩, .string ⟨#[]⟩, .string ⟨#[]⟩, .string ⟨#[]⟩, .string ⟨#[]⟩, .string ⟨#[]⟩, .string ⟨#[]⟩, .string ⟨#[]⟩, .string ⟨#[]⟩, .string ⟨#[]⟩, .string ⟨#[]⟩, .string ⟨#[]⟩, .string ⟨#[]⟩, .string ⟨#[]⟩, .string ⟨#[]⟩, .string ⟨#[]⟩, .string ⟨#[]⟩, .string ⟨#[]⟩] 0 ((#[.string ⟨#[103, 101, 116]⟩, .string ⟨#[103, 101, 116, 115]⟩, .string ⟨#[103, 97, 116]⟩, .string ⟨#[103, 97, 116, 115]⟩, .string ⟨#[115, 101, 116]⟩, .string ⟨#[97, 100, 100]⟩, .string ⟨#[114, 101, 112, 108, 97, 99, 101]⟩, .string ⟨#[97, 112, 112, 101, 110, 100]⟩, .string ⟨#[112, 114, 101, 112, 101, 110, 100]⟩, .string ⟨#[99, 97, 115]⟩, .string ⟨#[100, 101, 108, 101, 116, 101]⟩, .string ⟨#[105, 110, 99, 114]⟩, .string ⟨#[100, 101, 99, 114]⟩, .string ⟨#[116, 111, 117, 99, 104]⟩, .string ⟨#[102, 108, 117, 115, 104, 95, 97, 108, 108]⟩, .string ⟨#[118, 101, 114, 115, 105, 111, 110]⟩, .string ⟨#[118, 101, 114, 98, 111, 115, 105, 116, 121]⟩, .string ⟨#[113, 117, 105, 116]⟩, .string ⟨#[115, 116, 97, 116, 115]⟩, .string ⟨#[109, 103]⟩, .string ⟨#[109, 115]⟩, .string ⟨#[109, 100]⟩, .string ⟨#[109, 97]⟩, .string ⟨#[109, 110]⟩] : Array Value)).toList = #[.string ⟨#[103, 101, 116]⟩, .string ⟨#[103, 101, 116, 115]⟩, .string ⟨#[103, 97, 116]⟩, .string ⟨#[103, 97, 116, 115]⟩, .string ⟨#[115, 101, 116]⟩, .string ⟨#[97, 100, 100]⟩, .string ⟨#[114, 101, 112, 108, 97, 99, 101]⟩, .string ⟨#[97, 112, 112, 101, 110, 100]⟩, .string ⟨#[112, 114, 101, 112, 101, 110, 100]⟩, .string ⟨#[99, 97, 115]⟩, .string ⟨#[100, 101, 108, 101, 116, 101]⟩, .string ⟨#[105, 110, 99, 114]⟩, .string ⟨#[100, 101, 99, 114]⟩, .string ⟨#[116, 111, 117, 99, 104]⟩, .string ⟨#[102, 108, 117, 115, 104, 95, 97, 108, 108]⟩, .string ⟨#[118, 101, 114, 115, 105, 111, 110]⟩, .string ⟨#[118, 101, 114, 98, 111, 115, 105, 116, 121]⟩, .string ⟨#[113, 117, 105, 116]⟩, .string ⟨#[115, 116, 97, 116, 115]⟩, .string ⟨#[109, 103]⟩, .string ⟨#[109, 115]⟩, .string ⟨#[109, 100]⟩, .string ⟨#[109, 97]⟩, .string ⟨#[109, 110]⟩] from rfl] at B
  have hc : W.cell? ⟨w.heap.size, i, none⟩ = some (sv x) := by rw [B.cell]; exact hat
  have G : w.grownBy W none := gb_mine ga g (Nat.le_refl _)
  clear hat B g ga hi0 hz0 hz1 hz2
  generalize (Value.agg #[.string ⟨#[103, 101, 116]⟩, .string ⟨#[103, 101, 116, 115]⟩, .string ⟨#[103, 97, 116]⟩, .string ⟨#[103, 97, 116, 115]⟩, .string ⟨#[115, 101, 116]⟩, .string ⟨#[97, 100, 100]⟩, .string ⟨#[114, 101, 112, 108, 97, 99, 101]⟩, .string ⟨#[97, 112, 112, 101, 110, 100]⟩, .string ⟨#[112, 114, 101, 112, 101, 110, 100]⟩, .string ⟨#[99, 97, 115]⟩, .string ⟨#[100, 101, 108, 101, 116, 101]⟩, .string ⟨#[105, 110, 99, 114]⟩, .string ⟨#[100, 101, 99, 114]⟩, .string ⟨#[116, 111, 117, 99, 104]⟩, .string ⟨#[102, 108, 117, 115, 104, 95, 97, 108, 108]⟩, .string ⟨#[118, 101, 114, 115, 105, 111, 110]⟩, .string ⟨#[118, 101, 114, 98, 111, 115, 105, 116, 121]⟩, .string ⟨#[113, 117, 105, 116]⟩, .string ⟨#[115, 116, 97, 116, 115]⟩, .string ⟨#[109, 103]⟩, .string ⟨#[109, 115]⟩, .string ⟨#[109, 100]⟩, .string ⟨#[109, 97]⟩, .string ⟨#[109, 110]⟩]) = V4
  go_wp2_with fail
  exact bodyPost_ret (v := sv x) (results_tmp Tryz.results95 _ _ _) rfl ⟨rfl, G⟩
/-- Which verb a word is; 0: none. -/
def vbS (x : Bs) : Int := match rowS x with | some r => r.verb | none => 0
theorem vbS_yes {i : Nat} (hi : i < 24) : vbS (spn i) = (i : Int) + 1 := by
  obtain ⟨r, h1, h2⟩ := spn_row i hi
  unfold vbS; rw [h1]; exact h2
set_option maxRecDepth 100000 in
set_option maxHeartbeats 4000000 in
theorem verbOf_57 (x : Bs) (w : World) : Calls Tryz.prog 57 #[sv x] w fun e w' => e = .returned (.int .i64 (vbS x)) ∧ w.grownBy w' none := by
  obtain ⟨R, hR⟩ : ∃ R, vbS x = R := ⟨_, rfl⟩
  rw [hR]
  have A : Aside (vbS x = R) := hR
  clear hR
  go_enter Tryz.func57, Tryz.ntmps57
  go_wp2
  go_loopw [3] (fun v wr => ∃ i : Nat, i ≤ 24 ∧ v = .int .i64 ((i : Int) + 1) ∧ w.grownBy wr none ∧ ∀ j, j < i → spn j ≠ x) (fun v _ => 26 - (intOf v).toNat)
  case atStart => exact ⟨0, by omega, rfl, gb_refl _ _, fun j hj => by omega⟩
  case round =>
    obtain ⟨i, hi, rfl, hg, hn⟩ := hrel
    rcases (by omega : i < 24 ∨ i = 24) with hlt | rfl
    · have h95 := spelled_95 i hlt wr
      have d1 : (i : Int) + 1 ≤ 24 := by omega
      have hv := vbS_yes hlt
      by_cases hx : spn i = x
      · rw [hx] at h95 hv
        obtain rfl : R = (i : Int) + 1 := A.out.symm.trans hv
        clear hn hx hv A
        go_wp2_with (go_at_call 95; go_must ((with_reducible refine h95.mono ?_); rintro e w6 ⟨rfl, hg6⟩))
        go_ret
        exact ⟨rfl, gb_trans hg hg6⟩
      · have hne : (spn i == x) = false := by simpa using hx
        have hn2 : ∀ j, j < i + 1 → spn j ≠ x := fun j hj => by
          by_cases e : j = i
          · subst e; exact hx
          · exact hn j (by omega)
        generalize spn i = y at *
        clear hv hn hx
        go_wp2_with (go_at_call 95; go_must ((with_reducible refine h95.mono ?_); rintro e w6 ⟨rfl, hg6⟩))
        exact ⟨⟨i + 1, by omega, by go_num, gb_trans hg hg6, hn2⟩, by simp [intOf]; omega⟩
    · obtain rfl : R = 0 := A.out.symm.trans (by unfold vbS; rw [row_none hn])
      clear hn A
      go_wp2
      go_ret
      exact ⟨rfl, hg⟩
end Go.Proofs.YtobegepebochkaaGreatDoor
/-
  The document's rows of the verbs; what a wrong line is told; the number in N's place.
-/
namespace Go.Proofs.YtobegepebochkaaGreatDoor
open Go.RowKit Go.Maps
set_option linter.unusedVariables false
set_option linter.unusedSimpArgs false
attribute [local go_sem] Oper.semAt_some

structure Dr where
  shape : Bs
  least : Nat
  again : Bool
  reply : Bool
  block : Bool
/-- The document's rows. -/
def drL : List Dr := [⟨[75], 1, true, false, false⟩, ⟨[75], 1, true, false, false⟩, ⟨[84, 75], 2, true, false, false⟩, ⟨[84, 75], 2, true, false, false⟩, ⟨[75, 70, 84, 78], 4, false, true, true⟩, ⟨[75, 70, 84, 78], 4, false, true, true⟩, ⟨[75, 70, 84, 78], 4, false, true, true⟩, ⟨[75, 70, 84, 78], 4, false, true, true⟩, ⟨[75, 70, 84, 78], 4, false, true, true⟩, ⟨[75, 70, 84, 78, 67], 5, false, true, true⟩, ⟨[75, 90], 1, false, true, false⟩, ⟨[75, 68], 2, false, true, false⟩, ⟨[75, 68], 2, false, true, false⟩, ⟨[75, 84], 2, false, true, false⟩, ⟨[83], 0, false, true, false⟩, ⟨[], 0, false, false, false⟩, ⟨[86], 1, false, true, false⟩, ⟨[], 0, false, false, false⟩, ⟨[87], 0, false, false, false⟩, ⟨[75, 71], 1, true, false, false⟩, ⟨[75, 78, 71], 2, true, false, true⟩, ⟨[75, 71], 1, true, false, false⟩, ⟨[75, 71], 1, true, false, false⟩, ⟨[], 0, false, false, false⟩]
def dr (i : Nat) : Dr := drL.getD i ⟨[], 0, false, false, false⟩
abbrev drA (i : Nat) : Array Value := #[.int .i64 ((i : Int) + 1), sv (dr i).shape, .int .i64 ((dr i).least : Nat), .bool (dr i).again, .bool (dr i).reply, .bool (dr i).block]
theorem res58 {w : World} {b : Nat} {c0 c1 c2 c3 c4 c5 : Value} (h : Box w 111 b #[c0, c1, c2, c3, c4, c5]) (tmps : Array Value) (h2 : tmps[2]?.getD undef = .pointer (some ⟨b, 0, none⟩)) : (results Tryz.f58 tmps).run Tryz.prog w = .ok (.agg #[c0, c1, c2, c3, c4, c5]) w := by
  have hr : Tryz.f58.results = #[.cell 2 111] := rfl
  have p0 := h.cell 0
  have p1 := h.cell 1
  have p2 := h.cell 2
  have p3 := h.cell 3
  have p4 := h.cell 4
  have p5 := h.cell 5
  simp at p0 p1 p2 p3 p4 p5
  unfold results
  simp [hr, h2, go_sem, p0, p1, p2, p3, p4, p5]
theorem res55 {w : World} {b1 b3 : Nat} {c0 c1 c2 c3 c4 c5 c6 c7 c8 c9 c10 d e0 e1 e2 : Value} (h : Box w 41 b1 #[c0, c1, c2, c3, c4, c5, c6, c7, c8, c9, c10]) (k : Box w 43 b3 #[e0, e1, e2]) (tmps : Array Value) (h2 : tmps[4]?.getD undef = .pointer (some ⟨b1, 0, none⟩)) (h3 : tmps[5]?.getD undef = d) (h4 : tmps[6]?.getD undef = .pointer (some ⟨b3, 0, none⟩)) : (results Tryz.f55 tmps).run Tryz.prog w = .ok (.tuple #[.agg #[c0, c1, c2, c3, c4, c5, c6, c7, c8, c9, c10], d, .agg #[e0, e1, e2]]) w := by
  have hr : Tryz.f55.results = #[.cell 4 41, .tmp 5, .cell 6 43] := rfl
  have p0 := h.cell 0
  have p1 := h.cell 1
  have p2 := h.cell 2
  have p3 := h.cell 3
  have p4 := h.cell 4
  have p5 := h.cell 5
  have p6 := h.cell 6
  have p7 := h.cell 7
  have p8 := h.cell 8
  have p9 := h.cell 9
  have p10 := h.cell 10
  simp at p0 p1 p2 p3 p4 p5 p6 p7 p8 p9 p10
  have s0 := k.cell 0
  have s1 := k.cell 1
  have s2 := k.cell 2
  simp at s0 s1 s2
  unfold results
  simp [hr, h2, h3, h4, go_sem, p0, p1, p2, p3, p4, p5, p6, p7, p8, p9, p10, s0, s1, s2]
set_option maxRecDepth 100000 in
theorem rowOf_58_0 (w : World) : Calls Tryz.prog 58 #[.int .i64 1] w fun e w' => e = .returned (.agg #[.int .i64 1, .string ⟨#[75]⟩, .int .i64 1, .bool true, .bool false, .bool false]) ∧ w.grownBy w' none := by
  go_enter Tryz.func58, Tryz.ntmps58
  go_wp2
  exact ⟨rfl, _, res58 (Box.new w 111 #[.int .i64 1, .string ⟨#[75]⟩, .int .i64 1, .bool true, .bool false, .bool false]) _ rfl, rfl, gb_alloc (gb_refl w none) _⟩
set_option maxRecDepth 100000 in
theorem rowOf_58_1 (w : World) : Calls Tryz.prog 58 #[.int .i64 2] w fun e w' => e = .returned (.agg #[.int .i64 2, .string ⟨#[75]⟩, .int .i64 1, .bool true, .bool false, .bool false]) ∧ w.grownBy w' none := by
  go_enter Tryz.func58, Tryz.ntmps58
  go_wp2
  exact ⟨rfl, _, res58 (Box.new w 111 #[.int .i64 2, .string ⟨#[75]⟩, .int .i64 1, .bool true, .bool false, .bool false]) _ rfl, rfl, gb_alloc (gb_refl w none) _⟩
set_option maxRecDepth 100000 in
theorem rowOf_58_2 (w : World) : Calls Tryz.prog 58 #[.int .i64 3] w fun e w' => e = .returned (.agg #[.int .i64 3, .string ⟨#[84, 75]⟩, .int .i64 2, .bool true, .bool false, .bool false]) ∧ w.grownBy w' none := by
  go_enter Tryz.func58, Tryz.ntmps58
  go_wp2
  exact ⟨rfl, _, res58 (Box.new w 111 #[.int .i64 3, .string ⟨#[84, 75]⟩, .int .i64 2, .bool true, .bool false, .bool false]) _ rfl, rfl, gb_alloc (gb_refl w none) _⟩
set_option maxRecDepth 100000 in
theorem rowOf_58_3 (w : World) : Calls Tryz.prog 58 #[.int .i64 4] w fun e w' => e = .returned (.agg #[.int .i64 4, .string ⟨#[84, 75]⟩, .int .i64 2, .bool true, .bool false, .bool false]) ∧ w.grownBy w' none := by
  go_enter Tryz.func58, Tryz.ntmps58
  go_wp2
  exact ⟨rfl, _, res58 (Box.new w 111 #[.int .i64 4, .string ⟨#[84, 75]⟩, .int .i64 2, .bool true, .bool false, .bool false]) _ rfl, rfl, gb_alloc (gb_refl w none) _⟩
set_option maxRecDepth 100000 in
theorem rowOf_58_4 (w : World) : Calls Tryz.prog 58 #[.int .i64 5] w fun e w' => e = .returned (.agg #[.int .i64 5, .string ⟨#[75, 70, 84, 78]⟩, .int .i64 4, .bool false, .bool true, .bool true]) ∧ w.grownBy w' none := by
  go_enter Tryz.func58, Tryz.ntmps58
  go_wp2
  exact ⟨rfl, _, res58 (Box.new w 111 #[.int .i64 5, .string ⟨#[75, 70, 84, 78]⟩, .int .i64 4, .bool false, .bool true, .bool true]) _ rfl, rfl, gb_alloc (gb_refl w none) _⟩
set_option maxRecDepth 100000 in
theorem rowOf_58_5 (w : World) : Calls Tryz.prog 58 #[.int .i64 6] w fun e w' => e = .returned (.agg #[.int .i64 6, .string ⟨#[75, 70, 84, 78]⟩, .int .i64 4, .bool false, .bool true, .bool true]) ∧ w.grownBy w' none := by
  go_enter Tryz.func58, Tryz.ntmps58
  go_wp2
  exact ⟨rfl, _, res58 (Box.new w 111 #[.int .i64 6, .string ⟨#[75, 70, 84, 78]⟩, .int .i64 4, .bool false, .bool true, .bool true]) _ rfl, rfl, gb_alloc (gb_refl w none) _⟩
set_option maxRecDepth 100000 in
theorem rowOf_58_6 (w : World) : Calls Tryz.prog 58 #[.int .i64 7] w fun e w' => e = .returned (.agg #[.int .i64 7, .string ⟨#[75, 70, 84, 78]⟩, .int .i64 4, .bool false, .bool true, .bool true]) ∧ w.grownBy w' none := by
  go_enter Tryz.func58, Tryz.ntmps58
  go_wp2
  exact ⟨rfl, _, res58 (Box.new w 111 #[.int .i64 7, .string ⟨#[75, 70, 84, 78]⟩, .int .i64 4, .bool false, .bool true, .bool true]) _ rfl, rfl, gb_alloc (gb_refl w none) _⟩
set_option maxRecDepth 100000 in
theorem rowOf_58_7 (w : World) : Calls Tryz.prog 58 #[.int .i64 8] w fun e w' => e = .returned (.agg #[.int .i64 8, .string ⟨#[75, 70, 84, 78]⟩, .int .i64 4, .bool false, .bool true, .bool true]) ∧ w.grownBy w' none := by
  go_enter Tryz.func58, Tryz.ntmps58
  go_wp2
  exact ⟨rfl, _, res58 (Box.new w 111 #[.int .i64 8, .string ⟨#[75, 70, 84, 78]⟩, .int .i64 4, .bool false, .bool true, .bool true]) _ rfl, rfl, gb_alloc (gb_refl w none) _⟩
set_option maxRecDepth 100000 in
theorem rowOf_58_8 (w : World) : Calls Tryz.prog 58 #[.int .i64 9] w fun e w' => e = .returned (.agg #[.int .i64 9, .string ⟨#[75, 70, 84, 78]⟩, .int .i64 4, .bool false, .bool true, .bool true]) ∧ w.grownBy w' none := by
  go_enter Tryz.func58, Tryz.ntmps58
  go_wp2
  exact ⟨rfl, _, res58 (Box.new w 111 #[.int .i64 9, .string ⟨#[75, 70, 84, 78]⟩, .int .i64 4, .bool false, .bool true, .bool true]) _ rfl, rfl, gb_alloc (gb_refl w none) _⟩
set_option maxRecDepth 100000 in
theorem rowOf_58_9 (w : World) : Calls Tryz.prog 58 #[.int .i64 10] w fun e w' => e = .returned (.agg #[.int .i64 10, .string ⟨#[75, 70, 84, 78, 67]⟩, .int .i64 5, .bool false, .bool true, .bool true]) ∧ w.grownBy w' none := by
  go_enter Tryz.func58, Tryz.ntmps58
  go_wp2
  exact ⟨rfl, _, res58 (Box.new w 111 #[.int .i64 10, .string ⟨#[75, 70, 84, 78, 67]⟩, .int .i64 5, .bool false, .bool true, .bool true]) _ rfl, rfl, gb_alloc (gb_refl w none) _⟩
set_option maxRecDepth 100000 in
theorem rowOf_58_10 (w : World) : Calls Tryz.prog 58 #[.int .i64 11] w fun e w' => e = .returned (.agg #[.int .i64 11, .string ⟨#[75, 90]⟩, .int .i64 1, .bool false, .bool true, .bool false]) ∧ w.grownBy w' none := by
  go_enter Tryz.func58, Tryz.ntmps58
  go_wp2
  exact ⟨rfl, _, res58 (Box.new w 111 #[.int .i64 11, .string ⟨#[75, 90]⟩, .int .i64 1, .bool false, .bool true, .bool false]) _ rfl, rfl, gb_alloc (gb_refl w none) _⟩
set_option maxRecDepth 100000 in
theorem rowOf_58_11 (w : World) : Calls Tryz.prog 58 #[.int .i64 12] w fun e w' => e = .returned (.agg #[.int .i64 12, .string ⟨#[75, 68]⟩, .int .i64 2, .bool false, .bool true, .bool false]) ∧ w.grownBy w' none := by
  go_enter Tryz.func58, Tryz.ntmps58
  go_wp2
  exact ⟨rfl, _, res58 (Box.new w 111 #[.int .i64 12, .string ⟨#[75, 68]⟩, .int .i64 2, .bool false, .bool true, .bool false]) _ rfl, rfl, gb_alloc (gb_refl w none) _⟩
set_option maxRecDepth 100000 in
theorem rowOf_58_12 (w : World) : Calls Tryz.prog 58 #[.int .i64 13] w fun e w' => e = .returned (.agg #[.int .i64 13, .string ⟨#[75, 68]⟩, .int .i64 2, .bool false, .bool true, .bool false]) ∧ w.grownBy w' none := by
  go_enter Tryz.func58, Tryz.ntmps58
  go_wp2
  exact ⟨rfl, _, res58 (Box.new w 111 #[.int .i64 13, .string ⟨#[75, 68]⟩, .int .i64 2, .bool false, .bool true, .bool false]) _ rfl, rfl, gb_alloc (gb_refl w none) _⟩
set_option maxRecDepth 100000 in
theorem rowOf_58_13 (w : World) : Calls Tryz.prog 58 #[.int .i64 14] w fun e w' => e = .returned (.agg #[.int .i64 14, .string ⟨#[75, 84]⟩, .int .i64 2, .bool false, .bool true, .bool false]) ∧ w.grownBy w' none := by
  go_enter Tryz.func58, Tryz.ntmps58
  go_wp2
  exact ⟨rfl, _, res58 (Box.new w 111 #[.int .i64 14, .string ⟨#[75, 84]⟩, .int .i64 2, .bool false, .bool true, .bool false]) _ rfl, rfl, gb_alloc (gb_refl w none) _⟩
set_option maxRecDepth 100000 in
theorem rowOf_58_14 (w : World) : Calls Tryz.prog 58 #[.int .i64 15] w fun e w' => e = .returned (.agg #[.int .i64 15, .string ⟨#[83]⟩, .int .i64 0, .bool false, .bool true, .bool false]) ∧ w.grownBy w' none := by
  go_enter Tryz.func58, Tryz.ntmps58
  go_wp2
  exact ⟨rfl, _, res58 (Box.new w 111 #[.int .i64 15, .string ⟨#[83]⟩, .int .i64 0, .bool false, .bool true, .bool false]) _ rfl, rfl, gb_alloc (gb_refl w none) _⟩
set_option maxRecDepth 100000 in
theorem rowOf_58_15 (w : World) : Calls Tryz.prog 58 #[.int .i64 16] w fun e w' => e = .returned (.agg #[.int .i64 16, .string ⟨#[]⟩, .int .i64 0, .bool false, .bool false, .bool false]) ∧ w.grownBy w' none := by
  go_enter Tryz.func58, Tryz.ntmps58
  go_wp2
  exact ⟨rfl, _, res58 (Box.new w 111 #[.int .i64 16, .string ⟨#[]⟩, .int .i64 0, .bool false, .bool false, .bool false]) _ rfl, rfl, gb_alloc (gb_refl w none) _⟩
set_option maxRecDepth 100000 in
theorem rowOf_58_16 (w : World) : Calls Tryz.prog 58 #[.int .i64 17] w fun e w' => e = .returned (.agg #[.int .i64 17, .string ⟨#[86]⟩, .int .i64 1, .bool false, .bool true, .bool false]) ∧ w.grownBy w' none := by
  go_enter Tryz.func58, Tryz.ntmps58
  go_wp2
  exact ⟨rfl, _, res58 (Box.new w 111 #[.int .i64 17, .string ⟨#[86]⟩, .int .i64 1, .bool false, .bool true, .bool false]) _ rfl, rfl, gb_alloc (gb_refl w none) _⟩
set_option maxRecDepth 100000 in
theorem rowOf_58_17 (w : World) : Calls Tryz.prog 58 #[.int .i64 18] w fun e w' => e = .returned (.agg #[.int .i64 18, .string ⟨#[]⟩, .int .i64 0, .bool false, .bool false, .bool false]) ∧ w.grownBy w' none := by
  go_enter Tryz.func58, Tryz.ntmps58
  go_wp2
  exact ⟨rfl, _, res58 (Box.new w 111 #[.int .i64 18, .string ⟨#[]⟩, .int .i64 0, .bool false, .bool false, .bool false]) _ rfl, rfl, gb_alloc (gb_refl w none) _⟩
set_option maxRecDepth 100000 in
theorem rowOf_58_18 (w : World) : Calls Tryz.prog 58 #[.int .i64 19] w fun e w' => e = .returned (.agg #[.int .i64 19, .string ⟨#[87]⟩, .int .i64 0, .bool false, .bool false, .bool false]) ∧ w.grownBy w' none := by
  go_enter Tryz.func58, Tryz.ntmps58
  go_wp2
  exact ⟨rfl, _, res58 (Box.new w 111 #[.int .i64 19, .string ⟨#[87]⟩, .int .i64 0, .bool false, .bool false, .bool false]) _ rfl, rfl, gb_alloc (gb_refl w none) _⟩
set_option maxRecDepth 100000 in
theorem rowOf_58_19 (w : World) : Calls Tryz.prog 58 #[.int .i64 20] w fun e w' => e = .returned (.agg #[.int .i64 20, .string ⟨#[75, 71]⟩, .int .i64 1, .bool true, .bool false, .bool false]) ∧ w.grownBy w' none := by
  go_enter Tryz.func58, Tryz.ntmps58
  go_wp2
  exact ⟨rfl, _, res58 (Box.new w 111 #[.int .i64 20, .string ⟨#[75, 71]⟩, .int .i64 1, .bool true, .bool false, .bool false]) _ rfl, rfl, gb_alloc (gb_refl w none) _⟩
set_option maxRecDepth 100000 in
theorem rowOf_58_20 (w : World) : Calls Tryz.prog 58 #[.int .i64 21] w fun e w' => e = .returned (.agg #[.int .i64 21, .string ⟨#[75, 78, 71]⟩, .int .i64 2, .bool true, .bool false, .bool true]) ∧ w.grownBy w' none := by
  go_enter Tryz.func58, Tryz.ntmps58
  go_wp2
  exact ⟨rfl, _, res58 (Box.new w 111 #[.int .i64 21, .string ⟨#[75, 78, 71]⟩, .int .i64 2, .bool true, .bool false, .bool true]) _ rfl, rfl, gb_alloc (gb_refl w none) _⟩
set_option maxRecDepth 100000 in
theorem rowOf_58_21 (w : World) : Calls Tryz.prog 58 #[.int .i64 22] w fun e w' => e = .returned (.agg #[.int .i64 22, .string ⟨#[75, 71]⟩, .int .i64 1, .bool true, .bool false, .bool false]) ∧ w.grownBy w' none := by
  go_enter Tryz.func58, Tryz.ntmps58
  go_wp2
  exact ⟨rfl, _, res58 (Box.new w 111 #[.int .i64 22, .string ⟨#[75, 71]⟩, .int .i64 1, .bool true, .bool false, .bool false]) _ rfl, rfl, gb_alloc (gb_refl w none) _⟩
set_option maxRecDepth 100000 in
theorem rowOf_58_22 (w : World) : Calls Tryz.prog 58 #[.int .i64 23] w fun e w' => e = .returned (.agg #[.int .i64 23, .string ⟨#[75, 71]⟩, .int .i64 1, .bool true, .bool false, .bool false]) ∧ w.grownBy w' none := by
  go_enter Tryz.func58, Tryz.ntmps58
  go_wp2
  exact ⟨rfl, _, res58 (Box.new w 111 #[.int .i64 23, .string ⟨#[75, 71]⟩, .int .i64 1, .bool true, .bool false, .bool false]) _ rfl, rfl, gb_alloc (gb_refl w none) _⟩
set_option maxRecDepth 100000 in
theorem rowOf_58_23 (w : World) : Calls Tryz.prog 58 #[.int .i64 24] w fun e w' => e = .returned (.agg #[.int .i64 24, .string ⟨#[]⟩, .int .i64 0, .bool false, .bool false, .bool false]) ∧ w.grownBy w' none := by
  go_enter Tryz.func58, Tryz.ntmps58
  go_wp2
  exact ⟨rfl, _, res58 (Box.new w 111 #[.int .i64 24, .string ⟨#[]⟩, .int .i64 0, .bool false, .bool false, .bool false]) _ rfl, rfl, gb_alloc (gb_refl w none) _⟩
theorem rowOf_58 (i : Nat) (hi : i < 24) (w : World) : Calls Tryz.prog 58 #[.int .i64 ((i : Int) + 1)] w fun e w' => e = .returned (.agg (drA i)) ∧ w.grownBy w' none := by
  rcases (by omega : i = 0 ∨ i = 1 ∨ i = 2 ∨ i = 3 ∨ i = 4 ∨ i = 5 ∨ i = 6 ∨ i = 7 ∨ i = 8 ∨ i = 9 ∨ i = 10 ∨ i = 11 ∨ i = 12 ∨ i = 13 ∨ i = 14 ∨ i = 15 ∨ i = 16 ∨ i = 17 ∨ i = 18 ∨ i = 19 ∨ i = 20 ∨ i = 21 ∨ i = 22 ∨ i = 23) with rfl | rfl | rfl | rfl | rfl | rfl | rfl | rfl | rfl | rfl | rfl | rfl | rfl | rfl | rfl | rfl | rfl | rfl | rfl | rfl | rfl | rfl | rfl | rfl
  · exact rowOf_58_0 w
  · exact rowOf_58_1 w
  · exact rowOf_58_2 w
  · exact rowOf_58_3 w
  · exact rowOf_58_4 w
  · exact rowOf_58_5 w
  · exact rowOf_58_6 w
  · exact rowOf_58_7 w
  · exact rowOf_58_8 w
  · exact rowOf_58_9 w
  · exact rowOf_58_10 w
  · exact rowOf_58_11 w
  · exact rowOf_58_12 w
  · exact rowOf_58_13 w
  · exact rowOf_58_14 w
  · exact rowOf_58_15 w
  · exact rowOf_58_16 w
  · exact rowOf_58_17 w
  · exact rowOf_58_18 w
  · exact rowOf_58_19 w
  · exact rowOf_58_20 w
  · exact rowOf_58_21 w
  · exact rowOf_58_22 w
  · exact rowOf_58_23 w
end Go.Proofs.YtobegepebochkaaGreatDoor
/-
  What a wrong line is told; the number in N's place.
-/
namespace Go.Proofs.YtobegepebochkaaGreatDoor
open Go.RowKit Go.Maps
set_option linter.unusedVariables false
set_option linter.unusedSimpArgs false
attribute [local go_sem] Oper.semAt_some

abbrev Z41 : Array Value := #[.int .i64 0, .slice none 0 0, .int .u64 0, .int .i64 0, .int .u64 0, .int .u64 0, .slice none 0 0, .bool false, .bool false, .slice none 0 0, .string ⟨#[]⟩]
set_option maxRecDepth 100000 in
set_option maxHeartbeats 4000000 in
theorem wrong_55 (s : Bs) (p : Int) (w : World) : Calls Tryz.prog 55 #[sv s, .int .i64 p] w fun e w' => e = .returned (.tuple #[.agg #[.int .i64 0, .slice none 0 0, .int .u64 0, .int .i64 0, .int .u64 0, .int .u64 0, .slice none 0 0, .bool false, .bool false, .slice none 0 0, .string ⟨#[]⟩], .int .i64 (-1), .agg #[.int .i64 2, sv s, .int .i64 p]]) ∧ w.grownBy w' none := by
  have b1 := Box.kept (Box.new w 41 #[.int .i64 0, .slice none 0 0, .int .u64 0, .int .i64 0, .int .u64 0, .int .u64 0, .slice none 0 0, .bool false, .bool false, .slice none 0 0, .string ⟨#[]⟩]) (World.grownBy_alloc _ (.cells #[.int .i64 2, sv s, .int .i64 p] 43) none) (by simp)
  have b2 := Box.new (w.alloc (.cells #[.int .i64 0, .slice none 0 0, .int .u64 0, .int .i64 0, .int .u64 0, .int .u64 0, .slice none 0 0, .bool false, .bool false, .slice none 0 0, .string ⟨#[]⟩] 41)) 43 #[.int .i64 2, sv s, .int .i64 p]
  rw [show (w.alloc (.cells #[.int .i64 0, .slice none 0 0, .int .u64 0, .int .i64 0, .int .u64 0, .int .u64 0, .slice none 0 0, .bool false, .bool false, .slice none 0 0, .string ⟨#[]⟩] 41)).heap.size = w.heap.size + 1 by simp] at b2
  go_enter Tryz.func55, Tryz.ntmps55
  go_wp2
  exact ⟨rfl, _, res55 b1 b2 _ rfl rfl rfl, rfl, gb_alloc (gb_alloc (gb_refl w none) _) _⟩
/-- The number in N's place. -/
def rpass : Bs → List Bs → Int
  | a :: sh, x :: ws => if a = 78 then (match nb 2147483647 x with | some n => (n : Int) | none => rpass sh ws) else rpass sh ws
  | _, _ => -1
theorem rpass_nil (sh : Bs) : rpass sh [] = -1 := by cases sh <;> rfl
theorem ws_at {w : World} {v : Value} {ws : List Bs} (h : Ws w v ws) : ∃ a c, v = .slice a ws.length c ∧ ∀ i x, ws[i]? = some x → ∃ g o, a = some ⟨g, o, none⟩ ∧ w.cell? ⟨g, o + i, none⟩ = some (sv x) := by
  rcases h with ⟨rfl, a, c, rfl⟩ | ⟨g, o, c, rfl, _, _, h⟩
  · exact ⟨a, c, rfl, fun i x hi => by cases hi⟩
  · exact ⟨_, c, rfl, fun i x hi => ⟨g, o, rfl, h i x hi⟩⟩
set_option maxRecDepth 100000 in
set_option maxHeartbeats 4000000 in
theorem passOf_59 (c0 c2 c3 c4 c5 : Value) (sh : Bs) (hsh : sh.length ≤ 100) (wv : Value) (ws : List Bs) (hwl : ws.length ≤ 65537) (hxl : ∀ x ∈ ws, x.length ≤ 65536) (w : World) (hv : Ws w wv ws) :
    Calls Tryz.prog 59 #[.agg #[c0, sv sh, c2, c3, c4, c5], wv] w fun e w' => e = .returned (.int .i64 (rpass sh ws)) ∧ w.grownBy w' none := by
  obtain ⟨a, c, rfl, hat⟩ := ws_at hv
  clear hv
  obtain ⟨R, hR⟩ : ∃ R, rpass sh ws = R := ⟨_, rfl⟩
  rw [hR]
  have hss : (ByteArray.mk sh.toArray).size = sh.length := ba_size sh
  have b0 := Box.new w 111 #[c0, sv sh, c2, c3, c4, c5]
  have g0 := gb_alloc (gb_refl w none) (.cells #[c0, sv sh, c2, c3, c4, c5] 111)
  have c1 : (w.alloc (.cells #[c0, sv sh, c2, c3, c4, c5] 111)).cell? ⟨w.heap.size, 1, none⟩ = some (sv sh) := b0.cell 1
  obtain ⟨W, hW⟩ : ∃ W, w.alloc (.cells #[c0, sv sh, c2, c3, c4, c5] 111) = W := ⟨_, rfl⟩
  rw [hW] at c1 g0
  obtain ⟨n, hn⟩ : ∃ n, n = ws.length := ⟨_, rfl⟩
  rw [← hn] at hwl ⊢
  have hn1 : n ≤ ws.length := by omega
  have hn2 : ws.length ≤ n := by omega
  clear hn b0
  go_enter Tryz.func59, Tryz.ntmps59
  go_upto_region 1 with (fail)
  clear hW
  have hR0 : rpass (sh.drop 0) (ws.drop 0) = R := hR
  clear hR
  go_wp2
  go_loopw [5] (fun v wr => ∃ k : Nat, v = .int .i64 k ∧ k ≤ sh.length ∧ k ≤ n ∧ wr = W ∧ rpass (sh.drop k) (ws.drop k) = R) (fun v _ => sh.length - (intOf v).toNat)
  case atStart => exact ⟨0, rfl, by omega, by omega, rfl, hR0⟩
  case round =>
    clear hR0
    obtain ⟨k, rfl, hk, hkn, rfl, hr⟩ := hrel
    rcases (by omega : (k < sh.length ∧ k < n) ∨ k = sh.length ∨ (k < sh.length ∧ k = n)) with ⟨h1, h2⟩ | h1 | ⟨h1, h2⟩
    · obtain ⟨x, hx⟩ : ∃ x, ws[k]? = some x := ⟨_, List.getElem?_eq_getElem (by omega)⟩
      obtain ⟨g, o, rfl, hc⟩ := hat k x hx
      have hxm := hxl x (List.mem_of_getElem? hx)
      replace hc := gb_cellN g0 hc
      obtain ⟨b, hb⟩ : ∃ b, sh.getD k 0 = b := ⟨_, rfl⟩
      have hgt : ∀ h : k < (ByteArray.mk sh.toArray).size, (ByteArray.mk sh.toArray)[k] = b := fun h => (ba_get sh k h).trans hb
      have hds : sh.drop k = b :: sh.drop (k + 1) := by rw [List.drop_eq_getElem_cons h1, ← hb]; simp [List.getD, h1]
      have hdw : ws.drop k = x :: ws.drop (k + 1) := by
        obtain ⟨h3, h4⟩ := List.getElem?_eq_some_iff.1 hx
        rw [List.drop_eq_getElem_cons h3, h4]
      rw [hds, hdw] at hr
      simp only [rpass] at hr
      have d1 : (k : Int) < sh.length := by omega
      have d2 : (k : Int) < n := by omega
      clear hds hdw hat hb hx
      by_cases hb : b = 78
      · subst hb
        rw [if_pos rfl] at hr
        have h96 := number_96 x (by omega) 2147483647 2147483647 rfl (by omega) wr
        cases hnb : nb 2147483647 x with
        | none =>
          rw [hnb] at hr h96
          have h97 : Calls Tryz.prog 96 #[sv x, .int .u64 2147483647] wr fun e w' => e = .returned (.tuple #[.int .u64 0, .bool false]) ∧ w' = wr := h96
          clear h96 hnb
          go_wp2_with (go_at_call 96; go_must ((with_reducible refine h97.mono ?_); rintro e w6 ⟨rfl, hw6⟩; have hw7 := hw6.symm; subst hw7))
          exact ⟨⟨k + 1, by go_num, by omega, by omega, trivial, hr⟩, by simp [intOf]; omega⟩
        | some m =>
          rw [hnb] at hr h96
          have hm : m ≤ 2147483647 := by
            have := nb_most (most := 2147483647) (l := x)
            rw [hnb] at this
            exact this
          have h97 : Calls Tryz.prog 96 #[sv x, .int .u64 2147483647] wr fun e w' => e = .returned (.tuple #[.int .u64 (m : Int), .bool true]) ∧ w' = wr := h96
          have hR : R = (m : Int) := hr.symm
          subst hR
          have q1 : IntKind.i64.wrap (m : Int) = m := by rw [IntKind.wrap_i64]; omega
          clear h96 hnb hr
          go_wp2_with (go_at_call 96; go_must ((with_reducible refine h97.mono ?_); rintro e w6 ⟨rfl, hw6⟩; have hw7 := hw6.symm; subst hw7))
          go_ret
          exact ⟨rfl, g0⟩
      · rw [if_neg hb] at hr
        have hbi : ((b.toNat : Int) == 78) = false := by
          have : ¬ b.toNat = 78 := fun h => hb (UInt8.toNat_inj.1 h)
          simp; omega
        have hbj : (b.toNat == 78) = false := by
          have : ¬ b.toNat = 78 := fun h => hb (UInt8.toNat_inj.1 h)
          simpa using this
        go_wp2
        exact ⟨⟨k + 1, by go_num, by omega, by omega, trivial, hr⟩, by simp [intOf]; omega⟩
    · have hR : R = -1 := by rw [← hr, h1, List.drop_length]; rfl
      subst hR
      have d1 : ¬ ((k : Int) < sh.length) := by omega
      clear hat hr hxl
      go_wp2
      go_ret
      exact ⟨rfl, g0⟩
    · have hR : R = -1 := by rw [← hr, List.drop_of_length_le (by omega : ws.length ≤ k), rpass_nil]
      subst hR
      have d1 : (k : Int) < sh.length := by omega
      have d2 : ¬ ((k : Int) < n) := by omega
      clear hat hr hxl
      go_wp2
      go_ret
      exact ⟨rfl, g0⟩
end Go.Proofs.YtobegepebochkaaGreatDoor

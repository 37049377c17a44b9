/-
  The document's Points; same.
-/
import Derived.Test.YtcbogbohafmnhaaI
namespace Go.Proofs.Ytcbogbohafmnhaa
open Go.RowKit
set_option linter.unusedVariables false

section
variable {w : World} {ops : Array Oper} {rest : List Oper} {o : Oper} {a : Act} {Q : Exit → Act → World → Prop}
theorem push34 (hgd : o.guard = none) (s x : Operand) (ho : o.op = .call { callee := .builtin .append, args := #[s, x], argTypes := #[41, 41] })
    (B : Nat) (v : Value) (us : List Nat) (hs : a.eval s = v) (hown : OwnU B w v us) (u : Nat) (hx : a.eval x = .slice (some ⟨w.heap.size, 0, none⟩) 1 1) (hn : us.length ≤ 100000000000) (hB : B ≤ w.heap.size)
    (h : ∀ v' w', OwnU B w' v' (us ++ [u]) → w.grownBy w' v.ownBlock → wpList Try.prog ops Q rest (a.put o.dst v') w') : wpList Try.prog ops Q (o :: rest) a (w.alloc (.cells #[.int .u32 (u : Int)] 34)) := by
  obtain ⟨i0, hi, hz0, hz1, hz2⟩ := info_parts Try.info34
  refine wpList_pushN hgd s x 41 ho 34 i0 _ 1 4 Try.underlying41 hi hz0 hz1 hz2 rfl (by omega) (by omega) B v us.length (uvals us) hs hown [.int .u32 (u : Int)] rfl (by simp [Value.oneCell']) hx hn hB ?_
  intro g cap w' h1 h2 _
  refine h _ w' ?_ h2
  unfold OwnU
  rw [List.length_append, show uvals (us ++ [u]) = uvals us ++ [.int .u32 (u : Int)] from by simp [uvals]]
  exact h1
end

theorem OwnU.kept0 {B : Nat} {w w' : World} {v : Value} {us : List Nat} (h : OwnU B w v us) (hf : w.grownBy w' none) : OwnU B w' v us := row_kept h hf (by simp)
theorem OwnU.lt {B : Nat} {w : World} {v : Value} {us : List Nat} (h : OwnU B w v us) : ∀ k, v.ownBlock = some k → B ≤ k ∧ k < w.heap.size := World.ownsRow.lt h

theorem sumB_name (xs : List Int) (k : Nat) : sumB (xs ++ [45] ++ zb (dig k)) = fon (fnv (sumB xs) 45) (dig k) := by
  unfold sumB
  rw [nb_app, nb_app, nb_zb, fon_append, show nb [45] = [45] from rfl, fon_snoc]

set_option maxRecDepth 100000 in
set_option maxHeartbeats 2000000 in
theorem points_21 (xs : List Int) (n : Nat) (hb : isBytes xs) (h1 : 1 ≤ xs.length) (h2 : xs.length ≤ 250) (h3 : 1 ≤ n) (h4 : n ≤ 512) (w : World) :
    Calls Try.prog 21 #[.string (strOfNums xs), .int .i64 n] w fun e w' => ∃ v, e = .returned (.tuple #[v, .int .i64 0]) ∧ OwnU w.heap.size w' v (pts xs n) ∧ w.grownBy w' none := by
  have hsz := strOfNums_size xs
  have HC : Hid (∀ k : Nat, strOfNums xs ++ ⟨#[45]⟩ ++ strOfNums (zb (dig k)) = strOfNums (xs ++ [45] ++ zb (dig k))) := by
    intro k
    rw [show (⟨#[45]⟩ : ByteArray) = strOfNums [45] from rfl, str_app, str_app]
  generalize hS : strOfNums xs = s at *
  have HL : Hid (xs.length ≤ 250) := h2
  generalize hm : xs.length = m at *
  have HM : Hid (xs.length = m) := hm
  clear hS hm
  go_enter Try.func21, Try.ntmps21
  go_wp2
  go_loopw [6, 7] (fun v x wr => ∃ (k : Nat), k ≤ n ∧ x = .int .i64 k ∧ OwnU w.heap.size wr v (pts xs k) ∧ w.grownBy wr none) (fun _ x _ => n - (intOf x).toNat)
  case atStart => exact ⟨0, by omega, rfl, World.ownsRow_nil w _ 34 1, gb_refl _ _⟩
  case round =>
    obtain ⟨k, hk, rfl, hown, hg⟩ := hrel
    by_cases hlt : k < n
    · have hi := digits_34 k (by omega)
      have hcat := HC.out k
      have hds : (strOfNums (zb (dig k))).size ≤ 3 := by
        rw [strOfNums_size]
        have := dig_len k (by omega)
        simpa [zb] using this
      have hyb : isBytes (xs ++ [45] ++ zb (dig k)) := by
        intro z hz
        rcases List.mem_append.1 hz with hz | hz
        · rcases List.mem_append.1 hz with hz | hz
          · exact hb z hz
          · simp at hz; omega
        · exact zb_bytes (dig_bytes k) z hz
      have hyl : (xs ++ [45] ++ zb (dig k)).length ≤ 254 := by
        have := dig_len k (by omega)
        have := HL.out
        have := HM.out
        simp [zb]; omega
      have HP : Hid (ptN xs k = point (sumB (xs ++ [45] ++ zb (dig k)))) := by
        show _ = _
        rw [sumB_name]; rfl
      have HU := pts_succ xs k
      rw [HP.out] at HU
      generalize xs ++ [45] ++ zb (dig k) = ys at *
      generalize strOfNums (zb (dig k)) = d at *
      have HCAT : Hid _ := hcat
      have HU : Hid _ := HU
      have hpt := point_19 (sumB ys) (sumB_lt _)
      have hpl := point_lt (sumB ys)
      have hsl := sumB_lt ys
      have hsb := fun (W : World) (c : Nat) (a : Option Addr) (h : Has W a ys.length ys) => sum_12 h hyb c (by omega)
      generalize point (sumB ys) = pt at *
      generalize sumB ys = sy at *
      have hpk : (pts xs k).length = k := pts_len xs k
      generalize pts xs k = us at *
      clear hcat HP
      go_wp2_with (first | (go_at_call 34; go_must (refine (hi _).mono ?_); rintro e w1 ⟨rfl, hf1⟩; (obtain ⟨W2, c2, hcv, hF2, hH2⟩ := str_bytes w1 ys hyb); rw [← HCAT.out] at hcv; (have hsc := hsb _ c2 _ hH2); (have hown2 := hown.kept0 (gb_trans hf1 hF2)); (have hg2 := gb_trans hg (gb_trans hf1 hF2))) | (go_at_call 12; go_must (refine hsc.mono ?_); rintro e W2 ⟨rfl, rfl⟩) | (go_at_call 19; go_must (refine (hpt _).mono ?_); rintro e W2 ⟨rfl, rfl⟩) | (at_builtin; go_must (refine push34 rfl _ _ rfl w.heap.size _ us (by rfl) hown2 pt (by rfl) (by omega) hg2.size ?_)) | fail)
      intro v' w' hown' hgr
      have hg3 := gb_far hg2 hgr (fun k e => (hown2.lt k e).1) (Nat.le_refl _)
      rw [← HU.out] at hown'
      have HO : Hid _ := hown'
      clear hown' hown hown2
      go_wp2
      go_roundw
      case rel => exact ⟨k + 1, by omega, by go_num, HO.out, hg3⟩
      case measure => simp [intOf]; omega
    · obtain rfl : k = n := by omega
      go_wp2
      go_ret2
      exact ⟨_, rfl, hown, hg⟩

/-- A slice of numbers of 32 bits. -/
def HasU (w : World) (a : Option Addr) (n : Nat) (us : List Nat) : Prop :=
  us.length = n ∧ (0 < n → ∃ b o, a = some ⟨b, o, none⟩ ∧ ∀ i, i < n → w.cell? ⟨b, o + i, none⟩ = some (.int .u32 (us.getD i 0 : Nat)))
theorem OwnU.has {B : Nat} {w : World} {v : Value} {us : List Nat} (h : OwnU B w v us) : ∃ a c, v = .slice a us.length c ∧ HasU w a us.length us ∧ us.length ≤ c ∧ c ≤ maxLen ∧ (a = none → us.length = 0 ∧ c = 0) := by
  obtain ⟨a, c, rfl, h1, h2, h3, h4⟩ := row_shape h
  refine ⟨a, c, rfl, ⟨rfl, fun h0 => ?_⟩, h2, h3, h1⟩
  obtain ⟨g, rfl⟩ := h4 h0
  refine ⟨g, 0, rfl, fun i hi => ?_⟩
  rw [Nat.zero_add]
  exact row_cell h i _ (by simp [uvals, List.getD, hi])
theorem HasU.take {w : World} {a : Option Addr} {n : Nat} {us : List Nat} (h : HasU w a n us) (m : Nat) (hm : m ≤ n) : HasU w a m (us.take m) := by
  obtain ⟨hl, hc⟩ := h
  refine ⟨by rw [List.length_take]; omega, fun h0 => ?_⟩
  obtain ⟨b, o, e, hcc⟩ := hc (by omega)
  refine ⟨b, o, e, fun i hi => ?_⟩
  rw [hcc i (by omega)]
  simp [List.getD, hi]
theorem HasU.kept0 {w w' : World} {a : Option Addr} {n : Nat} {us : List Nat} (h : HasU w a n us) (hf : w.grownBy w' none) : HasU w' a n us :=
  ⟨h.1, fun hn => by
    obtain ⟨b, o, e, hc⟩ := h.2 hn
    exact ⟨b, o, e, fun i hi => gb_cellN hf (hc i hi)⟩⟩

theorem same_23 {w : World} {a1 a2 : Option Addr} {n : Nat} {us : List Nat} (h1 : HasU w a1 n us) (h2 : HasU w a2 n us) (c1 c2 : Nat) (hn : n ≤ maxLen) :
    Calls Try.prog 23 #[.slice a1 n c1, .slice a2 n c2] w fun e w' => e = .returned (.bool true) ∧ ∃ q, w' = w.drewN q := by
  unfold maxLen at hn
  go_enter Try.func23, Try.ntmps23
  go_wp2
  go_loopw [5] (fun x wr => ∃ (k : Nat), k ≤ n ∧ x = .int .i64 k ∧ ∃ q, wr = w.drewN q) (fun x _ => n - (intOf x).toNat)
  case atStart => exact ⟨0, by omega, rfl, 0, rfl⟩
  case round =>
    obtain ⟨k, hk, rfl, q, rfl⟩ := hrel
    by_cases hlt : k < n
    · obtain ⟨b1, o1, rfl, hc1⟩ := h1.2 (by omega)
      obtain ⟨b2, o2, rfl, hc2⟩ := h2.2 (by omega)
      have k1 : (w.drewN q).cell? ⟨b1, o1 + k, none⟩ = some (.int .u32 (us.getD k 0 : Nat)) := hc1 k hlt
      have k2 : (w.drewN q).cell? ⟨b2, o2 + k, none⟩ = some (.int .u32 (us.getD k 0 : Nat)) := hc2 k hlt
      generalize us.getD k 0 = u at *
      have hd : decide ((k : Int) < n) = true := by simp; omega
      have hd3 : decide (k < n) = true := by simp; omega
      have HE : Hid (∀ m, ∃ q', (w.drewN q).drewN m = w.drewN q') := fun m => ⟨q + m, by simp⟩
      clear h1 h2 hc1 hc2
      generalize w.drewN q = V at *
      go_wp2
      go_quiet (fail)
      go_wp2
      go_roundw
      case rel => exact ⟨k + 1, by omega, by go_num, HE.out _⟩
      case measure => simp [intOf]; omega
    · clear h1 h2
      go_wp2
      go_ret
      exact ⟨rfl, q, rfl⟩

end Go.Proofs.Ytcbogbohafmnhaa

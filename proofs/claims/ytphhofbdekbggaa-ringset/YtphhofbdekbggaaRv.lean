/-
  places.
-/
import Derived.Test.YtphhofbdekbggaaRu
namespace Go.Proofs.Ytphhofbdekbggaa
open Go.RowKit Go.MapKept
set_option linter.unusedVariables false
set_option linter.unusedSimpArgs false

theorem look_yes {w : World} {b : Nat} {M : List Pt} (h : MpM w b M) (a s : Int) (hk : Key M a s) : ∃ r : Int, (Instr.lookup 98 (.map (some b)) (.agg #[.int .u32 a, .int .i64 s]) true).run Try.prog w = .ok (.tuple #[.int .i64 r, .bool true]) w := by
  have := Classical.propDecidable (Key M a s)
  obtain ⟨r, hr⟩ := mp_look h a s
  exact ⟨r, by rw [hr]; simp [hk]⟩
theorem look_no {w : World} {b : Nat} {M : List Pt} (h : MpM w b M) (a s : Int) (hk : ¬ Key M a s) : ∃ r : Int, (Instr.lookup 98 (.map (some b)) (.agg #[.int .u32 a, .int .i64 s]) true).run Try.prog w = .ok (.tuple #[.int .i64 r, .bool false]) w := by
  have := Classical.propDecidable (Key M a s)
  obtain ⟨r, hr⟩ := mp_look h a s
  exact ⟨r, by rw [hr]; simp [hk]⟩
theorem svOk_wt {p : Sv} (h : svOk p = true) : 1 ≤ p.1.size ∧ p.1.size ≤ 64 ∧ 1 ≤ p.2 ∧ p.2 ≤ 8 := by
  unfold svOk at h
  simpa [and_assoc] using h
/-- The own places of a server. -/
theorem own_84 (L : List Sv) (k : Nat) (h : svOk (sat L k) = true) (w : World) :
    Calls Try.prog 84 #[.string (sat L k).1, .int .i64 (64 * (sat L k).2)] w fun e w' => (∃ g c, e = .returned (.tuple #[.slice (some ⟨g, 0, none⟩) (own L k).length c, .int .i64 0]) ∧ OwnU w.heap.size w' (.slice (some ⟨g, 0, none⟩) (own L k).length c) (own L k)) ∧ w.grownBy w' none := by
  obtain ⟨h1, h2, h3, h4⟩ := svOk_wt h
  have hp := points_20 (nums (sat L k).1) (64 * (sat L k).2).toNat (nums_bytes _) (by rw [nums_len]; exact h1) (by rw [nums_len]; omega) (by omega) (by omega) w
  rw [str_nums, show (((64 * (sat L k).2).toNat : Nat) : Int) = 64 * (sat L k).2 by omega] at hp
  refine hp.mono ?_
  rintro e w' ⟨v, rfl, ho, hg⟩
  obtain ⟨ao, c, rfl, _, _, _, hs⟩ := row_shape ho
  obtain ⟨g, rfl⟩ := hs (by rw [pts_len]; omega)
  exact ⟨⟨g, c, rfl, ho⟩, hg⟩
theorem ownU_cell {w : World} {B g c : Nat} {us : List Nat} (h : OwnU B w (.slice (some ⟨g, 0, none⟩) us.length c) us) (i : Nat) (hi : i < us.length) : w.cell? ⟨g, i, none⟩ = some (.int .u32 (oat us i)) := by
  refine row_cell h i _ ?_
  simp [uvals, oat, hi]
theorem OwnU.kept0 {B : Nat} {w w' : World} {v : Value} {us : List Nat} (h : OwnU B w v us) (hf : w.grownBy w' none) : OwnU B w' v us := row_kept h hf (by simp)
theorem run_mkmap (N : Int) (h : 0 ≤ N ∧ N ≤ 100000) (w : World) : (Instr.makeMap 98 (some (.int .i64 N))).run Try.prog w = .ok (.map (some w.heap.size)) (w.alloc (.map #[] 0)) := by
  have h1 : ¬ N < 0 := by omega
  have h2 : (asInt (.int .i64 N)).run Try.prog w = .ok N w := by simp [asInt, asIntOf]
  simp [Instr.makeMap, run_underlying Try.underlying98, Result.andThen, h2]
set_option maxRecDepth 100000 in
set_option maxHeartbeats 4000000 in
theorem places_63 {w : World} {a : Option Addr} {g n c : Nat} {L : List Sv} (h : SvAt w g L) (hn : L.length = n) (ha : 0 < n → a = some ⟨g, 0, none⟩) (hn2 : n ≤ 256) (hok : ∀ i, i < n → svOk (sat L i) = true) :
    Calls Try.prog 63 #[.slice a n c] w fun e w' => (∃ b M, e = .returned (.map (some b)) ∧ w.heap.size ≤ b ∧ MpM w' b M ∧ Mp L n 0 M ∧ M.length ≤ 512 * n) ∧ w.grownBy w' none := by
  have hmk := run_mkmap (64 * (n : Int)) (by omega) w
  have hnew : MpM (w.alloc (.map #[] 0)) w.heap.size [] := MpM.made w
  have hg0 : w.grownBy (w.alloc (.map #[] 0)) none := gb_alloc (gb_refl _ _) _
  go_enter Try.func63, Try.ntmps63
  go_wp2_with fail
  clear hmk
  generalize hbB : w.heap.size = b at *
  go_loopw [19] (fun x wr => ∃ (k : Nat) (M : List Pt), k ≤ n ∧ x = .int .i64 k ∧ MpM wr b M ∧ Mp L k 0 M ∧ M.length ≤ 512 * k ∧ w.grownBy wr none) (fun x _ => n - (intOf x).toNat)
  case atStart => exact ⟨0, [], by omega, rfl, hnew, Mp.zero L, by simp, hg0⟩
  case round =>
    clear hnew hg0
    obtain ⟨k, M, hk, rfl, hM, hMp, hlM, hg⟩ := hrel
    have HLM : Hid (M.length ≤ 512 * k) := hlM
    clear hlM
    by_cases hlt : k < n
    · obtain rfl := ha (by omega)
      have hokk := hok k hlt
      obtain ⟨c0, c1⟩ := (h.grown hg) k (by omega)
      have h84 := own_84 L k hokk
      obtain ⟨_, _, hw1, hw8⟩ := svOk_wt hokk
      have hol : (own L k).length = (64 * (sat L k).2).toNat := own_len L k
      have hle : (own L k).length ≤ 512 := by omega
      have HM : Hid (MpM wr b M) := hM
      have HMP : Hid (Mp L k 0 M) := hMp
      have HG : Hid (w.grownBy wr none) := hg
      generalize (sat L k).1 = nm at *
      generalize (sat L k).2 = wt at *
      have hbl : b < wr.heap.size := hM.lt
      clear h hM hMp hg hok hokk hol
      go_wp2_with (first | (go_at_call 84; go_must (refine (h84 _).mono ?_); rintro y w1 ⟨⟨go, co, rfl, ho⟩, hg1⟩) | fail)
      have hf1 : Hid (wr.grownBy w1 none) := gb_trans (gb_alloc (gb_refl _ _) _) hg1
      have HO : Hid (OwnU (b + 1) w1 (.slice (some ⟨go, 0, none⟩) (own L k).length co) (own L k)) := row_base ho (by simp; omega)
      clear h84 hg1 ho c0 c1
      generalize hus : (own L k).length = m at *
      go_loopw [35] (fun x wr' => ∃ (j : Nat) (M' : List Pt), j ≤ m ∧ x = .int .i64 j ∧ MpM wr' b M' ∧ Mp L k j M' ∧ M'.length ≤ 512 * k + j ∧ w.grownBy wr' none ∧ OwnU (b + 1) wr' (.slice (some ⟨go, 0, none⟩) m co) (own L k)) (fun x _ => m - (intOf x).toNat)
      case atStart => exact ⟨0, M, by omega, rfl, HM.out.kept hf1.out (by simp), HMP.out, HLM.out, gb_trans HG.out hf1.out, HO.out⟩
      case round =>
        clear HM HMP HG HO hf1 HLM
        obtain ⟨j, M', hj, rfl, hM, hMp, hlM, hg, hO⟩ := hrel
        have HLM : Hid (M'.length ≤ 512 * k + j) := hlM
        clear hlM
        have HM : Hid (MpM wr b M') := hM
        have HMP : Hid (Mp L k j M') := hMp
        have HG : Hid (w.grownBy wr none) := hg
        by_cases hlt2 : j < m
        · have d0 : _ := ownU_cell (us := own L k) (by rw [hus]; exact hO) j (by omega)
          have HO : Hid (OwnU (b + 1) wr (.slice (some ⟨go, 0, none⟩) m co) (own L k)) := hO
          have hY : Hid (Key M' (oat (own L k) j) k → Mp L k (j + 1) M') := fun hy => HMP.out.yes (by omega) hy
          have hN : Hid (¬ Key M' (oat (own L k) j) k → Mp L k (j + 1) (M' ++ [(oat (own L k) j, (k : Int), (j : Int))])) := fun hy => HMP.out.no (by omega) hy
          generalize oat (own L k) j = pa at *
          clear hM hMp hg hO HMP
          have hb2 : b < wr.heap.size := HM.out.lt
          generalize hW2 : wr.alloc (.cells #[.int .u32 pa, .int .i64 k] 101) = W2
          have hfa : Hid (wr.grownBy W2 none) := by rw [← hW2]; exact gb_alloc (gb_refl _ _) _
          have hM2 : Hid (MpM W2 b M') := HM.out.kept hfa.out (by simp)
          have e0 : W2.cell? ⟨wr.heap.size, 0, none⟩ = some (.int .u32 pa) := by rw [← hW2]; simp
          have e1 : W2.cell? ⟨wr.heap.size, 1, none⟩ = some (.int .i64 k) := by rw [← hW2]; simp
          by_cases hK : Key M' pa k
          · obtain ⟨r, hr⟩ := look_yes hM2.out pa k hK
            have HP := hY.out hK
            have HPH : Hid (Mp L k (j + 1) M') := HP
            have HE : Hid (w.grownBy W2 none ∧ OwnU (b + 1) W2 (.slice (some ⟨go, 0, none⟩) m co) (own L k)) := ⟨gb_trans HG.out hfa.out, HO.out.kept0 hfa.out⟩
            clear hK HP hY hN HG HO HM hfa
            go_wp2_with fail
            go_roundw
            case rel => exact ⟨j + 1, M', by omega, by go_num, hM2.out, HPH.out, by have := HLM.out; omega, HE.out.1, HE.out.2⟩
            case measure => simp [intOf]; omega
          · obtain ⟨r, hr⟩ := look_no hM2.out pa k hK
            obtain ⟨W3, hu, hM3, hg3⟩ := mp_set hM2.out pa k j hK
            have HP := hN.out hK
            have HPH : Hid (Mp L k (j + 1) (M' ++ [(pa, (k : Int), (j : Int))])) := HP
            have HE : Hid (MpM W3 b (M' ++ [(pa, (k : Int), (j : Int))]) ∧ w.grownBy W3 none ∧ OwnU (b + 1) W3 (.slice (some ⟨go, 0, none⟩) m co) (own L k)) := ⟨hM3, gb_far (gb_trans HG.out hfa.out) hg3 (B := b) (fun i e => by cases e; exact Nat.le_refl _) (by omega), row_kept (HO.out.kept0 hfa.out) hg3 (fun q hq => by
              have := (World.ownsRow.lt HO.out q hq).1
              simp; omega)⟩
            clear hK HP hY hN HG HO HM hfa hM3 hg3 hM2
            go_wp2_with fail
            go_roundw
            case rel => exact ⟨j + 1, _, by omega, by go_num, HE.out.1, HPH.out, by have := HLM.out; simp; omega, HE.out.2.1, HE.out.2.2⟩
            case measure => simp [intOf]; omega
        · obtain rfl : j = m := by omega
          have HNX : Hid (Mp L (k + 1) 0 M') := Mp.next (by rw [hus]; exact hMp)
          clear hM hMp hg hO HMP
          go_wp2_with fail
          go_roundw
          case rel => exact ⟨k + 1, M', by omega, by go_num, HM.out, HNX.out, by have := HLM.out; omega, HG.out⟩
          case measure => simp [intOf]; omega
    · obtain rfl : k = n := by omega
      have HM : Hid (MpM wr b M) := hM
      have HMP : Hid (Mp L k 0 M) := hMp
      have HG : Hid (w.grownBy wr none) := hg
      clear h hM hMp hg hok
      go_wp2_with fail
      go_ret
      exact ⟨⟨b, M, rfl, by omega, HM.out, HMP.out, HLM.out⟩, HG.out⟩
end Go.Proofs.Ytphhofbdekbggaa

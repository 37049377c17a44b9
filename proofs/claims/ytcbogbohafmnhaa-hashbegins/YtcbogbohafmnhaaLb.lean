/-
  HashBegins: one of its ways.
-/
import Derived.Test.YtcbogbohafmnhaaL
namespace Go.Proofs.Ytcbogbohafmnhaa
open Go.RowKit
set_option linter.unusedVariables false

set_option maxRecDepth 100000 in
set_option maxHeartbeats 4000000 in
theorem begins_b (s : ByteArray) (xf xm xa : Int) (hs : s.size ≤ maxLen) (rf rm fi mi : Int) (f m : Nat)
    (e1 : xf.tmod 512 = rf) (b1 : -512 < rf ∧ rf < 512) (e2 : (rf + 512) % 512 = fi) (hf : 0 ≤ fi ∧ fi < 512)
    (e3 : xm.tmod 512 = rm) (b3 : -512 < rm ∧ rm < 512) (e4 : (rm + 512) % 512 = mi) (hm : 0 ≤ mi ∧ mi < 512) (ef : 1 + fi = (f : Int)) (em : 1 + mi = (m : Int)) (hfm : m < f)
    (xs : List Int) (hb : isBytes xs) (hsx : s = strOfNums xs) (h1 : 1 ≤ s.size) (h2 : s.size ≤ 250) (w : World) :
    Calls Try.prog 9 #[.agg #[.string s, .int .i64 xf, .int .i64 xm, .int .i64 xa]] w fun e w' => e = .returned (.bool true) ∧ w.grownBy w' none := by
  unfold maxLen at hs
  have hxl : xs.length = s.size := by rw [hsx, strOfNums_size]
  have cp := fun W => points_20 xs m hb (by omega) (by omega) (by omega) (by omega) W
  have cq := fun W => points_20 xs f hb (by omega) (by omega) (by omega) (by omega) W
  rw [← hsx] at cp cq
  obtain ⟨ra, k, e5, b5, b6, e6, hk⟩ := within xa f (by omega)
  have HPT : Hid _ := pts_take xs m f (by omega)
  have HPK : Hid _ := pts_get xs f k hk
  have HLP : Hid _ := pts_len xs m
  have HLQ : Hid _ := pts_len xs f
  have HKN : Hid (ptN xs k = point (sumB (xs ++ [45] ++ zb (dig k)))) := by show _ = _; rw [sumB_name]; rfl
  have HXB : Hid (isBytes xs) := hb
  have HCAT : Hid (∀ ds : List Int, s ++ ⟨#[45]⟩ ++ strOfNums ds = strOfNums (xs ++ [45] ++ ds)) := by
    intro ds
    rw [hsx, show (⟨#[45]⟩ : ByteArray) = strOfNums [45] from rfl, str_app, str_app]
  have HXL : Hid (xs.length ≤ 250) := by show xs.length ≤ 250; omega
  have HSX : Hid _ := hsx
  clear hb hsx hxl
  generalize hsz : s.size = sz at *
  go_enter Try.func9, Try.ntmps9
  go_upto_region 1 with fail
  have c0 := (Box.new w 57 #[.string s, .int .i64 xf, .int .i64 xm, .int .i64 xa]).cell 0
  have c1 := (Box.new w 57 #[.string s, .int .i64 xf, .int .i64 xm, .int .i64 xa]).cell 1
  have c2 := (Box.new w 57 #[.string s, .int .i64 xf, .int .i64 xm, .int .i64 xa]).cell 2
  have c3 := (Box.new w 57 #[.string s, .int .i64 xf, .int .i64 xm, .int .i64 xa]).cell 3
  have hF := gb_alloc (gb_refl w none) (.cells #[.string s, .int .i64 xf, .int .i64 xm, .int .i64 xa] 57)
  rw [show (#[Value.string s, .int .i64 xf, .int .i64 xm, .int .i64 xa] : Array Value)[0]? = some (.string s) from rfl] at c0
  rw [show (#[Value.string s, .int .i64 xf, .int .i64 xm, .int .i64 xa] : Array Value)[1]? = some (.int .i64 xf) from rfl] at c1
  rw [show (#[Value.string s, .int .i64 xf, .int .i64 xm, .int .i64 xa] : Array Value)[2]? = some (.int .i64 xm) from rfl] at c2
  rw [show (#[Value.string s, .int .i64 xf, .int .i64 xm, .int .i64 xa] : Array Value)[3]? = some (.int .i64 xa) from rfl] at c3
  generalize w.alloc (.cells #[.string s, .int .i64 xf, .int .i64 xm, .int .i64 xa] 57) = W1 at *
  generalize w.heap.size = gb at *
  go_wp2_with fail
  refine (cp _).mono ?_
  rintro e w2 ⟨vp, rfl, hop, hf2⟩
  have hF2 := gb_trans hF hf2
  have c3 := gb_cellN hf2 c3
  clear cp
  go_wp2_with fail
  refine (cq _).mono ?_
  rintro e w3 ⟨vq, rfl, hoq, hf3⟩
  have hF3 := gb_trans hF2 hf3
  have c3 := gb_cellN hf3 c3
  have hop := hop.kept0 hf3
  obtain ⟨ap, kp, rfl, hup, hp1, hp2, hp3⟩ := hop.has
  obtain ⟨aq, kq, rfl, huq, hq1, hq2, hq3⟩ := hoq.has
  rw [HLP.out] at hup hp1
  rw [HLQ.out] at huq hq1
  rw [HLP.out, HLQ.out]
  have hut := huq.take m (by omega)
  rw [HPT.out] at hut
  obtain ⟨bq, oq, rfl, hqc⟩ := huq.2 (by omega)
  have hck := hqc k (by omega)
  rw [HPK.out] at hck
  have hsm := same_23 hup hut kp kq (by unfold maxLen; omega)
  unfold maxLen at hq2
  have HQ : Hid (w3.cell? ⟨bq, oq + k, none⟩ = _) := hck
  clear cq hop hoq hup huq hut hqc hck hp3 hq3
  go_wp2_with (first | (go_at_call 23; go_must (refine hsm.mono ?_); rintro e w4 ⟨rfl, q4, rfl⟩) | fail)
  have hF4 := gb_drewN hF3 q4
  have HQ4 : Hid ((w3.drewN q4).cell? ⟨bq, oq + k, none⟩ = some (.int .u32 (ptN xs k : Nat))) := HQ.out
  clear hsm hF hF2 hF3 hf2 hf3 HQ c0 c1 c2 c3
  generalize w3.drewN q4 = w4 at *
  have hdl := dig_len k (by omega)
  have HKR : Hid (k < m ∧ k < f ∨ k < m ∨ k < f) := by show _ ∨ _; omega
  simp only [e6]
  go_loopw [11, 12] (fun v x wr => ∃ (y : Nat) (ds : List Int) (ao : Option Addr) (cap : Nat), y ≤ k ∧ x = .int .i64 y ∧ v = .slice ao ds.length cap ∧ Own w4.heap.size wr ao cap ds ∧ isBytes ds ∧ DG k y ds ∧ w4.grownBy wr none) (fun v x _ => dgM v x)
  case atStart => exact ⟨k, [], none, 0, Nat.le_refl _, rfl, rfl, Own.nil _ _, by intro z hz; simp at hz, .inl ⟨rfl, rfl⟩, gb_refl _ _⟩
  case round =>
    obtain ⟨y, ds, ao, cap, hyk, rfl, rfl, hown, hdb, hdg, hg⟩ := hrel
    have hdn := hdg.len
    have HDG : Hid _ := hdg
    have HDB : Hid _ := hdb
    have hyt : (y : Int).tmod 10 = (y : Int) % 10 := Int.tmod_eq_emod_of_nonneg (by omega)
    have hyd : (y : Int) / 10 = ((y / 10 : Nat) : Int) := by omega
    have hyz : 0 ≤ (y : Int) % 10 ∧ (y : Int) % 10 < 10 := by omega
    by_cases h0 : 0 < y ∨ ds = []
    · have HST : Hid _ := hdg.step h0
      have HSB : Hid (isBytes ([48 + (y : Int) % 10] ++ ds)) := by
        intro z hz
        rcases List.mem_append.1 hz with hz | hz
        · simp at hz; omega
        · exact HDB.out z hz
      have HMS : Hid (∀ (a' : Option Addr) (n' c' : Nat), 0 < n' → dgM (.slice a' n' c') (.int .i64 (y / 10 : Nat)) < dgM (.slice ao ds.length cap) (.int .i64 y)) := by
        intro a' n' c' hn'
        rw [dgM_pos _ _ _ _ hn']
        rcases Nat.eq_zero_or_pos y with hy | hy
        · rcases h0 with h0 | h0
          · omega
          · subst h0; rw [List.length_nil, dgM_zero]; omega
        · have := dgM_ge ao ds.length cap y
          omega
      have hone := own_one wr w4.heap.size (48 + (y : Int) % 10) hg.size
      have hhas := (hown.has).alloc (.cells #[.int .u8 (48 + (y : Int) % 10)] 5)
      have hnc : ao = none → cap = 0 := fun h => by subst h; exact hown.nilcap.1
      have HG2 : Hid _ := gb_alloc hg (.cells #[.int .u8 (48 + (y : Int) % 10)] 5)
      have HSZ : Hid (w4.heap.size ≤ wr.heap.size) := hg.size
      clear hdg hdb hown
      generalize (y : Int) % 10 = z at *
      generalize y / 10 = y2 at *
      generalize hdl_ : ds.length = dl at *
      have HDL : Hid (ds.length = dl) := hdl_
      clear hdl_
      by_cases hy0 : 0 < y
      · have hd0 : decide ((0 : Int) < y) = true := by simp; omega
        clear h0
        go_wp2_with (first | (at_builtin; go_must (refine wpList_more rfl _ _ rfl w4.heap.size _ 1 [48 + z] (by rfl) hone ao dl cap ds (by rfl) hhas hnc (by simp; try omega) (by simp; have := HSZ.out; omega) ?_)) | fail)
        intro ao' cap' w' hown' hgr
        have hg3 := gb_far HG2.out hgr (fun k e => by cases e; exact HSZ.out) (Nat.le_refl _)
        clear hone hhas
        go_wp2
        go_roundw
        case rel => exact ⟨y2, _, ao', cap', by omega, rfl, by simp [HDL.out, Nat.add_comm], hown', HSB.out, HST.out, hg3⟩
        case measure => exact HMS.out _ _ _ (by omega)
      · have hd0 : decide ((0 : Int) < y) = false := by simp; omega
        have hdl0 : dl = 0 := by
          rcases h0 with h0 | h0
          · omega
          · rw [← HDL.out, h0]; rfl
        subst hdl0
        clear h0
        go_wp2_with (first | (at_builtin; go_must (refine wpList_more rfl _ _ rfl w4.heap.size _ 1 [48 + z] (by rfl) hone ao 0 cap ds (by rfl) hhas hnc (by simp; try omega) (by simp; have := HSZ.out; omega) ?_)) | fail)
        intro ao' cap' w' hown' hgr
        have hg3 := gb_far HG2.out hgr (fun k e => by cases e; exact HSZ.out) (Nat.le_refl _)
        clear hone hhas
        go_wp2
        go_roundw
        case rel => exact ⟨y2, _, ao', cap', by omega, rfl, by simp [HDL.out], hown', HSB.out, HST.out, hg3⟩
        case measure => exact HMS.out _ _ _ (by omega)
    · have hy0 : y = 0 := by omega
      have hne : ds ≠ [] := fun h => h0 (.inr h)
      have hdk := DG.done (show DG k y ds from HDG.out) hy0 hne
      subst hy0
      have hdlen : ds.length ≠ 0 := fun h => hne (List.eq_nil_of_length_eq_zero h)
      have hyb : isBytes (xs ++ [45] ++ ds) := by
        intro z hz
        rcases List.mem_append.1 hz with hz | hz
        · rcases List.mem_append.1 hz with hz | hz
          · exact HXB.out z hz
          · simp at hz; omega
        · exact HDB.out z hz
      have hyl : (xs ++ [45] ++ ds).length ≤ 300 := by
        have := HXL.out
        simp; omega
      obtain ⟨W5, c5, hcv, hF5, hH5⟩ := str_bytes wr.drew _ hyb
      have hcat := HCAT.out ds
      have hdr : Has wr.drew ao ds.length ds := hown.has
      have hcd := hdr.conv cap
      have hds := strOfNums_size ds
      have hkn := HKN.out
      rw [← hdk] at hkn
      have hon := on_begin c5 hH5 hyb hyl
      have hpt := point_18 (sumB (xs ++ [45] ++ ds)) (sumB_lt _)
      have hpl := point_lt (sumB (xs ++ [45] ++ ds))
      have hsl := sumB_lt (xs ++ [45] ++ ds)
      rw [← hcat] at hcv
      rw [show wr.drew.heap.size = wr.heap.size from rfl] at hcv hon
      have hq0 : wr.drew.cell? ⟨bq, oq + k, none⟩ = some (.int .u32 (ptN xs k : Nat)) := gb_cellN hg HQ4.out
      have hq5 := gb_cellN hF5 hq0
      rw [hkn] at hq0 hq5
      have HFE : Hid (w.grownBy W5 none) := gb_trans hF4 (gb_trans (gb_drew hg) hF5)
      clear hcat hkn hdr hown HKN HPK HDG HDB hdk hyb hH5
      generalize point (sumB (xs ++ [45] ++ ds)) = pt at *
      generalize sumB (xs ++ [45] ++ ds) = sm at *
      generalize (xs ++ [45] ++ ds).length = yl at *
      generalize strOfNums ds = dst at *
      generalize ds.length = dl at *
      have hA1 : (9223372036854775807 < sz + 1) = False := by simp; omega
      have hA2 : (9223372036854775806 < sz) = False := by simp; omega
      have hB1 : (9223372036854775807 < sz + 1 + dl) = False := by simp; omega
      have hd0 : decide ((0 : Int) < ((0 : Nat) : Int)) = false := by decide
      have hd1 : ((dl : Int) == 0) = false := by simp; omega
      go_wp2_with fail
      go_region_with (first | (go_at_call 24; with_reducible refine hon.mono ?_; rintro e w6 ⟨rfl, rfl⟩) | (go_at_call 18; (with_reducible first | refine (hpt _).mono ?_ | refine (point_one _).mono ?_); rintro e w6 ⟨rfl, rfl⟩))
      all_goals go_wp2
      all_goals go_ret
      all_goals exact ⟨rfl, HFE.out⟩

end Go.Proofs.Ytcbogbohafmnhaa

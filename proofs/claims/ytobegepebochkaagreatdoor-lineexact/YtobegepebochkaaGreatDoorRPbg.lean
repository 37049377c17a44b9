import Derived.Test.YtobegepebochkaaGreatDoorRPbf
set_option linter.unusedVariables false
set_option linter.unusedSimpArgs false
set_option maxRecDepth 100000
set_option maxHeartbeats 16000000
namespace Go.Proofs.YtobegepebochkaaGreatDoor
open Go.RowKit Go.Maps
abbrev lOk (a : UInt8) : Prop := a = 75 \/ a = 70 \/ a = 84 \/ a = 78 \/ a = 67 \/ a = 68 \/ a = 90 \/ a = 83 \/ a = 86 \/ a = 87 \/ a = 71
theorem word_60 {w : World} {B : Nat} {c : Cmd} {kv mv : Value} (h : Kw w B c kv mv) (hB : B <= w.heap.size) (hkl : c.keys.length <= 100000) (hml : c.mt.length <= 100000) (hma : ∀ f ∈ c.mt, f.arg.length <= 65536) (a : UInt8) (ha : lOk a) (x : Bs) (hx : x.length <= 65536) (hne : x ≠ []) :
    Calls Tryz.prog 60 #[.agg (cmA c kv mv), .int .u8 a.toNat, sv x] w fun e w' => WordP w B c kv mv a x e w' := by
  rcases ha with rfl | rfl | rfl | rfl | rfl | rfl | rfl | rfl | rfl | rfl | rfl
  . cases hb : keyB x
    . exact word_K_no h hB hkl x hx hne hb
    . exact word_K_yes h hB hkl x hx hne hb
  . cases hn : nb 4294967295 x with
    | none => exact word_F_no h x hx hn
    | some n => exact word_F_yes h x hx n hn
  . cases hn : tm x with
    | none => exact word_T_no h x hx hn
    | some n => exact word_T_yes h x hx n hn
  . cases hn : nb 2147483647 x with
    | none => exact word_N_no h x hx hn
    | some n => exact word_N_yes h x hx n hn
  . cases hn : nb 18446744073709551615 x with
    | none => exact word_C_no h x hx hn
    | some n => exact word_C_yes h x hx n hn
  . cases hn : nb 18446744073709551615 x with
    | none => exact word_D_no h x hx hn
    | some n => exact word_D_yes h x hx n hn
  . by_cases hn : x = [48]
    . exact word_Z_yes h x hx hn
    . exact word_Z_no h x hx hn
  . cases hn : tm x with
    | none => exact word_S_no h x hx hn
    | some n =>
      by_cases ht : 0 <= n
      . exact word_S_yes h x hx n hn ht
      . exact word_S_low h x hx n hn ht
  . cases hn : nb 2147483647 x with
    | none => exact word_V_no h x hx hn
    | some n => exact word_V_yes h x hx n hn
  . by_cases hn : x = reset
    . exact word_W_yes h x hx hn
    . exact word_W_no h x hx hn
  . exact word_G h hB hml hma x hx hne
def dlt (sh : Bs) (i : Nat) : UInt8 := sh.getD (min i (sh.length - 1)) 0
def rtL (sh : Bs) : Nat -> Cmd -> Int -> List Bs -> (Cmd × Int) ⊕ Bs
  | _, c, n, [] => .inl (c, n)
  | i, c, n, x :: t => match rt1 c (dlt sh i) x with
    | .inl d => rtL sh (i + 1) d (if 0 <= blk (dlt sh i) x then blk (dlt sh i) x else n) t
    | .inr e => .inr e
def dqt (r : Dr) (ws : List Bs) : Bool := r.reply && (decide (r.least + 1 <= ws.length) && decide (ws.getLast? = some noreply))
def dread (i : Nat) (ws : List Bs) : (Cmd × Int) ⊕ (Int × Bs × Int) :=
  let vs := if dqt (dr i) ws then ws.dropLast else ws
  if vs.length < (dr i).least \/ ((dr i).shape.length < vs.length /\ (dr i).again = false) then .inr (2, badLine, rpass (dr i).shape ws)
  else match rtL (dr i).shape 0 (cmd0 ((i : Int) + 1) (dqt (dr i) ws)) (-1) vs with
    | .inl p => .inl p
    | .inr e => .inr (2, e, rpass (dr i).shape ws)
def dlineS (l : Bs) : (Cmd × Int) ⊕ (Int × Bs × Int) :=
  if 2048 < l.length then .inr (2, tooLong, -1) else
  match spl [] l with
  | [] => .inr (1, [], -1)
  | x :: ws => if vbS x = 0 then .inr (1, [], -1) else dread (vbS x - 1).toNat ws
end Go.Proofs.YtobegepebochkaaGreatDoor
namespace Go.Proofs.YtobegepebochkaaGreatDoor
open Go.RowKit Go.Maps
theorem flS_more (v : Int) : ∀ (l m : List Fl) (s : Bs), flS v s l ≠ [] -> flS v s (l ++ m) = flS v s l
  | [], m, s, h => absurd rfl h
  | f :: l, m, s, h => by
    simp only [List.cons_append, flS] at h ⊢
    split
    . rename_i h1
      rw [if_pos h1] at h
      exact flS_more v l m _ h
    . rfl
theorem take1_mt {c d : Cmd} {a : UInt8} {x : Bs} (ha : a ≠ 77) (h : take1 c a x = .inl d) : d.mt = c.mt /\ d.verb = c.verb := by
  unfold take1 at h
  rw [if_neg ha] at h
  repeat' (split at h)
  all_goals first
    | (cases h; exact ⟨rfl, rfl⟩)
    | (injection h with h; subst h; exact ⟨rfl, rfl⟩)
    | cases h
theorem take1_77 (c : Cmd) (x : Bs) : take1 c 77 x = .inl { c with mt := c.mt ++ [⟨x.headD 0, x.tail, decide (1 < x.length)⟩] } := by
  simp [take1]
theorem mpL_77 {a : UInt8} (h : lOk a) (h71 : a ≠ 71) : mpL a ≠ 77 := by
  rcases h with rfl | rfl | rfl | rfl | rfl | rfl | rfl | rfl | rfl | rfl | rfl <;> first | exact absurd rfl h71 | decide
theorem takeL_77 (r : Rw) : ∀ (ws : List Bs) (i : Nat) (c : Cmd), (∀ k, i <= k -> lett r k = 77) -> ∃ m, takeL r i c ws = .inl { c with mt := c.mt ++ m }
  | [], i, c, h => ⟨[], by simp [takeL]⟩
  | x :: t, i, c, h => by
    simp only [takeL]
    rw [h i (Nat.le_refl _), take1_77]
    obtain ⟨m, hm⟩ := takeL_77 r t (i + 1) { c with mt := c.mt ++ [⟨x.headD 0, x.tail, decide (1 < x.length)⟩] } (fun k hk => h k (by omega))
    exact ⟨⟨x.headD 0, x.tail, decide (1 < x.length)⟩ :: m, by simp only; rw [hm]; simp⟩
def fst2 : (Cmd × Int) ⊕ Bs -> Cmd ⊕ Bs
  | .inl p => .inl p.1
  | .inr e => .inr e
theorem rtL_takeL {sh : Bs} {r : Rw} (hl : ∀ i, mpL (dlt sh i) = lett r i) (hG : ∀ i k, dlt sh i = 71 -> i <= k -> dlt sh k = 71) : ∀ (ws : List Bs) (i : Nat) (c : Cmd) (n : Int), (ws = [] \/ ∀ k, lOk (dlt sh k)) -> flS c.verb [] c.mt = [] -> fst2 (rtL sh i c n ws) = fin c.verb (takeL r i c ws)
  | [], i, c, n, _, hf => by simp [rtL, takeL, fst2, fin, hf]
  | x :: t, i, c, n, hok, hf => by
    have hok : ∀ k, lOk (dlt sh k) := by rcases hok with h | h; cases h; exact h
    simp only [rtL, takeL]
    rw [<- hl i]
    by_cases h71 : dlt sh i = 71
    . rw [h71, show mpL 71 = 77 from rfl, take1_77]
      have e : rt1 c 71 x = if flS c.verb [] (c.mt ++ [⟨x.headD 0, x.tail, decide (1 < x.length)⟩]) = [] then .inl { c with mt := c.mt ++ [⟨x.headD 0, x.tail, decide (1 < x.length)⟩] } else .inr (flS c.verb [] (c.mt ++ [⟨x.headD 0, x.tail, decide (1 < x.length)⟩])) := by
        unfold rt1
        rw [show mpL 71 = 77 from rfl, take1_77]
        rfl
      rw [e]
      split
      . rename_i h0
        split at h0
        . rename_i h1
          injection h0 with h0
          subst h0
          exact rtL_takeL hl hG t (i + 1) _ _ (.inr hok) h1
        . cases h0
      . rename_i h0
        split at h0
        . cases h0
        . rename_i h1
          injection h0 with h0
          subst h0
          obtain ⟨m, hm⟩ := takeL_77 r t (i + 1) { c with mt := c.mt ++ [⟨x.headD 0, x.tail, decide (1 < x.length)⟩] } (fun k hk => by rw [<- hl k, hG i k h71 (by omega)]; rfl)
          simp only
          rw [hm]
          simp only [fst2, fin]
          rw [flS_more _ _ m _ h1, if_neg h1]
    . have hmp := mpL_77 (hok i) h71
      have e : rt1 c (dlt sh i) x = take1 c (mpL (dlt sh i)) x := by
        unfold rt1
        split
        . rename_i d hd; rw [if_neg h71, hd]
        . rename_i d hd; rw [hd]
      rw [e]
      cases hd : take1 c (mpL (dlt sh i)) x with
      | inl d =>
        obtain ⟨h1, h2⟩ := take1_mt hmp hd
        simp only
        rw [<- h2]
        exact rtL_takeL hl hG t (i + 1) d _ (.inr hok) (by rw [h1, h2]; exact hf)
      | inr e => simp [fst2, fin]
def rblk (sh : Bs) : Nat -> Int -> List Bs -> Int
  | _, n, [] => n
  | i, n, x :: t => rblk sh (i + 1) (if 0 <= blk (dlt sh i) x then blk (dlt sh i) x else n) t
theorem rtL_blk (sh : Bs) : ∀ (ws : List Bs) (i : Nat) (c : Cmd) (n : Int) (d : Cmd) (m : Int), rtL sh i c n ws = .inl (d, m) -> m = rblk sh i n ws
  | [], i, c, n, d, m, h => by simp [rtL] at h; simp [rblk, h.2]
  | x :: t, i, c, n, d, m, h => by
    simp only [rtL] at h
    split at h
    . exact rtL_blk sh t (i + 1) _ _ d m h
    . cases h
theorem rblk_none {sh : Bs} (h : ∀ i, dlt sh i ≠ 78) : ∀ (ws : List Bs) (i : Nat), rblk sh i (-1) ws = -1
  | [], _ => rfl
  | x :: t, i => by
    simp only [rblk]
    rw [show blk (dlt sh i) x = -1 by simp [blk, h i]]
    simp
    exact rblk_none h t (i + 1)
theorem rtL_some (sh : Bs) : ∀ (ws : List Bs) (i j : Nat) (c : Cmd) (n : Int) (p : Cmd × Int) (x : Bs), rtL sh i c n ws = .inl p -> ws[j]? = some x -> dlt sh (i + j) = 78 -> ∃ m, nb 2147483647 x = some m
  | [], i, j, c, n, p, x, h, hx, hd => by cases hx
  | y :: t, i, 0, c, n, p, x, h, hx, hd => by
    simp at hx; subst hx
    simp only [rtL, Nat.add_zero] at h hd
    rw [hd] at h
    cases hn : nb 2147483647 y with
    | some m => exact ⟨m, rfl⟩
    | none =>
      have : rt1 c 78 y = .inr badLine := by simp [rt1, mpL, take1, hn]
      rw [this] at h
      cases h
  | y :: t, i, j + 1, c, n, p, x, h, hx, hd => by
    simp only [rtL] at h
    split at h
    . exact rtL_some sh t (i + 1) j _ _ p x h (by simpa using hx) (by rw [<- hd]; congr 1; omega)
    . cases h
end Go.Proofs.YtobegepebochkaaGreatDoor
namespace Go.Proofs.YtobegepebochkaaGreatDoor
open Go.RowKit Go.Maps
theorem dlt_cap {sh : Bs} (h : sh.length <= 6) (k : Nat) : dlt sh k = dlt sh (min k 5) := by
  unfold dlt; congr 1; omega
theorem lett_cap {r : Rw} (h : (r.wants ++ r.may).length <= 6) (k : Nat) : lett r k = lett r (min k 5) := by
  unfold lett; congr 1; omega
theorem hl_of {sh : Bs} {r : Rw} (h1 : sh.length <= 6) (h2 : (r.wants ++ r.may).length <= 6) (h : ∀ k, k < 6 -> mpL (dlt sh k) = lett r k) (k : Nat) : mpL (dlt sh k) = lett r k := by
  rw [dlt_cap h1, lett_cap h2]; exact h _ (by omega)
theorem hG_of {sh : Bs} (h : ∀ j, j < sh.length - 1 -> sh.getD j 0 ≠ 71) (i k : Nat) (hi : dlt sh i = 71) (hk : i <= k) : dlt sh k = 71 := by
  unfold dlt at hi ⊢
  by_cases hlt : i < sh.length - 1
  . rw [Nat.min_eq_left (by omega)] at hi; exact absurd hi (h i hlt)
  . rw [Nat.min_eq_right (by omega)] at hi ⊢; exact hi
theorem hok_of {sh : Bs} (h : ∀ a ∈ sh, lOk a) (h0 : sh ≠ []) (k : Nat) : lOk (dlt sh k) := by
  unfold dlt
  have hl : 0 < sh.length := List.length_pos_iff.2 h0
  have hk : min k (sh.length - 1) < sh.length := by omega
  rw [List.getD_eq_getElem?_getD, List.getElem?_eq_getElem hk]
  exact h _ (List.getElem_mem hk)
theorem rpass_none : ∀ (sh : Bs) (ws : List Bs), (∀ a ∈ sh, a ≠ 78) -> rpass sh ws = -1
  | [], ws, _ => by cases ws <;> rfl
  | a :: sh, [], _ => rfl
  | a :: sh, x :: ws, h => by
    simp only [rpass]
    rw [if_neg (h a (by simp))]
    exact rpass_none sh ws (fun b hb => h b (by simp [hb]))
theorem dlt_mem {sh : Bs} (k : Nat) : dlt sh k ∈ sh \/ sh = [] := by
  by_cases h0 : sh = []
  . exact .inr h0
  . have hl : 0 < sh.length := List.length_pos_iff.2 h0
    have hk : min k (sh.length - 1) < sh.length := by omega
    unfold dlt
    rw [List.getD_eq_getElem?_getD, List.getElem?_eq_getElem hk]
    exact .inl (List.getElem_mem hk)
theorem dlt_no {sh : Bs} (h : ∀ a ∈ sh, a ≠ 78) (k : Nat) : dlt sh k ≠ 78 := by
  rcases dlt_mem (sh := sh) k with h1 | h1
  . exact h _ h1
  . subst h1; simp [dlt]
structure VF (d : Dr) (r : Rw) : Prop where
  least : d.least = r.wants.length
  reply : d.reply = r.quiet
  again : d.again = r.endless
  len : r.endless = false -> d.shape.length = r.wants.length + r.may.length
  hl : ∀ k, mpL (dlt d.shape k) = lett r k
  hG : ∀ a k, dlt d.shape a = 71 -> a <= k -> dlt d.shape k = 71
  hok : d.shape = [] \/ ∀ k, lOk (dlt d.shape k)
  hp : ∀ ws, rpass d.shape ws = passS r ws
  hb : ∀ (vs tl : List Bs) (c : Cmd) (p : Cmd × Int), d.least <= vs.length -> (d.again = false -> vs.length <= d.shape.length) -> rtL d.shape 0 c (-1) vs = .inl p -> p.2 = passS r (vs ++ tl)
  ha : d.again = true -> d.shape ≠ []
theorem VF.plain {d : Dr} {r : Rw} (h1 : d.least = r.wants.length) (h2 : d.reply = r.quiet) (h3 : d.again = r.endless) (h4 : r.endless = false -> d.shape.length = r.wants.length + r.may.length) (h5 : ∀ k, mpL (dlt d.shape k) = lett r k) (h6 : ∀ a k, dlt d.shape a = 71 -> a <= k -> dlt d.shape k = 71) (h7 : d.shape = [] \/ ∀ k, lOk (dlt d.shape k)) (h8 : ∀ a ∈ d.shape, a ≠ 78) (h9 : r.wants.idxOf? 78 = none) (ha : d.again = true -> d.shape ≠ []) : VF d r := by
  have hp : ∀ ws, passS r ws = -1 := fun ws => by simp [passS, h9]
  refine ⟨h1, h2, h3, h4, h5, h6, h7, fun ws => by rw [rpass_none _ _ h8, hp], fun vs tl c p _ _ h => ?_, ha⟩
  obtain ⟨d', m⟩ := p
  have := rtL_blk _ _ _ _ _ _ _ h
  rw [rblk_none (fun i => dlt_no h8 i)] at this
  rw [hp]; exact this
theorem hb_at {sh : Bs} {j : Nat} {vs : List Bs} {c : Cmd} {p : Cmd × Int} {x : Bs} (h : rtL sh 0 c (-1) vs = .inl p) (hx : vs[j]? = some x) (h78 : dlt sh j = 78) (hlo : ∀ i, i < j -> dlt sh i ≠ 78) (hhi : ∀ i, j < i -> i < vs.length -> dlt sh i ≠ 78) : ∃ m : Nat, nb 2147483647 x = some m /\ p.2 = (m : Int) := by
  obtain ⟨m, hm⟩ := rtL_some sh vs 0 j c (-1) p x h hx (by rw [Nat.zero_add]; exact h78)
  refine ⟨m, hm, ?_⟩
  obtain ⟨d', q⟩ := p
  have hq := rtL_blk _ _ _ _ _ _ _ h
  simp only
  rw [hq]
  have gen : ∀ (ws : List Bs) (i : Nat) (n : Int), i <= j -> ws[j - i]? = some x -> (∀ k, j < k -> k < i + ws.length -> dlt sh k ≠ 78) -> rblk sh i n ws = (m : Int) := by
    intro ws
    induction ws with
    | nil => intro i n _ hx _; simp at hx
    | cons y t ih =>
      intro i n hi hx hh
      simp only [rblk]
      by_cases e : i = j
      . subst e
        rw [Nat.sub_self] at hx
        simp at hx
        subst hx
        have hbk : blk (dlt sh i) y = (m : Int) := by simp [blk, h78, hm]
        rw [hbk, if_pos (by omega)]
        have gen2 : ∀ (t : List Bs) (i' : Nat), i < i' -> (∀ k, i' <= k -> k < i' + t.length -> dlt sh k ≠ 78) -> rblk sh i' (m : Int) t = (m : Int) := by
          intro t
          induction t with
          | nil => intro _ _ _; rfl
          | cons z t ih2 =>
            intro i' hi' hh2
            simp only [rblk]
            rw [show blk (dlt sh i') z = -1 by simp [blk, hh2 i' (Nat.le_refl _) (by simp)]]
            simp
            exact ih2 (i' + 1) (by omega) (fun k hk hk2 => hh2 k (by omega) (by simp at hk2 ⊢; omega))
        exact gen2 t (i + 1) (by omega) (fun k hk hk2 => hh k (by omega) (by simp at hk2 ⊢; omega))
      . rw [show blk (dlt sh i) y = -1 by simp [blk, hlo i (by omega)]]
        simp
        refine ih (i + 1) n (by omega) ?_ (fun k hk hk2 => hh k hk (by simp at hk2 ⊢; omega))
        rw [show j - i = (j - (i + 1)) + 1 by omega] at hx
        simpa using hx
  exact gen vs 0 (-1) (Nat.zero_le _) (by simpa using hx) (fun k hk hk2 => hhi k hk (by omega))
theorem VF.blocks {d : Dr} {r : Rw} (j : Nat) (h1 : d.least = r.wants.length) (h2 : d.reply = r.quiet) (h3 : d.again = r.endless) (h4 : r.endless = false -> d.shape.length = r.wants.length + r.may.length) (h5 : ∀ k, mpL (dlt d.shape k) = lett r k) (h6 : ∀ a k, dlt d.shape a = 71 -> a <= k -> dlt d.shape k = 71) (h7 : d.shape = [] \/ ∀ k, lOk (dlt d.shape k)) (h8 : r.wants.idxOf? 78 = some j) (hj : j < d.least) (h78 : dlt d.shape j = 78) (hlo : ∀ i, i < j -> dlt d.shape i ≠ 78) (hhi : ∀ i, j < i -> (d.again = false -> i < d.shape.length) -> dlt d.shape i ≠ 78) (ha : d.again = true -> d.shape ≠ []) (hp : ∀ ws, rpass d.shape ws = passS r ws) : VF d r := by
  refine ⟨h1, h2, h3, h4, h5, h6, h7, hp, fun vs tl c p hv1 hv2 h => ?_, ha⟩
  obtain ⟨x, hx⟩ : ∃ x, vs[j]? = some x := ⟨_, List.getElem?_eq_getElem (by omega)⟩
  obtain ⟨m, hm, hpm⟩ := hb_at h hx h78 hlo (fun i hi hi2 => hhi i hi (fun ha => by have := hv2 ha; omega))
  rw [hpm]
  simp only [passS, h8]
  rw [List.getElem?_append_left (by omega), hx]
  simp only
  rw [hm]
theorem vf_0 : VF (dr 0) (rowL.getD 0 ([], ⟨0, [], [], false, false⟩)).2 :=
  VF.plain rfl rfl rfl (by decide) (hl_of (by decide) (by decide) (by decide)) (hG_of (by decide)) (.inr (hok_of (by decide) (by decide))) (by decide) (by decide) (by decide)
theorem vf_1 : VF (dr 1) (rowL.getD 1 ([], ⟨0, [], [], false, false⟩)).2 :=
  VF.plain rfl rfl rfl (by decide) (hl_of (by decide) (by decide) (by decide)) (hG_of (by decide)) (.inr (hok_of (by decide) (by decide))) (by decide) (by decide) (by decide)
theorem vf_2 : VF (dr 2) (rowL.getD 2 ([], ⟨0, [], [], false, false⟩)).2 :=
  VF.plain rfl rfl rfl (by decide) (hl_of (by decide) (by decide) (by decide)) (hG_of (by decide)) (.inr (hok_of (by decide) (by decide))) (by decide) (by decide) (by decide)
theorem vf_3 : VF (dr 3) (rowL.getD 3 ([], ⟨0, [], [], false, false⟩)).2 :=
  VF.plain rfl rfl rfl (by decide) (hl_of (by decide) (by decide) (by decide)) (hG_of (by decide)) (.inr (hok_of (by decide) (by decide))) (by decide) (by decide) (by decide)
theorem vf_4 : VF (dr 4) (rowL.getD 4 ([], ⟨0, [], [], false, false⟩)).2 :=
  VF.blocks 3 rfl rfl rfl (by decide) (hl_of (by decide) (by decide) (by decide)) (hG_of (by decide)) (.inr (hok_of (by decide) (by decide))) (by decide) (by decide) (by decide) (by decide) (fun i hi h => absurd (h rfl) (by show ¬ i < 4; omega)) (by decide) (fun ws => by
    show rpass [75, 70, 84, 78] ws = _
    simp only [passS, show (rowL.getD 4 ([], ⟨0, [], [], false, false⟩)).2.wants.idxOf? 78 = some 3 by decide]
    rcases ws with _ | ⟨a, _ | ⟨b, _ | ⟨c, _ | ⟨d, t⟩⟩⟩⟩ <;> simp [rpass]
    all_goals (split <;> simp [*, rpass]))
theorem vf_5 : VF (dr 5) (rowL.getD 5 ([], ⟨0, [], [], false, false⟩)).2 :=
  VF.blocks 3 rfl rfl rfl (by decide) (hl_of (by decide) (by decide) (by decide)) (hG_of (by decide)) (.inr (hok_of (by decide) (by decide))) (by decide) (by decide) (by decide) (by decide) (fun i hi h => absurd (h rfl) (by show ¬ i < 4; omega)) (by decide) (fun ws => by
    show rpass [75, 70, 84, 78] ws = _
    simp only [passS, show (rowL.getD 5 ([], ⟨0, [], [], false, false⟩)).2.wants.idxOf? 78 = some 3 by decide]
    rcases ws with _ | ⟨a, _ | ⟨b, _ | ⟨c, _ | ⟨d, t⟩⟩⟩⟩ <;> simp [rpass]
    all_goals (split <;> simp [*, rpass]))
theorem vf_6 : VF (dr 6) (rowL.getD 6 ([], ⟨0, [], [], false, false⟩)).2 :=
  VF.blocks 3 rfl rfl rfl (by decide) (hl_of (by decide) (by decide) (by decide)) (hG_of (by decide)) (.inr (hok_of (by decide) (by decide))) (by decide) (by decide) (by decide) (by decide) (fun i hi h => absurd (h rfl) (by show ¬ i < 4; omega)) (by decide) (fun ws => by
    show rpass [75, 70, 84, 78] ws = _
    simp only [passS, show (rowL.getD 6 ([], ⟨0, [], [], false, false⟩)).2.wants.idxOf? 78 = some 3 by decide]
    rcases ws with _ | ⟨a, _ | ⟨b, _ | ⟨c, _ | ⟨d, t⟩⟩⟩⟩ <;> simp [rpass]
    all_goals (split <;> simp [*, rpass]))
theorem vf_7 : VF (dr 7) (rowL.getD 7 ([], ⟨0, [], [], false, false⟩)).2 :=
  VF.blocks 3 rfl rfl rfl (by decide) (hl_of (by decide) (by decide) (by decide)) (hG_of (by decide)) (.inr (hok_of (by decide) (by decide))) (by decide) (by decide) (by decide) (by decide) (fun i hi h => absurd (h rfl) (by show ¬ i < 4; omega)) (by decide) (fun ws => by
    show rpass [75, 70, 84, 78] ws = _
    simp only [passS, show (rowL.getD 7 ([], ⟨0, [], [], false, false⟩)).2.wants.idxOf? 78 = some 3 by decide]
    rcases ws with _ | ⟨a, _ | ⟨b, _ | ⟨c, _ | ⟨d, t⟩⟩⟩⟩ <;> simp [rpass]
    all_goals (split <;> simp [*, rpass]))
theorem vf_8 : VF (dr 8) (rowL.getD 8 ([], ⟨0, [], [], false, false⟩)).2 :=
  VF.blocks 3 rfl rfl rfl (by decide) (hl_of (by decide) (by decide) (by decide)) (hG_of (by decide)) (.inr (hok_of (by decide) (by decide))) (by decide) (by decide) (by decide) (by decide) (fun i hi h => absurd (h rfl) (by show ¬ i < 4; omega)) (by decide) (fun ws => by
    show rpass [75, 70, 84, 78] ws = _
    simp only [passS, show (rowL.getD 8 ([], ⟨0, [], [], false, false⟩)).2.wants.idxOf? 78 = some 3 by decide]
    rcases ws with _ | ⟨a, _ | ⟨b, _ | ⟨c, _ | ⟨d, t⟩⟩⟩⟩ <;> simp [rpass]
    all_goals (split <;> simp [*, rpass]))
theorem vf_9 : VF (dr 9) (rowL.getD 9 ([], ⟨0, [], [], false, false⟩)).2 :=
  VF.blocks 3 rfl rfl rfl (by decide) (hl_of (by decide) (by decide) (by decide)) (hG_of (by decide)) (.inr (hok_of (by decide) (by decide))) (by decide) (by decide) (by decide) (by decide) (fun i hi h => by have h2 : i < 5 := h rfl; have e : i = 4 := (by omega); subst e; decide) (by decide) (fun ws => by
    show rpass [75, 70, 84, 78, 67] ws = _
    simp only [passS, show (rowL.getD 9 ([], ⟨0, [], [], false, false⟩)).2.wants.idxOf? 78 = some 3 by decide]
    rcases ws with _ | ⟨a, _ | ⟨b, _ | ⟨c, _ | ⟨d, _ | ⟨e, t⟩⟩⟩⟩⟩ <;> simp [rpass]
    all_goals (split <;> simp [*, rpass]))
theorem vf_10 : VF (dr 10) (rowL.getD 10 ([], ⟨0, [], [], false, false⟩)).2 :=
  VF.plain rfl rfl rfl (by decide) (hl_of (by decide) (by decide) (by decide)) (hG_of (by decide)) (.inr (hok_of (by decide) (by decide))) (by decide) (by decide) (by decide)
theorem vf_11 : VF (dr 11) (rowL.getD 11 ([], ⟨0, [], [], false, false⟩)).2 :=
  VF.plain rfl rfl rfl (by decide) (hl_of (by decide) (by decide) (by decide)) (hG_of (by decide)) (.inr (hok_of (by decide) (by decide))) (by decide) (by decide) (by decide)
theorem vf_12 : VF (dr 12) (rowL.getD 12 ([], ⟨0, [], [], false, false⟩)).2 :=
  VF.plain rfl rfl rfl (by decide) (hl_of (by decide) (by decide) (by decide)) (hG_of (by decide)) (.inr (hok_of (by decide) (by decide))) (by decide) (by decide) (by decide)
theorem vf_13 : VF (dr 13) (rowL.getD 13 ([], ⟨0, [], [], false, false⟩)).2 :=
  VF.plain rfl rfl rfl (by decide) (hl_of (by decide) (by decide) (by decide)) (hG_of (by decide)) (.inr (hok_of (by decide) (by decide))) (by decide) (by decide) (by decide)
theorem vf_14 : VF (dr 14) (rowL.getD 14 ([], ⟨0, [], [], false, false⟩)).2 :=
  VF.plain rfl rfl rfl (by decide) (hl_of (by decide) (by decide) (by decide)) (hG_of (by decide)) (.inr (hok_of (by decide) (by decide))) (by decide) (by decide) (by decide)
theorem vf_15 : VF (dr 15) (rowL.getD 15 ([], ⟨0, [], [], false, false⟩)).2 :=
  VF.plain rfl rfl rfl (by decide) (hl_of (by decide) (by decide) (by decide)) (hG_of (by decide)) (.inl rfl) (by decide) (by decide) (by decide)
theorem vf_16 : VF (dr 16) (rowL.getD 16 ([], ⟨0, [], [], false, false⟩)).2 :=
  VF.plain rfl rfl rfl (by decide) (hl_of (by decide) (by decide) (by decide)) (hG_of (by decide)) (.inr (hok_of (by decide) (by decide))) (by decide) (by decide) (by decide)
theorem vf_17 : VF (dr 17) (rowL.getD 17 ([], ⟨0, [], [], false, false⟩)).2 :=
  VF.plain rfl rfl rfl (by decide) (hl_of (by decide) (by decide) (by decide)) (hG_of (by decide)) (.inl rfl) (by decide) (by decide) (by decide)
theorem vf_18 : VF (dr 18) (rowL.getD 18 ([], ⟨0, [], [], false, false⟩)).2 :=
  VF.plain rfl rfl rfl (by decide) (hl_of (by decide) (by decide) (by decide)) (hG_of (by decide)) (.inr (hok_of (by decide) (by decide))) (by decide) (by decide) (by decide)
theorem vf_19 : VF (dr 19) (rowL.getD 19 ([], ⟨0, [], [], false, false⟩)).2 :=
  VF.plain rfl rfl rfl (by decide) (hl_of (by decide) (by decide) (by decide)) (hG_of (by decide)) (.inr (hok_of (by decide) (by decide))) (by decide) (by decide) (by decide)
theorem vf_20 : VF (dr 20) (rowL.getD 20 ([], ⟨0, [], [], false, false⟩)).2 :=
  VF.blocks 1 rfl rfl rfl (by decide) (hl_of (by decide) (by decide) (by decide)) (hG_of (by decide)) (.inr (hok_of (by decide) (by decide))) (by decide) (by decide) (by decide) (by decide) (fun i hi _ => by unfold dlt; rw [Nat.min_eq_right (show (dr 20).shape.length - 1 <= i from hi)]; decide) (by decide) (fun ws => by
    show rpass [75, 78, 71] ws = _
    simp only [passS, show (rowL.getD 20 ([], ⟨0, [], [], false, false⟩)).2.wants.idxOf? 78 = some 1 by decide]
    rcases ws with _ | ⟨a, _ | ⟨b, _ | ⟨c, t⟩⟩⟩ <;> simp [rpass]
    all_goals (split <;> simp [*, rpass]))
theorem vf_21 : VF (dr 21) (rowL.getD 21 ([], ⟨0, [], [], false, false⟩)).2 :=
  VF.plain rfl rfl rfl (by decide) (hl_of (by decide) (by decide) (by decide)) (hG_of (by decide)) (.inr (hok_of (by decide) (by decide))) (by decide) (by decide) (by decide)
theorem vf_22 : VF (dr 22) (rowL.getD 22 ([], ⟨0, [], [], false, false⟩)).2 :=
  VF.plain rfl rfl rfl (by decide) (hl_of (by decide) (by decide) (by decide)) (hG_of (by decide)) (.inr (hok_of (by decide) (by decide))) (by decide) (by decide) (by decide)
theorem vf_23 : VF (dr 23) (rowL.getD 23 ([], ⟨0, [], [], false, false⟩)).2 :=
  VF.plain rfl rfl rfl (by decide) (hl_of (by decide) (by decide) (by decide)) (hG_of (by decide)) (.inl rfl) (by decide) (by decide) (by decide)
end Go.Proofs.YtobegepebochkaaGreatDoor

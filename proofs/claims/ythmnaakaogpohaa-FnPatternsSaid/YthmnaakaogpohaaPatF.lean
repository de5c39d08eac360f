/-
  Patterns and inverses, one descent and 2143, texts: what the law asks, of the plain lists. Conditions: none but that they are permutations.
-/
import Derived.Test.YthmnaakaogpohaaPatM
import Derived.Test.YthmnaakaogpohaaDecode
import Derived.Test.YthmnaakaogpohaaVex
import Derived.Test.YthmnaakaogpohaaGrass
import Derived.Test.YthmnaakaogpohaaParse
import Derived.Test.YthmnaakaogpohaaFormat
import Derived.Test.YthmnaakaogpohaaImplF
namespace Go.Proofs.Ythmnaakaogpohaa
open Go.RowKit

theorem perm_range {xs : List Int} (h : isPermP xs) {k : Nat} (hk : k < xs.length) : 0 ≤ nth xs k ∧ nth xs k < (xs.length : Int) := by
  have := h.2.2 k hk
  have h1 := this.1; have h2 := this.2.1
  omega
theorem perm_apart {xs : List Int} (h : isPermP xs) {j k : Nat} (hj : j < k) (hk : k < xs.length) : nth xs j ≠ nth xs k := by
  have h3 := (h.2.2 k hk).2.2
  unfold hasB at h3
  have h4 := of_decide_eq_false h3
  intro e
  apply h4
  rw [← e]
  have h5 : j < (xs.take k).length := by rw [List.length_take]; omega
  have h6 : nth xs j = (xs.take k)[j] := by rw [nth_get (by omega)]; simp
  rw [h6]
  exact List.getElem_mem h5
theorem perm_inj {xs : List Int} (h : isPermP xs) {j k : Nat} (hj : j < xs.length) (hk : k < xs.length) (e : nth xs j = nth xs k) : j = k := by
  rcases Nat.lt_trichotomy j k with h1 | h1 | h1
  · exact absurd e (perm_apart h h1 hk)
  · exact h1
  · exact absurd e.symm (perm_apart h h1 hj)
theorem isPermP_of {xs : List Int} (h1 : 1 ≤ xs.length) (h7 : xs.length ≤ 7) (hr : ∀ k, k < xs.length → 0 ≤ nth xs k ∧ nth xs k < (xs.length : Int)) (ha : ∀ j k, j < k → k < xs.length → nth xs j ≠ nth xs k) : isPermP xs := by
  refine ⟨h1, h7, fun k hk => ⟨(hr k hk).1, by have := (hr k hk).2; omega, ?_⟩⟩
  unfold hasB
  rw [decide_eq_false_iff_not]
  intro hm
  obtain ⟨j, hj, e⟩ := List.mem_iff_getElem.1 hm
  have hj' : j < k := by rw [List.length_take] at hj; omega
  refine ha j k hj' hk ?_
  rw [nth_get (by omega), ← e]; simp
theorem perm_unused {xs : List Int} (h : isPermP xs) : ∀ k, k ≤ xs.length → unused (xs.take k) xs.length + k = xs.length
  | 0, _ => by rw [List.take_zero, unused_nil]; omega
  | k + 1, hk => by
    have ih := perm_unused h k (by omega)
    have hr := perm_range h (k := k) (by omega)
    have h3 := (h.2.2 k (by omega)).2.2
    obtain ⟨x, hx⟩ : ∃ x : Nat, nth xs k = (x : Int) := ⟨(nth xs k).toNat, by omega⟩
    rw [hx] at h3 hr
    have := unused_snoc_hi h3 xs.length (by omega)
    rw [take_nth (by omega), hx]
    omega
theorem unused_zero {out : List Int} : ∀ m, unused out m = 0 → ∀ v, v < m → hasB out (v : Int) = true
  | 0, _, v, hv => by omega
  | m + 1, h, v, hv => by
    cases hb : hasB out (m : Int) with
    | true =>
      rw [unused_hit hb] at h
      by_cases e : v = m
      · subst e; exact hb
      · exact unused_zero m h v (by omega)
    | false => rw [unused_miss hb] at h; omega
theorem perm_onto {xs : List Int} (h : isPermP xs) {v : Nat} (hv : v < xs.length) : ∃ j, j < xs.length ∧ nth xs j = (v : Int) := by
  have h1 := perm_unused h xs.length (Nat.le_refl _)
  rw [List.take_of_length_le (Nat.le_refl _)] at h1
  have h2 := unused_zero (out := xs) xs.length (by omega) v hv
  unfold hasB at h2
  obtain ⟨j, hj, e⟩ := List.mem_iff_getElem.1 (of_decide_eq_true h2)
  exact ⟨j, hj, by rw [nth_get hj]; exact e⟩
theorem nth_set2 {l : List Int} {k : Nat} (x : Int) (hk : k < l.length) (j : Nat) : nth (l.set k x) j = if j = k then x else nth l j := by
  unfold nth
  rw [List.getD_eq_getElem?_getD, List.getD_eq_getElem?_getD, List.getElem?_set]
  by_cases e : k = j
  · subst e; simp [hk]
  · rw [if_neg e, if_neg (fun h => e h.symm)]
theorem inv_step {xs : List Int} (h : isPermP xs) : ∀ k, k ≤ xs.length → ∀ j, j < k → nth (invM xs xs.length k) (nth xs j).toNat = (j : Int)
  | 0, _, j, hj => by omega
  | k + 1, hk, j, hj => by
    have hr := perm_range h (k := k) (by omega)
    have hrj := perm_range h (k := j) (by omega)
    rw [invM_succ, nth_set2 _ (by rw [invM_len]; omega)]
    by_cases e : j = k
    · subst e; rw [if_pos rfl]
    · have ha := perm_apart h (j := j) (k := k) (by omega) (by omega)
      rw [if_neg (by omega)]
      exact inv_step h k (by omega) j (by omega)
theorem inv_at {xs : List Int} (h : isPermP xs) {j : Nat} (hj : j < xs.length) : nth (invPerm xs) (nth xs j).toNat = (j : Int) := by
  rw [invPerm_yes (isPermB_true h)]
  exact inv_step h xs.length (Nat.le_refl _) j hj
theorem inv_len {xs : List Int} (h : isPermP xs) : (invPerm xs).length = xs.length := by rw [invPerm_yes (isPermB_true h), invM_len]
theorem inv_of {xs : List Int} (h : isPermP xs) {v : Nat} (hv : v < xs.length) : ∃ j : Nat, j < xs.length ∧ nth xs j = (v : Int) ∧ nth (invPerm xs) v = (j : Int) := by
  obtain ⟨j, hj, e⟩ := perm_onto h hv
  have := inv_at h hj
  rw [e, Int.toNat_natCast] at this
  exact ⟨j, hj, e, this⟩
theorem inv_perm {xs : List Int} (h : isPermP xs) : isPermP (invPerm xs) := by
  have hl := inv_len h
  refine isPermP_of (by rw [hl]; exact h.1) (by rw [hl]; exact h.2.1) (fun k hk => ?_) (fun j k hj hk => ?_)
  · rw [hl] at hk ⊢
    obtain ⟨j, hj, _, e⟩ := inv_of h hk
    rw [e]; omega
  · rw [hl] at hk
    obtain ⟨a, _, e1, e2⟩ := inv_of h hk
    obtain ⟨b, _, e3, e4⟩ := inv_of h (v := j) (by omega)
    rw [e2, e4]
    intro e
    have : a = b := by omega
    subst this
    rw [e1] at e3
    omega
theorem ext_nth {a b : List Int} (hl : a.length = b.length) (h : ∀ k, k < a.length → nth a k = nth b k) : a = b := by
  apply List.ext_getElem hl
  intro k h1 h2
  have := h k h1
  rwa [nth_get h1, nth_get h2] at this
theorem inv_inv {xs : List Int} (h : isPermP xs) : invPerm (invPerm xs) = xs := by
  have hi := inv_perm h
  have hl := inv_len h
  refine ext_nth (by rw [inv_len hi, hl]) fun k hk => ?_
  rw [inv_len hi, hl] at hk
  obtain ⟨v, hv⟩ : ∃ v : Nat, nth xs k = (v : Int) := ⟨(nth xs k).toNat, by have := perm_range h hk; omega⟩
  have hvl : v < xs.length := by have := (perm_range h hk).2; omega
  have e1 := inv_at h hk
  rw [hv, Int.toNat_natCast] at e1
  have e2 := inv_at hi (j := v) (by omega)
  rw [e1, Int.toNat_natCast] at e2
  rw [e2, hv]
/-- The pattern stands at these places. -/
def Occ (ws ps : List Int) (f : Nat → Nat) : Prop :=
  (∀ s t, s < t → t < ps.length → f s < f t) ∧ (∀ t, t < ps.length → f t < ws.length) ∧ ∀ s t, s < ps.length → t < ps.length → (nth ws (f s) < nth ws (f t) ↔ nth ps s < nth ps t)
theorem occ_of {ws ps : List Int} (hw : isPermP ws) (hp : isPermP ps) {is : List Nat} (h : goesOn ws ps [] 0 is) : Occ ws ps (nn is) := by
  obtain ⟨g1, g2, g3, g4⟩ := h
  have hl : is.length = ps.length := by simpa using g1
  have hlt : ∀ t, t < ps.length → nn is t < ws.length := fun t ht => (g3 _ (nn_mem (by omega))).2
  have hmono : ∀ s t, s < t → t < ps.length → nn is s < nn is t := fun s t hst ht => by
    rw [nn_get (by omega), nn_get (by omega)]
    exact List.pairwise_iff_getElem.1 g2 s t (by omega) (by omega) hst
  have hfw : ∀ s t, s < t → t < ps.length → (nth ws (nn is s) < nth ws (nn is t) ↔ nth ps s < nth ps t) := fun s t hst ht => by
    have := g4 t (by omega) s (by simp; exact hst)
    rw [List.nil_append, nth_map_nn (by omega)] at this
    simpa using this
  refine ⟨hmono, hlt, fun s t hs ht => ?_⟩
  rcases Nat.lt_trichotomy s t with h1 | h1 | h1
  · exact hfw s t h1 ht
  · subst h1; simp
  · have h2 := hfw t s h1 hs
    have h3 : nth ws (nn is s) ≠ nth ws (nn is t) := fun e => perm_apart hw (hmono t s h1 hs) (hlt s hs) e.symm
    have h4 : nth ps s ≠ nth ps t := fun e => perm_apart hp h1 hs e.symm
    omega
theorem goes_of {ws ps : List Int} {f : Nat → Nat} (h : Occ ws ps f) : ∃ is, goesOn ws ps [] 0 is := by
  obtain ⟨h1, h2, h3⟩ := h
  have hnn : ∀ t, t < ps.length → nn ((List.range ps.length).map f) t = f t := fun t ht => by rw [nn_get (by simpa using ht)]; simp
  refine ⟨(List.range ps.length).map f, by simp, ?_, fun i hi => ?_, fun t ht j hj => ?_⟩
  · rw [List.pairwise_iff_getElem]
    intro i j hi hj hij
    simp only [List.getElem_map, List.getElem_range]
    exact h1 i j hij (by simpa using hj)
  · obtain ⟨t, ht, rfl⟩ := List.mem_map.1 hi
    exact ⟨Nat.zero_le _, h2 t (List.mem_range.1 ht)⟩
  · have ht' : t < ps.length := by simpa using ht
    have hj' : j < t := by simpa using hj
    rw [List.nil_append, nth_map_nn (by simp; omega), hnn t ht', hnn j (by omega)]
    simpa using h3 j t (by omega) ht'
theorem has_iff {ws ps : List Int} (hw : isPermP ws) (hp : isPermP ps) : hasPB ws ps = true ↔ ∃ f, Occ ws ps f := by
  rw [hasPB_3 (isPermB_true hw) (isPermB_true hp), patB_iff (ps.length + 1) [] 0 (Nat.zero_le _) (by simp)]
  exact ⟨fun ⟨is, h⟩ => ⟨_, occ_of hw hp h⟩, fun ⟨f, h⟩ => goes_of h⟩
theorem occ_inv {ws ps : List Int} (hw : isPermP ws) (hp : isPermP ps) {f : Nat → Nat} (h : Occ ws ps f) : ∃ g, Occ (invPerm ws) (invPerm ps) g := by
  obtain ⟨h1, h2, h3⟩ := h
  have hq : ∀ b, b < ps.length → ∃ j : Nat, j < ps.length ∧ nth ps j = (b : Int) ∧ nth (invPerm ps) b = (j : Int) := fun b hb => inv_of hp hb
  obtain ⟨q, hq⟩ : ∃ q : Nat → Nat, ∀ b, b < ps.length → q b < ps.length ∧ nth ps (q b) = (b : Int) ∧ nth (invPerm ps) b = (q b : Int) :=
    ⟨fun b => (nth (invPerm ps) b).toNat, fun b hb => by obtain ⟨j, a1, a2, a3⟩ := hq b hb; simp only [a3, Int.toNat_natCast]; exact ⟨a1, a2, trivial⟩⟩
  have hg : ∀ b, b < ps.length → 0 ≤ nth ws (f (q b)) ∧ nth ws (f (q b)) < (ws.length : Int) := fun b hb => perm_range hw (h2 _ (hq b hb).1)
  have hgi : ∀ b, b < ps.length → nth (invPerm ws) (nth ws (f (q b))).toNat = (f (q b) : Int) := fun b hb => inv_at hw (h2 _ (hq b hb).1)
  refine ⟨fun b => (nth ws (f (q b))).toNat, fun s t hst ht => ?_, fun t ht => ?_, fun s t hs ht => ?_⟩
  · rw [inv_len hp] at ht
    have a1 := hq s (by omega)
    have a2 := hq t ht
    have := (h3 (q s) (q t) a1.1 a2.1).2 (by rw [a1.2.1, a2.2.1]; omega)
    have b1 := hg s (by omega)
    have b2 := hg t ht
    show (nth ws (f (q s))).toNat < (nth ws (f (q t))).toNat
    omega
  · rw [inv_len hp] at ht
    rw [inv_len hw]
    have := hg t ht
    show (nth ws (f (q t))).toNat < ws.length
    omega
  · rw [inv_len hp] at hs ht
    have a1 := hq s hs
    have a2 := hq t ht
    show nth (invPerm ws) (nth ws (f (q s))).toNat < nth (invPerm ws) (nth ws (f (q t))).toNat ↔ _
    rw [hgi s hs, hgi t ht, a1.2.2, a2.2.2]
    rcases Nat.lt_trichotomy (q s) (q t) with e | e | e
    · have := h1 _ _ e a2.1; omega
    · rw [e]; omega
    · have := h1 _ _ e a1.1; omega
theorem has_inv {ws ps : List Int} (hw : isPermP ws) (hp : isPermP ps) : hasPB (invPerm ws) (invPerm ps) = hasPB ws ps := by
  have h1 : hasPB ws ps = true → hasPB (invPerm ws) (invPerm ps) = true := fun h => by
    obtain ⟨f, hf⟩ := (has_iff hw hp).1 h
    exact (has_iff (inv_perm hw) (inv_perm hp)).2 (occ_inv hw hp hf)
  have h2 : hasPB (invPerm ws) (invPerm ps) = true → hasPB ws ps = true := fun h => by
    obtain ⟨f, hf⟩ := (has_iff (inv_perm hw) (inv_perm hp)).1 h
    have := occ_inv (inv_perm hw) (inv_perm hp) hf
    rw [inv_inv hw, inv_inv hp] at this
    exact (has_iff hw hp).2 this
  cases e1 : hasPB ws ps with
  | true => exact h1 e1
  | false =>
    cases e2 : hasPB (invPerm ws) (invPerm ps) with
    | false => rfl
    | true => rw [h2 e2] at e1; cases e1
theorem has_self {ws : List Int} (hw : isPermP ws) : hasPB ws ws = true :=
  (has_iff hw hw).2 ⟨id, fun _ _ h _ => h, fun _ h => h, fun _ _ _ _ => Iff.rfl⟩
theorem perm2143 : isPermP [1, 0, 3, 2] := isPermB_P (by decide)
theorem no_fall {xs : List Int} {a : Nat} : ∀ b, a ≤ b → (∀ k, a ≤ k → k < b → ¬ nth xs (k + 1) < nth xs k) → nth xs a ≤ nth xs b
  | 0, h, _ => by obtain rfl : a = 0 := by omega
                  exact Int.le_refl _
  | b + 1, h, hk => by
    by_cases e : a = b + 1
    · subst e; exact Int.le_refl _
    · have := no_fall b (by omega) (fun k h1 h2 => hk k h1 (by omega))
      have := hk b (by omega) (by omega)
      omega
theorem desc_in {xs : List Int} : ∀ {n k : Nat}, k < n → nth xs (k + 1) < nth xs k → (k : Int) ∈ descL xs n
  | 0, k, h, _ => by omega
  | n + 1, k, h, hd => by
    unfold descL
    by_cases e : k = n
    · subst e; rw [if_pos hd]; simp
    · have := desc_in (n := n) (k := k) (by omega) hd
      split
      · exact List.mem_append.2 (.inl this)
      · exact this
theorem two_in {l : List Int} {x y : Int} (hx : x ∈ l) (hy : y ∈ l) (h : x ≠ y) : 2 ≤ l.length := by
  match l, hx, hy with
  | [a], hx, hy =>
    rw [List.mem_singleton] at hx hy
    exact absurd (hx.trans hy.symm) h
  | a :: b :: r, _, _ => simp
theorem gra_vex {ws : List Int} (h : grassB ws = true) : vexB ws = true := by
  unfold grassB at h
  rw [Bool.and_eq_true] at h
  have hw := isPermB_P h.1
  have hd := of_decide_eq_true h.2
  rw [descPerm_yes h.1] at hd
  cases hb : hasPB ws [1, 0, 3, 2] with
  | false => rw [vexB_yes h.1 hb]; rfl
  | true =>
    exfalso
    obtain ⟨f, h1, h2, h3⟩ := (has_iff hw perm2143).1 hb
    have l4 : ([1, 0, 3, 2] : List Int).length = 4 := rfl
    have f01 := h1 0 1 (by omega) (by omega)
    have f12 := h1 1 2 (by omega) (by omega)
    have f23 := h1 2 3 (by omega) (by omega)
    have f3 := h2 3 (by omega)
    have v1 : nth ws (f 1) < nth ws (f 0) := (h3 1 0 (by omega) (by omega)).2 (by decide)
    have v2 : nth ws (f 3) < nth ws (f 2) := (h3 3 2 (by omega) (by omega)).2 (by decide)
    have d1 : ∃ k, f 0 ≤ k ∧ k < f 1 ∧ nth ws (k + 1) < nth ws k := by
      apply Classical.byContradiction
      intro hn
      have := no_fall (xs := ws) (a := f 0) (f 1) (by omega) (fun k a b c => hn ⟨k, a, b, c⟩)
      omega
    have d2 : ∃ k, f 2 ≤ k ∧ k < f 3 ∧ nth ws (k + 1) < nth ws k := by
      apply Classical.byContradiction
      intro hn
      have := no_fall (xs := ws) (a := f 2) (f 3) (by omega) (fun k a b c => hn ⟨k, a, b, c⟩)
      omega
    obtain ⟨k1, a1, b1, c1⟩ := d1
    obtain ⟨k2, a2, b2, c2⟩ := d2
    have m1 := desc_in (xs := ws) (n := ws.length - 1) (k := k1) (by omega) c1
    have m2 := desc_in (xs := ws) (n := ws.length - 1) (k := k2) (by omega) c2
    have := two_in m1 m2 (by omega)
    omega
theorem digs_fmt {xs : List Int} (h : ∀ x ∈ xs, 0 ≤ x ∧ x ≤ 6) : digs (strOfNums (fmtN xs)) = xs := by
  unfold digs strOfNums fmtN
  simp only [List.map_map]
  conv => rhs; rw [← List.map_id xs]
  apply List.map_congr_left
  intro x hx
  have := h x hx
  have h1 : 0 ≤ x ∧ x ≤ 6 := this
  obtain ⟨n, rfl⟩ : ∃ n : Nat, x = (n : Int) := ⟨x.toNat, by omega⟩
  have hn : n ≤ 6 := by omega
  simp only [Function.comp, id]
  rw [show ((49 : Int) + (n : Int)).toNat = 49 + n by omega]
  have : (UInt8.ofNat (49 + n)).toNat = 49 + n := by rw [UInt8.toNat_ofNat']; omega
  rw [this]; omega
theorem size_fmt (xs : List Int) : (strOfNums (fmtN xs)).size = xs.length := by simp [strOfNums, ByteArray.size, fmtN]
theorem read_back {xs : List Int} (h : isPermP xs) : okP (fmtB xs) = true ∧ parP (fmtB xs) = xs := by
  have hB := isPermB_true h
  have hm : ∀ x ∈ xs, 0 ≤ x ∧ x ≤ 6 := fun x hx => by
    obtain ⟨k, hk, rfl⟩ := List.mem_iff_getElem.1 hx
    have := perm_range h hk
    rw [nth_get hk] at this
    have := h.2.1
    omega
  have hok : okP (fmtB xs) = true := by
    rw [fmtB_yes hB]
    unfold okP
    rw [digs_fmt hm, hB, size_fmt, decide_eq_true h.2.1]; rfl
  refine ⟨hok, ?_⟩
  unfold parP
  rw [if_pos hok, fmtB_yes hB, digs_fmt hm]
theorem read_none : okP ByteArray.empty = false := by decide
theorem size_small {xs : List Int} : (fmtB xs).size ≤ 1099511627776 := by
  cases h : isPermB xs with
  | false => rw [fmtB_no h]; decide
  | true => rw [fmtB_yes h, size_fmt]; have := (isPermB_P h).2.1; omega
theorem emb7 {xs : List Int} (h : isPermP xs) : embPerm xs 7 = fillA xs xs.length := by
  unfold embPerm
  rw [if_pos ⟨isPermB_true h, by have := h.2.1; omega, by omega⟩]
  exact List.take_of_length_le (by rw [fillA_len]; exact Nat.le_refl _)
theorem fill_perm {xs : List Int} (h : isPermP xs) : isPermP (fillA xs xs.length) := by
  have h7 := h.2.1
  refine isPermP_of (by rw [fillA_len]; omega) (by rw [fillA_len]; omega) (fun k hk => ?_) (fun j k hj hk => ?_)
  · rw [fillA_len] at hk ⊢
    rw [fillA_nth _ _ _ hk]
    split
    · rename_i hl; have := perm_range h hl; omega
    · omega
  · rw [fillA_len] at hk
    rw [fillA_nth _ _ _ hk, fillA_nth _ _ _ (by omega)]
    by_cases hl : k < xs.length
    · rw [if_pos hl, if_pos (by omega)]
      exact perm_apart h hj hl
    · rw [if_neg hl]
      split
      · rename_i hl2; have := perm_range h hl2; omega
      · omega
theorem trim_fill {xs : List Int} (h : isPermP xs) : ∀ k, xs.length ≤ k → k ≤ 7 → trimN (fillA xs xs.length) k = trimN (fillA xs xs.length) xs.length
  | 0, h1, _ => by rw [show xs.length = 0 by omega]
  | k + 1, h1, h2 => by
    by_cases e : xs.length = k + 1
    · rw [e]
    · have h0 := h.1
      rw [trimN_hit (by omega) (by rw [fillA_nth _ _ _ (by omega), if_neg (by omega)])]
      exact trim_fill h k (by omega) (by omega)
theorem trim_same {xs ys : List Int} : ∀ k, (∀ j, j < k → nth xs j = nth ys j) → trimN xs k = trimN ys k
  | 0, _ => rfl
  | k + 1, h => by
    show (if 0 < k ∧ nth xs k = (k : Int) then trimN xs k else k + 1) = (if 0 < k ∧ nth ys k = (k : Int) then trimN ys k else k + 1)
    rw [h k (by omega), trim_same k (fun j hj => h j (by omega))]
theorem trim_emb {xs : List Int} (h : isPermP xs) : trimPerm (embPerm xs 7) = trimPerm xs := by
  have h7 := h.2.1
  rw [emb7 h, trimPerm_yes (isPermB_true (fill_perm h)), trimPerm_yes (isPermB_true h), fillA_len, trim_fill h 7 h7 (Nat.le_refl _)]
  have hn : ∀ j, j < xs.length → nth (fillA xs xs.length) j = nth xs j := fun j hj => by rw [fillA_nth _ _ _ (by omega), if_pos hj]
  rw [trim_same xs.length hn]
  have hle := trimN_le xs xs.length
  refine ext_nth (by rw [List.length_take, List.length_take, fillA_len]; omega) fun k hk => ?_
  have hk' : k < trimN xs xs.length := by rw [List.length_take] at hk; omega
  rw [nth_take hk', nth_take hk', hn k (by omega)]
end Go.Proofs.Ythmnaakaogpohaa

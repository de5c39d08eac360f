/-
  Texts PosM to PosJ, merged. Conditions: as each says.
-/
import Derived.BigRegion
import Derived.Test.YtdepalpkcmfegaaPkA4
/-
  How much rows have in common: mathematics. Conditions: p is 2, 3, 5 or 7.
-/






namespace Go.Proofs.Ytdepalpkcmfegaa
open Go.RowKit

theorem rank_span {p : Int} {n : Nat} {A B : List (List Int)} (hp : P7 p) (hA : ∀ x, x ∈ A → x.length = n ∧ Rg p x) (hB : ∀ x, x ∈ B → x.length = n ∧ Rg p x) (h : ∀ v, Sp p n (A.map nth) v ↔ Sp p n (B.map nth) v) : rnkL p A = rnkL p B := by
  have h1 := Ech.same_len hp.two (echel_ok hp hA).1.2 (echel_ok hp hB).1.2 (fun v => by rw [prs_vec, prs_vec, (echel_ok hp hA).2 v, (echel_ok hp hB).2 v]; exact h v)
  simpa [prs, rnkL] using h1
theorem app_ok {p : Int} {n : Nat} {A B : List (List Int)} (hA : ∀ x, x ∈ A → x.length = n ∧ Rg p x) (hB : ∀ x, x ∈ B → x.length = n ∧ Rg p x) : ∀ x, x ∈ A ++ B → x.length = n ∧ Rg p x := fun x hx => by
  rcases List.mem_append.1 hx with h | h
  · exact hA x h
  · exact hB x h
/-- Rows with the same sums of multiples, in either order. -/
theorem rank_swap {p : Int} {n : Nat} {A A' S : List (List Int)} (hp : P7 p) (hA : ∀ x, x ∈ A → x.length = n ∧ Rg p x) (hA' : ∀ x, x ∈ A' → x.length = n ∧ Rg p x) (hS : ∀ x, x ∈ S → x.length = n ∧ Rg p x) (h : ∀ v, Sp p n (A.map nth) v ↔ Sp p n (A'.map nth) v) :
    rnkL p (A ++ S) = rnkL p (S ++ A') := by
  refine rank_span hp (app_ok hA hS) (app_ok hS hA') fun v => ?_
  rw [List.map_append, List.map_append]
  refine Sp.same (fun r hr => ?_) (fun r hr => ?_) v
  · rcases List.mem_append.1 hr with h1 | h1
    · exact Sp.app_right ((h r).1 (Sp.mem h1))
    · exact Sp.app_left (Sp.mem h1)
  · rcases List.mem_append.1 hr with h1 | h1
    · exact Sp.app_right (Sp.mem h1)
    · exact Sp.app_left ((h r).2 (Sp.mem h1))
theorem rnkL_nil (p : Int) : rnkL p [] = 0 := rfl
/-- The first rows of a flag: as many as their rank. -/
theorem rank_take {p : Int} {rows : List (List Int)} (h : (echel p rows).length = rows.length) {i : Nat} (hi : i ≤ rows.length) : rnkL p (rows.take i) = i := by
  unfold rnkL
  rw [echel_take h hi, List.length_take]
  omega
theorem sp_take {p : Int} {n : Nat} {rows : List (List Int)} (hp : P7 p) (hr : ∀ x, x ∈ rows → x.length = n ∧ Rg p x) (h : (echel p rows).length = rows.length) {i : Nat} (hi : i ≤ rows.length) (v : Nat → Int) :
    Sp p n ((((echel p rows).map (·.1)).take i).map nth) v ↔ Sp p n ((rows.take i).map nth) v := by
  have h1 := (echel_ok (p := p) (n := n) hp (rows := rows.take i) (fun x hx => hr x (List.mem_of_mem_take hx))).2 v
  rw [echel_take h hi] at h1
  rw [← h1, ← List.map_take]
  unfold vec
  rw [List.map_map]
  rfl
theorem redD_span {p : Int} {n : Nat} {rows : List (List Int)} (hp : P7 p) (hr : ∀ x, x ∈ rows → x.length = n ∧ Rg p x) (v : Nat → Int) : Sp p n (vec (redD p n rows)) v ↔ Sp p n (vec (echel p rows)) v := by
  have hE := echel_ok hp hr
  have hD := DscI.all hp hE.1 n (Nat.le_refl _)
  have h1 := (echel_ok (p := p) (n := n) hp (rows := dscR (echel p rows) n n) fun x hx => by
    obtain ⟨e, he, rfl⟩ := hD.rows x hx
    exact ⟨(hE.1.1 e he).1, (hE.1.1 e he).2.1⟩).2 v
  show Sp p n (vec (echel p (dscR (echel p rows) n n))) v ↔ _
  rw [h1]
  refine Sp.same (fun q hq => ?_) (fun q hq => ?_) v
  · obtain ⟨x, hx, rfl⟩ := List.mem_map.1 hq
    obtain ⟨e, he, rfl⟩ := hD.rows x hx
    exact Sp.mem (List.mem_map.2 ⟨e, he, rfl⟩)
  · obtain ⟨e, he, rfl⟩ := List.mem_map.1 hq
    exact Sp.mem (List.mem_map.2 ⟨e.1, hD.has e he (by have := (hE.1.1 e he).2.2.1; have := (hE.1.1 e he).2.2.2; omega), rfl⟩)
theorem spanN_rank {p : Int} {n : Nat} {rows : List (List Int)} (hp : P7 p) (hr : ∀ x, x ∈ rows → x.length = n ∧ Rg p x) : spanN p n rows = rnkL p rows := by
  have h1 := Ech.same_len hp.two (redD_ok hp hr).2 (echel_ok hp hr).1.2 (fun v => by rw [prs_vec, prs_vec]; exact redD_span hp hr v)
  simpa [prs, rnkL, spanN] using h1
theorem isSp_yes {p r c : Int} {xs : List Int} (h : isSpB p r c xs = true) : ∃ R C : Nat, r = (R : Int) ∧ c = (C : Int) ∧ P7 p ∧ R ≤ 7 ∧ 1 ≤ C ∧ C ≤ 7 ∧ xs.length = R * C ∧ Rg p xs ∧ rnkL p (rowsC xs C R C) = R := by
  have hm := isSpB_mat' h
  have hM := matB_P hm
  obtain ⟨R, C, rfl, rfl, hR7, hC1, hC7, hxl⟩ := hM.nats
  unfold isSpB at h
  have h2 := (of_decide_eq_true h).2
  simp only [Int.toNat_natCast] at h2
  have hro := rowsC_ok (p := p) (d := xs) (by have := hM.1.two; omega) hM.rg C R C
  have h3 := congrArg List.length h2
  unfold spanX at h3
  rw [flatK_len, hxl, spanN_rank hM.1 hro] at h3
  exact ⟨R, C, rfl, rfl, hM.1, hR7, hC1, hC7, hxl, hM.rg, Nat.eq_of_mul_eq_mul_right hC1 h3⟩
/-- How much the sums of two lists of rows have in common. -/
def cmnR (p : Int) (A B : List (List Int)) : Int := (rnkL p A : Int) + (rnkL p B : Int) - (rnkL p (A ++ B) : Int)
theorem rnkL_app (p : Int) (A B : List (List Int)) : rnkL p A ≤ rnkL p (A ++ B) ∧ rnkL p (A ++ B) ≤ rnkL p A + B.length := by
  unfold rnkL echel
  rw [List.foldl_append]
  obtain ⟨t, e, h⟩ := foldl_addR_app p B (A.foldl (addR p) [])
  rw [e, List.length_append]
  omega
theorem cmnR_b (p : Int) (A B : List (List Int)) : -(B.length : Int) ≤ cmnR p A B ∧ cmnR p A B ≤ B.length := by
  have h1 := rnkL_app p A B
  have h2 := rnkL_le p B
  unfold cmnR
  omega
theorem rowsC_take {d : List Int} {C i : Nat} (q : Nat) (hq : i * C ≤ q) : rowsC (d.take q) C i C = rowsC d C i C := by
  unfold rowsC
  refine List.map_congr_left fun k hk => ?_
  have hk' := List.mem_range.1 hk
  unfold rowC
  refine List.map_congr_left fun j hj => ?_
  have hj' := List.mem_range.1 hj
  have h := idx_lt hk' hj'
  simp only [nth, List.getD_eq_getElem?_getD]
  rw [List.getElem?_take_of_lt (by omega)]
theorem rowsC_first {d : List Int} {C i n : Nat} (h : i ≤ n) : rowsC d C i C = (rowsC d C n C).take i := by
  unfold rowsC
  rw [← List.map_take, List.take_range, Nat.min_eq_left h]
/-- The first rows of a normal form, as rows of a matrix. -/
theorem flat_rows {C : Nat} {E : List (List Int × Int)} (hE : ∀ e, e ∈ E → e.1.length = C) (hl : E.length = C) {i : Nat} (hi : i ≤ C) : rowsC (flatK C C (E.map (·.1)) C) C i C = (E.map (·.1)).take i := by
  refine li_ext (by rw [rowsC_len, List.length_take, List.length_map]; omega) fun j hj => ?_
  rw [rowsC_len] at hj
  have hjE : j < E.length := by omega
  rw [rowsC_li hj]
  have e1 : li ((E.map (·.1)).take i) j = li (E.map (·.1)) j := by simp [li, List.getD, hj]
  have e2 : li (E.map (·.1)) j = E[j].1 := by rw [li_get (by simpa using hjE)]; simp
  rw [e1]
  refine nth_ext (by rw [rowC_len, e2, hE _ (List.getElem_mem hjE)]) fun q hq => ?_
  rw [rowC_len] at hq
  rw [rowC_nth hq, flatK_nth (idx_lt (by omega) hq)]
  obtain ⟨a, b⟩ := div_row (i := j) hq
  rw [a, b, if_pos (by omega)]
/-- The position of a space: how the common part grows. -/
def posL (p : Int) (R C : Nat) (xs ys : List Int) : List Int := (List.range C).map fun j => cmnR p (rowsC xs C R C) (rowsC ys C (j + 1) C) - cmnR p (rowsC xs C R C) (rowsC ys C j C)
def besideB (p r c : Int) (xs : List Int) (p' r' c' : Int) (ys : List Int) : Bool := isSpB p r c xs && (flagB p' r' c' ys && (decide (p = p') && decide (c = c')))
theorem beside_yes {p r c : Int} {xs : List Int} {p' r' c' : Int} {ys : List Int} (h : besideB p r c xs p' r' c' ys = true) : ∃ R C : Nat, r = (R : Int) ∧ c = (C : Int) ∧ p' = p ∧ r' = (C : Int) ∧ c' = (C : Int) ∧ P7 p ∧ R ≤ 7 ∧ 1 ≤ C ∧ C ≤ 7 ∧ xs.length = R * C ∧ ys.length = C * C ∧ Rg p xs ∧ Rg p ys ∧ rnkL p (rowsC xs C R C) = R ∧ (echel p (rowsC ys C C C)).length = C := by
  unfold besideB at h
  simp only [Bool.and_eq_true, decide_eq_true_eq] at h
  obtain ⟨h1, h2, rfl, rfl⟩ := h
  obtain ⟨R, C, rfl, e, hp7, hR7, hC1, hC7, hxl, hxr, hrk⟩ := isSp_yes h1
  obtain ⟨C', rfl, e', _, _, _, hyl, hyr, hfull⟩ := flagB_yes h2
  have eC : C' = C := by omega
  subst eC
  exact ⟨R, C', rfl, e, rfl, rfl, e, hp7, hR7, hC1, hC7, hxl, hyl, hxr, hyr, hrk, hfull⟩
def posW (p r c : Int) (xs : List Int) (p' r' c' : Int) (ys : List Int) : List Int := if besideB p r c xs p' r' c' ys = true then posL p r.toNat c.toNat xs ys else []
theorem posW_len (p r c : Int) (xs : List Int) (p' r' c' : Int) (ys : List Int) : (posW p r c xs p' r' c' ys).length ≤ 1000 := by
  unfold posW
  split
  · rename_i h
    obtain ⟨R, C, rfl, rfl, _, _, _, _, _, _, hC7, _⟩ := beside_yes h
    simp only [posL, List.length_map, List.length_range, Int.toNat_natCast]; omega
  · simp
/-- What the program reckons: with the normal form of the flag, and the rows as they are. -/
theorem common_same {p : Int} {R C i : Nat} {ys : List Int} {S : List (List Int)} (hp : P7 p) (hyr : Rg p ys) (hfull : (echel p (rowsC ys C C C)).length = C) (hS : ∀ x, x ∈ S → x.length = C ∧ Rg p x) (_hSl : S.length = R) (hSr : rnkL p S = R) (hi : i ≤ C) :
    (R : Int) + (i : Int) - (rnkL p (((echel p (rowsC ys C C C)).map (·.1)).take i ++ S) : Int) = cmnR p S (rowsC ys C i C) := by
  have hro := rowsC_ok (p := p) (d := ys) (by have := hp.two; omega) hyr C C C
  have hf : (echel p (rowsC ys C C C)).length = (rowsC ys C C C).length := by rw [hfull, rowsC_len]
  have h1 := rank_take hf (i := i) (by rw [rowsC_len]; exact hi)
  have hEk := (echel_ok hp hro).1.1
  have h2 := rank_swap (A := ((echel p (rowsC ys C C C)).map (·.1)).take i) (A' := (rowsC ys C C C).take i) (S := S) hp (fun x hx => by
    obtain ⟨e, he, rfl⟩ := List.mem_map.1 (List.mem_of_mem_take hx)
    exact ⟨(hEk e he).1, (hEk e he).2.1⟩) (fun x hx => hro x (List.mem_of_mem_take hx)) hS (fun v => sp_take hp hro hf (by rw [rowsC_len]; exact hi) v)
  rw [h2, rowsC_first hi]
  unfold cmnR
  rw [h1, hSr]

end Go.Proofs.Ytdepalpkcmfegaa

/-
  What rows have in common, on the document's side. Conditions: the modulus is 2, 3, 5 or 7; sizes at most 7.
-/




namespace Go.Proofs.Ytdepalpkcmfegaa
open Go.RowKit

theorem l7Top_sh (p r : Int) (C R n k : Nat) (A : Option Addr) (xs : List Int) (w : World) (hs : SI w A n xs) (hsh : A = none ∧ n = 0 ∧ k = 0 ∨ ∃ g, A = some ⟨g, 0, none⟩) (hnk : n ≤ k) (hC : C ≤ 14) (hR : R ≤ 14) (hRC : R * C ≤ n) :
    Calls Try.prog 102 #[.agg #[.int .i64 p, .int .i64 r, .int .i64 C, .slice A n k], .int .i64 R] w fun e w' => FreshMx w w' e p R C (xs.take (R * C)) := by
  rcases hsh with ⟨rfl, rfl, rfl⟩ | ⟨g, rfl⟩
  · have h0 : R * C = 0 := by omega
    rw [h0, List.take_zero]
    exact l7Top_none p r C R w h0
  · exact l7Top_some p r C R g n k xs w hs hC hR hRC hnk
theorem rg_take {p : Int} (hp : 0 < p) {xs : List Int} (h : Rg p xs) {q : Nat} : Rg p (xs.take q) := fun j => by
  by_cases hj : j < q
  · rw [nth_take hj]; exact h j
  · rw [nth_past (by rw [List.length_take]; omega)]; exact ⟨Int.le_refl _, hp⟩
set_option maxRecDepth 100000 in
set_option maxHeartbeats 8000000 in
theorem l7Common_any (p r r' : Int) (C i j : Nat) (A A' : Option Addr) (n k n' k' : Nat) (xs ys : List Int) (w : World) (hp : P7 p) (hs : SI w A n xs) (hs' : SI w A' n' ys) (hsh : A = none ∧ n = 0 ∧ k = 0 ∨ ∃ g, A = some ⟨g, 0, none⟩) (hsh' : A' = none ∧ n' = 0 ∧ k' = 0 ∨ ∃ g, A' = some ⟨g, 0, none⟩) (hnk : n ≤ k) (hnk' : n' ≤ k') (hx : Rg p xs) (hy : Rg p ys) (hC : C ≤ 7) (hi : i ≤ 7) (hj : j ≤ 7) (hin : i * C ≤ n) (hjn : j * C ≤ n') :
    Calls Try.prog 71 #[.agg #[.int .i64 p, .int .i64 r, .int .i64 C, .slice A n k], .int .i64 i, .agg #[.int .i64 p, .int .i64 r', .int .i64 C, .slice A' n' k'], .int .i64 j] w fun e w' => e = .returned (.int .i64 (cmnR p (rowsC xs C i C) (rowsC ys C j C))) ∧ Below w.heap.size w w' := by
  obtain ⟨w1, hw1⟩ : ∃ w1, w1 = ((w.alloc (.cells #[.int .i64 p, .int .i64 r, .int .i64 C, .slice A n k] 26)).alloc (.cells #[.int .i64 p, .int .i64 r', .int .i64 C, .slice A' n' k'] 26)) := ⟨_, rfl⟩
  obtain ⟨g, hg⟩ : ∃ g, g = w.heap.size := ⟨_, rfl⟩
  have HK0 : Hid (Blk w1 (g) 26 #[.int .i64 p, .int .i64 r, .int .i64 C, .slice A n k]) := Lib.hid (by rw [hw1, hg]; have := (Blk.new w 26 #[.int .i64 p, .int .i64 r, .int .i64 C, .slice A n k]).alloc (.cells #[.int .i64 p, .int .i64 r', .int .i64 C, .slice A' n' k'] 26); simpa using this)
  have HK1 : Hid (Blk w1 (g + 1) 26 #[.int .i64 p, .int .i64 r', .int .i64 C, .slice A' n' k']) := Lib.hid (by rw [hw1, hg]; have := Blk.new (w.alloc (.cells #[.int .i64 p, .int .i64 r, .int .i64 C, .slice A n k] 26)) 26 #[.int .i64 p, .int .i64 r', .int .i64 C, .slice A' n' k']; simpa using this)
  have hb : Below w.heap.size w w1 := by rw [hw1]; go_grown
  have HB := Lib.hid hb
  have HW := Lib.hid hw1
  have HG := Lib.hid hg
  have HSZ : Hid (w1.heap.size = g + 2) := Lib.hid (by rw [hw1, hg]; simp)
  have HSA := Lib.hid (hs.below hb (Nat.le_refl _))
  have HSB := Lib.hid (hs'.below hb (Nat.le_refl _))
  have HTA := Lib.hid (fun u (hu : Below w1.heap.size w1 u) => l7Top_sh p r C i n k A xs u (HSA.out.below hu (Nat.le_refl _)) hsh hnk (by omega) (by omega) hin)
  have HTB := Lib.hid (fun u (hu : Below w1.heap.size w1 u) => l7Top_sh p r' C j n' k' A' ys u (HSB.out.below hu (Nat.le_refl _)) hsh' hnk' (by omega) (by omega) hjn)
  obtain ⟨X, hX⟩ : ∃ X, X = xs.take (i * C) := ⟨_, rfl⟩
  obtain ⟨Y, hY⟩ : ∃ Y, Y = ys.take (j * C) := ⟨_, rfl⟩
  rw [← hX] at HTA
  rw [← hY] at HTB
  have hp2 := hp.two
  have hXl : X.length = i * C := by rw [hX, List.length_take]; have := hs.1; omega
  have hYl : Y.length = j * C := by rw [hY, List.length_take]; have := hs'.1; omega
  have hXr : Rg p X := by rw [hX]; exact rg_take (by omega) hx
  have hYr : Rg p Y := by rw [hY]; exact rg_take (by omega) hy
  have hA : rowsC xs C i C = rowsC X C i C := by rw [hX, rowsC_take _ (Nat.le_refl _)]
  have hB : rowsC ys C j C = rowsC Y C j C := by rw [hY, rowsC_take _ (Nat.le_refl _)]
  obtain ⟨K1, hK1⟩ : ∃ K, K = rnkL p (rowsC X C i C) := ⟨_, rfl⟩
  obtain ⟨K2, hK2⟩ : ∃ K, K = rnkL p (rowsC Y C j C) := ⟨_, rfl⟩
  obtain ⟨K3, hK3⟩ : ∃ K, K = rnkL p (rowsC (X ++ Y) C (i + j) C) := ⟨_, rfl⟩
  have HV : Hid (cmnR p (rowsC xs C i C) (rowsC ys C j C) = (K1 : Int) + (K2 : Int) - (K3 : Int)) := Lib.hid (by unfold cmnR; rw [hA, hB, hK1, hK2, hK3, rowsC_app hXl])
  rw [HV.out]
  have HRA := Lib.hid (fun u (B : Option Addr) (m d : Nat) (h : SI u B m X) => l7Rank_any p i C B m d X (rowsC X C i C) u hp h (by omega) (by omega) hXr hXl (rowsC_len ..) (rowsC_ok (by omega) hXr C i C) (fun x y hx hy => by rw [rowsC_li hx, rowC_nth hy]))
  rw [← hK1] at HRA
  have HRB := Lib.hid (fun u (B : Option Addr) (m d : Nat) (h : SI u B m Y) => l7Rank_any p j C B m d Y (rowsC Y C j C) u hp h (by omega) (by omega) hYr hYl (rowsC_len ..) (rowsC_ok (by omega) hYr C j C) (fun x y hx hy => by rw [rowsC_li hx, rowC_nth hy]))
  rw [← hK2] at HRB
  have HRC := Lib.hid (fun u (B : Option Addr) (m d : Nat) (h : SI u B m (X ++ Y)) => l7Rank_any p (i + j) C B m d (X ++ Y) (rowsC (X ++ Y) C (i + j) C) u hp h (by omega) (by omega) (hXr.app hYr) (by rw [List.length_append, hXl, hYl, Nat.add_mul]) (rowsC_len ..) (rowsC_ok (by omega) (hXr.app hYr) C (i + j) C) (fun x y hx hy => by rw [rowsC_li hx, rowC_nth hy]))
  rw [← hK3] at HRC
  have HBO := Lib.hid (fun u (B B2 : Option Addr) (m d m2 d2 : Nat) (h : SI u B m X) (h2 : SI u B2 m2 Y) => l7Both_any p p C C i j B B2 m d m2 d2 X Y u h h2 (by have h5 := h.1; have := nat_mul_small (r := i) (c := C) (by omega) (by omega); omega) (by have h5 := h2.1; have := nat_mul_small (r := j) (c := C) (by omega) (by omega); omega) (by omega) (by omega))
  obtain ⟨Q, hQ⟩ : ∃ Q, Q = i + j := ⟨_, rfl⟩
  rw [← hQ] at HRC HBO
  clear hQ
  have hb1 : K1 ≤ 7 := by rw [hK1]; have h := rnkL_le p (rowsC X C i C); rw [rowsC_len] at h; omega
  have hb2 : K2 ≤ 7 := by rw [hK2]; have h := rnkL_le p (rowsC Y C j C); rw [rowsC_len] at h; omega
  have hb3 : K3 ≤ 14 := by rw [hK3]; have h := rnkL_le p (rowsC (X ++ Y) C (i + j) C); rw [rowsC_len] at h; omega
  have hwr1 : IntKind.i64.wrap ((K1 : Int) + (K2 : Int)) = (K1 : Int) + (K2 : Int) := IntWalk.i64_in _ (by omega)
  have hwr2 : IntKind.i64.wrap ((K1 : Int) + (K2 : Int) - (K3 : Int)) = (K1 : Int) + (K2 : Int) - (K3 : Int) := IntWalk.i64_in _ (by omega)
  clear hw1 hX hY hXl hYl hXr hYr hA hB hK1 hK2 hK3 hb1 hb2 hb3 hs hs' hx hy hp hb hg
  have MKS : Hid (∀ u, Below w1.heap.size w1 u → (u.cell? ⟨g, 0, none⟩ = some (.int .i64 p) ∧ u.cell? ⟨g, 1, none⟩ = some (.int .i64 r) ∧ u.cell? ⟨g, 2, none⟩ = some (.int .i64 C) ∧ u.cell? ⟨g, 3, none⟩ = some (.slice A n k) ∧ u.cell? ⟨g + 1, 0, none⟩ = some (.int .i64 p) ∧ u.cell? ⟨g + 1, 1, none⟩ = some (.int .i64 r') ∧ u.cell? ⟨g + 1, 2, none⟩ = some (.int .i64 C) ∧ u.cell? ⟨g + 1, 3, none⟩ = some (.slice A' n' k'))) := Lib.hid (fun u hb => by obtain ⟨a0, a1, a2, a3⟩ := cells4 (HK0.out.below hb HK0.out.lt); obtain ⟨b0, b1, b2, b3⟩ := cells4 (HK1.out.below hb HK1.out.lt); exact ⟨a0, a1, a2, a3, b0, b1, b2, b3⟩)
  have HKd : Hid (w1.drew.cell? ⟨g, 0, none⟩ = some (.int .i64 p) ∧ w1.drew.cell? ⟨g, 1, none⟩ = some (.int .i64 r) ∧ w1.drew.cell? ⟨g, 2, none⟩ = some (.int .i64 C) ∧ w1.drew.cell? ⟨g, 3, none⟩ = some (.slice A n k) ∧ w1.drew.cell? ⟨g + 1, 0, none⟩ = some (.int .i64 p) ∧ w1.drew.cell? ⟨g + 1, 1, none⟩ = some (.int .i64 r') ∧ w1.drew.cell? ⟨g + 1, 2, none⟩ = some (.int .i64 C) ∧ w1.drew.cell? ⟨g + 1, 3, none⟩ = some (.slice A' n' k')) := Lib.hid (MKS.out _ ((Below.refl _ _).drew))
  go_enter Try.func71, Try.ntmps71
  go_upto_region 1 with fail
  rw [← HW.out, ← HG.out]
  go_region_held3 (fun u => u.cell? ⟨g, 0, none⟩ = some (.int .i64 p) ∧ u.cell? ⟨g, 1, none⟩ = some (.int .i64 r) ∧ u.cell? ⟨g, 2, none⟩ = some (.int .i64 C) ∧ u.cell? ⟨g, 3, none⟩ = some (.slice A n k) ∧ u.cell? ⟨g + 1, 0, none⟩ = some (.int .i64 p) ∧ u.cell? ⟨g + 1, 1, none⟩ = some (.int .i64 r') ∧ u.cell? ⟨g + 1, 2, none⟩ = some (.int .i64 C) ∧ u.cell? ⟨g + 1, 3, none⟩ = some (.slice A' n' k'))
    (first | with_reducible exact HKd.out | with_reducible exact KU8 | with_reducible exact KU7 | with_reducible exact KU6 | with_reducible exact KU5 | with_reducible exact KU4 | with_reducible exact KU3 | with_reducible exact KU2 | with_reducible exact KU1)
    (first
      | (go_at_call 68
         with_reducible refine (HRC.out u7 P7 m7 d7 HO7.out).mono ?_
         rintro e u8 ⟨rfl, hb⟩
         have Hc8 : Hid (Below w1.heap.size w1 u8) := Lib.hid (Hc7.out.trans (hb.mono Hc7.out.size))
         have KU8 := MKS.out u8 Hc8.out
         clear hb)
      | (go_at_call 54
         with_reducible refine (HBO.out u6 P5 P6 m5 d5 m6 d6 HO56.out HO6.out).mono ?_
         rintro e u7 ⟨P7, m7, d7, rfl, ho, hb⟩
         have Hc7 : Hid (Below w1.heap.size w1 u7) := Lib.hid (Hc6.out.trans (hb.mono Hc6.out.size))
         have KU7 := MKS.out u7 Hc7.out
         have HO7 := Lib.hid ho.si
         clear hb ho)
      | (go_at_call 102
         with_reducible refine (HTB.out u5 Hc5.out).mono ?_
         rintro e u6 ⟨P6, m6, d6, rfl, ho, hb⟩
         have Hc6 : Hid (Below w1.heap.size w1 u6) := Lib.hid (Hc5.out.trans (hb.mono Hc5.out.size))
         have KU6 := MKS.out u6 Hc6.out
         have HO6 := Lib.hid ho.si
         have HO56 := Lib.hid (HO5.out.below hb (Nat.le_refl _))
         clear hb ho)
      | (go_at_call 102
         with_reducible refine (HTA.out u4 Hc4.out).mono ?_
         rintro e u5 ⟨P5, m5, d5, rfl, ho, hb⟩
         have Hc5 : Hid (Below w1.heap.size w1 u5) := Lib.hid (Hc4.out.trans (hb.mono Hc4.out.size))
         have KU5 := MKS.out u5 Hc5.out
         have HO5 := Lib.hid ho.si
         clear hb ho)
      | (go_at_call 68
         with_reducible refine (HRB.out u3 P3 m3 d3 HO3.out).mono ?_
         rintro e u4 ⟨rfl, hb⟩
         have Hc4 : Hid (Below w1.heap.size w1 u4) := Lib.hid (Hc3.out.trans (hb.mono Hc3.out.size))
         have KU4 := MKS.out u4 Hc4.out
         clear hb)
      | (go_at_call 102
         with_reducible refine (HTB.out u2 Hc2.out).mono ?_
         rintro e u3 ⟨P3, m3, d3, rfl, ho, hb⟩
         have Hc3 : Hid (Below w1.heap.size w1 u3) := Lib.hid (Hc2.out.trans (hb.mono Hc2.out.size))
         have KU3 := MKS.out u3 Hc3.out
         have HO3 := Lib.hid ho.si
         clear hb ho)
      | (go_at_call 68
         with_reducible refine (HRA.out u1 P1 m1 d1 HO1.out).mono ?_
         rintro e u2 ⟨rfl, hb⟩
         have Hc2 : Hid (Below w1.heap.size w1 u2) := Lib.hid (Hc1.out.trans (hb.mono Hc1.out.size))
         have KU2 := MKS.out u2 Hc2.out
         clear hb)
      | (go_at_call 102
         with_reducible refine (HTA.out _ ((Below.refl _ _).drew)).mono ?_
         rintro e u1 ⟨P1, m1, d1, rfl, ho, hb⟩
         have Hc1 : Hid (Below w1.heap.size w1 u1) := Lib.hid (((Below.refl _ _).drew).trans hb)
         have KU1 := MKS.out u1 Hc1.out
         have HO1 := Lib.hid ho.si
         clear hb ho))
  go_wp2
  go_ret
  exact ⟨rfl, HB.out.trans (Hc8.out.mono HB.out.size)⟩

end Go.Proofs.Ytdepalpkcmfegaa

/-
  Positions of spaces on the document's side. Conditions: lengths below 2^40.
-/




namespace Go.Proofs.Ytdepalpkcmfegaa
open Go.RowKit

theorem si_lit (w : World) (x : Int) : SI (w.alloc (.cells #[.int .i64 x] 3)) (some ⟨w.heap.size, 0, none⟩) 1 [x] :=
  ⟨rfl, fun _ => ⟨w.heap.size, 0, rfl, by simp, fun k hk => by
    obtain rfl : k = 0 := by omega
    exact (Blk.new w 3 #[.int .i64 x]).cell 0⟩⟩
theorem posW_no {p r c : Int} {xs : List Int} {p' r' c' : Int} {ys : List Int} (h : besideB p r c xs p' r' c' ys = false) : posW p r c xs p' r' c' ys = [] := by unfold posW; rw [if_neg (by rw [h]; decide)]
theorem posL_len (p : Int) (R C : Nat) (xs ys : List Int) : (posL p R C xs ys).length = C := by simp [posL]
theorem posL_nth {p : Int} {R C : Nat} {xs ys : List Int} {j : Nat} (h : j < C) : nth (posL p R C xs ys) j = cmnR p (rowsC xs C R C) (rowsC ys C (j + 1) C) - cmnR p (rowsC xs C R C) (rowsC ys C j C) := nth_rangeMap _ h
set_option maxRecDepth 100000 in
set_option maxHeartbeats 8000000 in
theorem specPositionOf_any (p r c p' r' c' : Int) (A A' : Option Addr) (n k n' k' : Nat) (xs ys : List Int) (w : World) (hs : SI w A n xs) (hs' : SI w A' n' ys) (hn : n ≤ 1099511627776) (hn' : n' ≤ 1099511627776) (hsh : A = none ∧ n = 0 ∧ k = 0 ∨ ∃ g, A = some ⟨g, 0, none⟩) (hsh' : A' = none ∧ n' = 0 ∧ k' = 0 ∨ ∃ g, A' = some ⟨g, 0, none⟩) (hnk : n ≤ k) (hnk' : n' ≤ k') :
    Calls Try.prog 37 #[.agg #[.int .i64 p, .int .i64 r, .int .i64 c, .slice A n k], .agg #[.int .i64 p', .int .i64 r', .int .i64 c', .slice A' n' k']] w fun e w' => Fresh w w' e (posW p r c xs p' r' c' ys) := by
  obtain ⟨w1, hw1⟩ : ∃ w1, w1 = ((w.alloc (.cells #[.int .i64 p, .int .i64 r, .int .i64 c, .slice A n k] 26)).alloc (.cells #[.int .i64 p', .int .i64 r', .int .i64 c', .slice A' n' k'] 26)) := ⟨_, rfl⟩
  obtain ⟨g, hg⟩ : ∃ g, g = w.heap.size := ⟨_, rfl⟩
  have HK0 : Hid (Blk w1 (g) 26 #[.int .i64 p, .int .i64 r, .int .i64 c, .slice A n k]) := Lib.hid (by rw [hw1, hg]; have := (Blk.new w 26 #[.int .i64 p, .int .i64 r, .int .i64 c, .slice A n k]).alloc (.cells #[.int .i64 p', .int .i64 r', .int .i64 c', .slice A' n' k'] 26); simpa using this)
  have HK1 : Hid (Blk w1 (g + 1) 26 #[.int .i64 p', .int .i64 r', .int .i64 c', .slice A' n' k']) := Lib.hid (by rw [hw1, hg]; have := Blk.new (w.alloc (.cells #[.int .i64 p, .int .i64 r, .int .i64 c, .slice A n k] 26)) 26 #[.int .i64 p', .int .i64 r', .int .i64 c', .slice A' n' k']; simpa using this)
  have hb : Below w.heap.size w w1 := by rw [hw1]; go_grown
  have HB := Lib.hid hb
  have HW := Lib.hid hw1
  have HG := Lib.hid hg
  have HSZ : Hid (w1.heap.size = g + 2) := Lib.hid (by rw [hw1, hg]; simp)
  have HSA := Lib.hid (hs.below hb (Nat.le_refl _))
  have HSB := Lib.hid (hs'.below hb (Nat.le_refl _))
  have HL1 := Lib.hid hs.1
  have HL2 := Lib.hid hs'.1
  have HM1 := Lib.hid (specIsSpace_any p r c A n k xs w1 (hs.below hb (Nat.le_refl _)) hn)
  have HM2 := Lib.hid (fun w2 (hb2 : Below w1.heap.size w1 w2) => specFlagOk_any p' r' c' A' n' k' ys w2 (HSB.out.below hb2 (Nat.le_refl _)) hn')
  clear hw1 hg hb hs hs'
  cases hu : isSpB p r c xs with
  | false =>
    rw [hu] at HM1
    have HNO : Hid (besideB p r c xs p' r' c' ys = false) := Lib.hid (by unfold besideB; simp [hu])
    clear hu
    go_enter Try.func37, Try.ntmps37
    go_upto_region 1 with fail
    rw [← HW.out, ← HG.out]
    go_wp2_with (first
      | (refine wpList_load_rowP rfl 26 (.tmp 2) rfl g rfl 26 #[.int .i64 p, .int .i64 r, .int .i64 c, .slice A n k] _ HK0.out Try.underlying26 rfl Try.infoMx ?_)
      | (go_at_call 75
         with_reducible refine (HM1.out).mono ?_
         rintro e w2 ⟨rfl, hb2⟩
         have HB2 := Lib.hid hb2
         obtain ⟨r0, r1, r2, r3⟩ := cells4 (HK1.out.below hb2 HK1.out.lt)
         clear hb2)
      | fail)
    go_ret
    exact ⟨none, 0, 0, rfl, by rw [posW_no HNO.out]; exact Own.nil _ _ _, HB.out.trans (HB2.out.mono HB.out.size)⟩
  | true =>
    rw [hu] at HM1
    cases hv : flagB p' r' c' ys with
    | false =>
      rw [hv] at HM2
      have HNO : Hid (besideB p r c xs p' r' c' ys = false) := Lib.hid (by unfold besideB; simp [hu, hv])
      clear hu hv
      go_enter Try.func37, Try.ntmps37
      go_upto_region 1 with fail
      rw [← HW.out, ← HG.out]
      go_wp2_with (first
        | (refine wpList_load_rowP rfl 26 (.tmp 2) rfl g rfl 26 #[.int .i64 p, .int .i64 r, .int .i64 c, .slice A n k] _ HK0.out Try.underlying26 rfl Try.infoMx ?_)
        | (go_at_call 75
           with_reducible refine (HM1.out).mono ?_
           rintro e w2 ⟨rfl, hb2⟩
           have HB2 := Lib.hid hb2
           obtain ⟨r0, r1, r2, r3⟩ := cells4 (HK1.out.below hb2 HK1.out.lt)
           clear hb2)
        | (go_at_call 26
           with_reducible refine (HM2.out _ HB2.out).mono ?_
           rintro e w3 ⟨rfl, hb3⟩
           have HB3 : Hid (Below w1.heap.size w1 w3) := Lib.hid (HB2.out.trans (hb3.mono HB2.out.size))
           obtain ⟨q0, q1, q2, q3⟩ := cells4 (HK0.out.below HB3.out HK0.out.lt)
           clear r0 r1 r2 r3
           obtain ⟨r0, r1, r2, r3⟩ := cells4 (HK1.out.below HB3.out HK1.out.lt)
           clear hb3)
        | fail)
      go_ret
      exact ⟨none, 0, 0, rfl, by rw [posW_no HNO.out]; exact Own.nil _ _ _, HB.out.trans (HB3.out.mono HB.out.size)⟩
    | true =>
      rw [hv] at HM2
      by_cases hp : p = p'
      case neg =>
        have HNO : Hid (besideB p r c xs p' r' c' ys = false) := Lib.hid (by unfold besideB; simp [hu, hv, hp])
        clear hu hv
        go_enter Try.func37, Try.ntmps37
        go_upto_region 1 with fail
        rw [← HW.out, ← HG.out]
        go_wp2_with (first
          | (refine wpList_load_rowP rfl 26 (.tmp 2) rfl g rfl 26 #[.int .i64 p, .int .i64 r, .int .i64 c, .slice A n k] _ HK0.out Try.underlying26 rfl Try.infoMx ?_)
          | (go_at_call 75
             with_reducible refine (HM1.out).mono ?_
             rintro e w2 ⟨rfl, hb2⟩
             have HB2 := Lib.hid hb2
             obtain ⟨r0, r1, r2, r3⟩ := cells4 (HK1.out.below hb2 HK1.out.lt)
             clear hb2)
          | (go_at_call 26
             with_reducible refine (HM2.out _ HB2.out).mono ?_
             rintro e w3 ⟨rfl, hb3⟩
             have HB3 : Hid (Below w1.heap.size w1 w3) := Lib.hid (HB2.out.trans (hb3.mono HB2.out.size))
             obtain ⟨q0, q1, q2, q3⟩ := cells4 (HK0.out.below HB3.out HK0.out.lt)
             clear r0 r1 r2 r3
             obtain ⟨r0, r1, r2, r3⟩ := cells4 (HK1.out.below HB3.out HK1.out.lt)
             clear hb3)
          | fail)
        go_ret
        exact ⟨none, 0, 0, rfl, by rw [posW_no HNO.out]; exact Own.nil _ _ _, HB.out.trans (HB3.out.mono HB.out.size)⟩
      case pos =>
        subst hp
        by_cases hc : c = c'
        case neg =>
          have HNO : Hid (besideB p r c xs p r' c' ys = false) := Lib.hid (by unfold besideB; simp [hu, hv, hc])
          clear hu hv
          go_enter Try.func37, Try.ntmps37
          go_upto_region 1 with fail
          rw [← HW.out, ← HG.out]
          go_wp2_with (first
            | (refine wpList_load_rowP rfl 26 (.tmp 2) rfl g rfl 26 #[.int .i64 p, .int .i64 r, .int .i64 c, .slice A n k] _ HK0.out Try.underlying26 rfl Try.infoMx ?_)
            | (go_at_call 75
               with_reducible refine (HM1.out).mono ?_
               rintro e w2 ⟨rfl, hb2⟩
               have HB2 := Lib.hid hb2
               obtain ⟨r0, r1, r2, r3⟩ := cells4 (HK1.out.below hb2 HK1.out.lt)
               clear hb2)
            | (go_at_call 26
               with_reducible refine (HM2.out _ HB2.out).mono ?_
               rintro e w3 ⟨rfl, hb3⟩
               have HB3 : Hid (Below w1.heap.size w1 w3) := Lib.hid (HB2.out.trans (hb3.mono HB2.out.size))
               obtain ⟨q0, q1, q2, q3⟩ := cells4 (HK0.out.below HB3.out HK0.out.lt)
               clear r0 r1 r2 r3
               obtain ⟨r0, r1, r2, r3⟩ := cells4 (HK1.out.below HB3.out HK1.out.lt)
               clear hb3)
            | fail)
          go_ret
          exact ⟨none, 0, 0, rfl, by rw [posW_no HNO.out]; exact Own.nil _ _ _, HB.out.trans (HB3.out.mono HB.out.size)⟩
        case pos =>
          subst hc
          have hyes : besideB p r c xs p r' c ys = true := by unfold besideB; simp [hu, hv]
          have HYES := Lib.hid hyes
          clear hu hv
          obtain ⟨R, C, rfl, rfl, _, rfl, _, hp7, hR7, hC1, hC7, hxl, hyl, hxr, hyr, hrk, hfull⟩ := beside_yes hyes
          clear hyes
          have hin : R * C ≤ n := by have := HL1.out; omega
          have HCM := Lib.hid (fun u (hbu : Below w1.heap.size w1 u) (j : Nat) (hj : j ≤ C) => l7Common_any p R C C R j A A' n k n' k' xs ys u hp7 (HSA.out.below hbu (Nat.le_refl _)) (HSB.out.below hbu (Nat.le_refl _)) hsh hsh' hnk hnk' hxr hyr hC7 hR7 (by omega) hin (by have := HL2.out; have h2 : j * C ≤ C * C := Nat.mul_le_mul hj (Nat.le_refl _); omega))
          have HCB : Hid (∀ j, j ≤ C → -7 ≤ cmnR p (rowsC xs C R C) (rowsC ys C j C) ∧ cmnR p (rowsC xs C R C) (rowsC ys C j C) ≤ 7) := Lib.hid (fun j hj => by have h := cmnR_b p (rowsC xs C R C) (rowsC ys C j C); rw [rowsC_len] at h; omega)
          have HPW : Hid (posW p R C xs p C C ys = posL p R C xs ys) := Lib.hid (by unfold posW; rw [if_pos HYES.out]; simp only [Int.toNat_natCast])
          rw [HPW.out]
          clear hxl hyl hxr hyr hrk hfull hp7
          go_enter Try.func37, Try.ntmps37
          go_upto_region 1 with fail
          rw [← HW.out, ← HG.out]
          go_upto_region 3 with (first
            | (refine wpList_load_rowP rfl 26 (.tmp 2) rfl g rfl 26 #[.int .i64 p, .int .i64 R, .int .i64 C, .slice A n k] _ HK0.out Try.underlying26 rfl Try.infoMx ?_)
            | (go_at_call 75
               with_reducible refine (HM1.out).mono ?_
               rintro e w2 ⟨rfl, hb2⟩
               have HB2 := Lib.hid hb2
               obtain ⟨r0, r1, r2, r3⟩ := cells4 (HK1.out.below hb2 HK1.out.lt)
               clear hb2)
            | (go_at_call 26
               with_reducible refine (HM2.out _ HB2.out).mono ?_
               rintro e w3 ⟨rfl, hb3⟩
               have HB3 : Hid (Below w1.heap.size w1 w3) := Lib.hid (HB2.out.trans (hb3.mono HB2.out.size))
               obtain ⟨q0, q1, q2, q3⟩ := cells4 (HK0.out.below HB3.out HK0.out.lt)
               clear r0 r1 r2 r3
               obtain ⟨r0, r1, r2, r3⟩ := cells4 (HK1.out.below HB3.out HK1.out.lt)
               clear hb3)
            | fail)
          clear q0 q1 q2 q3 r0 r1 r2 r3
          have HE3 : Hid (Below w1.heap.size w1 (w3.alloc (.cells #[] 3))) := Lib.hid (HB3.out.alloc HB3.out.size _)
          have HO3 : Hid (Own (w3.alloc (.cells #[] 3)) w1.heap.size (w3.alloc (.cells #[] 3)).heap.size (some ⟨w3.heap.size, 0, none⟩) 0 0 ((posL p R C xs ys).take 0)) := Lib.hid ((Own.empty w3).wide HB3.out.size (by simp))
          go_wp2_with fail
          go_loopw [5, 6] (fun ov jv wr => ∃ (j : Nat) (Ao : Option Addr) (co : Nat), j ≤ C ∧ jv = .int .i64 j ∧ ov = .slice Ao j co ∧ Own wr w1.heap.size wr.heap.size Ao j co ((posL p R C xs ys).take j) ∧ Below w1.heap.size w1 wr)
            (fun _ jv _ => C - (intOf jv).toNat)
          case atStart => exact ⟨0, _, 0, Nat.zero_le _, rfl, rfl, HO3.out, HE3.out⟩
          case round =>
            obtain ⟨j, Ao, co, hj, rfl, rfl, ho, hbr⟩ := hrel
            skip
            have HO := Lib.hid ho
            have HBR := Lib.hid hbr
            obtain ⟨q0, q1, q2, q3⟩ := cells4 (HK0.out.below hbr HK0.out.lt)
            obtain ⟨r0, r1, r2, r3⟩ := cells4 (HK1.out.below hbr HK1.out.lt)
            clear ho hbr
            by_cases hjC : j < C
            case neg =>
              obtain rfl : j = C := by omega
              go_wp2
              go_ret
              exact ⟨Ao, j, co, rfl, by have h := HO.out; rw [List.take_of_length_le (by rw [posL_len]; exact Nat.le_refl _)] at h; exact h.wide HB.out.size (Nat.le_refl _), HB.out.trans (HBR.out.mono HB.out.size)⟩
            case pos =>
              have hjI : (j : Int) < (C : Int) := by omega
              obtain ⟨a, ha⟩ : ∃ a, a = cmnR p (rowsC xs C R C) (rowsC ys C j C) := ⟨_, rfl⟩
              obtain ⟨b, hbv⟩ : ∃ b, b = cmnR p (rowsC xs C R C) (rowsC ys C (j + 1) C) := ⟨_, rfl⟩
              have hab := HCB.out j (by omega)
              have hbb := HCB.out (j + 1) (by omega)
              rw [← ha] at hab
              rw [← hbv] at hbb
              have HC1 := Lib.hid (fun u hbu => HCM.out u hbu (j + 1) (by omega))
              have HC2 := Lib.hid (fun u hbu => HCM.out u hbu j (by omega))
              rw [← hbv] at HC1
              rw [← ha] at HC2
              simp only [Int.natCast_add, Int.natCast_one] at HC1
              have hwd : IntKind.i64.wrap (b - a) = b - a := IntWalk.i64_in _ (by omega)
              have hwj : IntKind.i64.wrap ((j : Int) + 1) = (j : Int) + 1 := IntWalk.i64_in _ (by omega)
              have HNX : Hid ((posL p R C xs ys).take (j + 1) = (posL p R C xs ys).take j ++ [b - a]) := Lib.hid (by rw [take_nth (by rw [posL_len]; exact hjC), posL_nth hjC, ha, hbv])
              clear ha hbv hab hbb
              have MKS : Hid (∀ u, Below w1.heap.size w1 u → (u.cell? ⟨g, 0, none⟩ = some (.int .i64 p) ∧ u.cell? ⟨g, 1, none⟩ = some (.int .i64 R) ∧ u.cell? ⟨g, 2, none⟩ = some (.int .i64 C) ∧ u.cell? ⟨g, 3, none⟩ = some (.slice A n k) ∧ u.cell? ⟨g + 1, 0, none⟩ = some (.int .i64 p) ∧ u.cell? ⟨g + 1, 1, none⟩ = some (.int .i64 C) ∧ u.cell? ⟨g + 1, 2, none⟩ = some (.int .i64 C) ∧ u.cell? ⟨g + 1, 3, none⟩ = some (.slice A' n' k'))) := Lib.hid (fun u hb => by obtain ⟨a0, a1, a2, a3⟩ := cells4 (HK0.out.below hb HK0.out.lt); obtain ⟨b0, b1, b2, b3⟩ := cells4 (HK1.out.below hb HK1.out.lt); exact ⟨a0, a1, a2, a3, b0, b1, b2, b3⟩)
              have HKd : Hid (wr.drew.cell? ⟨g, 0, none⟩ = some (.int .i64 p) ∧ wr.drew.cell? ⟨g, 1, none⟩ = some (.int .i64 R) ∧ wr.drew.cell? ⟨g, 2, none⟩ = some (.int .i64 C) ∧ wr.drew.cell? ⟨g, 3, none⟩ = some (.slice A n k) ∧ wr.drew.cell? ⟨g + 1, 0, none⟩ = some (.int .i64 p) ∧ wr.drew.cell? ⟨g + 1, 1, none⟩ = some (.int .i64 C) ∧ wr.drew.cell? ⟨g + 1, 2, none⟩ = some (.int .i64 C) ∧ wr.drew.cell? ⟨g + 1, 3, none⟩ = some (.slice A' n' k')) := Lib.hid (MKS.out wr HBR.out)
              have HKn := Lib.hid (MKS.out wr HBR.out)
              go_upto_region 7 with fail
              clear q0 q1 q2 q3 r0 r1 r2 r3
              go_region_held3 (fun u => u.cell? ⟨g, 0, none⟩ = some (.int .i64 p) ∧ u.cell? ⟨g, 1, none⟩ = some (.int .i64 R) ∧ u.cell? ⟨g, 2, none⟩ = some (.int .i64 C) ∧ u.cell? ⟨g, 3, none⟩ = some (.slice A n k) ∧ u.cell? ⟨g + 1, 0, none⟩ = some (.int .i64 p) ∧ u.cell? ⟨g + 1, 1, none⟩ = some (.int .i64 C) ∧ u.cell? ⟨g + 1, 2, none⟩ = some (.int .i64 C) ∧ u.cell? ⟨g + 1, 3, none⟩ = some (.slice A' n' k'))
                (first | with_reducible exact HKd.out | with_reducible exact HKn.out | with_reducible exact KU1 | with_reducible exact KU2 | with_reducible exact KA2 _ | with_reducible exact KU5)
                (first
                  | (refine step_append_any _ (by first | rfl | kernel_rfl | simp [Region.wanted, yielded]) (.tmp 36) (.tmp 51) (by rfl) w1.heap.size Ao j co ((posL p R C xs ys).take j) (some ⟨u2.heap.size, 0, none⟩) 1 1 [b - a] (by rfl) (by rfl) (HOA.out _) (si_lit u2 (b - a)) (HBA.out _).size (by omega) (by decide) ?_
                     intro A5 c5 w5 ho5 hg5 hb5
                     have HO5 := Lib.hid ho5
                     have HB5 := Lib.hid ((HBA.out _).trans hb5)
                     have KU5 := MKS.out w5 HB5.out
                     clear ho5 hg5 hb5)
                  | (go_at_call 71
                     with_reducible refine (HC2.out u1 Hc1.out).mono ?_
                     rintro e u2 ⟨rfl, hb⟩
                     have Hc2 : Hid (Below w1.heap.size w1 u2) := Lib.hid (Hc1.out.trans (hb.mono Hc1.out.size))
                     have KU2 := MKS.out u2 Hc2.out
                     have HBA : Hid (∀ o, Below w1.heap.size w1 (u2.alloc o)) := Lib.hid (fun o => Hc2.out.alloc Hc2.out.size o)
                     have KA2 := fun o => MKS.out (u2.alloc o) (HBA.out o)
                     have HOA : Hid (∀ o, Own (u2.alloc o) w1.heap.size (u2.alloc o).heap.size Ao j co ((posL p R C xs ys).take j)) := Lib.hid (fun o => by have h1 := (HO1.out.below hb (Nat.le_refl _)); have h2 := h1.below (Below.alloc_self u2 o) hb.size; exact h2.wide (Nat.le_refl _) (by have := hb.size; simp; omega))
                     clear hb)
                  | (go_at_call 71
                     with_reducible refine (HC1.out _ (HBR.out.drew)).mono ?_
                     rintro e u1 ⟨rfl, hb⟩
                     have Hc1 : Hid (Below w1.heap.size w1 u1) := Lib.hid (HBR.out.trans ((((Below.refl _ _).drew).trans hb).mono HBR.out.size))
                     have KU1 := MKS.out u1 Hc1.out
                     have HO1 : Hid (Own u1 w1.heap.size u1.heap.size Ao j co ((posL p R C xs ys).take j)) := Lib.hid ((HO.out.below (((Below.refl wr.heap.size wr).drew).trans hb) (Nat.le_refl _)).wide (Nat.le_refl _) (((Below.refl wr.heap.size wr).drew).trans hb).size)
                     clear hb))
              go_wp2_with fail
              go_roundw
              case rel => exact ⟨j + 1, A5, c5, by omega, by go_num, rfl, by rw [HNX.out]; exact HO5.out, HB5.out⟩
              case measure => simp [intOf]; omega

end Go.Proofs.Ytdepalpkcmfegaa

/-
  What rows have in common with a flag, on the program's side. Conditions: the modulus is 2, 3, 5 or 7; sizes at most 7.
-/





namespace Go.Proofs.Ytdepalpkcmfegaa
open Go.RowKit

set_option maxRecDepth 100000 in
set_option maxHeartbeats 8000000 in
theorem commonWith_any (p : Int) (C R i : Nat) (P : Option Addr) (n k : Nat) (AC : Option Addr) (nC cC : Nat) (AS : Option Addr) (cS : Nat) (d : List Int) (S : List (List Int)) (w : World) (hp : P7 p) (hs : SI w P n d) (hnk : n ≤ k) (hl : d.length = C * C) (hd : Rg p d) (hC1 : 1 ≤ C) (hC : C ≤ 7) (hS : LS w AS R S) (hSo : ∀ x, x ∈ S → x.length = C ∧ Rg p x) (hR : R ≤ 7) (hi : i ≤ C) :
    Calls Try.prog 81 #[.agg #[.int .i64 p, .int .i64 C, .int .i64 C, .slice P n k, .slice AC nC cC], .slice AS R cS, .int .i64 i] w fun e w' => e = .returned (.int .i64 ((R : Int) + (i : Int) - (rnkL p (rowsC d C i C ++ S) : Int))) ∧ Below w.heap.size w w' := by
  obtain ⟨w1, hw1⟩ : ∃ w1, w1 = w.alloc (.cells #[.int .i64 p, .int .i64 C, .int .i64 C, .slice P n k, .slice AC nC cC] 68) := ⟨_, rfl⟩
  obtain ⟨g, hg⟩ : ∃ g, g = w.heap.size := ⟨_, rfl⟩
  have HK0 : Hid (Blk w1 g 68 #[.int .i64 p, .int .i64 C, .int .i64 C, .slice P n k, .slice AC nC cC]) := Lib.hid (by rw [hw1, hg]; exact Blk.new _ _ _)
  have hb : Below w.heap.size w w1 := by rw [hw1]; go_grown
  have HB := Lib.hid hb
  have HW := Lib.hid hw1
  have HG := Lib.hid hg
  have HSD := Lib.hid (hs.below hb (Nat.le_refl _))
  have HLS := Lib.hid (hS.below hb (Nat.le_refl _))
  have hp2 := hp.two
  have hCC : i * C ≤ n := by have h1 := hs.1; have h2 : i * C ≤ C * C := Nat.mul_le_mul hi (Nat.le_refl _); omega
  obtain ⟨bD, oD, hP⟩ : ∃ b o, P = some ⟨b, o, none⟩ := by obtain ⟨b, o, e, _⟩ := hs.2 (by have h1 := hs.1; have h2 : 1 * 1 ≤ C * C := Nat.mul_le_mul hC1 hC1; omega); exact ⟨b, o, e⟩
  subst hP
  have hn196 : n ≤ 196 := by have h1 := hs.1; have := nat_mul_small (r := C) (c := C) (by omega) (by omega); omega
  have HFR := Lib.hid (firstRows_any p (C : Int) (some ⟨bD, oD, none⟩) bD oD n k C i w1 (fun _ => rfl) ⟨hC1, by omega⟩ (by omega) hCC hnk (by omega))
  have HFL := Lib.hid (fun u (hbu : Below w1.heap.size w1 u) gg (h : OwnH u w1.heap.size gg i (fun j => (some ⟨bD, oD + j * C, none⟩, C, k - j * C))) => (h.ls (ls := rowsC d C i C) (rowsC_len ..) fun j hj => by
      have h5 : (j + 1) * C ≤ i * C := Nat.mul_le_mul (by omega) (Nat.le_refl _)
      rw [Nat.add_mul, Nat.one_mul] at h5
      refine ⟨by rw [rowsC_li hj]; exact (HSD.out.below hbu (Nat.le_refl _)).mid (C := C) (c := C) (i := j) (by omega), by show C ≤ k - j * C; omega, fun h => by cases h⟩))
  have hF := rowsC_ok (p := p) (d := d) (by omega) hd C i C
  have hFS := app_ok hF hSo
  have hFSl : (rowsC d C i C ++ S).length = i + R := by rw [List.length_append, rowsC_len, hS.1]
  have HEC := Lib.hid (fun u (B : Option Addr) (c : Nat) (h : LS u B (i + R) (rowsC d C i C ++ S)) => echelonOf_any p C B (i + R) c (rowsC d C i C ++ S) u hp h (by omega) hFS (by omega))
  obtain ⟨K, hK⟩ : ∃ K, K = rnkL p (rowsC d C i C ++ S) := ⟨_, rfl⟩
  have HK := Lib.hid hK
  rw [← hK]
  have hKb : K ≤ 14 := by rw [hK]; have h := rnkL_le p (rowsC d C i C ++ S); omega
  obtain ⟨Q, hQ⟩ : ∃ Q, Q = i + R := ⟨_, rfl⟩
  have HCT := Lib.hid (fun v gg cap A1 c1 (hb1 : Blk v gg 43 #[.slice A1 i c1, .slice AS R cS]) (h1 : LS v A1 i (rowsC d C i C)) (h2 : LS v AS R S) => concat2R_any gg cap i c1 R cS A1 AS (rowsC d C i C) S v hb1 h1 h2 (by omega) (by omega))
  rw [← hQ] at HEC HCT
  have hwr1 : IntKind.i64.wrap ((R : Int) + (i : Int)) = (R : Int) + (i : Int) := IntWalk.i64_in _ (by omega)
  have hwr2 : IntKind.i64.wrap ((R : Int) + (i : Int) - (K : Int)) = (R : Int) + (i : Int) - (K : Int) := IntWalk.i64_in _ (by omega)
  have q0 := HK0.out.cell 0
  have q1 := HK0.out.cell 1
  have q2 := HK0.out.cell 2
  have q3 := HK0.out.cell 3
  clear hw1 hg hb hs hS hd hSo hp hF hFS hFSl hK hKb hQ hCC
  go_enter Try.func81, Try.ntmps81
  go_upto_region 1 with fail
  rw [← HW.out, ← HG.out]
  go_upto_region 2 with (first
    | (go_at_call 74
       with_reducible refine (HFR.out).mono ?_
       rintro e w2 ⟨ga, rfl, hoh, hb2⟩
       have HB2 := Lib.hid hb2
       have HLA := Lib.hid (HFL.out w2 hb2 ga hoh)
       clear hoh hb2)
    | fail)
  clear q0 q1 q2 q3
  have MKS : Hid (∀ u, Below w2.heap.size w2 u → u.cell? ⟨g, 0, none⟩ = some (.int .i64 p)) := Lib.hid (fun u hb => (HK0.out.below (HB2.out.trans (hb.mono HB2.out.size)) HK0.out.lt).cell 0)
  have Hcd : Hid (Below w2.heap.size w2 w2.drew) := Lib.hid ((Below.refl _ _).drew)
  have Hal : Hid (∀ o, Below w2.heap.size w2 (w2.alloc o).drew) := Lib.hid (fun o => ((Below.refl _ _).alloc (Nat.le_refl _) o).drew)
  have Hal2 : Hid (∀ o, Below w2.heap.size w2 (w2.drew.alloc o)) := Lib.hid (fun o => ((Below.refl _ _).drew).alloc (Nat.le_refl _) o)
  go_region_held3 (fun u => u.cell? ⟨g, 0, none⟩ = some (.int .i64 p))
    (first | with_reducible exact MKS.out _ Hcd.out | with_reducible exact MKS.out _ (Hal.out _) | with_reducible exact MKS.out _ (Hal2.out _) | with_reducible exact MKS.out _ Hc3.out | with_reducible exact MKS.out _ Hc4.out | with_reducible exact MKS.out _ Hc5.out)
    (first
      | (go_at_call 57
         refine calls_here ?_
         intro v hu
         have Hv : Hid (Below w2.heap.size w2 v) := Lib.hid (by rw [hu]; first | exact Hal.out _ | exact Hal2.out _)
         have hbk : Blk v w2.heap.size 43 #[.slice (some ⟨ga, 0, none⟩) i i, .slice AS R cS] := by rw [hu]; first | exact (Blk.new w2 _ _).drewN 1 | exact Blk.new w2.drew _ _
         with_reducible refine (HCT.out v w2.heap.size _ (some ⟨ga, 0, none⟩) i hbk (HLA.out.below Hv.out (Nat.le_refl _)) (HLS.out.below (HB2.out.trans (Hv.out.mono HB2.out.size)) (Nat.le_refl _))).mono ?_
         rintro e u3 ⟨A3, c3, rfl, hls3, hb3⟩
         have Hc3 : Hid (Below w2.heap.size w2 u3) := Lib.hid (Hv.out.trans (hb3.mono Hv.out.size))
         have HL3 := Lib.hid hls3
         clear hu hbk hls3 hb3)
      | (go_at_call 106
         with_reducible refine (HEC.out u3 A3 c3 HL3.out).mono ?_
         rintro e u4 ⟨AR, nR, cR, AC4, nC4, cC4, rfl, hoR, _, hb4⟩
         have Hc4 : Hid (Below w2.heap.size w2 u4) := Lib.hid (Hc3.out.trans (hb4.mono Hc3.out.size))
         obtain rfl : nR = K := by have h := hoR.len; rw [List.length_map] at h; rw [HK.out, ← h]; rfl
         clear hoR hb4)
      | (go_at_call 114
         with_reducible refine (ecRank_any p AR AC4 nR cR nC4 cC4 u4).mono ?_
         rintro e u5 ⟨rfl, hb5⟩
         have Hc5 : Hid (Below w2.heap.size w2 u5) := Lib.hid (Hc4.out.trans (hb5.mono Hc4.out.size))
         clear hb5))
  go_wp2
  go_ret
  exact ⟨rfl, HB.out.trans ((HB2.out.trans (Hc5.out.mono HB2.out.size)).mono HB.out.size)⟩
/-- The steps as far as a member. -/
def stpL (C : Nat) (cm : Nat → Int) (j : Nat) : List Int := (List.range C).map fun q => if q < j then cm (q + 1) - cm q else 0
theorem stpL_len (C : Nat) (cm : Nat → Int) (j : Nat) : (stpL C cm j).length = C := by simp [stpL]
theorem stpL_nth {C : Nat} {cm : Nat → Int} {j q : Nat} (h : q < C) : nth (stpL C cm j) q = if q < j then cm (q + 1) - cm q else 0 := nth_rangeMap _ h
theorem stpL_zero (C : Nat) (cm : Nat → Int) : stpL C cm 0 = List.replicate C 0 := nth_ext (by rw [stpL_len]; simp) fun q hq => by
  rw [stpL_len] at hq
  rw [stpL_nth hq, if_neg (by omega)]; simp [nth, List.getD, hq]
theorem stpL_all (C : Nat) (cm : Nat → Int) : stpL C cm C = (List.range C).map fun j => cm (j + 1) - cm j := by
  unfold stpL
  refine List.map_congr_left fun q hq => ?_
  rw [if_pos (List.mem_range.1 hq)]
theorem stpL_succ {C : Nat} {cm : Nat → Int} {j : Nat} (h : j < C) : (stpL C cm j).set j (cm (j + 1) - cm j) = stpL C cm (j + 1) := nth_ext (by rw [List.length_set, stpL_len, stpL_len]) fun q hq => by
  rw [List.length_set, stpL_len] at hq
  rw [nth_set_at (by rw [stpL_len]; exact h), stpL_nth hq, stpL_nth hq]
  by_cases e : q = j
  · subst e; rw [if_pos rfl, if_pos (by omega)]
  · rw [if_neg e]
    by_cases hlt : q < j
    · rw [if_pos hlt, if_pos (by omega)]
    · rw [if_neg hlt, if_neg (by omega)]
set_option maxRecDepth 100000 in
set_option maxHeartbeats 8000000 in
theorem stepsTo_any (p : Int) (C R : Nat) (P : Option Addr) (n k : Nat) (AC : Option Addr) (nC cC : Nat) (AS : Option Addr) (cS : Nat) (d : List Int) (S : List (List Int)) (cm : Nat → Int) (w : World) (hp : P7 p) (hs : SI w P n d) (hnk : n ≤ k) (hl : d.length = C * C) (hd : Rg p d) (hC1 : 1 ≤ C) (hC : C ≤ 7) (hS : LS w AS R S) (hSo : ∀ x, x ∈ S → x.length = C ∧ Rg p x) (hR : R ≤ 7) (h0 : cm 0 = 0) (hcm : ∀ i, i ≤ C → (R : Int) + (i : Int) - (rnkL p (rowsC d C i C ++ S) : Int) = cm i) :
    Calls Try.prog 73 #[.agg #[.int .i64 p, .int .i64 C, .int .i64 C, .slice P n k, .slice AC nC cC], .slice AS R cS] w fun e w' => Fresh w w' e ((List.range C).map fun j => cm (j + 1) - cm j) := by
  obtain ⟨w1, hw1⟩ : ∃ w1, w1 = w.alloc (.cells #[.int .i64 p, .int .i64 C, .int .i64 C, .slice P n k, .slice AC nC cC] 68) := ⟨_, rfl⟩
  obtain ⟨g, hg⟩ : ∃ g, g = w.heap.size := ⟨_, rfl⟩
  have HK0 : Hid (Blk w1 g 68 #[.int .i64 p, .int .i64 C, .int .i64 C, .slice P n k, .slice AC nC cC]) := Lib.hid (by rw [hw1, hg]; exact Blk.new _ _ _)
  have hb : Below w.heap.size w w1 := by rw [hw1]; go_grown
  have HB := Lib.hid hb
  have HW := Lib.hid hw1
  have HG := Lib.hid hg
  have HSZ : Hid (w1.heap.size = g + 1) := Lib.hid (by rw [hw1, hg]; simp)
  have HSD := Lib.hid (hs.below hb (Nat.le_refl _))
  have HLS := Lib.hid (hS.below hb (Nat.le_refl _))
  have HLN := Lib.hid hs.1
  have HCW := Lib.hid (fun u (hbu : Below w1.heap.size w1 u) (i : Nat) (hi : i ≤ C) => commonWith_any p C R i P n k AC nC cC AS cS d S u hp (HSD.out.below hbu (Nat.le_refl _)) hnk hl hd hC1 hC (HLS.out.below hbu (Nat.le_refl _)) hSo hR hi)
  have HCM := Lib.hid hcm
  have HC0 := Lib.hid h0
  have HCB : Hid (∀ i, i ≤ C → -7 ≤ cm i ∧ cm i ≤ 14) := Lib.hid (fun i hi => by have h := hcm i hi; have h2 := rnkL_le p (rowsC d C i C ++ S); rw [List.length_append, rowsC_len, hS.1] at h2; omega)
  obtain ⟨q0, q1, q2, q3⟩ : w1.cell? ⟨g, 0, none⟩ = _ ∧ w1.cell? ⟨g, 1, none⟩ = _ ∧ w1.cell? ⟨g, 2, none⟩ = some (.int .i64 C) ∧ w1.cell? ⟨g, 3, none⟩ = _ := ⟨HK0.out.cell 0, HK0.out.cell 1, HK0.out.cell 2, HK0.out.cell 3⟩
  clear hw1 hg hb hs hS hd hSo hp hcm h0
  go_enter Try.func73, Try.ntmps73
  go_upto_region 1 with fail
  rw [← HW.out, ← HG.out]
  go_upto_region 2 with (first
    | (at_make; refine wpList_make_zero rfl (.tmp 11) (.tmp 11) rfl C rfl rfl (by omega) ?_; intro w2 ho2 hb2; have HO2 := Lib.hid ho2; have HB2 := Lib.hid hb2; obtain ⟨gs, hgs⟩ : ∃ q, q = w1.heap.size := ⟨_, rfl⟩; have HGS := Lib.hid hgs; rw [← hgs]; clear ho2 hb2 hgs)
    | fail)
  clear q0 q1 q2 q3
  have HST : Hid (Own w2 w1.heap.size w2.heap.size (some ⟨gs, 0, none⟩) C C (stpL C cm 0)) := Lib.hid (by rw [HGS.out, stpL_zero]; exact HO2.out)
  obtain ⟨hi2, hhi2⟩ : ∃ q, q = w2.heap.size := ⟨_, rfl⟩
  rw [← hhi2] at HST
  have HHI : Hid (hi2 ≤ w2.heap.size) := Lib.hid (Nat.le_of_eq hhi2)
  clear hhi2
  go_wp2_with fail
  go_loopw [6, 15] (fun bv jv wr => ∃ j : Nat, j ≤ C ∧ jv = .int .i64 j ∧ bv = .int .i64 (cm j) ∧ Own wr w1.heap.size hi2 (some ⟨gs, 0, none⟩) C C (stpL C cm j) ∧ hi2 ≤ wr.heap.size ∧ Below w1.heap.size w1 wr)
    (fun _ jv _ => C - (intOf jv).toNat)
  case atStart => exact ⟨0, Nat.zero_le _, rfl, by rw [HC0.out], HST.out, HHI.out, HB2.out⟩
  case round =>
    obtain ⟨j, hj, rfl, rfl, ho, hhi, hbr⟩ := hrel
    skip
    have HO := Lib.hid ho
    have HH := Lib.hid hhi
    have HBR := Lib.hid hbr
    clear ho hhi hbr
    by_cases hjC : j < C
    case neg =>
      obtain rfl : j = C := by omega
      go_wp2
      go_ret
      exact ⟨some ⟨gs, 0, none⟩, j, j, rfl, by have h := HO.out; rw [stpL_all] at h; exact h.wide (by have := HSZ.out; have := HG.out; omega) HH.out, HB.out.trans (HBR.out.mono HB.out.size)⟩
    case pos =>
      have hjI : (j : Int) < (C : Int) := by omega
      have HCJ := Lib.hid (HCW.out wr HBR.out (j + 1) (by omega))
      rw [HCM.out (j + 1) (by omega)] at HCJ
      obtain ⟨a, ha⟩ : ∃ a, a = cm j := ⟨_, rfl⟩
      obtain ⟨b, hbv⟩ : ∃ b, b = cm (j + 1) := ⟨_, rfl⟩
      have hab := HCB.out j (by omega)
      have hbb := HCB.out (j + 1) (by omega)
      rw [← ha] at hab ⊢
      rw [← hbv] at hbb HCJ
      have hwr1 : IntKind.i64.wrap (b - a) = b - a := IntWalk.i64_in _ (by omega)
      have HST2 : Hid ((stpL C cm j).set j (b - a) = stpL C cm (j + 1)) := Lib.hid (by rw [ha, hbv]; exact stpL_succ hjC)
      have HBV := Lib.hid hbv
      clear ha hbv hab hbb
      simp only [Int.natCast_add, Int.natCast_one] at HCJ
      have hwj : IntKind.i64.wrap ((j : Int) + 1) = (j : Int) + 1 := IntWalk.i64_in _ (by omega)
      go_wp2_with (first
        | (refine wpList_load_rowP rfl 68 (.tmp 2) rfl g rfl 68 #[.int .i64 p, .int .i64 C, .int .i64 C, .slice P n k, .slice AC nC cC] _ (HK0.out.below HBR.out HK0.out.lt) Try.underlying68 rfl Try.infoNf ?_)
        | (go_at_call 81
           with_reducible refine (HCJ.out).mono ?_
           rintro e w3 ⟨rfl, hb3⟩
           have HO3 := Lib.hid (HO.out.below hb3 HH.out)
           have HB3 : Hid (Below w1.heap.size w1 w3) := Lib.hid (HBR.out.trans (hb3.mono HBR.out.size))
           have hsz3 := hb3.size
           have cc := HO3.out.cellAt hjC
           have ff := HO3.out.frozenAt j
           clear hb3)
        | fail)
      go_roundw
      case rel =>
        obtain ⟨h1, h2⟩ := HO3.out.set_ (k := j) (b - a)
        rw [HST2.out] at h1
        have h3 := HO3.out.lt gs rfl
        have h4 := HH.out
        have h5 := h2.size
        exact ⟨j + 1, by omega, by go_num, by rw [HBV.out], h1, by omega, HB3.out.grown h2 HB3.out.size (by rintro z ⟨⟩; exact h3.1)⟩
      case measure => simp [intOf]; omega

end Go.Proofs.Ytdepalpkcmfegaa

/-
  A flag beside a space, on the program's side. Conditions: lengths below 2^40.
-/





namespace Go.Proofs.Ytdepalpkcmfegaa
open Go.RowKit

set_option maxRecDepth 100000 in
set_option maxHeartbeats 16000000 in
theorem flagBeside_z (p r c p' r' c' : Int) (A A' : Option Addr) (n k n' k' : Nat) (xs ys : List Int) (w : World) (hs : SI w A n xs) (hs' : SI w A' n' ys) (hn : n ≤ 1099511627776) (hn' : n' ≤ 1099511627776) (hnk : n ≤ k) (hnk' : n' ≤ k') (zp zr zc : Int) (z : List Int) (ok : Bool) (hz : NfIs p' r' c' ys zp zr zc z ok) :
    Calls Try.prog 76 #[.agg #[.int .i64 p, .int .i64 r, .int .i64 c, .slice A n k], .agg #[.int .i64 p', .int .i64 r', .int .i64 c', .slice A' n' k']] w fun e w' => FreshNf w w' e zp zr zc z (flgW p' r' c' ys) (besideB p r c xs p' r' c' ys) := by
  obtain ⟨w1, hw1⟩ : ∃ w1, w1 = (((w.alloc (.cells #[.int .i64 p, .int .i64 r, .int .i64 c, .slice A n k] 26)).alloc (.cells #[.int .i64 p', .int .i64 r', .int .i64 c', .slice A' n' k'] 26)).alloc (.cells #[.int .i64 0, .int .i64 0, .int .i64 0, .slice none 0 0, .slice none 0 0] 68)) := ⟨_, rfl⟩
  obtain ⟨g, hg⟩ : ∃ g, g = w.heap.size := ⟨_, rfl⟩
  have HK0 : Hid (Blk w1 (g) 26 #[.int .i64 p, .int .i64 r, .int .i64 c, .slice A n k]) := Lib.hid (by rw [hw1, hg]; have := ((Blk.new w 26 #[.int .i64 p, .int .i64 r, .int .i64 c, .slice A n k]).alloc (.cells #[.int .i64 p', .int .i64 r', .int .i64 c', .slice A' n' k'] 26)).alloc (.cells #[.int .i64 0, .int .i64 0, .int .i64 0, .slice none 0 0, .slice none 0 0] 68); simpa using this)
  have HK1 : Hid (Blk w1 (g + 1) 26 #[.int .i64 p', .int .i64 r', .int .i64 c', .slice A' n' k']) := Lib.hid (by rw [hw1, hg]; have := (Blk.new (w.alloc (.cells #[.int .i64 p, .int .i64 r, .int .i64 c, .slice A n k] 26)) 26 #[.int .i64 p', .int .i64 r', .int .i64 c', .slice A' n' k']).alloc (.cells #[.int .i64 0, .int .i64 0, .int .i64 0, .slice none 0 0, .slice none 0 0] 68); simpa using this)
  have HK2 : Hid (Blk w1 (g + 2) 68 #[.int .i64 0, .int .i64 0, .int .i64 0, .slice none 0 0, .slice none 0 0]) := Lib.hid (by rw [hw1, hg]; have := Blk.new ((w.alloc (.cells #[.int .i64 p, .int .i64 r, .int .i64 c, .slice A n k] 26)).alloc (.cells #[.int .i64 p', .int .i64 r', .int .i64 c', .slice A' n' k'] 26)) 68 #[.int .i64 0, .int .i64 0, .int .i64 0, .slice none 0 0, .slice none 0 0]; simpa using this)
  have hb : Below w.heap.size w w1 := by rw [hw1]; go_grown
  have HB := Lib.hid hb
  have HW := Lib.hid hw1
  have HG := Lib.hid hg
  have HSZ : Hid (w1.heap.size = g + 3) := Lib.hid (by rw [hw1, hg]; simp)
  have HSA := Lib.hid (hs.below hb (Nat.le_refl _))
  have HFO := Lib.hid (flagOf_z p' r' c' A' n' k' ys w1 (hs'.below hb (Nat.le_refl _)) hn' hnk' zp zr zc z ok hz)
  have HIS := Lib.hid (fun u (hu : Below w1.heap.size w1 u) => implIsSpace_any p r c A n k xs u (HSA.out.below hu (Nat.le_refl _)) hn hnk)
  obtain ⟨W, hW⟩ : ∃ W, W = flgW p' r' c' ys := ⟨_, rfl⟩
  rw [← hW] at HFO ⊢
  have HOK := Lib.hid hz.1
  clear hw1 hg hb hs hs' hz hW
  cases ok with
  | false =>
    have HV : Hid (besideB p r c xs p' r' c' ys = false) := Lib.hid (by unfold besideB; rw [← HOK.out]; simp)
    clear HOK
    go_enter Try.func76, Try.ntmps76
    go_upto_region 1 with fail
    rw [← HW.out, ← HG.out]
    go_upto_region 2 with (first
      | (refine wpList_load_rowP rfl 26 (.tmp 3) rfl (g + 1) rfl 26 #[.int .i64 p', .int .i64 r', .int .i64 c', .slice A' n' k'] _ HK1.out Try.underlying26 rfl Try.infoMx ?_)
      | (go_at_call 69
         with_reducible refine (HFO.out).mono ?_
         rintro e w2 ⟨P3, m3, d3, AC, nC, cC, rfl, ho2, hc2, hb2⟩
         have HO2 := Lib.hid ho2
         have HC2 := Lib.hid hc2
         have HB2 := Lib.hid hb2
         clear ho2 hc2 hb2)
      | (refine wpList_store_rowP rfl 68 (.tmp 6) (.tmp 11) rfl w2.heap.size #[.int .i64 zp, .int .i64 zr, .int .i64 zc, .slice P3 m3 d3, .slice AC nC cC] rfl rfl 68 #[.int .i64 0, .int .i64 0, .int .i64 0, .slice none 0 0, .slice none 0 0] (Blk.new _ _ _) Try.infoNf rfl (by simp [Value.oneCell']) ?_; intro w3 hb3 hg3)
      | fail)
    have hz3 : w2.heap.size < w3.heap.size := hb3.lt
    have HB3 : Hid (Below w1.heap.size w1 w3) := Lib.hid ((HB2.out.alloc HB2.out.size _).grown hg3 (by have := HB2.out.size; simp; omega) (by rintro q ⟨⟩; exact HB2.out.size))
    have HO3 : Hid (Own w3 w1.heap.size w2.heap.size P3 m3 d3 z) := Lib.hid ((HO2.out.below (Below.alloc_self _ _) (Nat.le_refl _)).grown hg3 (fun q hq => by injection hq with hq; omega))
    have HC3 : Hid (Own w3 w1.heap.size w2.heap.size AC nC cC W) := Lib.hid ((HC2.out.below (Below.alloc_self _ _) (Nat.le_refl _)).grown hg3 (fun q hq => by injection hq with hq; omega))
    obtain ⟨gb, hgb⟩ : ∃ q, q = w2.heap.size := ⟨_, rfl⟩
    rw [← hgb] at hb3 HO3 HC3 hz3 ⊢
    have HKB := Lib.hid hb3
    have HZ3 : Hid (w1.heap.size ≤ gb ∧ gb < w3.heap.size) := Lib.hid ⟨by have := HB2.out.size; omega, hz3⟩
    have HR3 := Lib.hid (HK2.out.below HB3.out HK2.out.lt)
    clear hb3 hg3 hz3 hgb HO2 HC2 HB2
    have HPUT : Hid (∀ u, Blk u (g + 2) 68 #[.int .i64 0, .int .i64 0, .int .i64 0, .slice none 0 0, .slice none 0 0] → Blk (((((u.setCell ⟨g + 2, 0, none⟩ (.int .i64 zp)).setCell ⟨g + 2, 1, none⟩ (.int .i64 zr)).setCell ⟨g + 2, 2, none⟩ (.int .i64 zc)).setCell ⟨g + 2, 3, none⟩ (.slice P3 m3 d3)).setCell ⟨g + 2, 4, none⟩ (.slice AC nC cC)) (g + 2) 68 #[.int .i64 zp, .int .i64 zr, .int .i64 zc, .slice P3 m3 d3, .slice AC nC cC]) := Lib.hid (fun u h => ((((h.set_ 0 _).set_ 1 _).set_ 2 _).set_ 3 _).set_ 4 _)
    have MKS : Hid (∀ u, Blk u g 26 #[.int .i64 p, .int .i64 r, .int .i64 c, .slice A n k] → Blk u (g + 1) 26 #[.int .i64 p', .int .i64 r', .int .i64 c', .slice A' n' k'] → Blk u gb 68 #[.int .i64 zp, .int .i64 zr, .int .i64 zc, .slice P3 m3 d3, .slice AC nC cC] → (u.cell? ⟨g, 0, none⟩ = some (.int .i64 p) ∧ u.cell? ⟨g, 1, none⟩ = some (.int .i64 r) ∧ u.cell? ⟨g, 2, none⟩ = some (.int .i64 c) ∧ u.cell? ⟨g, 3, none⟩ = some (.slice A n k) ∧ u.cell? ⟨g + 1, 0, none⟩ = some (.int .i64 p') ∧ u.cell? ⟨g + 1, 1, none⟩ = some (.int .i64 r') ∧ u.cell? ⟨g + 1, 2, none⟩ = some (.int .i64 c') ∧ u.cell? ⟨g + 1, 3, none⟩ = some (.slice A' n' k') ∧ u.cell? ⟨gb, 0, none⟩ = some (.int .i64 zp) ∧ u.cell? ⟨gb, 1, none⟩ = some (.int .i64 zr) ∧ u.cell? ⟨gb, 2, none⟩ = some (.int .i64 zc) ∧ u.cell? ⟨gb, 3, none⟩ = some (.slice P3 m3 d3) ∧ u.cell? ⟨gb, 4, none⟩ = some (.slice AC nC cC))) := Lib.hid (fun u h0 h1 h2 => by obtain ⟨a0, a1, a2, a3⟩ := cells4 h0; obtain ⟨b0, b1, b2, b3⟩ := cells4 h1; exact ⟨a0, a1, a2, a3, b0, b1, b2, b3, h2.cell 0, h2.cell 1, h2.cell 2, h2.cell 3, h2.cell 4⟩)
    have HQ0 := Lib.hid (HK0.out.below HB3.out HK0.out.lt)
    have HQ1 := Lib.hid (HK1.out.below HB3.out HK1.out.lt)
    have HKd : Hid (w3.drew.cell? ⟨g, 0, none⟩ = some (.int .i64 p) ∧ w3.drew.cell? ⟨g, 1, none⟩ = some (.int .i64 r) ∧ w3.drew.cell? ⟨g, 2, none⟩ = some (.int .i64 c) ∧ w3.drew.cell? ⟨g, 3, none⟩ = some (.slice A n k) ∧ w3.drew.cell? ⟨g + 1, 0, none⟩ = some (.int .i64 p') ∧ w3.drew.cell? ⟨g + 1, 1, none⟩ = some (.int .i64 r') ∧ w3.drew.cell? ⟨g + 1, 2, none⟩ = some (.int .i64 c') ∧ w3.drew.cell? ⟨g + 1, 3, none⟩ = some (.slice A' n' k') ∧ w3.drew.cell? ⟨gb, 0, none⟩ = some (.int .i64 zp) ∧ w3.drew.cell? ⟨gb, 1, none⟩ = some (.int .i64 zr) ∧ w3.drew.cell? ⟨gb, 2, none⟩ = some (.int .i64 zc) ∧ w3.drew.cell? ⟨gb, 3, none⟩ = some (.slice P3 m3 d3) ∧ w3.drew.cell? ⟨gb, 4, none⟩ = some (.slice AC nC cC)) := Lib.hid (MKS.out w3 HQ0.out HQ1.out HKB.out)
    have HKn := Lib.hid (MKS.out w3 HQ0.out HQ1.out HKB.out)
    have hWd : Below w3.heap.size w3 w3.drew := (Below.refl _ _).drew
    have hBd : Below w1.heap.size w1 w3.drew := HB3.out.drew
    have hRd : Blk w3.drew (g + 2) 68 #[.int .i64 0, .int .i64 0, .int .i64 0, .slice none 0 0, .slice none 0 0] := HR3.out
    have HKn2 := HKd.out
    clear HKd HKn
    refine wp_region_held_drew (S := fun u => u.cell? ⟨g, 0, none⟩ = some (.int .i64 p) ∧ u.cell? ⟨g, 1, none⟩ = some (.int .i64 r) ∧ u.cell? ⟨g, 2, none⟩ = some (.int .i64 c) ∧ u.cell? ⟨g, 3, none⟩ = some (.slice A n k) ∧ u.cell? ⟨g + 1, 0, none⟩ = some (.int .i64 p') ∧ u.cell? ⟨g + 1, 1, none⟩ = some (.int .i64 r') ∧ u.cell? ⟨g + 1, 2, none⟩ = some (.int .i64 c') ∧ u.cell? ⟨g + 1, 3, none⟩ = some (.slice A' n' k') ∧ u.cell? ⟨gb, 0, none⟩ = some (.int .i64 zp) ∧ u.cell? ⟨gb, 1, none⟩ = some (.int .i64 zr) ∧ u.cell? ⟨gb, 2, none⟩ = some (.int .i64 zc) ∧ u.cell? ⟨gb, 3, none⟩ = some (.slice P3 m3 d3) ∧ u.cell? ⟨gb, 4, none⟩ = some (.slice AC nC cC)) (by kernel_rfl) HKn2 (fun hHeld => ?_)
    clear HKn2
    generalize w3.drew = w4 at *
    have HWd := Lib.hid hWd
    have HBd := Lib.hid hBd
    have HRd := Lib.hid hRd
    clear hWd hBd hRd
    have hgne : g ≠ g + 2 ∧ g + 1 ≠ g + 2 ∧ gb ≠ g + 2 := by have := HZ3.out; have := HSZ.out; omega
    have hgp := grown_put5 w4 (g + 2) (.int .i64 zp) (.int .i64 zr) (.int .i64 zc) (.slice P3 m3 d3) (.slice AC nC cC)
    have KZ := MKS.out _ ((HQ0.out.below HWd.out HQ0.out.lt).grown hgp (fun e => by injection e with e; omega)) ((HQ1.out.below HWd.out HQ1.out.lt).grown hgp (fun e => by injection e with e; omega)) ((HKB.out.below HWd.out HKB.out.lt).grown hgp (fun e => by injection e with e; omega))
    clear hgne hgp
    have HKZ := Lib.hid KZ
    clear KZ
    refine wpAnyH_take (i := 0) (v := ?va0) rfl (by kernel_rfl) (by kernel_rfl) (by kernel_rfl) (fun _ _ _ h => h) (Or.inl ⟨by rfl, ?hya0⟩) hHeld ?ra0
    case hya0 => (intro w hSw; (try dsimp only at hSw); simp only [List.getElem_toArray, List.getElem_cons_zero]; go_simp; try with_reducible rfl)
    try simp only [Act.put, List.getElem_toArray, List.getElem_cons_zero, List.setIfInBounds_toArray, List.set_cons_zero, List.set_cons_succ]
    refine wpAnyH_take (i := 1) (v := ?va1) rfl (by kernel_rfl) (by kernel_rfl) (by kernel_rfl) (fun _ _ _ h => h) (Or.inl ⟨by rfl, ?hya1⟩) hHeld ?ra1
    case hya1 => (intro w hSw; (try dsimp only at hSw); simp only [List.getElem_toArray, List.getElem_cons_zero, List.getElem_cons_succ]; go_simp; try with_reducible rfl)
    try simp only [Act.put, List.getElem_toArray, List.getElem_cons_zero, List.getElem_cons_succ, List.setIfInBounds_toArray, List.set_cons_zero, List.set_cons_succ]
    refine wpAnyH_take (i := 2) (v := ?va2) rfl (by kernel_rfl) (by kernel_rfl) (by kernel_rfl) (fun _ _ _ h => h) (Or.inl ⟨by rfl, ?hya2⟩) hHeld ?ra2
    case hya2 => (intro w hSw; (try dsimp only at hSw); simp only [List.getElem_toArray, List.getElem_cons_zero, List.getElem_cons_succ]; go_simp; try with_reducible rfl)
    try simp only [Act.put, List.getElem_toArray, List.getElem_cons_zero, List.getElem_cons_succ, List.setIfInBounds_toArray, List.set_cons_zero, List.set_cons_succ]
    refine wpAnyH_take (i := 3) rfl (by kernel_rfl) (by kernel_rfl) (by kernel_rfl) (fun _ _ _ h => h) (Or.inr ⟨by rfl, rfl⟩) hHeld ?ra3
    try simp only [Act.put, List.getElem_toArray, List.getElem_cons_zero, List.getElem_cons_succ, List.setIfInBounds_toArray, List.set_cons_zero, List.set_cons_succ]
    refine wpAnyH_take (i := 4) rfl (by kernel_rfl) (by kernel_rfl) (by kernel_rfl) (fun _ _ _ h => h) (Or.inr ⟨by rfl, rfl⟩) hHeld ?ra4
    try simp only [Act.put, List.getElem_toArray, List.getElem_cons_zero, List.getElem_cons_succ, List.setIfInBounds_toArray, List.set_cons_zero, List.set_cons_succ]
    refine wpAnyH_take (i := 5) (v := ?va5) rfl (by kernel_rfl) (by kernel_rfl) (by kernel_rfl) (fun _ _ _ h => h) (Or.inl ⟨by rfl, ?hya5⟩) hHeld ?ra5
    case hya5 => (intro w hSw; (try dsimp only at hSw); simp only [List.getElem_toArray, List.getElem_cons_zero, List.getElem_cons_succ]; go_simp; try with_reducible rfl)
    try simp only [Act.put, List.getElem_toArray, List.getElem_cons_zero, List.getElem_cons_succ, List.setIfInBounds_toArray, List.set_cons_zero, List.set_cons_succ]
    refine wpAnyH_take (i := 6) (v := ?va6) rfl (by kernel_rfl) (by kernel_rfl) (by kernel_rfl) (fun _ _ _ h => h) (Or.inl ⟨by rfl, ?hya6⟩) hHeld ?ra6
    case hya6 => (intro w hSw; (try dsimp only at hSw); simp only [List.getElem_toArray, List.getElem_cons_zero, List.getElem_cons_succ]; go_simp; try with_reducible rfl)
    try simp only [Act.put, List.getElem_toArray, List.getElem_cons_zero, List.getElem_cons_succ, List.setIfInBounds_toArray, List.set_cons_zero, List.set_cons_succ]
    refine wpAnyH_take (i := 7) rfl (by kernel_rfl) (by kernel_rfl) (by kernel_rfl) (fun _ _ _ h => h) (Or.inr ⟨by rfl, rfl⟩) hHeld ?ra7
    try simp only [Act.put, List.getElem_toArray, List.getElem_cons_zero, List.getElem_cons_succ, List.setIfInBounds_toArray, List.set_cons_zero, List.set_cons_succ]
    refine wpAnyH_take (i := 8) rfl (by kernel_rfl) (by kernel_rfl) (by kernel_rfl) (fun _ _ _ h => h) (Or.inr ⟨by rfl, rfl⟩) hHeld ?ra8
    try simp only [Act.put, List.getElem_toArray, List.getElem_cons_zero, List.getElem_cons_succ, List.setIfInBounds_toArray, List.set_cons_zero, List.set_cons_succ]
    refine wpAnyH_take (i := 9) rfl (by kernel_rfl) (by kernel_rfl) (by kernel_rfl) (fun _ _ _ h => h) (Or.inr ⟨by rfl, rfl⟩) hHeld ?ra9
    try simp only [Act.put, List.getElem_toArray, List.getElem_cons_zero, List.getElem_cons_succ, List.setIfInBounds_toArray, List.set_cons_zero, List.set_cons_succ]
    refine wpAnyH_take (i := 10) (v := ?va10) rfl (by kernel_rfl) (by kernel_rfl) (by kernel_rfl) (fun _ _ _ h => h) (Or.inl ⟨by rfl, ?hya10⟩) hHeld ?ra10
    case hya10 => (intro w hSw; (try dsimp only at hSw); simp only [List.getElem_toArray, List.getElem_cons_zero, List.getElem_cons_succ]; go_simp; try with_reducible rfl)
    try simp only [Act.put, List.getElem_toArray, List.getElem_cons_zero, List.getElem_cons_succ, List.setIfInBounds_toArray, List.set_cons_zero, List.set_cons_succ]
    refine wpAnyH_ready (rs := [11]) (by kernel_rfl) (by simp) ?_
    refine AllReadyH.cons rfl (fun K hK => ?_) AllReadyH.nil
    simp only [List.getElem_toArray, List.getElem_cons_zero, List.getElem_cons_succ]
    have rr0 := HRd.out.cell 0
    have rr1 := HRd.out.cell 1
    have rr2 := HRd.out.cell 2
    have rr3 := HRd.out.cell 3
    have rr4 := HRd.out.cell 4
    have ff0 := HRd.out.frozen 0
    have ff1 := HRd.out.frozen 1
    have ff2 := HRd.out.frozen 2
    have ff3 := HRd.out.frozen 3
    have ff4 := HRd.out.frozen 4
    go_simp
    refine hK.out _ _ ?_ (fun hHeld => ?_)
    · exact HKZ.out
    clear hK K
    refine wpAnyH_take (i := 12) (v := ?va12) rfl (by kernel_rfl) (by kernel_rfl) (by kernel_rfl) (fun _ _ _ h => h) (Or.inl ⟨by rfl, ?hya12⟩) hHeld ?ra12
    case hya12 => (intro w hSw; (try dsimp only at hSw); simp only [List.getElem_toArray, List.getElem_cons_zero, List.getElem_cons_succ]; go_simp; try with_reducible rfl)
    try simp only [Act.put, List.getElem_toArray, List.getElem_cons_zero, List.getElem_cons_succ, List.setIfInBounds_toArray, List.set_cons_zero, List.set_cons_succ]
    refine wpAnyH_done (by kernel_rfl) ?_ _
    all_goals
      (go_wp2
       refine bodyPost_ret (results_mx_tmp Try.results76 _ _ _ 68 #[.int .i64 zp, .int .i64 zr, .int .i64 zc, .slice P3 m3 d3, .slice AC nC cC] _ rfl (HPUT.out _ HRd.out) Try.underlying68 rfl Try.infoNf) rfl ?_
       have l1 := HSZ.out
       have l2 := HG.out
       have l4 := HB.out.size
       have l5 := HBd.out.size
       have l6 := HZ3.out
       have l7 := HB3.out.size
       have l8 := (HWd.out : Below w3.heap.size w3 w4).size
       have hg := grown_put5 w4 (g + 2) (.int .i64 zp) (.int .i64 zr) (.int .i64 zc) (.slice P3 m3 d3) (.slice AC nC cC)
       have l9 := hg.size
       refine ⟨P3, m3, d3, AC, nC, cC, (by rw [HV.out]; try rfl), ?_, ?_, ?_⟩
       · exact ((HO3.out.below (HWd.out : Below w3.heap.size w3 w4) (by omega)).grown hg (fun q hq => by injection hq with hq; omega)).wide (by omega) (Nat.le_trans (by omega : gb ≤ w4.heap.size) l9)
       · exact ((HC3.out.below (HWd.out : Below w3.heap.size w3 w4) (by omega)).grown hg (fun q hq => by injection hq with hq; omega)).wide (by omega) (Nat.le_trans (by omega : gb ≤ w4.heap.size) l9)
       · exact (HB.out.trans (HBd.out.mono l4)).grown hg (by omega) (by rintro q ⟨⟩; omega))
  | true =>
    cases hu : isSpB p r c xs with
    | false =>
      rw [hu] at HIS
      have HV : Hid (besideB p r c xs p' r' c' ys = false) := Lib.hid (by unfold besideB; simp [hu])
      clear HOK hu
      go_enter Try.func76, Try.ntmps76
      go_upto_region 1 with fail
      rw [← HW.out, ← HG.out]
      go_upto_region 2 with (first
        | (refine wpList_load_rowP rfl 26 (.tmp 3) rfl (g + 1) rfl 26 #[.int .i64 p', .int .i64 r', .int .i64 c', .slice A' n' k'] _ HK1.out Try.underlying26 rfl Try.infoMx ?_)
        | (go_at_call 69
           with_reducible refine (HFO.out).mono ?_
           rintro e w2 ⟨P3, m3, d3, AC, nC, cC, rfl, ho2, hc2, hb2⟩
           have HO2 := Lib.hid ho2
           have HC2 := Lib.hid hc2
           have HB2 := Lib.hid hb2
           clear ho2 hc2 hb2)
        | (refine wpList_store_rowP rfl 68 (.tmp 6) (.tmp 11) rfl w2.heap.size #[.int .i64 zp, .int .i64 zr, .int .i64 zc, .slice P3 m3 d3, .slice AC nC cC] rfl rfl 68 #[.int .i64 0, .int .i64 0, .int .i64 0, .slice none 0 0, .slice none 0 0] (Blk.new _ _ _) Try.infoNf rfl (by simp [Value.oneCell']) ?_; intro w3 hb3 hg3)
        | fail)
      have hz3 : w2.heap.size < w3.heap.size := hb3.lt
      have HB3 : Hid (Below w1.heap.size w1 w3) := Lib.hid ((HB2.out.alloc HB2.out.size _).grown hg3 (by have := HB2.out.size; simp; omega) (by rintro q ⟨⟩; exact HB2.out.size))
      have HO3 : Hid (Own w3 w1.heap.size w2.heap.size P3 m3 d3 z) := Lib.hid ((HO2.out.below (Below.alloc_self _ _) (Nat.le_refl _)).grown hg3 (fun q hq => by injection hq with hq; omega))
      have HC3 : Hid (Own w3 w1.heap.size w2.heap.size AC nC cC W) := Lib.hid ((HC2.out.below (Below.alloc_self _ _) (Nat.le_refl _)).grown hg3 (fun q hq => by injection hq with hq; omega))
      obtain ⟨gb, hgb⟩ : ∃ q, q = w2.heap.size := ⟨_, rfl⟩
      rw [← hgb] at hb3 HO3 HC3 hz3 ⊢
      have HKB := Lib.hid hb3
      have HZ3 : Hid (w1.heap.size ≤ gb ∧ gb < w3.heap.size) := Lib.hid ⟨by have := HB2.out.size; omega, hz3⟩
      have HR3 := Lib.hid (HK2.out.below HB3.out HK2.out.lt)
      clear hb3 hg3 hz3 hgb HO2 HC2 HB2
      have HPUT : Hid (∀ u, Blk u (g + 2) 68 #[.int .i64 0, .int .i64 0, .int .i64 0, .slice none 0 0, .slice none 0 0] → Blk (((((u.setCell ⟨g + 2, 0, none⟩ (.int .i64 zp)).setCell ⟨g + 2, 1, none⟩ (.int .i64 zr)).setCell ⟨g + 2, 2, none⟩ (.int .i64 zc)).setCell ⟨g + 2, 3, none⟩ (.slice P3 m3 d3)).setCell ⟨g + 2, 4, none⟩ (.slice AC nC cC)) (g + 2) 68 #[.int .i64 zp, .int .i64 zr, .int .i64 zc, .slice P3 m3 d3, .slice AC nC cC]) := Lib.hid (fun u h => ((((h.set_ 0 _).set_ 1 _).set_ 2 _).set_ 3 _).set_ 4 _)
      have MKS : Hid (∀ u, Blk u g 26 #[.int .i64 p, .int .i64 r, .int .i64 c, .slice A n k] → Blk u (g + 1) 26 #[.int .i64 p', .int .i64 r', .int .i64 c', .slice A' n' k'] → Blk u gb 68 #[.int .i64 zp, .int .i64 zr, .int .i64 zc, .slice P3 m3 d3, .slice AC nC cC] → (u.cell? ⟨g, 0, none⟩ = some (.int .i64 p) ∧ u.cell? ⟨g, 1, none⟩ = some (.int .i64 r) ∧ u.cell? ⟨g, 2, none⟩ = some (.int .i64 c) ∧ u.cell? ⟨g, 3, none⟩ = some (.slice A n k) ∧ u.cell? ⟨g + 1, 0, none⟩ = some (.int .i64 p') ∧ u.cell? ⟨g + 1, 1, none⟩ = some (.int .i64 r') ∧ u.cell? ⟨g + 1, 2, none⟩ = some (.int .i64 c') ∧ u.cell? ⟨g + 1, 3, none⟩ = some (.slice A' n' k') ∧ u.cell? ⟨gb, 0, none⟩ = some (.int .i64 zp) ∧ u.cell? ⟨gb, 1, none⟩ = some (.int .i64 zr) ∧ u.cell? ⟨gb, 2, none⟩ = some (.int .i64 zc) ∧ u.cell? ⟨gb, 3, none⟩ = some (.slice P3 m3 d3) ∧ u.cell? ⟨gb, 4, none⟩ = some (.slice AC nC cC))) := Lib.hid (fun u h0 h1 h2 => by obtain ⟨a0, a1, a2, a3⟩ := cells4 h0; obtain ⟨b0, b1, b2, b3⟩ := cells4 h1; exact ⟨a0, a1, a2, a3, b0, b1, b2, b3, h2.cell 0, h2.cell 1, h2.cell 2, h2.cell 3, h2.cell 4⟩)
      have HQ0 := Lib.hid (HK0.out.below HB3.out HK0.out.lt)
      have HQ1 := Lib.hid (HK1.out.below HB3.out HK1.out.lt)
      have HKd : Hid (w3.drew.cell? ⟨g, 0, none⟩ = some (.int .i64 p) ∧ w3.drew.cell? ⟨g, 1, none⟩ = some (.int .i64 r) ∧ w3.drew.cell? ⟨g, 2, none⟩ = some (.int .i64 c) ∧ w3.drew.cell? ⟨g, 3, none⟩ = some (.slice A n k) ∧ w3.drew.cell? ⟨g + 1, 0, none⟩ = some (.int .i64 p') ∧ w3.drew.cell? ⟨g + 1, 1, none⟩ = some (.int .i64 r') ∧ w3.drew.cell? ⟨g + 1, 2, none⟩ = some (.int .i64 c') ∧ w3.drew.cell? ⟨g + 1, 3, none⟩ = some (.slice A' n' k') ∧ w3.drew.cell? ⟨gb, 0, none⟩ = some (.int .i64 zp) ∧ w3.drew.cell? ⟨gb, 1, none⟩ = some (.int .i64 zr) ∧ w3.drew.cell? ⟨gb, 2, none⟩ = some (.int .i64 zc) ∧ w3.drew.cell? ⟨gb, 3, none⟩ = some (.slice P3 m3 d3) ∧ w3.drew.cell? ⟨gb, 4, none⟩ = some (.slice AC nC cC)) := Lib.hid (MKS.out w3 HQ0.out HQ1.out HKB.out)
      have HKn := Lib.hid (MKS.out w3 HQ0.out HQ1.out HKB.out)
      have hWd : Below w3.heap.size w3 w3.drew := (Below.refl _ _).drew
      have hBd : Below w1.heap.size w1 w3.drew := HB3.out.drew
      have HKn2 := HKd.out
      clear HKd HKn
      refine wp_region_held_drew (S := fun u => u.cell? ⟨g, 0, none⟩ = some (.int .i64 p) ∧ u.cell? ⟨g, 1, none⟩ = some (.int .i64 r) ∧ u.cell? ⟨g, 2, none⟩ = some (.int .i64 c) ∧ u.cell? ⟨g, 3, none⟩ = some (.slice A n k) ∧ u.cell? ⟨g + 1, 0, none⟩ = some (.int .i64 p') ∧ u.cell? ⟨g + 1, 1, none⟩ = some (.int .i64 r') ∧ u.cell? ⟨g + 1, 2, none⟩ = some (.int .i64 c') ∧ u.cell? ⟨g + 1, 3, none⟩ = some (.slice A' n' k') ∧ u.cell? ⟨gb, 0, none⟩ = some (.int .i64 zp) ∧ u.cell? ⟨gb, 1, none⟩ = some (.int .i64 zr) ∧ u.cell? ⟨gb, 2, none⟩ = some (.int .i64 zc) ∧ u.cell? ⟨gb, 3, none⟩ = some (.slice P3 m3 d3) ∧ u.cell? ⟨gb, 4, none⟩ = some (.slice AC nC cC)) (by kernel_rfl) HKn2 (fun hHeld => ?_)
      clear HKn2
      generalize w3.drew = w4 at *
      have HWd := Lib.hid hWd
      have HBd := Lib.hid hBd
      clear hWd hBd
      refine wpAnyH_take (i := 0) (v := ?vab0) rfl (by kernel_rfl) (by kernel_rfl) (by kernel_rfl) (fun _ _ _ h => h) (Or.inl ⟨by rfl, ?hyab0⟩) hHeld ?rab0
      case hyab0 => (intro w hSw; (try dsimp only at hSw); simp only [List.getElem_toArray, List.getElem_cons_zero]; go_simp; try with_reducible rfl)
      try simp only [Act.put, List.getElem_toArray, List.getElem_cons_zero, List.setIfInBounds_toArray, List.set_cons_zero, List.set_cons_succ]
      refine wpAnyH_take (i := 1) (v := ?vab1) rfl (by kernel_rfl) (by kernel_rfl) (by kernel_rfl) (fun _ _ _ h => h) (Or.inl ⟨by rfl, ?hyab1⟩) hHeld ?rab1
      case hyab1 => (intro w hSw; (try dsimp only at hSw); simp only [List.getElem_toArray, List.getElem_cons_zero, List.getElem_cons_succ]; go_simp; try with_reducible rfl)
      try simp only [Act.put, List.getElem_toArray, List.getElem_cons_zero, List.getElem_cons_succ, List.setIfInBounds_toArray, List.set_cons_zero, List.set_cons_succ]
      refine wpAnyH_take (i := 2) (v := ?vab2) rfl (by kernel_rfl) (by kernel_rfl) (by kernel_rfl) (fun _ _ _ h => h) (Or.inl ⟨by rfl, ?hyab2⟩) hHeld ?rab2
      case hyab2 => (intro w hSw; (try dsimp only at hSw); simp only [List.getElem_toArray, List.getElem_cons_zero, List.getElem_cons_succ]; go_simp; try with_reducible rfl)
      try simp only [Act.put, List.getElem_toArray, List.getElem_cons_zero, List.getElem_cons_succ, List.setIfInBounds_toArray, List.set_cons_zero, List.set_cons_succ]
      refine wpAnyH_take (i := 3) (v := ?vab3) rfl (by kernel_rfl) (by kernel_rfl) (by kernel_rfl) (fun _ _ _ h => h) (Or.inl ⟨by rfl, ?hyab3⟩) hHeld ?rab3
      case hyab3 => (intro w hSw; (try dsimp only at hSw); simp only [List.getElem_toArray, List.getElem_cons_zero, List.getElem_cons_succ]; go_simp; try with_reducible rfl)
      try simp only [Act.put, List.getElem_toArray, List.getElem_cons_zero, List.getElem_cons_succ, List.setIfInBounds_toArray, List.set_cons_zero, List.set_cons_succ]
      refine wpAnyH_ready (rs := [4]) (by kernel_rfl) (by simp) ?_
      refine AllReadyH.cons rfl (fun K hK => ?_) AllReadyH.nil
      simp only [List.getElem_toArray, List.getElem_cons_zero, List.getElem_cons_succ]
      go_simp
      go_at_call 104
      with_reducible refine (HIS.out _ HBd.out).mono ?_
      rintro e w5 ⟨rfl, hb5⟩
      have HW5 : Hid (Below w3.heap.size w3 w5) := Lib.hid (HWd.out.trans (hb5.mono HWd.out.size))
      have HB5 : Hid (Below w1.heap.size w1 w5) := Lib.hid (HBd.out.trans (hb5.mono HBd.out.size))
      have HR5 := Lib.hid (HR3.out.below HW5.out HR3.out.lt)
      clear hb5
      try go_wp2_with fail
      refine hK.out _ _ ?_ (fun hHeld => ?_)
      · exact MKS.out w5 (HQ0.out.below HW5.out HQ0.out.lt) (HQ1.out.below HW5.out HQ1.out.lt) (HKB.out.below HW5.out HKB.out.lt)
      clear hK K
      try simp only [Act.put, List.getElem_toArray, List.getElem_cons_zero, List.getElem_cons_succ, List.setIfInBounds_toArray, List.set_cons_zero, List.set_cons_succ]
      have hgne : g ≠ g + 2 ∧ g + 1 ≠ g + 2 ∧ gb ≠ g + 2 := by have := HZ3.out; have := HSZ.out; omega
      have hgp := grown_put5 w5 (g + 2) (.int .i64 zp) (.int .i64 zr) (.int .i64 zc) (.slice P3 m3 d3) (.slice AC nC cC)
      have KZ := MKS.out _ ((HQ0.out.below HW5.out HQ0.out.lt).grown hgp (fun e => by injection e with e; omega)) ((HQ1.out.below HW5.out HQ1.out.lt).grown hgp (fun e => by injection e with e; omega)) ((HKB.out.below HW5.out HKB.out.lt).grown hgp (fun e => by injection e with e; omega))
      clear hgne hgp
      have HKZ := Lib.hid KZ
      clear KZ
      refine wpAnyH_take (i := 5) (v := ?vab5) rfl (by kernel_rfl) (by kernel_rfl) (by kernel_rfl) (fun _ _ _ h => h) (Or.inl ⟨by rfl, ?hyab5⟩) hHeld ?rab5
      case hyab5 => (intro w hSw; (try dsimp only at hSw); simp only [List.getElem_toArray, List.getElem_cons_zero, List.getElem_cons_succ]; go_simp; try with_reducible rfl)
      try simp only [Act.put, List.getElem_toArray, List.getElem_cons_zero, List.getElem_cons_succ, List.setIfInBounds_toArray, List.set_cons_zero, List.set_cons_succ]
      refine wpAnyH_take (i := 6) (v := ?vab6) rfl (by kernel_rfl) (by kernel_rfl) (by kernel_rfl) (fun _ _ _ h => h) (Or.inl ⟨by rfl, ?hyab6⟩) hHeld ?rab6
      case hyab6 => (intro w hSw; (try dsimp only at hSw); simp only [List.getElem_toArray, List.getElem_cons_zero, List.getElem_cons_succ]; go_simp; try with_reducible rfl)
      try simp only [Act.put, List.getElem_toArray, List.getElem_cons_zero, List.getElem_cons_succ, List.setIfInBounds_toArray, List.set_cons_zero, List.set_cons_succ]
      refine wpAnyH_take (i := 7) rfl (by kernel_rfl) (by kernel_rfl) (by kernel_rfl) (fun _ _ _ h => h) (Or.inr ⟨by rfl, rfl⟩) hHeld ?rab7
      try simp only [Act.put, List.getElem_toArray, List.getElem_cons_zero, List.getElem_cons_succ, List.setIfInBounds_toArray, List.set_cons_zero, List.set_cons_succ]
      refine wpAnyH_take (i := 8) rfl (by kernel_rfl) (by kernel_rfl) (by kernel_rfl) (fun _ _ _ h => h) (Or.inr ⟨by rfl, rfl⟩) hHeld ?rab8
      try simp only [Act.put, List.getElem_toArray, List.getElem_cons_zero, List.getElem_cons_succ, List.setIfInBounds_toArray, List.set_cons_zero, List.set_cons_succ]
      refine wpAnyH_take (i := 9) rfl (by kernel_rfl) (by kernel_rfl) (by kernel_rfl) (fun _ _ _ h => h) (Or.inr ⟨by rfl, rfl⟩) hHeld ?rab9
      try simp only [Act.put, List.getElem_toArray, List.getElem_cons_zero, List.getElem_cons_succ, List.setIfInBounds_toArray, List.set_cons_zero, List.set_cons_succ]
      refine wpAnyH_take (i := 10) (v := ?vab10) rfl (by kernel_rfl) (by kernel_rfl) (by kernel_rfl) (fun _ _ _ h => h) (Or.inl ⟨by rfl, ?hyab10⟩) hHeld ?rab10
      case hyab10 => (intro w hSw; (try dsimp only at hSw); simp only [List.getElem_toArray, List.getElem_cons_zero, List.getElem_cons_succ]; go_simp; try with_reducible rfl)
      try simp only [Act.put, List.getElem_toArray, List.getElem_cons_zero, List.getElem_cons_succ, List.setIfInBounds_toArray, List.set_cons_zero, List.set_cons_succ]
      refine wpAnyH_ready (rs := [11]) (by kernel_rfl) (by simp) ?_
      refine AllReadyH.cons rfl (fun K hK => ?_) AllReadyH.nil
      simp only [List.getElem_toArray, List.getElem_cons_zero, List.getElem_cons_succ]
      have rr0 := HR5.out.cell 0
      have rr1 := HR5.out.cell 1
      have rr2 := HR5.out.cell 2
      have rr3 := HR5.out.cell 3
      have rr4 := HR5.out.cell 4
      have ff0 := HR5.out.frozen 0
      have ff1 := HR5.out.frozen 1
      have ff2 := HR5.out.frozen 2
      have ff3 := HR5.out.frozen 3
      have ff4 := HR5.out.frozen 4
      go_simp
      refine hK.out _ _ ?_ (fun hHeld => ?_)
      · exact HKZ.out
      clear hK K
      refine wpAnyH_take (i := 12) (v := ?vab12) rfl (by kernel_rfl) (by kernel_rfl) (by kernel_rfl) (fun _ _ _ h => h) (Or.inl ⟨by rfl, ?hyab12⟩) hHeld ?rab12
      case hyab12 => (intro w hSw; (try dsimp only at hSw); simp only [List.getElem_toArray, List.getElem_cons_zero, List.getElem_cons_succ]; go_simp; try with_reducible rfl)
      try simp only [Act.put, List.getElem_toArray, List.getElem_cons_zero, List.getElem_cons_succ, List.setIfInBounds_toArray, List.set_cons_zero, List.set_cons_succ]
      refine wpAnyH_done (by kernel_rfl) ?_ _
      all_goals
        (go_wp2
         refine bodyPost_ret (results_mx_tmp Try.results76 _ _ _ 68 #[.int .i64 zp, .int .i64 zr, .int .i64 zc, .slice P3 m3 d3, .slice AC nC cC] _ rfl (HPUT.out _ HR5.out) Try.underlying68 rfl Try.infoNf) rfl ?_
         have l1 := HSZ.out
         have l2 := HG.out
         have l4 := HB.out.size
         have l5 := HB5.out.size
         have l6 := HZ3.out
         have l7 := HB3.out.size
         have l8 := (HW5.out : Below w3.heap.size w3 w5).size
         have hg := grown_put5 w5 (g + 2) (.int .i64 zp) (.int .i64 zr) (.int .i64 zc) (.slice P3 m3 d3) (.slice AC nC cC)
         have l9 := hg.size
         refine ⟨P3, m3, d3, AC, nC, cC, (by rw [HV.out]; try rfl), ?_, ?_, ?_⟩
         · exact ((HO3.out.below (HW5.out : Below w3.heap.size w3 w5) (by omega)).grown hg (fun q hq => by injection hq with hq; omega)).wide (by omega) (Nat.le_trans (by omega : gb ≤ w5.heap.size) l9)
         · exact ((HC3.out.below (HW5.out : Below w3.heap.size w3 w5) (by omega)).grown hg (fun q hq => by injection hq with hq; omega)).wide (by omega) (Nat.le_trans (by omega : gb ≤ w5.heap.size) l9)
         · exact (HB.out.trans (HB5.out.mono l4)).grown hg (by omega) (by rintro q ⟨⟩; omega))
    | true =>
      rw [hu] at HIS
      have HV : Hid (besideB p r c xs p' r' c' ys = (decide (p = p') && decide (c = c'))) := Lib.hid (by unfold besideB; rw [← HOK.out]; simp [hu])
      clear HOK hu
      go_enter Try.func76, Try.ntmps76
      go_upto_region 1 with fail
      rw [← HW.out, ← HG.out]
      go_upto_region 2 with (first
        | (refine wpList_load_rowP rfl 26 (.tmp 3) rfl (g + 1) rfl 26 #[.int .i64 p', .int .i64 r', .int .i64 c', .slice A' n' k'] _ HK1.out Try.underlying26 rfl Try.infoMx ?_)
        | (go_at_call 69
           with_reducible refine (HFO.out).mono ?_
           rintro e w2 ⟨P3, m3, d3, AC, nC, cC, rfl, ho2, hc2, hb2⟩
           have HO2 := Lib.hid ho2
           have HC2 := Lib.hid hc2
           have HB2 := Lib.hid hb2
           clear ho2 hc2 hb2)
        | (refine wpList_store_rowP rfl 68 (.tmp 6) (.tmp 11) rfl w2.heap.size #[.int .i64 zp, .int .i64 zr, .int .i64 zc, .slice P3 m3 d3, .slice AC nC cC] rfl rfl 68 #[.int .i64 0, .int .i64 0, .int .i64 0, .slice none 0 0, .slice none 0 0] (Blk.new _ _ _) Try.infoNf rfl (by simp [Value.oneCell']) ?_; intro w3 hb3 hg3)
        | fail)
      have hz3 : w2.heap.size < w3.heap.size := hb3.lt
      have HB3 : Hid (Below w1.heap.size w1 w3) := Lib.hid ((HB2.out.alloc HB2.out.size _).grown hg3 (by have := HB2.out.size; simp; omega) (by rintro q ⟨⟩; exact HB2.out.size))
      have HO3 : Hid (Own w3 w1.heap.size w2.heap.size P3 m3 d3 z) := Lib.hid ((HO2.out.below (Below.alloc_self _ _) (Nat.le_refl _)).grown hg3 (fun q hq => by injection hq with hq; omega))
      have HC3 : Hid (Own w3 w1.heap.size w2.heap.size AC nC cC W) := Lib.hid ((HC2.out.below (Below.alloc_self _ _) (Nat.le_refl _)).grown hg3 (fun q hq => by injection hq with hq; omega))
      obtain ⟨gb, hgb⟩ : ∃ q, q = w2.heap.size := ⟨_, rfl⟩
      rw [← hgb] at hb3 HO3 HC3 hz3 ⊢
      have HKB := Lib.hid hb3
      have HZ3 : Hid (w1.heap.size ≤ gb ∧ gb < w3.heap.size) := Lib.hid ⟨by have := HB2.out.size; omega, hz3⟩
      have HR3 := Lib.hid (HK2.out.below HB3.out HK2.out.lt)
      clear hb3 hg3 hz3 hgb HO2 HC2 HB2
      have HPUT : Hid (∀ u, Blk u (g + 2) 68 #[.int .i64 0, .int .i64 0, .int .i64 0, .slice none 0 0, .slice none 0 0] → Blk (((((u.setCell ⟨g + 2, 0, none⟩ (.int .i64 zp)).setCell ⟨g + 2, 1, none⟩ (.int .i64 zr)).setCell ⟨g + 2, 2, none⟩ (.int .i64 zc)).setCell ⟨g + 2, 3, none⟩ (.slice P3 m3 d3)).setCell ⟨g + 2, 4, none⟩ (.slice AC nC cC)) (g + 2) 68 #[.int .i64 zp, .int .i64 zr, .int .i64 zc, .slice P3 m3 d3, .slice AC nC cC]) := Lib.hid (fun u h => ((((h.set_ 0 _).set_ 1 _).set_ 2 _).set_ 3 _).set_ 4 _)
      have MKS : Hid (∀ u, Blk u g 26 #[.int .i64 p, .int .i64 r, .int .i64 c, .slice A n k] → Blk u (g + 1) 26 #[.int .i64 p', .int .i64 r', .int .i64 c', .slice A' n' k'] → Blk u gb 68 #[.int .i64 zp, .int .i64 zr, .int .i64 zc, .slice P3 m3 d3, .slice AC nC cC] → (u.cell? ⟨g, 0, none⟩ = some (.int .i64 p) ∧ u.cell? ⟨g, 1, none⟩ = some (.int .i64 r) ∧ u.cell? ⟨g, 2, none⟩ = some (.int .i64 c) ∧ u.cell? ⟨g, 3, none⟩ = some (.slice A n k) ∧ u.cell? ⟨g + 1, 0, none⟩ = some (.int .i64 p') ∧ u.cell? ⟨g + 1, 1, none⟩ = some (.int .i64 r') ∧ u.cell? ⟨g + 1, 2, none⟩ = some (.int .i64 c') ∧ u.cell? ⟨g + 1, 3, none⟩ = some (.slice A' n' k') ∧ u.cell? ⟨gb, 0, none⟩ = some (.int .i64 zp) ∧ u.cell? ⟨gb, 1, none⟩ = some (.int .i64 zr) ∧ u.cell? ⟨gb, 2, none⟩ = some (.int .i64 zc) ∧ u.cell? ⟨gb, 3, none⟩ = some (.slice P3 m3 d3) ∧ u.cell? ⟨gb, 4, none⟩ = some (.slice AC nC cC))) := Lib.hid (fun u h0 h1 h2 => by obtain ⟨a0, a1, a2, a3⟩ := cells4 h0; obtain ⟨b0, b1, b2, b3⟩ := cells4 h1; exact ⟨a0, a1, a2, a3, b0, b1, b2, b3, h2.cell 0, h2.cell 1, h2.cell 2, h2.cell 3, h2.cell 4⟩)
      have HQ0 := Lib.hid (HK0.out.below HB3.out HK0.out.lt)
      have HQ1 := Lib.hid (HK1.out.below HB3.out HK1.out.lt)
      have HKd : Hid (w3.drew.cell? ⟨g, 0, none⟩ = some (.int .i64 p) ∧ w3.drew.cell? ⟨g, 1, none⟩ = some (.int .i64 r) ∧ w3.drew.cell? ⟨g, 2, none⟩ = some (.int .i64 c) ∧ w3.drew.cell? ⟨g, 3, none⟩ = some (.slice A n k) ∧ w3.drew.cell? ⟨g + 1, 0, none⟩ = some (.int .i64 p') ∧ w3.drew.cell? ⟨g + 1, 1, none⟩ = some (.int .i64 r') ∧ w3.drew.cell? ⟨g + 1, 2, none⟩ = some (.int .i64 c') ∧ w3.drew.cell? ⟨g + 1, 3, none⟩ = some (.slice A' n' k') ∧ w3.drew.cell? ⟨gb, 0, none⟩ = some (.int .i64 zp) ∧ w3.drew.cell? ⟨gb, 1, none⟩ = some (.int .i64 zr) ∧ w3.drew.cell? ⟨gb, 2, none⟩ = some (.int .i64 zc) ∧ w3.drew.cell? ⟨gb, 3, none⟩ = some (.slice P3 m3 d3) ∧ w3.drew.cell? ⟨gb, 4, none⟩ = some (.slice AC nC cC)) := Lib.hid (MKS.out w3 HQ0.out HQ1.out HKB.out)
      have HKn := Lib.hid (MKS.out w3 HQ0.out HQ1.out HKB.out)
      go_region_held3 (fun u => u.cell? ⟨g, 0, none⟩ = some (.int .i64 p) ∧ u.cell? ⟨g, 1, none⟩ = some (.int .i64 r) ∧ u.cell? ⟨g, 2, none⟩ = some (.int .i64 c) ∧ u.cell? ⟨g, 3, none⟩ = some (.slice A n k) ∧ u.cell? ⟨g + 1, 0, none⟩ = some (.int .i64 p') ∧ u.cell? ⟨g + 1, 1, none⟩ = some (.int .i64 r') ∧ u.cell? ⟨g + 1, 2, none⟩ = some (.int .i64 c') ∧ u.cell? ⟨g + 1, 3, none⟩ = some (.slice A' n' k') ∧ u.cell? ⟨gb, 0, none⟩ = some (.int .i64 zp) ∧ u.cell? ⟨gb, 1, none⟩ = some (.int .i64 zr) ∧ u.cell? ⟨gb, 2, none⟩ = some (.int .i64 zc) ∧ u.cell? ⟨gb, 3, none⟩ = some (.slice P3 m3 d3) ∧ u.cell? ⟨gb, 4, none⟩ = some (.slice AC nC cC))
        (first | with_reducible exact HKd.out | with_reducible exact HKn.out | with_reducible exact KU4 | with_reducible exact KU5 | with_reducible exact KZ | exact KZ)
        (first
          | (go_at_call 72
             with_reducible refine (hasRowsLike_any p r c p' r' c' A A' n k n' k' w4).mono ?_
             rintro e w5 ⟨rfl, hb5⟩
             have HW5 : Hid (Below w3.heap.size w3 w5) := Lib.hid (HW4.out.trans (hb5.mono HW4.out.size))
             have HB5 : Hid (Below w1.heap.size w1 w5) := Lib.hid (HB3.out.trans (HW5.out.mono HB3.out.size))
             have HR5 := Lib.hid (HR3.out.below HW5.out HR3.out.lt)
             have hgne : g ≠ g + 2 ∧ g + 1 ≠ g + 2 ∧ gb ≠ g + 2 := by have := HZ3.out; have := HSZ.out; omega
             have KU5 := MKS.out w5 (HQ0.out.below HW5.out HQ0.out.lt) (HQ1.out.below HW5.out HQ1.out.lt) (HKB.out.below HW5.out HKB.out.lt)
             have hgp := grown_put5 w5 (g + 2) (.int .i64 zp) (.int .i64 zr) (.int .i64 zc) (.slice P3 m3 d3) (.slice AC nC cC)
             have KZ := MKS.out _ ((HQ0.out.below HW5.out HQ0.out.lt).grown hgp (fun e => by injection e with e; omega)) ((HQ1.out.below HW5.out HQ1.out.lt).grown hgp (fun e => by injection e with e; omega)) ((HKB.out.below HW5.out HKB.out.lt).grown hgp (fun e => by injection e with e; omega))
             have rr0 := HR5.out.cell 0
             have rr1 := HR5.out.cell 1
             have rr2 := HR5.out.cell 2
             have rr3 := HR5.out.cell 3
             have rr4 := HR5.out.cell 4
             have ff0 := HR5.out.frozen 0
             have ff1 := HR5.out.frozen 1
             have ff2 := HR5.out.frozen 2
             have ff3 := HR5.out.frozen 3
             have ff4 := HR5.out.frozen 4
             clear hb5 hgne hgp)
          | (go_at_call 104
             with_reducible refine (HIS.out _ (HB3.out.drew)).mono ?_
             rintro e w4 ⟨rfl, hb4⟩
             have HW4 : Hid (Below w3.heap.size w3 w4) := Lib.hid (((Below.refl _ _).drew).trans hb4)
             have HB4 : Hid (Below w1.heap.size w1 w4) := Lib.hid (HB3.out.trans (HW4.out.mono HB3.out.size))
             have HR4 := Lib.hid (HR3.out.below HW4.out HR3.out.lt)
             have HKB4 := Lib.hid (HKB.out.below HW4.out HKB.out.lt)
             have KU4 := MKS.out w4 (HQ0.out.below HW4.out HQ0.out.lt) (HQ1.out.below HW4.out HQ1.out.lt) HKB4.out
             clear hb4))
      all_goals
        (go_wp2
         refine bodyPost_ret (results_mx_tmp Try.results76 _ _ _ 68 #[.int .i64 zp, .int .i64 zr, .int .i64 zc, .slice P3 m3 d3, .slice AC nC cC] _ rfl (HPUT.out _ HR5.out) Try.underlying68 rfl Try.infoNf) rfl ?_
         have l1 := HSZ.out
         have l2 := HG.out
         have l4 := HB.out.size
         have l5 := HB5.out.size
         have l6 := HZ3.out
         have l7 := HB3.out.size
         have l8 := (HW5.out : Below w3.heap.size w3 w5).size
         have hg := grown_put5 w5 (g + 2) (.int .i64 zp) (.int .i64 zr) (.int .i64 zc) (.slice P3 m3 d3) (.slice AC nC cC)
         have l9 := hg.size
         refine ⟨P3, m3, d3, AC, nC, cC, (by rw [HV.out]; try rfl), ?_, ?_, ?_⟩
         · exact ((HO3.out.below (HW5.out : Below w3.heap.size w3 w5) (by omega)).grown hg (fun q hq => by injection hq with hq; omega)).wide (by omega) (Nat.le_trans (by omega : gb ≤ w5.heap.size) l9)
         · exact ((HC3.out.below (HW5.out : Below w3.heap.size w3 w5) (by omega)).grown hg (fun q hq => by injection hq with hq; omega)).wide (by omega) (Nat.le_trans (by omega : gb ≤ w5.heap.size) l9)
         · exact (HB.out.trans (HB5.out.mono l4)).grown hg (by omega) (by rintro q ⟨⟩; omega))

end Go.Proofs.Ytdepalpkcmfegaa

/-
  Positions of spaces on the program's side. Conditions: lengths below 2^40.
-/



namespace Go.Proofs.Ytdepalpkcmfegaa
open Go.RowKit

theorem flat_rg {p : Int} {C : Nat} {E : List (List Int × Int)} (hp : P7 p) (hE : ∀ e, e ∈ E → e.1.length = C ∧ Rg p e.1 ∧ 0 ≤ e.2 ∧ e.2 < C) (hl : E.length = C) : Rg p (flatK C C (E.map (·.1)) C) := fun q => by
  have hp2 := hp.two
  by_cases hq : q < C * C
  · rw [flatK_nth hq]
    split
    · rename_i h
      have hj : q / C < E.length := by omega
      rw [li_get (by simpa using hj)]
      simp only [List.getElem_map]
      exact (hE _ (List.getElem_mem hj)).2.1 _
    · omega
  · rw [nth_past (by rw [flatK_len]; omega)]; omega
set_option maxRecDepth 100000 in
set_option maxHeartbeats 8000000 in
theorem implPositionOf_any (p r c p' r' c' : Int) (A A' : Option Addr) (n k n' k' : Nat) (xs ys : List Int) (w : World) (hs : SI w A n xs) (hs' : SI w A' n' ys) (hn : n ≤ 1099511627776) (hn' : n' ≤ 1099511627776) (hnk : n ≤ k) (hnk' : n' ≤ k') :
    Calls Try.prog 38 #[.agg #[.int .i64 p, .int .i64 r, .int .i64 c, .slice A n k], .agg #[.int .i64 p', .int .i64 r', .int .i64 c', .slice A' n' k']] w fun e w' => Fresh w w' e (posW p r c xs p' r' c' ys) := by
  obtain ⟨zp, zr, zc, z, ok, hz⟩ := nf_ex p' r' c' ys
  obtain ⟨w1, hw1⟩ : ∃ w1, w1 = ((w.alloc (.cells #[.int .i64 p, .int .i64 r, .int .i64 c, .slice A n k] 26)).alloc (.cells #[.int .i64 p', .int .i64 r', .int .i64 c', .slice A' n' k'] 26)) := ⟨_, rfl⟩
  obtain ⟨g, hg⟩ : ∃ g, g = w.heap.size := ⟨_, rfl⟩
  have HK0 : Hid (Blk w1 (g) 26 #[.int .i64 p, .int .i64 r, .int .i64 c, .slice A n k]) := Lib.hid (by rw [hw1, hg]; have := (Blk.new w 26 #[.int .i64 p, .int .i64 r, .int .i64 c, .slice A n k]).alloc (.cells #[.int .i64 p', .int .i64 r', .int .i64 c', .slice A' n' k'] 26); simpa using this)
  have HK1 : Hid (Blk w1 (g + 1) 26 #[.int .i64 p', .int .i64 r', .int .i64 c', .slice A' n' k']) := Lib.hid (by rw [hw1, hg]; have := Blk.new (w.alloc (.cells #[.int .i64 p, .int .i64 r, .int .i64 c, .slice A n k] 26)) 26 #[.int .i64 p', .int .i64 r', .int .i64 c', .slice A' n' k']; simpa using this)
  have hb : Below w.heap.size w w1 := by rw [hw1]; go_grown
  have HB := Lib.hid hb
  have HW := Lib.hid hw1
  have HG := Lib.hid hg
  have HSZ : Hid (w1.heap.size = g + 2) := Lib.hid (by rw [hw1, hg]; simp)
  have HSA := Lib.hid (hs.below hb (Nat.le_refl _))
  have HL1 := Lib.hid hs.1
  have HFB := Lib.hid (flagBeside_z p r c p' r' c' A A' n k n' k' xs ys w1 (hs.below hb (Nat.le_refl _)) (hs'.below hb (Nat.le_refl _)) hn hn' hnk hnk' zp zr zc z ok hz)
  obtain ⟨W, hW⟩ : ∃ W, W = flgW p' r' c' ys := ⟨_, rfl⟩
  rw [← hW] at HFB
  clear hw1 hg hb hs hs' hW
  cases hu : besideB p r c xs p' r' c' ys with
  | false =>
    rw [hu] at HFB
    have HNO := Lib.hid hu
    clear hu hz
    have HX0 := Lib.hid True.intro
    go_enter Try.func38, Try.ntmps38
    go_upto_region 1 with fail
    rw [← HW.out, ← HG.out]
    go_upto_region 2 with (first
      | (refine wpList_load_rowP rfl 26 (.tmp 2) rfl g rfl 26 #[.int .i64 p, .int .i64 r, .int .i64 c, .slice A n k] _ HK0.out Try.underlying26 rfl Try.infoMx ?_)
      | (refine wpList_load_rowP rfl 26 (.tmp 3) rfl (g + 1) rfl 26 #[.int .i64 p', .int .i64 r', .int .i64 c', .slice A' n' k'] _ HK1.out Try.underlying26 rfl Try.infoMx ?_)
      | (go_at_call 76
         with_reducible refine (HFB.out).mono ?_
         rintro e w2 ⟨P3, m3, d3, AC, nC, cC, rfl, ho2, hc2, hb2⟩
         have HO2 := Lib.hid ho2
         have HB2 := Lib.hid hb2
         clear ho2 hc2 hb2)
      | (refine wpList_store_rowP rfl 68 (.tmp 5) (.tmp 11) rfl w2.heap.size #[.int .i64 zp, .int .i64 zr, .int .i64 zc, .slice P3 m3 d3, .slice AC nC cC] rfl rfl 68 #[.int .i64 0, .int .i64 0, .int .i64 0, .slice none 0 0, .slice none 0 0] (Blk.new _ _ _) Try.infoNf rfl (by simp [Value.oneCell']) ?_; intro w3 hb3 hg3)
      | fail)
    have hz3 : w2.heap.size < w3.heap.size := hb3.lt
    have HB3 : Hid (Below w1.heap.size w1 w3) := Lib.hid ((HB2.out.alloc HB2.out.size _).grown hg3 (by have := HB2.out.size; simp; omega) (by rintro q ⟨⟩; exact HB2.out.size))
    have HO3 : Hid (Own w3 w1.heap.size w2.heap.size P3 m3 d3 z) := Lib.hid ((HO2.out.below (Below.alloc_self _ _) (Nat.le_refl _)).grown hg3 (fun q hq => by injection hq with hq; omega))
    obtain ⟨gb, hgb⟩ : ∃ q, q = w2.heap.size := ⟨_, rfl⟩
    rw [← hgb] at hb3 HO3 hz3 ⊢
    have HKB := Lib.hid hb3
    have HZ3 : Hid (gb < w3.heap.size) := Lib.hid hz3
    clear hb3 hg3 hz3 hgb HO2 HB2
    go_wp2_with fail
    go_ret
    exact ⟨none, 0, 0, rfl, by rw [posW_no HNO.out]; exact Own.nil _ _ _, HB.out.trans (HB3.out.mono HB.out.size)⟩
  | true =>
    rw [hu] at HFB
    have HYES := Lib.hid hu
    obtain ⟨R, C, rfl, rfl, rfl, rfl, rfl, hp7, hR7, hC1, hC7, hxl, hyl, hxr, hyr, hrk, hfull⟩ := beside_yes hu
    have hokk : ok = true := by rw [hz.1]; unfold besideB at hu; simp only [Bool.and_eq_true] at hu; exact hu.2.1
    obtain ⟨rfl, rfl, rfl, rfl⟩ := hz.2.1 hokk
    simp only [Int.toNat_natCast, nfX] at HFB
    have hp2 := hp7.two
    have hro := rowsC_ok (p := zp) (d := xs) (by omega) hxr C R C
    have hyo := rowsC_ok (p := zp) (d := ys) (by omega) hyr C C C
    have hEk := (echel_ok hp7 hyo).1.1
    obtain ⟨X, hX⟩ : ∃ X, X = flatK C C ((echel zp (rowsC ys C C C)).map (·.1)) C := ⟨_, rfl⟩
    rw [← hX] at HFB
    have hXl : X.length = C * C := by rw [hX, flatK_len]
    have hXr : Rg zp X := by rw [hX]; exact flat_rg hp7 hEk hfull
    have hcm : ∀ i, i ≤ C → (R : Int) + (i : Int) - (rnkL zp (rowsC X C i C ++ rowsC xs C R C) : Int) = cmnR zp (rowsC xs C R C) (rowsC ys C i C) := fun i hi => by rw [hX, flat_rows (fun e he => (hEk e he).1) hfull hi]; exact common_same hp7 hyr hfull hro (rowsC_len ..) hrk hi
    have hcm0 : cmnR zp (rowsC xs C R C) (rowsC ys C 0 C) = 0 := by have h := cmnR_b zp (rowsC xs C R C) (rowsC ys C 0 C); rw [rowsC_len] at h; omega
    have HST := Lib.hid (fun u (P : Option Addr) (m d : Nat) (AC : Option Addr) (nC cC : Nat) (AS : Option Addr) (cS : Nat) (h : SI u P m X) (hmd : m ≤ d) (hS : LS u AS R (rowsC xs C R C)) => stepsTo_any zp C R P m d AC nC cC AS cS X (rowsC xs C R C) (fun i => cmnR zp (rowsC xs C R C) (rowsC ys C i C)) u hp7 h hmd hXl hXr hC1 hC7 hS hro hR7 hcm0 hcm)
    have HAR := Lib.hid (fun u (hu : Below w1.heap.size w1 u) => allRows_any zp R C A n k xs u (HSA.out.below hu (Nat.le_refl _)) ⟨hC1, by omega⟩ (by omega) hxl hnk)
    have HPW : Hid (posW zp R C xs zp C C ys = (List.range C).map fun j => cmnR zp (rowsC xs C R C) (rowsC ys C (j + 1) C) - cmnR zp (rowsC xs C R C) (rowsC ys C j C)) := Lib.hid (by unfold posW; rw [if_pos HYES.out]; simp only [Int.toNat_natCast]; rfl)
    rw [HPW.out]
    obtain ⟨z, hzX⟩ : ∃ z, z = X := ⟨_, rfl⟩
    rw [← hzX] at HFB HST
    clear hu hz hokk hX hXl hXr hcm hcm0 hro hyo hEk hrk hfull hxl hyl hxr hyr hzX
    go_enter Try.func38, Try.ntmps38
    go_upto_region 1 with fail
    rw [← HW.out, ← HG.out]
    go_upto_region 2 with (first
      | (refine wpList_load_rowP rfl 26 (.tmp 2) rfl g rfl 26 #[.int .i64 zp, .int .i64 R, .int .i64 C, .slice A n k] _ HK0.out Try.underlying26 rfl Try.infoMx ?_)
      | (refine wpList_load_rowP rfl 26 (.tmp 3) rfl (g + 1) rfl 26 #[.int .i64 zp, .int .i64 C, .int .i64 C, .slice A' n' k'] _ HK1.out Try.underlying26 rfl Try.infoMx ?_)
      | (go_at_call 76
         with_reducible refine (HFB.out).mono ?_
         rintro e w2 ⟨P3, m3, d3, AC, nC, cC, rfl, ho2, hc2, hb2⟩
         have HO2 := Lib.hid ho2
         have HB2 := Lib.hid hb2
         clear ho2 hc2 hb2)
      | (refine wpList_store_rowP rfl 68 (.tmp 5) (.tmp 11) rfl w2.heap.size #[.int .i64 zp, .int .i64 C, .int .i64 C, .slice P3 m3 d3, .slice AC nC cC] rfl rfl 68 #[.int .i64 0, .int .i64 0, .int .i64 0, .slice none 0 0, .slice none 0 0] (Blk.new _ _ _) Try.infoNf rfl (by simp [Value.oneCell']) ?_; intro w3 hb3 hg3)
      | fail)
    have hz3 : w2.heap.size < w3.heap.size := hb3.lt
    have HB3 : Hid (Below w1.heap.size w1 w3) := Lib.hid ((HB2.out.alloc HB2.out.size _).grown hg3 (by have := HB2.out.size; simp; omega) (by rintro q ⟨⟩; exact HB2.out.size))
    have HO3 : Hid (Own w3 w1.heap.size w2.heap.size P3 m3 d3 z) := Lib.hid ((HO2.out.below (Below.alloc_self _ _) (Nat.le_refl _)).grown hg3 (fun q hq => by injection hq with hq; omega))
    obtain ⟨gb, hgb⟩ : ∃ q, q = w2.heap.size := ⟨_, rfl⟩
    rw [← hgb] at hb3 HO3 hz3 ⊢
    have HKB := Lib.hid hb3
    have HZ3 : Hid (gb < w3.heap.size) := Lib.hid hz3
    clear hb3 hg3 hz3 hgb HO2 HB2
    have MKS : Hid (∀ u, Below w3.heap.size w3 u → (u.cell? ⟨g, 0, none⟩ = some (.int .i64 zp) ∧ u.cell? ⟨g, 1, none⟩ = some (.int .i64 R) ∧ u.cell? ⟨g, 2, none⟩ = some (.int .i64 C) ∧ u.cell? ⟨g, 3, none⟩ = some (.slice A n k) ∧ u.cell? ⟨gb, 0, none⟩ = some (.int .i64 zp) ∧ u.cell? ⟨gb, 1, none⟩ = some (.int .i64 C) ∧ u.cell? ⟨gb, 2, none⟩ = some (.int .i64 C) ∧ u.cell? ⟨gb, 3, none⟩ = some (.slice P3 m3 d3) ∧ u.cell? ⟨gb, 4, none⟩ = some (.slice AC nC cC))) := Lib.hid (fun u hb => by obtain ⟨a0, a1, a2, a3⟩ := cells4 (HK0.out.below (HB3.out.trans (hb.mono HB3.out.size)) HK0.out.lt); have h2 := HKB.out.below hb HKB.out.lt; exact ⟨a0, a1, a2, a3, h2.cell 0, h2.cell 1, h2.cell 2, h2.cell 3, h2.cell 4⟩)
    have HKd : Hid (w3.drew.cell? ⟨g, 0, none⟩ = some (.int .i64 zp) ∧ w3.drew.cell? ⟨g, 1, none⟩ = some (.int .i64 R) ∧ w3.drew.cell? ⟨g, 2, none⟩ = some (.int .i64 C) ∧ w3.drew.cell? ⟨g, 3, none⟩ = some (.slice A n k) ∧ w3.drew.cell? ⟨gb, 0, none⟩ = some (.int .i64 zp) ∧ w3.drew.cell? ⟨gb, 1, none⟩ = some (.int .i64 C) ∧ w3.drew.cell? ⟨gb, 2, none⟩ = some (.int .i64 C) ∧ w3.drew.cell? ⟨gb, 3, none⟩ = some (.slice P3 m3 d3) ∧ w3.drew.cell? ⟨gb, 4, none⟩ = some (.slice AC nC cC)) := Lib.hid (MKS.out _ ((Below.refl _ _).drew))
    go_upto_region 4 with fail
    go_region_held3 (fun u => u.cell? ⟨g, 0, none⟩ = some (.int .i64 zp) ∧ u.cell? ⟨g, 1, none⟩ = some (.int .i64 R) ∧ u.cell? ⟨g, 2, none⟩ = some (.int .i64 C) ∧ u.cell? ⟨g, 3, none⟩ = some (.slice A n k) ∧ u.cell? ⟨gb, 0, none⟩ = some (.int .i64 zp) ∧ u.cell? ⟨gb, 1, none⟩ = some (.int .i64 C) ∧ u.cell? ⟨gb, 2, none⟩ = some (.int .i64 C) ∧ u.cell? ⟨gb, 3, none⟩ = some (.slice P3 m3 d3) ∧ u.cell? ⟨gb, 4, none⟩ = some (.slice AC nC cC))
      (first | with_reducible exact HKd.out | with_reducible exact KU1 | with_reducible exact KU2)
      (first
        | (go_at_call 73
           with_reducible refine (HST.out u1 P3 m3 d3 AC nC cC _ _ HSX.out HO3.out.cap HLS.out).mono ?_
           rintro e u2 ⟨A2, n2, c2, rfl, ho, hb⟩
           have HW2 : Hid (Below w3.heap.size w3 u2) := Lib.hid (HW1.out.trans (hb.mono HW1.out.size))
           have KU2 := MKS.out u2 HW2.out
           have HO := Lib.hid ho
           have HZ1 : Hid (w3.heap.size ≤ u1.heap.size) := Lib.hid HW1.out.size
           clear ho hb)
        | (go_at_call 58
           with_reducible refine (HAR.out _ (HB3.out.drew)).mono ?_
           rintro e u1 ⟨ga, rfl, hls, hb⟩
           have HW1 : Hid (Below w3.heap.size w3 u1) := Lib.hid (((Below.refl _ _).drew).trans hb)
           have KU1 := MKS.out u1 HW1.out
           have HLS := Lib.hid hls
           have HSX : Hid (SI u1 P3 m3 z) := Lib.hid (HO3.out.si.below HW1.out (Nat.le_refl _))
           clear hls hb))
    go_wp2
    go_ret
    have l1 := HB.out.size
    have l2 := HB3.out.size
    have l3 := HZ1.out
    exact ⟨A2, n2, c2, rfl, HO.out.wide (by omega) (Nat.le_refl _), HB.out.trans ((HB3.out.trans (HW2.out.mono l2)).mono l1)⟩

end Go.Proofs.Ytdepalpkcmfegaa
